/-
  Joined texts, part 17:
  Plain arithmetic of numbers of four words. It imports nothing of the program.
  What package quad's sum, difference and negation answer, as words.
  What package quad's product answers, as words.
  What package quad's product of words without signs answers.
  What package quad's product answers, as words.
  When two arrays of four words are equal.
  What package quad's sign, order and narrowing answer.
-/
import Derived.Test.YtjmhfdimoeaplaaGreatP1
import Derived.Test.YtjmhfdimoeaplaaGreatP16
import Derived.WalkKit
import Derived.Test.YtjmhfdimoeaplaaGreatRows
import Derived.WalkSpells
import Derived.StillTactics
import Derived.Laws.Pointers
import Derived.Laws.Externs
import Derived.Shelf.Spec.BitsCarry
import Derived.RowKit3
import Derived.Deep.RegionHeld3
import Derived.Deep.QuietTactic
import Derived.BigQuiet
import Derived.RegionTactic
import Derived.Deep.RegionWith
import Derived.ChangeKeysEq
namespace Go.Proofs.YtjmhfdimoeaplaaGreat.lq
open Go.RowKit
set_option linter.unusedVariables false
def Wd(a a0 a1 a2 a3:Int):Prop:=a0=q.dg a 0∧a1=q.dg a 1∧a2=q.dg a 2∧a3=q.dg a 3
theorem wd_self(a:Int):Wd a (q.dg a 0) (q.dg a 1) (q.dg a 2) (q.dg a 3):=⟨rfl,rfl,rfl,rfl⟩
theorem qdg_0(j:Nat):q.dg 0 j=0:=by simp [q.dg]
theorem qcells(a:Int):q.dcells 4 a= [.int .u64 (q.dg a 0), .int .u64 (q.dg a 1), .int .u64 (q.dg a 2), .int .u64 (q.dg a 3)]:=by simp [q.dcells,List.range,List.range.loop]
theorem qcells_0:q.dcells 4 0= [.int .u64 0, .int .u64 0, .int .u64 0, .int .u64 0]:=by rw [qcells];simp [qdg_0]
theorem row4{w:World}{b:Nat}{v0 v1 v2 v3:Value}(h:Row w b [v0,v1,v2,v3]):w.cell? ⟨b,0,none⟩=some v0∧w.cell? ⟨b,1,none⟩=some v1∧w.cell? ⟨b,2,none⟩=some v2∧w.cell? ⟨b,3,none⟩=some v3∧
  w.frozen? ⟨b,0,none⟩=false∧w.frozen? ⟨b,1,none⟩=false∧w.frozen? ⟨b,2,none⟩=false∧w.frozen? ⟨b,3,none⟩=false:=
 ⟨h.cell 0 _ rfl,h.cell 1 _ rfl,h.cell 2 _ rfl,h.cell 3 _ rfl,h.free 0 (by simp),h.free 1 (by simp),h.free 2 (by simp),h.free 3 (by simp)⟩
theorem _root_.Go.Proofs.YtjmhfdimoeaplaaGreat.Row.cells{w:World}{b:Nat}{xs ys:List Value}(h:Row w b xs)(e:xs=ys):Row w b ys:=e▸h
def bw(x y:Int)(i:Nat):Int:= -((x % 18446744073709551616^i- y % 18446744073709551616^i)/18446744073709551616^i)
theorem bw_zero(x y:Int):bw x y 0=0:=by simp [bw,Int.emod_one]
theorem bw_sum(x y:Int)(i:Nat):(x % 18446744073709551616^(i+1)- y % 18446744073709551616^(i+1))/18446744073709551616^i=q.dg x i- q.dg y i- bw x y i:=by
 rw [q.emod_succ,q.emod_succ]
 unfold bw
 have e:q.dg x i*18446744073709551616^i+x % 18446744073709551616^i- (q.dg y i*18446744073709551616^i+y % 18446744073709551616^i)=(x % 18446744073709551616^i- y % 18446744073709551616^i)+(q.dg x i- q.dg y i)*18446744073709551616^i:=by rw [Int.sub_mul];omega
 rw [e,Int.add_mul_ediv_right _ _ (Int.ne_of_gt (q.p256 i))]
 omega
theorem bw_range(x y:Int)(i:Nat):0≤bw x y i∧bw x y i≤1:=by
 unfold bw
 have hp:=q.p256 i
 have a:=Int.emod_nonneg x (Int.ne_of_gt hp)
 have a':=Int.emod_lt_of_pos x hp
 have b:=Int.emod_nonneg y (Int.ne_of_gt hp)
 have b':=Int.emod_lt_of_pos y hp
 have h1:(x % 18446744073709551616^i- y % 18446744073709551616^i)/18446744073709551616^i<1:=Int.ediv_lt_of_lt_mul hp (by omega)
 have h2: -1≤(x % 18446744073709551616^i- y % 18446744073709551616^i)/18446744073709551616^i:=Int.le_ediv_of_mul_le hp (by omega)
 omega
theorem bw_succ(x y:Int)(i:Nat):bor (q.dg x i) (q.dg y i+bw x y i)=bw x y (i+1):=by
 have e:bw x y (i+1)= -((q.dg x i- q.dg y i- bw x y i)/18446744073709551616):=by
  rw [←bw_sum]
  show -((x % 18446744073709551616^(i+1)- y % 18446744073709551616^(i+1))/18446744073709551616^(i+1))=_
  have hp:=q.p256 i
  rw [Int.pow_succ,Int.ediv_ediv,if_neg (by omega)]
  omega
 rw [e]
 have h:=bw_range x y i
 have a:=q.dg_range x i
 have b:=q.dg_range y i
 unfold bor
 split<;>omega
theorem sub_digit(x y:Int)(i:Nat):(q.dg x i- q.dg y i- bw x y i) % 18446744073709551616=q.dg (x- y) i:=by
 unfold q.dg bw
 have hp:=q.p256 i
 have h1:=Int.mul_ediv_add_emod x (18446744073709551616^i)
 have h2:=Int.mul_ediv_add_emod y (18446744073709551616^i)
 have e:x- y=(x % 18446744073709551616^i- y % 18446744073709551616^i)+(x/18446744073709551616^i- y/18446744073709551616^i)*18446744073709551616^i:=by
  have a1:x/18446744073709551616^i*(18446744073709551616:Int)^i=18446744073709551616^i*(x/18446744073709551616^i):=Int.mul_comm _ _
  have a2:y/18446744073709551616^i*(18446744073709551616:Int)^i=18446744073709551616^i*(y/18446744073709551616^i):=Int.mul_comm _ _
  rw [Int.sub_mul];omega
 have e2:(x- y)/18446744073709551616^i=(x % 18446744073709551616^i- y % 18446744073709551616^i)/18446744073709551616^i+(x/18446744073709551616^i- y/18446744073709551616^i):=by
  conv=>lhs;rw [e]
  exact Int.add_mul_ediv_right _ _ (Int.ne_of_gt hp)
 rw [e2]
 omega
theorem add64(x y c:Int)(hx:0≤x)(hy:0≤y)(hc0:0≤c)(hc:c≤1)(w:World):(callFunc 196 #[.int .u64 x, .int .u64 y, .int .u64 c]).run Tryz.prog w=
  .ok (.value (.tuple #[.int .u64 ((x+y+c) % 18446744073709551616), .int .u64 ((x+y+c)/18446744073709551616)])) w:=by
 rw [run_callFunc_extern Tryz.func196 (by kernel_rfl) (by kernel_rfl) (by kernel_rfl) (e:=add64Entry) (by kernel_rfl),run_add64 x y c hx hy hc0 hc]
 rfl
theorem add64_0(x y:Int)(hx:0≤x)(hy:0≤y)(w:World):(callFunc 196 #[.int .u64 x, .int .u64 y, .int .u64 0]).run Tryz.prog w=
  .ok (.value (.tuple #[.int .u64 ((x+y) % 18446744073709551616), .int .u64 ((x+y)/18446744073709551616)])) w:=by
 simpa using add64 x y 0 hx hy (Int.le_refl 0) (by decide) w
theorem sub64(x y b:Int)(hx:0≤x)(hy:0≤y)(hy':y<18446744073709551616)(hb0:0≤b)(hb:b≤1)(w:World):(callFunc 238 #[.int .u64 x, .int .u64 y, .int .u64 b]).run Tryz.prog w=
  .ok (.value (.tuple #[.int .u64 ((x- y- b) % 18446744073709551616), .int .u64 (bor x (y+b))])) w:=by
 obtain⟨x,rfl⟩:=Int.eq_ofNat_of_zero_le hx
 obtain⟨y,rfl⟩:=Int.eq_ofNat_of_zero_le hy
 obtain⟨b,rfl⟩:=Int.eq_ofNat_of_zero_le hb0
 have e1:(((x+18446744073709551616- y- b) % 18446744073709551616:Nat):Int)=((x:Int)- y- b) % 18446744073709551616:=by omega
 have e2:((if x<y+b then 1 else 0:Nat):Int)=bor x (y+b):=by unfold bor;split<;>split<;>omega
 rw [←e1,←e2,run_callFunc_extern Tryz.func238 (by kernel_rfl) (by kernel_rfl) (by kernel_rfl) (e:=sub64Entry) (by kernel_rfl),run_sub64 x y b (by omega)]
 rfl
theorem keep_other{w:World}{b c i k:Nat}{u v:Value}(h:w.cell? ⟨b,k,none⟩=some u)(hne:c≠b):((w.setCell ⟨c,i,none⟩ v).drew).cell? ⟨b,k,none⟩=some u:=
 (World.cell?_setCell_other _ _ _ _ (by intro q;simp only [Addr.mk.injEq]at q;omega)).trans h
structure AddRel(w:World)(x y z:Int)(k:Nat)(wr:World):Prop where
 ra:Row wr w.heap.size (q.dcells 4 x)
 rb:Row wr (w.heap.size+1) (q.dcells 4 y)
 rz:Row wr (w.heap.size+1+1) (q.dcells 4 0)
 rs:Row wr (w.heap.size+1+1+1) (q.mix 4 k z 0)
 bel:Below w.heap.size w wr
 size:w.heap.size+1+1+1<wr.heap.size
theorem addRel_start(w:World)(x y z:Int)(t:TypeId):AddRel w x y z 0 ((((w.alloc (.cells #[.int .u64 (q.dg x 0), .int .u64 (q.dg x 1), .int .u64 (q.dg x 2), .int .u64 (q.dg x 3)] t)).alloc (.cells #[.int .u64 (q.dg y 0), .int .u64 (q.dg y 1), .int .u64 (q.dg y 2), .int .u64 (q.dg y 3)] t)).alloc
  (.cells #[.int .u64 0, .int .u64 0, .int .u64 0, .int .u64 0] t)).alloc (.cells #[.int .u64 0, .int .u64 0, .int .u64 0, .int .u64 0] t)):=by
 have h0:=(((Row.new w (q.dcells 4 x) t).alloc (.cells (q.dcells 4 y).toArray t) (by simp<;>omega)).alloc (.cells (q.dcells 4 0).toArray t) (by simp<;>omega)).alloc (.cells (q.dcells 4 0).toArray t) (by simp<;>omega)
 have h1:=((Row.new (w.alloc (.cells (q.dcells 4 x).toArray t)) (q.dcells 4 y) t).alloc (.cells (q.dcells 4 0).toArray t) (by simp<;>omega)).alloc (.cells (q.dcells 4 0).toArray t) (by simp<;>omega)
 have h2:=(Row.new ((w.alloc (.cells (q.dcells 4 x).toArray t)).alloc (.cells (q.dcells 4 y).toArray t)) (q.dcells 4 0) t).alloc (.cells (q.dcells 4 0).toArray t) (by simp<;>omega)
 have h3:=Row.new (((w.alloc (.cells (q.dcells 4 x).toArray t)).alloc (.cells (q.dcells 4 y).toArray t)).alloc (.cells (q.dcells 4 0).toArray t)) (q.dcells 4 0) t
 simp only [World.size_alloc]at h1 h2 h3
 rw [qcells_0,qcells x,qcells y]at h0 h1 h2 h3
 refine⟨by rw [qcells];exact h0,by rw [qcells];exact h1,by rw [qcells_0];exact h2,by rw [q.mix_zero,qcells_0];exact h3,?_,by simp⟩
 exact((((Below.refl _ _).alloc (Nat.le_refl _) _).alloc (by simp<;>omega) _).alloc (by simp<;>omega) _).alloc (by simp<;>omega) _
theorem addRel_next{w wr:World}{x y z d:Int}{k:Nat}(h:AddRel w x y z k wr)(hk:k<4)(e:d=q.dg z k):
  AddRel w x y z (k+1) ((wr.setCell ⟨w.heap.size+1+1+1,k,none⟩ (.int .u64 d)).drew):=by
 refine⟨(h.ra.other _ (by omega)).drew,(h.rb.other _ (by omega)).drew,(h.rz.other _ (by omega)).drew,?_,(h.bel.setCell (by show _≤w.heap.size+1+1+1;omega) _).drew,by simpa using h.size⟩
 rw [e,←q.mix_set]
 exact(h.rs.set k _ (by rw [q.mix_length];exact hk)).drew
set_option maxHeartbeats 1000000 in
theorem qadd_any{a0 a1 a2 a3 b0 b1 b2 b3:Int}(a b:Int)(ha:Wd a a0 a1 a2 a3)(hb:Wd b b0 b1 b2 b3)(w:World):
  Calls Tryz.prog 213 #[.agg #[.int .u64 a0, .int .u64 a1, .int .u64 a2, .int .u64 a3], .agg #[.int .u64 b0, .int .u64 b1, .int .u64 b2, .int .u64 b3]] w fun e w'=>
   e= .returned (.agg #[.int .u64 (q.dg (a+b) 0), .int .u64 (q.dg (a+b) 1), .int .u64 (q.dg (a+b) 2), .int .u64 (q.dg (a+b) 3)])∧Below w.heap.size w w':=by
 obtain⟨rfl,rfl,rfl,rfl⟩:=ha
 obtain⟨rfl,rfl,rfl,rfl⟩:=hb
 go_enter Tryz.func213,Tryz.ntmps213
 go_wp2
 go_loopw [6,8] (fun c i wr=> ∃ k:Nat,k≤4∧i= .int .i64 (k:Int)∧c= .int .u64 (q.carry a b k)∧AddRel w a b (a+b) k wr) (fun _ i _=>4- (RowKit.intOf i).toNat)
 case atStart=>exact⟨0,by omega,rfl,by rw [q.carry_zero],addRel_start w a b _ _⟩
 case round=>
  obtain⟨k,hk,rfl,rfl,hr⟩:=hrel
  by_cases hlt:k<4
  ·have c1:wr.cell? ⟨w.heap.size,k,none⟩=some (.int .u64 (q.dg a k)):=hr.ra.cell k _ (q.dcells_at _ _ _ hlt)
   have c2:wr.cell? ⟨w.heap.size+1,k,none⟩=some (.int .u64 (q.dg b k)):=hr.rb.cell k _ (q.dcells_at _ _ _ hlt)
   have c3:wr.cell? ⟨w.heap.size+1+1+1,k,none⟩=some (.int .u64 (q.dg 0 k)):=hr.rs.cell k _ (q.mix_at _ _ _ _ _ hlt (Nat.le_refl _))
   have c4:wr.frozen? ⟨w.heap.size+1+1+1,k,none⟩=false:=hr.rs.free k (by rw [q.mix_length];exact hlt)
   have hl:(k:Int)<4:=by omega
   obtain⟨d0,d1⟩:=q.dg_range a k
   obtain⟨e0,e1⟩:=q.dg_range b k
   obtain⟨f0,f1⟩:=q.carry_range a b k
   have hn:=fun d e=>addRel_next (d:=d) hr hlt e
   go_wp2
   go_region_held3 (fun w'=>w'.cell? ⟨w.heap.size,k,none⟩=some (.int .u64 (q.dg a k))∧w'.cell? ⟨w.heap.size+1,k,none⟩=some (.int .u64 (q.dg b k))) (first|exact⟨c1,c2⟩|exact⟨keep_other c1 (by omega),keep_other c2 (by omega)⟩)
    (simp only [add64 _ _ _ d0 e0 f0 f1])
   go_wp2
   go_roundw
   case rel=>exact⟨k+1,by omega,by simp,by rw [q.carry_succ,Int.add_comm (q.dg a k+q.dg b k),←Int.add_assoc],hn _ (by rw [←q.add_digit];congr 1;omega)⟩
   case measure=>simp [RowKit.intOf];omega
  ·obtain rfl:k=4:=by omega
   obtain⟨ra,rb,rz,rs,bel,size⟩:=hr
   rw [q.mix_full,qcells]at rs
   rw [qcells_0]at rz
   obtain⟨c0,c1,c2,c3,_,_,_,_⟩:=row4 rs
   obtain⟨z0,z1,z2,z3,y0,y1,y2,y3⟩:=row4 rz
   clear ra rb rs rz
   go_wp2
   refine bodyPost_ret (v:= .agg #[.int .u64 (q.dg (a+b) 0), .int .u64 (q.dg (a+b) 1), .int .u64 (q.dg (a+b) 2), .int .u64 (q.dg (a+b) 3)]) (by simp [results,Tryz.results213,go_sem, *]) rfl ⟨rfl,?_⟩
   exact(((bel.setCell (by show _≤w.heap.size+1+1;omega) _).setCell (by show _≤w.heap.size+1+1;omega) _).setCell (by show _≤w.heap.size+1+1;omega) _).setCell (by show _≤w.heap.size+1+1;omega) _
set_option maxHeartbeats 1000000 in
theorem qsub_any{a0 a1 a2 a3 b0 b1 b2 b3:Int}(a b:Int)(ha:Wd a a0 a1 a2 a3)(hb:Wd b b0 b1 b2 b3)(w:World):
  Calls Tryz.prog 233 #[.agg #[.int .u64 a0, .int .u64 a1, .int .u64 a2, .int .u64 a3], .agg #[.int .u64 b0, .int .u64 b1, .int .u64 b2, .int .u64 b3]] w fun e w'=>
   e= .returned (.agg #[.int .u64 (q.dg (a- b) 0), .int .u64 (q.dg (a- b) 1), .int .u64 (q.dg (a- b) 2), .int .u64 (q.dg (a- b) 3)])∧Below w.heap.size w w':=by
 obtain⟨rfl,rfl,rfl,rfl⟩:=ha
 obtain⟨rfl,rfl,rfl,rfl⟩:=hb
 go_enter Tryz.func233,Tryz.ntmps233
 go_wp2
 go_loopw [6,8] (fun c i wr=> ∃ k:Nat,k≤4∧i= .int .i64 (k:Int)∧c= .int .u64 (bw a b k)∧AddRel w a b (a- b) k wr) (fun _ i _=>4- (RowKit.intOf i).toNat)
 case atStart=>exact⟨0,by omega,rfl,by rw [bw_zero],addRel_start w a b _ _⟩
 case round=>
  obtain⟨k,hk,rfl,rfl,hr⟩:=hrel
  by_cases hlt:k<4
  ·have c1:wr.cell? ⟨w.heap.size,k,none⟩=some (.int .u64 (q.dg a k)):=hr.ra.cell k _ (q.dcells_at _ _ _ hlt)
   have c2:wr.cell? ⟨w.heap.size+1,k,none⟩=some (.int .u64 (q.dg b k)):=hr.rb.cell k _ (q.dcells_at _ _ _ hlt)
   have c3:wr.cell? ⟨w.heap.size+1+1+1,k,none⟩=some (.int .u64 (q.dg 0 k)):=hr.rs.cell k _ (q.mix_at _ _ _ _ _ hlt (Nat.le_refl _))
   have c4:wr.frozen? ⟨w.heap.size+1+1+1,k,none⟩=false:=hr.rs.free k (by rw [q.mix_length];exact hlt)
   have hl:(k:Int)<4:=by omega
   obtain⟨d0,d1⟩:=q.dg_range a k
   obtain⟨e0,e1⟩:=q.dg_range b k
   obtain⟨f0,f1⟩:=bw_range a b k
   have hn:=fun d e=>addRel_next (d:=d) hr hlt e
   go_wp2
   go_region_held3 (fun w'=>w'.cell? ⟨w.heap.size,k,none⟩=some (.int .u64 (q.dg a k))∧w'.cell? ⟨w.heap.size+1,k,none⟩=some (.int .u64 (q.dg b k))) (first|exact⟨c1,c2⟩|exact⟨keep_other c1 (by omega),keep_other c2 (by omega)⟩)
    (simp only [sub64 _ _ _ d0 e0 e1 f0 f1])
   go_wp2
   go_roundw
   case rel=>exact⟨k+1,by omega,by simp,by rw [bw_succ],hn _ (sub_digit _ _ _)⟩
   case measure=>simp [RowKit.intOf];omega
  ·obtain rfl:k=4:=by omega
   obtain⟨ra,rb,rz,rs,bel,size⟩:=hr
   rw [q.mix_full,qcells]at rs
   rw [qcells_0]at rz
   obtain⟨c0,c1,c2,c3,_,_,_,_⟩:=row4 rs
   obtain⟨z0,z1,z2,z3,y0,y1,y2,y3⟩:=row4 rz
   clear ra rb rs rz
   go_wp2
   refine bodyPost_ret (v:= .agg #[.int .u64 (q.dg (a- b) 0), .int .u64 (q.dg (a- b) 1), .int .u64 (q.dg (a- b) 2), .int .u64 (q.dg (a- b) 3)]) (by simp [results,Tryz.results233,go_sem, *]) rfl ⟨rfl,?_⟩
   exact(((bel.setCell (by show _≤w.heap.size+1+1;omega) _).setCell (by show _≤w.heap.size+1+1;omega) _).setCell (by show _≤w.heap.size+1+1;omega) _).setCell (by show _≤w.heap.size+1+1;omega) _
theorem pw1:(18446744073709551616:Int)^1=18446744073709551616:=rfl
theorem pw2:(18446744073709551616:Int)^2=340282366920938463463374607431768211456:=rfl
theorem pw3:(18446744073709551616:Int)^3=6277101735386680763835789423207666416102355444464034512896:=rfl
theorem qdg0(a:Int):q.dg a 0=a % 18446744073709551616:=by simp [q.dg]
theorem qdg1(a:Int):q.dg a 1=a/18446744073709551616 % 18446744073709551616:=by unfold q.dg;rw [pw1]
theorem qdg2(a:Int):q.dg a 2=a/340282366920938463463374607431768211456 % 18446744073709551616:=by unfold q.dg;rw [pw2]
theorem qdg3(a:Int):q.dg a 3=a/6277101735386680763835789423207666416102355444464034512896 % 18446744073709551616:=by unfold q.dg;rw [pw3]
theorem hi_q(a:Int):IntKind.u64.wrap (hi a)=q.dg a 1:=by rw [qdg1,IntKind.wrap_u64];unfold hi;omega
theorem ret_quad{a0 a1 a2 a3 b0 b1 b2 b3:Int}(h0:a0=b0)(h1:a1=b1)(h2:a2=b2)(h3:a3=b3):Value.agg #[.int .u64 a0, .int .u64 a1, .int .u64 a2, .int .u64 a3]= .agg #[.int .u64 b0, .int .u64 b1, .int .u64 b2, .int .u64 b3]:=by rw [h0,h1,h2,h3]
theorem up_q0(a:Int):(0:Int)=q.dg (a*340282366920938463463374607431768211456) 0:=by rw [qdg0];omega
theorem up_q1(a:Int):(0:Int)=q.dg (a*340282366920938463463374607431768211456) 1:=by rw [qdg1];omega
theorem up_q2(a:Int):lo a=q.dg (a*340282366920938463463374607431768211456) 2:=by rw [qdg2];unfold lo;omega
theorem up_q3(a:Int):IntKind.u64.wrap (hi a)=q.dg (a*340282366920938463463374607431768211456) 3:=by rw [qdg3,IntKind.wrap_u64];unfold hi;omega
theorem upper_any{ah al:Int}(a:Int)(ha:ah=hi a)(hl:al=lo a)(w:World):
  Calls Tryz.prog 234 #[.agg #[.int .i64 ah, .int .u64 al]] w fun e w'=>e= .returned (.agg #[.int .u64 (q.dg (a*340282366920938463463374607431768211456) 0), .int .u64 (q.dg (a*340282366920938463463374607431768211456) 1), .int .u64 (q.dg (a*340282366920938463463374607431768211456) 2), .int .u64 (q.dg (a*340282366920938463463374607431768211456) 3)])∧Below w.heap.size w w':=by
 subst ha hl
 have R:=ret_quad (up_q0 a) (up_q1 a) (up_q2 a) (up_q3 a)
 rw [←R]
 clear R
 go_enter Tryz.func234,Tryz.ntmps234
 go_wp2
 refine bodyPost_ret (v:= .agg #[.int .u64 0, .int .u64 0, .int .u64 (lo a), .int .u64 (IntKind.u64.wrap (hi a))]) (by simp [results,Tryz.results234,go_sem]) rfl ⟨rfl,?_⟩
 exact((Below.refl _ _).alloc (Nat.le_refl _) _).alloc (by simp) _
theorem mul64_any(x y:Int)(x0:0≤x)(x1:x<18446744073709551616)(y0:0≤y)(y1:y<18446744073709551616)(w:World):
  Calls Tryz.prog 143 #[.int .u64 x, .int .u64 y] w fun e w'=>e= .returned (.tuple #[.int .u64 (x*y/18446744073709551616), .int .u64 (x*y % 18446744073709551616)])∧w'=w:=by
 go_enter Tryz.func143,Tryz.ntmps143
 go_wp2
 go_ret2
 exact⟨ret_tup2 (mul64_hi x y x0 x1 y0 y1) (IntKind.wrap_u64 _),rfl⟩
theorem prod_range(x y:Int)(x0:0≤x)(x1:x<18446744073709551616)(y0:0≤y)(y1:y<18446744073709551616):0≤x*y∧x*y≤340282366920938463426481119284349108225:=by
 refine⟨Int.mul_nonneg x0 y0,?_⟩
 have:=Int.mul_le_mul (show x≤18446744073709551615 by omega) (show y≤18446744073709551615 by omega) y0 (by decide)
 omega
theorem mulAdd_hi(p m c:Int)(p0:0≤p)(p1:p≤340282366920938463426481119284349108225)(m0:0≤m)(m1:m<18446744073709551616)(c0:0≤c)(c1:c<18446744073709551616):
  (p/18446744073709551616+(p % 18446744073709551616+m)/18446744073709551616+((p+m) % 18446744073709551616+c)/18446744073709551616)=(p+m+c)/18446744073709551616:=by omega
set_option maxHeartbeats 1000000 in
theorem mulAdd_any(x y m c:Int)(x0:0≤x)(x1:x<18446744073709551616)(y0:0≤y)(y1:y<18446744073709551616)(m0:0≤m)(m1:m<18446744073709551616)(c0:0≤c)(c1:c<18446744073709551616)(w:World):
  Calls Tryz.prog 241 #[.int .u64 x, .int .u64 y, .int .u64 m, .int .u64 c] w fun e w'=>e= .returned (.tuple #[.int .u64 ((x*y+m+c)/18446744073709551616), .int .u64 ((x*y+m+c) % 18446744073709551616)])∧w'=w:=by
 obtain⟨p0,p1⟩:=prod_range x y x0 x1 y0 y1
 have E:Hid _:=mulAdd_hi (x*y) m c p0 p1 m0 m1 c0 c1
 have k0:0≤x*y % 18446744073709551616:=by omega
 have k1:0≤(x*y+m) % 18446744073709551616:=by omega
 go_enter Tryz.func241,Tryz.ntmps241
 go_wp2_with (first
  |(go_at_call 143;refine(mul64_any x y x0 x1 y0 y1 _).mono ?_;rintro e w' ⟨rfl,hw⟩;have hw:=hw.symm;subst hw)
  |simp only [add64_0 _ _ k0 m0]|simp only [add64_0 _ _ k1 c0])
 go_ret2
 exact⟨ret_tup2 E.out rfl,rfl⟩
theorem qdg_high{v:Int}{n j:Nat}(h0:0≤v)(h1:v<18446744073709551616^n)(hj:n≤j):q.dg v j=0:=by
 unfold q.dg
 have:v<(18446744073709551616:Int)^j:=by
  obtain⟨d,rfl⟩: ∃ d,j=n+d:=⟨j- n,by omega⟩
  rw [Int.pow_add]
  have hp:=q.p256 n
  have hd:=q.p256 d
  have:=Int.mul_le_mul_of_nonneg_left (show(1:Int)≤18446744073709551616^d by omega) (Int.le_of_lt hp)
  omega
 rw [Int.ediv_eq_zero_of_lt h0 this]
 rfl
theorem low_mul{X Y:Int}(i:Nat)(y0:0≤Y)(y1:Y<340282366920938463463374607431768211456):0≤X % 18446744073709551616^i*Y∧X % 18446744073709551616^i*Y<18446744073709551616^(i+2):=by
 have hp:=q.p256 i
 have a:=Int.emod_nonneg X (Int.ne_of_gt hp)
 have a':=Int.emod_lt_of_pos X hp
 refine⟨Int.mul_nonneg a y0,?_⟩
 rw [Int.pow_add,pw2]
 have h1:=Int.mul_le_mul (show X % 18446744073709551616^i≤18446744073709551616^i by omega) (Int.le_of_lt y1) y0 (Int.le_of_lt hp)
 rcases Int.lt_or_eq_of_le h1 with h|h
 ·exact h
 ·exfalso
  have h2:=Int.mul_lt_mul_of_pos_left y1 hp
  have h3:=Int.mul_le_mul_of_nonneg_right (show X % 18446744073709551616^i≤18446744073709551616^i by omega) y0
  omega
theorem cy_last{X Y:Int}(i:Nat)(y0:0≤Y)(y1:Y<340282366920938463463374607431768211456):
  q.cy (X % 18446744073709551616^i*Y) (q.dg X i) Y i 2=q.dg (X % 18446744073709551616^i*Y+q.dg X i*18446744073709551616^i*Y) (i+2):=by
 obtain⟨o0,o1⟩:=low_mul (X:=X) i y0 y1
 obtain⟨d0,d1⟩:=q.dg_range X i
 obtain⟨r0,r1⟩:=q.cy_range (X % 18446744073709551616^i*Y) (q.dg X i) Y i 2 d0 d1
 unfold q.cy q.tk at r0 r1 ⊢
 rw [Int.emod_eq_of_lt o0 o1,Int.emod_eq_of_lt (b:=18446744073709551616^2) y0 (by rw [pw2];exact y1)]at r0 r1 ⊢
 generalize hV:X % 18446744073709551616^i*Y+q.dg X i*18446744073709551616^i*Y=V at*
 show V/18446744073709551616^(i+2)=V/18446744073709551616^(i+2) % 18446744073709551616
 omega
theorem mix_done{X Y:Int}(i:Nat)(hi:i<2)(y0:0≤Y)(y1:Y<340282366920938463463374607431768211456):
  (q.mix 4 (i+2) (X % 18446744073709551616^i*Y+q.dg X i*18446744073709551616^i*Y) (X % 18446744073709551616^i*Y)).set (i+2) (.int .u64 (q.cy (X % 18446744073709551616^i*Y) (q.dg X i) Y i 2))=q.dcells 4 (X % 18446744073709551616^(i+1)*Y):=by
 rw [cy_last i y0 y1,q.mix_set,q.mul_next,←q.mix_full 4 _ 0]
 obtain⟨o0,o1⟩:=low_mul (X:=X) i y0 y1
 obtain⟨s0,s1⟩:=low_mul (X:=X) (i+1) y0 y1
 refine q.fill_congr fun j hj=>?_
 by_cases h:j<i+2+1
 ·simp [h,hj]
 ·simp [h,hj]
  rw [qdg_high o0 o1 (by omega),qdg_high s0 s1 (by omega)]
structure MulRel(w:World)(X Y:Int)(bx by':Nat)(cs:List Value)(wr:World):Prop where
 rx:Row wr bx (q.dcells 2 X)
 ry:Row wr by' (q.dcells 2 Y)
 rz:Row wr (w.heap.size+1+1) (q.dcells 4 0)
 rp:Row wr (w.heap.size+1+1+1+1+1) cs
 bel:Below w.heap.size w wr
 size:w.heap.size+1+1+1+1+1<wr.heap.size
theorem MulRel.set{w wr:World}{X Y:Int}{bx by':Nat}{cs:List Value}(h:MulRel w X Y bx by' cs wr)(hx:bx≠w.heap.size+1+1+1+1+1)(hy:by'≠w.heap.size+1+1+1+1+1)(i:Nat)(hi:i<cs.length)(v:Value):
  MulRel w X Y bx by' (cs.set i v) (wr.setCell ⟨w.heap.size+1+1+1+1+1,i,none⟩ v):=
 ⟨h.rx.other _ (Ne.symm hx),h.ry.other _ (Ne.symm hy),h.rz.other _ (by omega),h.rp.set i v hi,h.bel.setCell (by show _≤w.heap.size+1+1+1+1+1;omega) _,by simpa using h.size⟩
theorem MulRel.drewN{w wr:World}{X Y:Int}{bx by':Nat}{cs:List Value}(h:MulRel w X Y bx by' cs wr)(n:Nat):MulRel w X Y bx by' cs (wr.drewN n):=
 ⟨h.rx.drewN n,h.ry.drewN n,h.rz.drewN n,h.rp.drewN n,Go.below_drewN h.bel n,h.size⟩
theorem keep_set{w:World}{b c i k:Nat}{u v:Value}(h:w.cell? ⟨b,k,none⟩=some u)(hne:c≠b):((w.drew).setCell ⟨c,i,none⟩ v).cell? ⟨b,k,none⟩=some u:=
 (World.cell?_setCell_other _ _ _ _ (by intro q;simp only [Addr.mk.injEq]at q;omega)).trans h
theorem two_cells(X:Int):q.dcells 2 X= [.int .u64 (q.dg X 0), .int .u64 (q.dg X 1)]:=by simp [q.dcells,List.range,List.range.loop]
theorem mul_rows(w:World)(o1 o2:Obj)(xs ys:List Value)(t t2:TypeId):
  let W:=((((((w.alloc o1).alloc o2).alloc (.cells #[.int .u64 0, .int .u64 0, .int .u64 0, .int .u64 0] t)).alloc (.cells xs.toArray t2)).alloc (.cells ys.toArray t2)).drew).alloc (.cells #[.int .u64 0, .int .u64 0, .int .u64 0, .int .u64 0] t)
  Row W (w.heap.size+1+1) (q.dcells 4 0)∧Row W (w.heap.size+1+1+1) xs∧Row W (w.heap.size+1+1+1+1) ys∧Row W (w.heap.size+1+1+1+1+1) (q.dcells 4 0)∧Below w.heap.size w W∧w.heap.size+1+1+1+1+1<W.heap.size:=by
 intro W
 have h2:=((((Row.new ((w.alloc o1).alloc o2) (q.dcells 4 0) t).alloc (.cells xs.toArray t2) (by simp<;>omega)).alloc (.cells ys.toArray t2) (by simp<;>omega)).drew).alloc (.cells (q.dcells 4 0).toArray t) (by simp<;>omega)
 have h3:=(((Row.new (((w.alloc o1).alloc o2).alloc (.cells (q.dcells 4 0).toArray t)) xs t2).alloc (.cells ys.toArray t2) (by simp<;>omega)).drew).alloc (.cells (q.dcells 4 0).toArray t) (by simp<;>omega)
 have h4:=((Row.new ((((w.alloc o1).alloc o2).alloc (.cells (q.dcells 4 0).toArray t)).alloc (.cells xs.toArray t2)) ys t2).drew).alloc (.cells (q.dcells 4 0).toArray t) (by simp<;>omega)
 have h5:=Row.new ((((((w.alloc o1).alloc o2).alloc (.cells (q.dcells 4 0).toArray t)).alloc (.cells xs.toArray t2)).alloc (.cells ys.toArray t2)).drew) (q.dcells 4 0) t
 simp only [World.size_alloc,World.size_drew]at h2 h3 h4 h5
 rw [qcells_0]at h2 h3 h4 h5
 refine⟨by rw [qcells_0];exact h2,h3,h4,by rw [qcells_0];exact h5,?_,by simp [W]⟩
 exact(((((((Below.refl _ _).alloc (Nat.le_refl _) _).alloc (by simp<;>omega) _).alloc (by simp<;>omega) _).alloc (by simp<;>omega) _).alloc (by simp<;>omega) _).drew).alloc (by simp<;>omega) _
theorem mw_x{l h:Int}{X:Int}(e0:l=q.dg X 0)(e1:h=q.dg X 1):q.dcells 2 X= [.int .u64 l, .int .u64 h]:=by rw [two_cells,e0,e1]
theorem MulRel.cells{w wr:World}{X Y:Int}{bx by':Nat}{cs ds:List Value}(h:MulRel w X Y bx by' cs wr)(e:cs=ds):MulRel w X Y bx by' ds wr:=e▸h
set_option maxRecDepth 20000 in
set_option maxHeartbeats 4000000 in
theorem mulWords_any{ah al bh bl:Int}(a b:Int)(ha:ah=hi a)(hal:al=lo a)(hb:bh=hi b)(hbl:bl=lo b)(w:World):
  Calls Tryz.prog 232 #[.agg #[.int .i64 ah, .int .u64 al], .agg #[.int .i64 bh, .int .u64 bl]] w fun e w'=>
   e= .returned (.agg #[.int .u64 (q.dg (a % 340282366920938463463374607431768211456*(b % 340282366920938463463374607431768211456)) 0), .int .u64 (q.dg (a % 340282366920938463463374607431768211456*(b % 340282366920938463463374607431768211456)) 1), .int .u64 (q.dg (a % 340282366920938463463374607431768211456*(b % 340282366920938463463374607431768211456)) 2), .int .u64 (q.dg (a % 340282366920938463463374607431768211456*(b % 340282366920938463463374607431768211456)) 3)])∧Below w.heap.size w w':=by
 subst ha hal hb hbl
 obtain⟨X,hX⟩: ∃ X,a % 340282366920938463463374607431768211456=X:=⟨_,rfl⟩
 obtain⟨Y,hY⟩: ∃ Y,b % 340282366920938463463374607431768211456=Y:=⟨_,rfl⟩
 have x0:0≤X:=by omega
 have x1:X<340282366920938463463374607431768211456:=by omega
 have y0:0≤Y:=by omega
 have y1:Y<340282366920938463463374607431768211456:=by omega
 have eX0:Hid (lo a=q.dg X 0):=by unfold Hid;rw [qdg0,←hX];unfold lo;omega
 have eX1:Hid (IntKind.u64.wrap (hi a)=q.dg X 1):=by unfold Hid;rw [hi_q,qdg1,qdg1];omega
 have eY0:Hid (lo b=q.dg Y 0):=by unfold Hid;rw [qdg0,←hY];unfold lo;omega
 have eY1:Hid (IntKind.u64.wrap (hi b)=q.dg Y 1):=by unfold Hid;rw [hi_q,qdg1,qdg1];omega
 rw [hX,hY]
 clear hX hY
 go_enter Tryz.func232,Tryz.ntmps232
 go_wp2
 go_region_held3 (fun w'=>w'.cell? ⟨w.heap.size,0,none⟩=some (.int .i64 (hi a))∧w'.cell? ⟨w.heap.size,1,none⟩=some (.int .u64 (lo a))∧w'.cell? ⟨w.heap.size+1,0,none⟩=some (.int .i64 (hi b))∧w'.cell? ⟨w.heap.size+1,1,none⟩=some (.int .u64 (lo b))) (refine⟨?_,?_,?_,?_⟩<;>simp [go_sem]) (fail)
 all_goals rename_i hHeld
 ·clear hHeld
  have eO:X % (18446744073709551616:Int)^0*Y=0:=by simp [Int.emod_one]
  have HR:Hid _:=mul_rows w (.cells #[.int .i64 (hi a), .int .u64 (lo a)] 149) (.cells #[.int .i64 (hi b), .int .u64 (lo b)] 149) [.int .u64 (lo a), .int .u64 (IntKind.u64.wrap (hi a))] [.int .u64 (lo b), .int .u64 (IntKind.u64.wrap (hi b))] 286 311
  go_wp2
  go_loopw [23] (fun ii wr=> ∃ i:Nat,i≤2∧ii= .int .i64 (i:Int)∧MulRel w X Y (w.heap.size+1+1+1) (w.heap.size+1+1+1+1) (q.dcells 4 (X % 18446744073709551616^i*Y)) wr) (fun ii _=>2- (RowKit.intOf ii).toNat)
  case atStart=>
   obtain⟨r2,r3,r4,r5,bel,sz⟩:=HR.out
   have r3:=r3.cells (mw_x eX0.out eX1.out).symm
   have r4:=r4.cells (mw_x eY0.out eY1.out).symm
   exact⟨0,by omega,rfl,r3,r4,r2,by rw [eO];exact r5,bel,sz⟩
  case round=>
   clear HR eO
   obtain⟨i,hi2,rfl,hr⟩:=hrel
   by_cases hlt:i<2
   ·obtain⟨wo,rfl⟩: ∃ wo:World,wo=wr:=⟨_,rfl⟩
    have hl:(i:Int)<2:=by omega
    go_wp2
    go_loopw [9,26] (fun c kk wr=> ∃ k:Nat,k≤2∧kk= .int .i64 (k:Int)∧c= .int .u64 (q.cy (X % 18446744073709551616^i*Y) (q.dg X i) Y i k)∧MulRel w X Y (w.heap.size+1+1+1) (w.heap.size+1+1+1+1) (q.mix 4 (i+k) (X % 18446744073709551616^i*Y+q.dg X i*18446744073709551616^i*Y) (X % 18446744073709551616^i*Y)) wr) (fun _ kk _=>2- (RowKit.intOf kk).toNat)
    case atStart=>exact⟨0,by omega,rfl,by rw [q.cy_zero],hr.cells (q.mix_start 4 i _ _ _).symm⟩
    case round=>
     clear hr
     obtain⟨k,hk,rfl,rfl,hr⟩:=hrel
     by_cases hlt2:k<2
     ·have c1:wr.cell? ⟨w.heap.size+1+1+1,i,none⟩=some (.int .u64 (q.dg X i)):=hr.rx.cell i _ (q.dcells_at _ _ _ hlt)
      have c2:wr.cell? ⟨w.heap.size+1+1+1+1,k,none⟩=some (.int .u64 (q.dg Y k)):=hr.ry.cell k _ (q.dcells_at _ _ _ hlt2)
      have c3:wr.cell? ⟨w.heap.size+1+1+1+1+1,i+k,none⟩=some (.int .u64 (q.dg (X % 18446744073709551616^i*Y) (i+k))):=hr.rp.cell (i+k) _ (q.mix_at _ _ _ _ _ (by omega) (Nat.le_refl _))
      have c4:wr.frozen? ⟨w.heap.size+1+1+1+1+1,i+k,none⟩=false:=hr.rp.free (i+k) (by rw [q.mix_length];omega)
      have hn:=hr.set (by omega) (by omega) (i+k) (by rw [q.mix_length];omega) (.int .u64 (q.dg (X % 18446744073709551616^i*Y+q.dg X i*18446744073709551616^i*Y) (i+k)))
      rw [q.mix_set]at hn
      obtain⟨O,hO⟩: ∃ O,X % 18446744073709551616^i*Y=O:=⟨_,rfl⟩
      rw [hO]at c3 hn ⊢
      obtain⟨e0,e1⟩:=q.dg_range X i
      obtain⟨d0,d1⟩:=q.dg_range Y k
      obtain⟨g0,g1⟩:=q.dg_range O (i+k)
      obtain⟨f0,f1'⟩:=q.cy_range O (q.dg X i) Y i k e0 e1
      have f1:q.cy O (q.dg X i) Y i k<18446744073709551616:=by omega
      have eD:(q.dg X i*q.dg Y k+q.dg O (i+k)+q.cy O (q.dg X i) Y i k) % 18446744073709551616=q.dg (O+q.dg X i*18446744073709551616^i*Y) (i+k):=by rw [←q.mul_digit];congr 1;omega
      have eC:(q.dg X i*q.dg Y k+q.dg O (i+k)+q.cy O (q.dg X i) Y i k)/18446744073709551616=q.cy O (q.dg X i) Y i (k+1):=by rw [q.cy_succ];congr 1;omega
      have HN:Hid _:=hn
      have HC:Hid _:=eC
      have HD:Hid _:=eD
      have hik:(i:Int)+(k:Int)<4:=by omega
      have hik0:(0:Int)≤(i:Int)+(k:Int):=by omega
      have ht:((i:Int)+(k:Int)).toNat=i+k:=by omega
      have hk2:(k:Int)<2:=by omega
      have HO:Hid _:=hO
      clear hO hr hn eD eC f1'
      have hwr:IntKind.i64.wrap ((i:Int)+(k:Int))=(i:Int)+(k:Int):=IntWalk.i64_in _ ⟨by omega,by omega⟩
      go_wp2
      refine wp_region_held_drew (S:=(fun w'=>w'.cell? ⟨w.heap.size+1+1+1,i,none⟩=some (.int .u64 (q.dg X i))∧w'.cell? ⟨w.heap.size+1+1+1+1,k,none⟩=some (.int .u64 (q.dg Y k)))) (by kernel_rfl) ?_ (fun hHeld=>?_)
      ·first|exact⟨c1,c2⟩|exact⟨keep_other c1 (by omega),keep_other c2 (by omega)⟩|exact⟨keep_set c1 (by omega),keep_set c2 (by omega)⟩
      refine tn 0 ?_;refine tn 1 ?_;refine tn 2 ?_;refine tn 3 ?_;refine tn 4 ?_;refine tn 5 ?_;refine tn 6 ?_;refine tn 7 ?_;refine tn 8 ?_;refine tn 9 ?_;refine tn 10 ?_;refine tn 11 ?_;refine tn 12 ?_;refine tn 14 ?_
      simp only [Go.Act.put,ps1,ps2,ps3]
      refine take_call (i:=13) rfl (by kernel_rfl) (fun K hK=>?_)
      go_simp
      refine hK.out _ _ ?_ (fun hHeld=>?_)
      ·first|exact⟨c1,c2⟩|exact⟨keep_other c1 (by omega),keep_other c2 (by omega)⟩|exact⟨keep_set c1 (by omega),keep_set c2 (by omega)⟩
      clear hK K
      refine take_call (i:=15) rfl (by kernel_rfl) (fun K hK=>?_)
      go_simp
      (go_at_call 241;refine(mulAdd_any _ _ _ _ e0 e1 d0 d1 g0 g1 f0 f1 _).mono ?_;rintro e w' ⟨rfl,hw⟩;have hw:=hw.symm;subst hw)
      refine hK.out _ _ ?_ (fun hHeld=>?_)
      ·first|exact⟨c1,c2⟩|exact⟨keep_other c1 (by omega),keep_other c2 (by omega)⟩|exact⟨keep_set c1 (by omega),keep_set c2 (by omega)⟩
      clear hK K
      refine tn 16 ?_;refine tn 17 ?_;refine tn 18 ?_;refine tn 19 ?_;refine tn 20 ?_
      simp only [Go.Act.put,ps1,ps2,ps3]
      refine take_call (i:=21) rfl (by kernel_rfl) (fun K hK=>?_)
      go_simp
      refine hK.out _ _ ?_ (fun hHeld=>?_)
      ·first|exact⟨c1,c2⟩|exact⟨keep_other c1 (by omega),keep_other c2 (by omega)⟩|exact⟨keep_set c1 (by omega),keep_set c2 (by omega)⟩
      clear hK K
      refine wpAnyH_done (by kernel_rfl) ?_ _
      all_goals
       go_wp2
       go_roundw
       case rel=>exact⟨k+1,by omega,by simp,by rw [HC.out],by rw [←Nat.add_assoc,HD.out];first|exact HN.out.drewN 1|exact HN.out⟩
       case measure=>simp [RowKit.intOf];omega
     ·obtain rfl:k=2:=by omega
      have hn:=hr.set (by omega) (by omega) (i+2) (by rw [q.mix_length];omega) (.int .u64 (q.cy (X % 18446744073709551616^i*Y) (q.dg X i) Y i 2))
      rw [mix_done i hlt y0 y1]at hn
      have c3:wr.cell? ⟨w.heap.size+1+1+1+1+1,i+2,none⟩=some (.int .u64 (q.dg (X % 18446744073709551616^i*Y) (i+2))):=hr.rp.cell (i+2) _ (q.mix_at _ _ _ _ _ (by omega) (Nat.le_refl _))
      have c4:wr.frozen? ⟨w.heap.size+1+1+1+1+1,i+2,none⟩=false:=hr.rp.free (i+2) (by rw [q.mix_length];omega)
      clear hr
      go_wp2
      go_roundw
      case rel=>exact⟨i+1,by omega,by simp,hn⟩
      case measure=>simp [RowKit.intOf];omega
   ·obtain rfl:i=2:=by omega
    have eXY:X % 18446744073709551616^2*Y=X*Y:=by rw [pw2,Int.emod_eq_of_lt x0 x1]
    obtain⟨rx,ry,rz,rp,bel,size⟩:=hr
    rw [eXY,qcells]at rp
    rw [qcells_0]at rz
    obtain⟨c0,c1,c2,c3,_,_,_,_⟩:=row4 rp
    obtain⟨z0,z1,z2,z3,u0,u1,u2,u3⟩:=row4 rz
    clear rx ry rp rz eXY
    go_wp2
    refine bodyPost_ret (v:= .agg #[.int .u64 (q.dg (X*Y) 0), .int .u64 (q.dg (X*Y) 1), .int .u64 (q.dg (X*Y) 2), .int .u64 (q.dg (X*Y) 3)]) (by simp [results,Tryz.results232,go_sem, *]) rfl ⟨rfl,?_⟩
    exact(((bel.setCell (by show _≤w.heap.size+1+1;omega) _).setCell (by show _≤w.heap.size+1+1;omega) _).setCell (by show _≤w.heap.size+1+1;omega) _).setCell (by show _≤w.heap.size+1+1;omega) _
 ·clear hHeld
  have eO:X % (18446744073709551616:Int)^0*Y=0:=by simp [Int.emod_one]
  have HR:Hid _:=mul_rows w (.cells #[.int .i64 (hi a), .int .u64 (lo a)] 149) (.cells #[.int .i64 (hi b), .int .u64 (lo b)] 149) [.int .u64 (lo b), .int .u64 (IntKind.u64.wrap (hi b))] [.int .u64 (lo a), .int .u64 (IntKind.u64.wrap (hi a))] 286 311
  go_wp2
  go_loopw [23] (fun ii wr=> ∃ i:Nat,i≤2∧ii= .int .i64 (i:Int)∧MulRel w X Y (w.heap.size+1+1+1+1) (w.heap.size+1+1+1) (q.dcells 4 (X % 18446744073709551616^i*Y)) wr) (fun ii _=>2- (RowKit.intOf ii).toNat)
  case atStart=>
   obtain⟨r2,r3,r4,r5,bel,sz⟩:=HR.out
   have r3:=r3.cells (mw_x eY0.out eY1.out).symm
   have r4:=r4.cells (mw_x eX0.out eX1.out).symm
   exact⟨0,by omega,rfl,r4,r3,r2,by rw [eO];exact r5,bel,sz⟩
  case round=>
   clear HR eO
   obtain⟨i,hi2,rfl,hr⟩:=hrel
   by_cases hlt:i<2
   ·obtain⟨wo,rfl⟩: ∃ wo:World,wo=wr:=⟨_,rfl⟩
    have hl:(i:Int)<2:=by omega
    go_wp2
    go_loopw [9,26] (fun c kk wr=> ∃ k:Nat,k≤2∧kk= .int .i64 (k:Int)∧c= .int .u64 (q.cy (X % 18446744073709551616^i*Y) (q.dg X i) Y i k)∧MulRel w X Y (w.heap.size+1+1+1+1) (w.heap.size+1+1+1) (q.mix 4 (i+k) (X % 18446744073709551616^i*Y+q.dg X i*18446744073709551616^i*Y) (X % 18446744073709551616^i*Y)) wr) (fun _ kk _=>2- (RowKit.intOf kk).toNat)
    case atStart=>exact⟨0,by omega,rfl,by rw [q.cy_zero],hr.cells (q.mix_start 4 i _ _ _).symm⟩
    case round=>
     clear hr
     obtain⟨k,hk,rfl,rfl,hr⟩:=hrel
     by_cases hlt2:k<2
     ·have c1:wr.cell? ⟨w.heap.size+1+1+1+1,i,none⟩=some (.int .u64 (q.dg X i)):=hr.rx.cell i _ (q.dcells_at _ _ _ hlt)
      have c2:wr.cell? ⟨w.heap.size+1+1+1,k,none⟩=some (.int .u64 (q.dg Y k)):=hr.ry.cell k _ (q.dcells_at _ _ _ hlt2)
      have c3:wr.cell? ⟨w.heap.size+1+1+1+1+1,i+k,none⟩=some (.int .u64 (q.dg (X % 18446744073709551616^i*Y) (i+k))):=hr.rp.cell (i+k) _ (q.mix_at _ _ _ _ _ (by omega) (Nat.le_refl _))
      have c4:wr.frozen? ⟨w.heap.size+1+1+1+1+1,i+k,none⟩=false:=hr.rp.free (i+k) (by rw [q.mix_length];omega)
      have hn:=hr.set (by omega) (by omega) (i+k) (by rw [q.mix_length];omega) (.int .u64 (q.dg (X % 18446744073709551616^i*Y+q.dg X i*18446744073709551616^i*Y) (i+k)))
      rw [q.mix_set]at hn
      obtain⟨O,hO⟩: ∃ O,X % 18446744073709551616^i*Y=O:=⟨_,rfl⟩
      rw [hO]at c3 hn ⊢
      obtain⟨e0,e1⟩:=q.dg_range X i
      obtain⟨d0,d1⟩:=q.dg_range Y k
      obtain⟨g0,g1⟩:=q.dg_range O (i+k)
      obtain⟨f0,f1'⟩:=q.cy_range O (q.dg X i) Y i k e0 e1
      have f1:q.cy O (q.dg X i) Y i k<18446744073709551616:=by omega
      have eD:(q.dg X i*q.dg Y k+q.dg O (i+k)+q.cy O (q.dg X i) Y i k) % 18446744073709551616=q.dg (O+q.dg X i*18446744073709551616^i*Y) (i+k):=by rw [←q.mul_digit];congr 1;omega
      have eC:(q.dg X i*q.dg Y k+q.dg O (i+k)+q.cy O (q.dg X i) Y i k)/18446744073709551616=q.cy O (q.dg X i) Y i (k+1):=by rw [q.cy_succ];congr 1;omega
      have HN:Hid _:=hn
      have HC:Hid _:=eC
      have HD:Hid _:=eD
      have hik:(i:Int)+(k:Int)<4:=by omega
      have hik0:(0:Int)≤(i:Int)+(k:Int):=by omega
      have ht:((i:Int)+(k:Int)).toNat=i+k:=by omega
      have hk2:(k:Int)<2:=by omega
      have HO:Hid _:=hO
      clear hO hr hn eD eC f1'
      have hwr:IntKind.i64.wrap ((i:Int)+(k:Int))=(i:Int)+(k:Int):=IntWalk.i64_in _ ⟨by omega,by omega⟩
      go_wp2
      refine wp_region_held_drew (S:=(fun w'=>w'.cell? ⟨w.heap.size+1+1+1+1,i,none⟩=some (.int .u64 (q.dg X i))∧w'.cell? ⟨w.heap.size+1+1+1,k,none⟩=some (.int .u64 (q.dg Y k)))) (by kernel_rfl) ?_ (fun hHeld=>?_)
      ·first|exact⟨c1,c2⟩|exact⟨keep_other c1 (by omega),keep_other c2 (by omega)⟩|exact⟨keep_set c1 (by omega),keep_set c2 (by omega)⟩
      refine tn 0 ?_;refine tn 1 ?_;refine tn 2 ?_;refine tn 3 ?_;refine tn 4 ?_;refine tn 5 ?_;refine tn 6 ?_;refine tn 7 ?_;refine tn 8 ?_;refine tn 9 ?_;refine tn 10 ?_;refine tn 11 ?_;refine tn 12 ?_;refine tn 14 ?_
      simp only [Go.Act.put,ps1,ps2,ps3]
      refine take_call (i:=13) rfl (by kernel_rfl) (fun K hK=>?_)
      go_simp
      refine hK.out _ _ ?_ (fun hHeld=>?_)
      ·first|exact⟨c1,c2⟩|exact⟨keep_other c1 (by omega),keep_other c2 (by omega)⟩|exact⟨keep_set c1 (by omega),keep_set c2 (by omega)⟩
      clear hK K
      refine take_call (i:=15) rfl (by kernel_rfl) (fun K hK=>?_)
      go_simp
      (go_at_call 241;refine(mulAdd_any _ _ _ _ e0 e1 d0 d1 g0 g1 f0 f1 _).mono ?_;rintro e w' ⟨rfl,hw⟩;have hw:=hw.symm;subst hw)
      refine hK.out _ _ ?_ (fun hHeld=>?_)
      ·first|exact⟨c1,c2⟩|exact⟨keep_other c1 (by omega),keep_other c2 (by omega)⟩|exact⟨keep_set c1 (by omega),keep_set c2 (by omega)⟩
      clear hK K
      refine tn 16 ?_;refine tn 17 ?_;refine tn 18 ?_;refine tn 19 ?_;refine tn 20 ?_
      simp only [Go.Act.put,ps1,ps2,ps3]
      refine take_call (i:=21) rfl (by kernel_rfl) (fun K hK=>?_)
      go_simp
      refine hK.out _ _ ?_ (fun hHeld=>?_)
      ·first|exact⟨c1,c2⟩|exact⟨keep_other c1 (by omega),keep_other c2 (by omega)⟩|exact⟨keep_set c1 (by omega),keep_set c2 (by omega)⟩
      clear hK K
      refine wpAnyH_done (by kernel_rfl) ?_ _
      all_goals
       go_wp2
       go_roundw
       case rel=>exact⟨k+1,by omega,by simp,by rw [HC.out],by rw [←Nat.add_assoc,HD.out];first|exact HN.out.drewN 1|exact HN.out⟩
       case measure=>simp [RowKit.intOf];omega
     ·obtain rfl:k=2:=by omega
      have hn:=hr.set (by omega) (by omega) (i+2) (by rw [q.mix_length];omega) (.int .u64 (q.cy (X % 18446744073709551616^i*Y) (q.dg X i) Y i 2))
      rw [mix_done i hlt y0 y1]at hn
      have c3:wr.cell? ⟨w.heap.size+1+1+1+1+1,i+2,none⟩=some (.int .u64 (q.dg (X % 18446744073709551616^i*Y) (i+2))):=hr.rp.cell (i+2) _ (q.mix_at _ _ _ _ _ (by omega) (Nat.le_refl _))
      have c4:wr.frozen? ⟨w.heap.size+1+1+1+1+1,i+2,none⟩=false:=hr.rp.free (i+2) (by rw [q.mix_length];omega)
      clear hr
      go_wp2
      go_roundw
      case rel=>exact⟨i+1,by omega,by simp,hn⟩
      case measure=>simp [RowKit.intOf];omega
   ·obtain rfl:i=2:=by omega
    have eXY:X % 18446744073709551616^2*Y=X*Y:=by rw [pw2,Int.emod_eq_of_lt x0 x1]
    obtain⟨rx,ry,rz,rp,bel,size⟩:=hr
    rw [eXY,qcells]at rp
    rw [qcells_0]at rz
    obtain⟨c0,c1,c2,c3,_,_,_,_⟩:=row4 rp
    obtain⟨z0,z1,z2,z3,u0,u1,u2,u3⟩:=row4 rz
    clear rx ry rp rz eXY
    go_wp2
    refine bodyPost_ret (v:= .agg #[.int .u64 (q.dg (X*Y) 0), .int .u64 (q.dg (X*Y) 1), .int .u64 (q.dg (X*Y) 2), .int .u64 (q.dg (X*Y) 3)]) (by simp [results,Tryz.results232,go_sem, *]) rfl ⟨rfl,?_⟩
    exact(((bel.setCell (by show _≤w.heap.size+1+1;omega) _).setCell (by show _≤w.heap.size+1+1;omega) _).setCell (by show _≤w.heap.size+1+1;omega) _).setCell (by show _≤w.heap.size+1+1;omega) _
structure MulSt(w:World)(a b P:Int)(p:Nat)(w':World):Prop where
 ra:Row w' w.heap.size [.int .i64 (hi a), .int .u64 (lo a)]
 rb:Row w' (w.heap.size+1) [.int .i64 (hi b), .int .u64 (lo b)]
 rz:Row w' (w.heap.size+1+1) [.int .u64 0, .int .u64 0, .int .u64 0, .int .u64 0]
 rp:Row w' p [.int .u64 (q.dg P 0), .int .u64 (q.dg P 1), .int .u64 (q.dg P 2), .int .u64 (q.dg P 3)]
 bel:Below w.heap.size w w'
 sp:w.heap.size+1+1<p
 size:p<w'.heap.size
theorem mulSt_start(w w1:World)(a b P:Int)(t t':TypeId)(hb:Below (((w.alloc (.cells #[.int .i64 (hi a), .int .u64 (lo a)] t)).alloc (.cells #[.int .i64 (hi b), .int .u64 (lo b)] t)).alloc (.cells #[.int .u64 0, .int .u64 0, .int .u64 0, .int .u64 0] t')).heap.size
  (((w.alloc (.cells #[.int .i64 (hi a), .int .u64 (lo a)] t)).alloc (.cells #[.int .i64 (hi b), .int .u64 (lo b)] t)).alloc (.cells #[.int .u64 0, .int .u64 0, .int .u64 0, .int .u64 0] t')) w1):
  MulSt w a b P w1.heap.size (w1.alloc (.cells #[.int .u64 (q.dg P 0), .int .u64 (q.dg P 1), .int .u64 (q.dg P 2), .int .u64 (q.dg P 3)] t')):=by
 have hs:=hb.size
 simp only [World.size_alloc]at hs
 have h0:=((Row.new w [.int .i64 (hi a), .int .u64 (lo a)] t).alloc (.cells #[.int .i64 (hi b), .int .u64 (lo b)] t) (by simp<;>omega)).alloc (.cells #[.int .u64 0, .int .u64 0, .int .u64 0, .int .u64 0] t') (by simp<;>omega)
 have h1:=(Row.new (w.alloc (.cells #[.int .i64 (hi a), .int .u64 (lo a)] t)) [.int .i64 (hi b), .int .u64 (lo b)] t).alloc (.cells #[.int .u64 0, .int .u64 0, .int .u64 0, .int .u64 0] t') (by simp<;>omega)
 have h2:=Row.new ((w.alloc (.cells #[.int .i64 (hi a), .int .u64 (lo a)] t)).alloc (.cells #[.int .i64 (hi b), .int .u64 (lo b)] t)) [.int .u64 0, .int .u64 0, .int .u64 0, .int .u64 0] t'
 simp only [World.size_alloc]at h1 h2
 refine⟨(h0.below hb (by simp<;>omega)).alloc _ (by omega),(h1.below hb (by simp<;>omega)).alloc _ (by omega),(h2.below hb (by simp<;>omega)).alloc _ (by omega),Row.new w1 [.int .u64 (q.dg P 0), .int .u64 (q.dg P 1), .int .u64 (q.dg P 2), .int .u64 (q.dg P 3)] t',?_,by omega,by simp⟩
 exact(((((Below.refl _ _).alloc (Nat.le_refl _) _).alloc (by simp<;>omega) _).alloc (by simp<;>omega) _).trans (hb.mono (by simp<;>omega))).alloc (by omega) _
theorem MulSt.later{w w1 w2:World}{a b P:Int}{p:Nat}(h:MulSt w a b P p w1)(hb:Below w1.heap.size w1 w2):MulSt w a b P p w2:=by
 obtain⟨ra,rb,rz,rp,bel,sp,size⟩:=h
 have:=hb.size
 have:=bel.size
 exact⟨ra.below hb (by omega),rb.below hb (by omega),rz.below hb (by omega),rp.below hb (by omega),bel.trans (hb.mono (by omega)),sp,by omega⟩
theorem MulSt.set{w w1:World}{a b P P':Int}{p:Nat}(h:MulSt w a b P p w1):MulSt w a b P' p ((((w1.setCell ⟨p,0,none⟩ (.int .u64 (q.dg P' 0))).setCell ⟨p,1,none⟩ (.int .u64 (q.dg P' 1))).setCell ⟨p,2,none⟩ (.int .u64 (q.dg P' 2))).setCell ⟨p,3,none⟩ (.int .u64 (q.dg P' 3))):=by
 obtain⟨ra,rb,rz,rp,bel,sp,size⟩:=h
 refine⟨(((ra.other _ (by omega)).other _ (by omega)).other _ (by omega)).other _ (by omega),(((rb.other _ (by omega)).other _ (by omega)).other _ (by omega)).other _ (by omega),(((rz.other _ (by omega)).other _ (by omega)).other _ (by omega)).other _ (by omega),?_,?_,sp,by simpa using size⟩
 ·exact((((rp.set 0 _ (by simp)).set 1 _ (by simp)).set 2 _ (by simp)).set 3 _ (by simp))
 ·exact(((bel.setCell (by show _≤p;omega) _).setCell (by show _≤p;omega) _).setCell (by show _≤p;omega) _).setCell (by show _≤p;omega) _
theorem MulSt.drew{w w1:World}{a b P:Int}{p:Nat}(h:MulSt w a b P p w1):MulSt w a b P p w1.drew:=⟨h.ra,h.rb,h.rz,h.rp,h.bel.drew,h.sp,h.size⟩
theorem MulSt.is{w w1:World}{a b P P':Int}{p:Nat}(h:MulSt w a b P p w1)(e:q.dg P 0=q.dg P' 0∧q.dg P 1=q.dg P' 1∧q.dg P 2=q.dg P' 2∧q.dg P 3=q.dg P' 3):MulSt w a b P' p w1:=by
 obtain⟨ra,rb,rz,rp,bel,sp,size⟩:=h
 rw [e.1,e.2.1,e.2.2.1,e.2.2.2]at rp
 exact⟨ra,rb,rz,rp,bel,sp,size⟩
theorem row2{w:World}{b:Nat}{v0 v1:Value}(h:Row w b [v0,v1]):w.cell? ⟨b,0,none⟩=some v0∧w.cell? ⟨b,1,none⟩=some v1:=⟨h.cell 0 _ rfl,h.cell 1 _ rfl⟩
theorem qcongr{u v:Int}(t:Int)(h:u=v+t*115792089237316195423570985008687907853269984665640564039457584007913129639936):q.dg u 0=q.dg v 0∧q.dg u 1=q.dg v 1∧q.dg u 2=q.dg v 2∧q.dg u 3=q.dg v 3:=by
 have e:(115792089237316195423570985008687907853269984665640564039457584007913129639936:Int)=18446744073709551616^4:=by decide
 rw [e]at h
 exact⟨q.dg_congr t h (by decide),q.dg_congr t h (by decide),q.dg_congr t h (by decide),q.dg_congr t h (by decide)⟩
theorem hi_neg(a:Int)(h0: -170141183460469231731687303715884105728≤a)(h1:a<0):hi a<0:=by unfold hi;omega
theorem hi_pos(a:Int)(h0:0≤a)(h1:a<170141183460469231731687303715884105728): ¬hi a<0:=by unfold hi;omega
theorem mod_neg(a:Int)(h0: -170141183460469231731687303715884105728≤a)(h1:a<0):a % 340282366920938463463374607431768211456=a+340282366920938463463374607431768211456:=by omega
theorem mod_pos(a:Int)(h0:0≤a)(h1:a<170141183460469231731687303715884105728):a % 340282366920938463463374607431768211456=a:=by omega
theorem mul_nn(a b:Int):(a+340282366920938463463374607431768211456)*(b+340282366920938463463374607431768211456)- b*340282366920938463463374607431768211456- a*340282366920938463463374607431768211456=a*b+1*115792089237316195423570985008687907853269984665640564039457584007913129639936:=by
 rw [Int.add_mul,Int.mul_add,Int.mul_add];omega
theorem mul_np(a b:Int):(a+340282366920938463463374607431768211456)*b- b*340282366920938463463374607431768211456=a*b:=by
 rw [Int.add_mul];omega
theorem mul_pn(a b:Int):a*(b+340282366920938463463374607431768211456)- a*340282366920938463463374607431768211456=a*b:=by
 rw [Int.mul_add];omega
set_option maxHeartbeats 4000000 in
theorem qmul_nn(a b:Int)(a0: -170141183460469231731687303715884105728≤a)(a1:a<170141183460469231731687303715884105728)(b0: -170141183460469231731687303715884105728≤b)(b1:b<170141183460469231731687303715884105728)(ha:a<0)(hb:b<0)(w:World):
  Calls Tryz.prog 211 #[.agg #[.int .i64 (hi a), .int .u64 (lo a)], .agg #[.int .i64 (hi b), .int .u64 (lo b)]] w fun e w'=>e= .returned (.agg #[.int .u64 (q.dg (a*b) 0), .int .u64 (q.dg (a*b) 1), .int .u64 (q.dg (a*b) 2), .int .u64 (q.dg (a*b) 3)])∧Below w.heap.size w w':=by
 have sa:=hi_neg a a0 ha
 have sb:=hi_neg b b0 hb
 obtain⟨P,hP⟩: ∃ P,a % 340282366920938463463374607431768211456*(b % 340282366920938463463374607431768211456)=P:=⟨_,rfl⟩
 have FIN:Hid (P- b*340282366920938463463374607431768211456- a*340282366920938463463374607431768211456=a*b+1*115792089237316195423570985008687907853269984665640564039457584007913129639936):=by
  unfold Hid
  rw [←hP,mod_neg a a0 ha,mod_neg b b0 hb]
  exact mul_nn a b
 clear a0 a1 b0 b1 ha hb
 go_enter Tryz.func211,Tryz.ntmps211
 go_wp2_with (go_at_call 232;refine(mulWords_any a b rfl rfl rfl rfl _).mono ?_;rw [hP];rintro e w1 ⟨rfl,hw1⟩;have HS:=mulSt_start w w1 a b P _ _ hw1;have⟨x0,x1⟩:=row2 HS.ra;have⟨y0,y1⟩:=row2 HS.rb;have⟨p0,p1,p2,p3,pf0,pf1,pf2,pf3⟩:=row4 HS.rp;have⟨z0,z1,z2,z3,zf0,zf1,zf2,zf3⟩:=row4 HS.rz;skip)
 generalize w1.alloc (.cells #[.int .u64 (q.dg P 0), .int .u64 (q.dg P 1), .int .u64 (q.dg P 2), .int .u64 (q.dg P 3)] _)=W0 at*
 clear hw1
 generalize w1.heap.size=p at*
 go_region_with (first
  |(go_at_call 234;refine(upper_any b rfl rfl _).mono ?_;rintro e w2 ⟨rfl,hw2⟩;have HS:=HS.drew.later hw2;have⟨x0,x1⟩:=row2 HS.ra;have⟨y0,y1⟩:=row2 HS.rb;have⟨p0,p1,p2,p3,pf0,pf1,pf2,pf3⟩:=row4 HS.rp;have⟨z0,z1,z2,z3,zf0,zf1,zf2,zf3⟩:=row4 HS.rz)
  |(go_at_call 233;refine(qsub_any (P) (b*340282366920938463463374607431768211456) (wd_self _) (wd_self _) _).mono ?_;rintro e w3 ⟨rfl,hw3⟩;have HS:=HS.later hw3;have⟨x0,x1⟩:=row2 HS.ra;have⟨y0,y1⟩:=row2 HS.rb;have⟨p0,p1,p2,p3,pf0,pf1,pf2,pf3⟩:=row4 HS.rp;have⟨z0,z1,z2,z3,zf0,zf1,zf2,zf3⟩:=row4 HS.rz))
 all_goals
  have HT:=HS.set (P':=P- b*340282366920938463463374607431768211456)
  generalize ((((w3.setCell ⟨p,0,none⟩ (.int .u64 (q.dg (P- b*340282366920938463463374607431768211456) 0))).setCell ⟨p,1,none⟩ (.int .u64 (q.dg (P- b*340282366920938463463374607431768211456) 1))).setCell ⟨p,2,none⟩ (.int .u64 (q.dg (P- b*340282366920938463463374607431768211456) 2))).setCell ⟨p,3,none⟩ (.int .u64 (q.dg (P- b*340282366920938463463374607431768211456) 3)))=W1 at*
  clear x0 x1 y0 y1 p0 p1 p2 p3 pf0 pf1 pf2 pf3 z0 z1 z2 z3 zf0 zf1 zf2 zf3
  clear HS
  have HS:=HT
  clear HT
  have⟨x0,x1⟩:=row2 HS.ra
  have⟨y0,y1⟩:=row2 HS.rb
  have⟨p0,p1,p2,p3,pf0,pf1,pf2,pf3⟩:=row4 HS.rp
  have⟨z0,z1,z2,z3,zf0,zf1,zf2,zf3⟩:=row4 HS.rz
  go_wp2
  go_region_with (first
   |(go_at_call 234;refine(upper_any a rfl rfl _).mono ?_;rintro e w2 ⟨rfl,hw2⟩;have HS:=HS.drew.later hw2;have⟨x0,x1⟩:=row2 HS.ra;have⟨y0,y1⟩:=row2 HS.rb;have⟨p0,p1,p2,p3,pf0,pf1,pf2,pf3⟩:=row4 HS.rp;have⟨z0,z1,z2,z3,zf0,zf1,zf2,zf3⟩:=row4 HS.rz)
   |(go_at_call 233;refine(qsub_any (P- b*340282366920938463463374607431768211456) (a*340282366920938463463374607431768211456) (wd_self _) (wd_self _) _).mono ?_;rintro e w3 ⟨rfl,hw3⟩;have HS:=HS.later hw3;have⟨x0,x1⟩:=row2 HS.ra;have⟨y0,y1⟩:=row2 HS.rb;have⟨p0,p1,p2,p3,pf0,pf1,pf2,pf3⟩:=row4 HS.rp;have⟨z0,z1,z2,z3,zf0,zf1,zf2,zf3⟩:=row4 HS.rz))
  all_goals
   have HT:=HS.set (P':=P- b*340282366920938463463374607431768211456- a*340282366920938463463374607431768211456)
   have HT:=HT.is (qcongr 1 FIN.out)
   generalize ((((w3.setCell ⟨p,0,none⟩ (.int .u64 (q.dg (P- b*340282366920938463463374607431768211456- a*340282366920938463463374607431768211456) 0))).setCell ⟨p,1,none⟩ (.int .u64 (q.dg (P- b*340282366920938463463374607431768211456- a*340282366920938463463374607431768211456) 1))).setCell ⟨p,2,none⟩ (.int .u64 (q.dg (P- b*340282366920938463463374607431768211456- a*340282366920938463463374607431768211456) 2))).setCell ⟨p,3,none⟩ (.int .u64 (q.dg (P- b*340282366920938463463374607431768211456- a*340282366920938463463374607431768211456) 3)))=W2 at*
   clear x0 x1 y0 y1 p0 p1 p2 p3 pf0 pf1 pf2 pf3 z0 z1 z2 z3 zf0 zf1 zf2 zf3
   clear HS
   have HS:=HT
   clear HT
   have⟨x0,x1⟩:=row2 HS.ra
   have⟨y0,y1⟩:=row2 HS.rb
   have⟨p0,p1,p2,p3,pf0,pf1,pf2,pf3⟩:=row4 HS.rp
   have⟨z0,z1,z2,z3,zf0,zf1,zf2,zf3⟩:=row4 HS.rz
   go_wp2
   refine bodyPost_ret (v:= .agg #[.int .u64 (q.dg (a*b) 0), .int .u64 (q.dg (a*b) 1), .int .u64 (q.dg (a*b) 2), .int .u64 (q.dg (a*b) 3)]) (by simp [results,Tryz.results211,go_sem, *]) rfl ⟨rfl,?_⟩
   exact(((HS.bel.setCell (by show _≤w.heap.size+1+1;omega) _).setCell (by show _≤w.heap.size+1+1;omega) _).setCell (by show _≤w.heap.size+1+1;omega) _).setCell (by show _≤w.heap.size+1+1;omega) _
set_option maxHeartbeats 4000000 in
theorem qmul_np(a b:Int)(a0: -170141183460469231731687303715884105728≤a)(a1:a<170141183460469231731687303715884105728)(b0: -170141183460469231731687303715884105728≤b)(b1:b<170141183460469231731687303715884105728)(ha:a<0)(hb:0≤b)(w:World):
  Calls Tryz.prog 211 #[.agg #[.int .i64 (hi a), .int .u64 (lo a)], .agg #[.int .i64 (hi b), .int .u64 (lo b)]] w fun e w'=>e= .returned (.agg #[.int .u64 (q.dg (a*b) 0), .int .u64 (q.dg (a*b) 1), .int .u64 (q.dg (a*b) 2), .int .u64 (q.dg (a*b) 3)])∧Below w.heap.size w w':=by
 have sa:=hi_neg a a0 ha
 have sb:=hi_pos b hb b1
 obtain⟨P,hP⟩: ∃ P,a % 340282366920938463463374607431768211456*(b % 340282366920938463463374607431768211456)=P:=⟨_,rfl⟩
 have FIN:Hid (P- b*340282366920938463463374607431768211456=a*b+0*115792089237316195423570985008687907853269984665640564039457584007913129639936):=by
  unfold Hid
  rw [←hP,mod_neg a a0 ha,mod_pos b hb b1]
  rw [mul_np];omega
 clear a0 a1 b0 b1 ha hb
 go_enter Tryz.func211,Tryz.ntmps211
 go_wp2_with (go_at_call 232;refine(mulWords_any a b rfl rfl rfl rfl _).mono ?_;rw [hP];rintro e w1 ⟨rfl,hw1⟩;have HS:=mulSt_start w w1 a b P _ _ hw1;have⟨x0,x1⟩:=row2 HS.ra;have⟨y0,y1⟩:=row2 HS.rb;have⟨p0,p1,p2,p3,pf0,pf1,pf2,pf3⟩:=row4 HS.rp;have⟨z0,z1,z2,z3,zf0,zf1,zf2,zf3⟩:=row4 HS.rz;skip)
 generalize w1.alloc (.cells #[.int .u64 (q.dg P 0), .int .u64 (q.dg P 1), .int .u64 (q.dg P 2), .int .u64 (q.dg P 3)] _)=W0 at*
 clear hw1
 generalize w1.heap.size=p at*
 go_region_with (first
  |(go_at_call 234;refine(upper_any b rfl rfl _).mono ?_;rintro e w2 ⟨rfl,hw2⟩;have HS:=HS.drew.later hw2;have⟨x0,x1⟩:=row2 HS.ra;have⟨y0,y1⟩:=row2 HS.rb;have⟨p0,p1,p2,p3,pf0,pf1,pf2,pf3⟩:=row4 HS.rp;have⟨z0,z1,z2,z3,zf0,zf1,zf2,zf3⟩:=row4 HS.rz)
  |(go_at_call 233;refine(qsub_any (P) (b*340282366920938463463374607431768211456) (wd_self _) (wd_self _) _).mono ?_;rintro e w3 ⟨rfl,hw3⟩;have HS:=HS.later hw3;have⟨x0,x1⟩:=row2 HS.ra;have⟨y0,y1⟩:=row2 HS.rb;have⟨p0,p1,p2,p3,pf0,pf1,pf2,pf3⟩:=row4 HS.rp;have⟨z0,z1,z2,z3,zf0,zf1,zf2,zf3⟩:=row4 HS.rz))
 all_goals
  have HT:=HS.set (P':=P- b*340282366920938463463374607431768211456)
  have HT:=HT.is (qcongr 0 FIN.out)
  generalize ((((w3.setCell ⟨p,0,none⟩ (.int .u64 (q.dg (P- b*340282366920938463463374607431768211456) 0))).setCell ⟨p,1,none⟩ (.int .u64 (q.dg (P- b*340282366920938463463374607431768211456) 1))).setCell ⟨p,2,none⟩ (.int .u64 (q.dg (P- b*340282366920938463463374607431768211456) 2))).setCell ⟨p,3,none⟩ (.int .u64 (q.dg (P- b*340282366920938463463374607431768211456) 3)))=W1 at*
  clear x0 x1 y0 y1 p0 p1 p2 p3 pf0 pf1 pf2 pf3 z0 z1 z2 z3 zf0 zf1 zf2 zf3
  clear HS
  have HS:=HT
  clear HT
  have⟨x0,x1⟩:=row2 HS.ra
  have⟨y0,y1⟩:=row2 HS.rb
  have⟨p0,p1,p2,p3,pf0,pf1,pf2,pf3⟩:=row4 HS.rp
  have⟨z0,z1,z2,z3,zf0,zf1,zf2,zf3⟩:=row4 HS.rz
  go_wp2
  refine bodyPost_ret (v:= .agg #[.int .u64 (q.dg (a*b) 0), .int .u64 (q.dg (a*b) 1), .int .u64 (q.dg (a*b) 2), .int .u64 (q.dg (a*b) 3)]) (by simp [results,Tryz.results211,go_sem, *]) rfl ⟨rfl,?_⟩
  exact(((HS.bel.setCell (by show _≤w.heap.size+1+1;omega) _).setCell (by show _≤w.heap.size+1+1;omega) _).setCell (by show _≤w.heap.size+1+1;omega) _).setCell (by show _≤w.heap.size+1+1;omega) _
set_option maxHeartbeats 4000000 in
theorem qmul_pn(a b:Int)(a0: -170141183460469231731687303715884105728≤a)(a1:a<170141183460469231731687303715884105728)(b0: -170141183460469231731687303715884105728≤b)(b1:b<170141183460469231731687303715884105728)(ha:0≤a)(hb:b<0)(w:World):
  Calls Tryz.prog 211 #[.agg #[.int .i64 (hi a), .int .u64 (lo a)], .agg #[.int .i64 (hi b), .int .u64 (lo b)]] w fun e w'=>e= .returned (.agg #[.int .u64 (q.dg (a*b) 0), .int .u64 (q.dg (a*b) 1), .int .u64 (q.dg (a*b) 2), .int .u64 (q.dg (a*b) 3)])∧Below w.heap.size w w':=by
 have sa:=hi_pos a ha a1
 have sb:=hi_neg b b0 hb
 obtain⟨P,hP⟩: ∃ P,a % 340282366920938463463374607431768211456*(b % 340282366920938463463374607431768211456)=P:=⟨_,rfl⟩
 have FIN:Hid (P- a*340282366920938463463374607431768211456=a*b+0*115792089237316195423570985008687907853269984665640564039457584007913129639936):=by
  unfold Hid
  rw [←hP,mod_pos a ha a1,mod_neg b b0 hb]
  rw [mul_pn];omega
 clear a0 a1 b0 b1 ha hb
 go_enter Tryz.func211,Tryz.ntmps211
 go_wp2_with (go_at_call 232;refine(mulWords_any a b rfl rfl rfl rfl _).mono ?_;rw [hP];rintro e w1 ⟨rfl,hw1⟩;have HS:=mulSt_start w w1 a b P _ _ hw1;have⟨x0,x1⟩:=row2 HS.ra;have⟨y0,y1⟩:=row2 HS.rb;have⟨p0,p1,p2,p3,pf0,pf1,pf2,pf3⟩:=row4 HS.rp;have⟨z0,z1,z2,z3,zf0,zf1,zf2,zf3⟩:=row4 HS.rz;skip)
 generalize w1.alloc (.cells #[.int .u64 (q.dg P 0), .int .u64 (q.dg P 1), .int .u64 (q.dg P 2), .int .u64 (q.dg P 3)] _)=W0 at*
 clear hw1
 generalize w1.heap.size=p at*
 go_region_with (first
  |(go_at_call 234;refine(upper_any a rfl rfl _).mono ?_;rintro e w2 ⟨rfl,hw2⟩;have HS:=HS.drew.later hw2;have⟨x0,x1⟩:=row2 HS.ra;have⟨y0,y1⟩:=row2 HS.rb;have⟨p0,p1,p2,p3,pf0,pf1,pf2,pf3⟩:=row4 HS.rp;have⟨z0,z1,z2,z3,zf0,zf1,zf2,zf3⟩:=row4 HS.rz)
  |(go_at_call 233;refine(qsub_any (P) (a*340282366920938463463374607431768211456) (wd_self _) (wd_self _) _).mono ?_;rintro e w3 ⟨rfl,hw3⟩;have HS:=HS.later hw3;have⟨x0,x1⟩:=row2 HS.ra;have⟨y0,y1⟩:=row2 HS.rb;have⟨p0,p1,p2,p3,pf0,pf1,pf2,pf3⟩:=row4 HS.rp;have⟨z0,z1,z2,z3,zf0,zf1,zf2,zf3⟩:=row4 HS.rz))
 all_goals
  have HT:=HS.set (P':=P- a*340282366920938463463374607431768211456)
  have HT:=HT.is (qcongr 0 FIN.out)
  generalize ((((w3.setCell ⟨p,0,none⟩ (.int .u64 (q.dg (P- a*340282366920938463463374607431768211456) 0))).setCell ⟨p,1,none⟩ (.int .u64 (q.dg (P- a*340282366920938463463374607431768211456) 1))).setCell ⟨p,2,none⟩ (.int .u64 (q.dg (P- a*340282366920938463463374607431768211456) 2))).setCell ⟨p,3,none⟩ (.int .u64 (q.dg (P- a*340282366920938463463374607431768211456) 3)))=W1 at*
  clear x0 x1 y0 y1 p0 p1 p2 p3 pf0 pf1 pf2 pf3 z0 z1 z2 z3 zf0 zf1 zf2 zf3
  clear HS
  have HS:=HT
  clear HT
  have⟨x0,x1⟩:=row2 HS.ra
  have⟨y0,y1⟩:=row2 HS.rb
  have⟨p0,p1,p2,p3,pf0,pf1,pf2,pf3⟩:=row4 HS.rp
  have⟨z0,z1,z2,z3,zf0,zf1,zf2,zf3⟩:=row4 HS.rz
  go_wp2
  refine bodyPost_ret (v:= .agg #[.int .u64 (q.dg (a*b) 0), .int .u64 (q.dg (a*b) 1), .int .u64 (q.dg (a*b) 2), .int .u64 (q.dg (a*b) 3)]) (by simp [results,Tryz.results211,go_sem, *]) rfl ⟨rfl,?_⟩
  exact(((HS.bel.setCell (by show _≤w.heap.size+1+1;omega) _).setCell (by show _≤w.heap.size+1+1;omega) _).setCell (by show _≤w.heap.size+1+1;omega) _).setCell (by show _≤w.heap.size+1+1;omega) _
set_option maxHeartbeats 4000000 in
theorem qmul_pp(a b:Int)(a0: -170141183460469231731687303715884105728≤a)(a1:a<170141183460469231731687303715884105728)(b0: -170141183460469231731687303715884105728≤b)(b1:b<170141183460469231731687303715884105728)(ha:0≤a)(hb:0≤b)(w:World):
  Calls Tryz.prog 211 #[.agg #[.int .i64 (hi a), .int .u64 (lo a)], .agg #[.int .i64 (hi b), .int .u64 (lo b)]] w fun e w'=>e= .returned (.agg #[.int .u64 (q.dg (a*b) 0), .int .u64 (q.dg (a*b) 1), .int .u64 (q.dg (a*b) 2), .int .u64 (q.dg (a*b) 3)])∧Below w.heap.size w w':=by
 have sa:=hi_pos a ha a1
 have sb:=hi_pos b hb b1
 obtain⟨P,hP⟩: ∃ P,a % 340282366920938463463374607431768211456*(b % 340282366920938463463374607431768211456)=P:=⟨_,rfl⟩
 have FIN:Hid (P=a*b+0*115792089237316195423570985008687907853269984665640564039457584007913129639936):=by
  unfold Hid
  rw [←hP,mod_pos a ha a1,mod_pos b hb b1]
  omega
 clear a0 a1 b0 b1 ha hb
 go_enter Tryz.func211,Tryz.ntmps211
 have E4:=qcongr 0 FIN.out
 have E5:=ret_quad E4.1 E4.2.1 E4.2.2.1 E4.2.2.2
 rw [←E5]
 clear E4 E5
 go_wp2_with (go_at_call 232;refine(mulWords_any a b rfl rfl rfl rfl _).mono ?_;rw [hP];rintro e w1 ⟨rfl,hw1⟩;have HS:=mulSt_start w w1 a b P _ _ hw1;have⟨x0,x1⟩:=row2 HS.ra;have⟨y0,y1⟩:=row2 HS.rb;have⟨p0,p1,p2,p3,pf0,pf1,pf2,pf3⟩:=row4 HS.rp;have⟨z0,z1,z2,z3,zf0,zf1,zf2,zf3⟩:=row4 HS.rz;skip)
 refine bodyPost_ret (v:= .agg #[.int .u64 (q.dg (P) 0), .int .u64 (q.dg (P) 1), .int .u64 (q.dg (P) 2), .int .u64 (q.dg (P) 3)]) (by simp [results,Tryz.results211,go_sem, *]) rfl ⟨rfl,?_⟩
 exact(((HS.bel.setCell (by show _≤w.heap.size+1+1;omega) _).setCell (by show _≤w.heap.size+1+1;omega) _).setCell (by show _≤w.heap.size+1+1;omega) _).setCell (by show _≤w.heap.size+1+1;omega) _
theorem qmul_any{ah al bh bl:Int}(a b:Int)(ha:ah=hi a)(hal:al=lo a)(hb:bh=hi b)(hbl:bl=lo b)(a0: -170141183460469231731687303715884105728≤a)(a1:a<170141183460469231731687303715884105728)(b0: -170141183460469231731687303715884105728≤b)(b1:b<170141183460469231731687303715884105728)(w:World):
  Calls Tryz.prog 211 #[.agg #[.int .i64 ah, .int .u64 al], .agg #[.int .i64 bh, .int .u64 bl]] w fun e w'=>e= .returned (.agg #[.int .u64 (q.dg (a*b) 0), .int .u64 (q.dg (a*b) 1), .int .u64 (q.dg (a*b) 2), .int .u64 (q.dg (a*b) 3)])∧Below w.heap.size w w':=by
 subst ha hal hb hbl
 rcases Int.lt_or_le a 0 with ha|ha<;>rcases Int.lt_or_le b 0 with hb|hb
 ·exact qmul_nn a b a0 a1 b0 b1 ha hb w
 ·exact qmul_np a b a0 a1 b0 b1 ha hb w
 ·exact qmul_pn a b a0 a1 b0 b1 ha hb w
 ·exact qmul_pp a b a0 a1 b0 b1 ha hb w
theorem quad_eq(a0 a1 a2 a3 b0 b1 b2 b3:Int)(w:World):(Op.equalIn 10000 286 (.agg #[.int .u64 a0, .int .u64 a1, .int .u64 a2, .int .u64 a3]) (.agg #[.int .u64 b0, .int .u64 b1, .int .u64 b2, .int .u64 b3])).run Tryz.prog w= .ok (a0==b0 && (a1==b1 && (a2==b2 && a3==b3))) w:=by
 obtain⟨i,hi⟩:=Option.isSome_iff_exists.1 (show(Tryz.prog.info? 147).isSome=true by kernel_rfl)
 have hc:Tryz.prog.cellsOf 147=1:=by kernel_rfl
 rw [run_equalIn_array w 9999 _ _ Tryz.underlying286 hi,hc]
 simp [Op.eqItems,List.range,List.range.loop,go_sem,Tryz.underlying147]
 by_cases e0:a0=b0<;>by_cases e1:a1=b1<;>by_cases e2:a2=b2<;>by_cases e3:a3=b3<;>simp [e0,e1,e2,e3]
theorem top_neg(a:Int)(h0: -57896044618658097711785492504343953926634992332820282019728792003956564819968≤a)(h1:a<57896044618658097711785492504343953926634992332820282019728792003956564819968):wrap64 (q.dg a 3)<0↔a<0:=by
 rw [qdg3];unfold wrap64;omega
theorem isBelow_any{a0 a1 a2 a3:Int}(a:Int)(ha:Wd a a0 a1 a2 a3)(h0: -57896044618658097711785492504343953926634992332820282019728792003956564819968≤a)(h1:a<57896044618658097711785492504343953926634992332820282019728792003956564819968)(w:World):
  Calls Tryz.prog 235 #[.agg #[.int .u64 a0, .int .u64 a1, .int .u64 a2, .int .u64 a3]] w fun e w'=>e= .returned (.bool (decide (a<0)))∧Below w.heap.size w w':=by
 obtain⟨rfl,rfl,rfl,rfl⟩:=ha
 have e:decide (wrap64 (q.dg a 3)<0)=decide (a<0):=by rw [decide_eq_decide];exact top_neg a h0 h1
 clear h0 h1
 go_enter Tryz.func235,Tryz.ntmps235
 go_wp2
 go_ret
 exact⟨rfl,(Below.refl _ _).alloc (Nat.le_refl _) _⟩
theorem split4(a:Int):a=q.dg a 0+q.dg a 1*18446744073709551616+q.dg a 2*340282366920938463463374607431768211456+q.dg a 3*6277101735386680763835789423207666416102355444464034512896+a/115792089237316195423570985008687907853269984665640564039457584007913129639936*115792089237316195423570985008687907853269984665640564039457584007913129639936:=by
 rw [qdg0,qdg1,qdg2,qdg3];omega
theorem ret_int'{a b:Int}(h:a=b):Ending.returned (.int .i64 a)= .returned (.int .i64 b):=by rw [h]
theorem qsign_any{a0 a1 a2 a3:Int}(a:Int)(ha:Wd a a0 a1 a2 a3)(h0: -57896044618658097711785492504343953926634992332820282019728792003956564819968≤a)(h1:a<57896044618658097711785492504343953926634992332820282019728792003956564819968)(w:World):
  Calls Tryz.prog 214 #[.agg #[.int .u64 a0, .int .u64 a1, .int .u64 a2, .int .u64 a3]] w fun e w'=>e= .returned (.int .i64 (cmpI a 0))∧Below w.heap.size w w':=by
 obtain⟨rfl,rfl,rfl,rfl⟩:=ha
 have HB:Hid _:=fun w=>isBelow_any a (wd_self a) h0 h1 w
 have Q4:=quad_eq
 rcases Int.lt_trichotomy a 0 with h|h|h
 ·have C:Hid (cmpI a 0= -1):=by unfold Hid cmpI;rw [if_pos h]
  have D:decide (a<0)=true:=by simpa using h
  clear h0 h1
  go_enter Tryz.func214,Tryz.ntmps214
  go_wp2_with (go_at_call 235;refine(HB.out _).mono ?_;rw [D];rintro e w' ⟨rfl,hb⟩)
  go_ret
  exact⟨ret_int' C.out.symm,((Below.refl _ _).alloc (Nat.le_refl _) _).trans (hb.mono (by simp))⟩
 ·subst h
  have C:Hid (cmpI 0 0=0):=by unfold Hid;decide
  have D:decide ((0:Int)<0)=false:=by decide
  have Z0:=qdg_0
  clear h0 h1
  go_enter Tryz.func214,Tryz.ntmps214
  go_wp2_with (go_at_call 235;refine(HB.out _).mono ?_;rw [D];rintro e w' ⟨rfl,hb⟩;obtain⟨hc,hf⟩:=bcell hb)
  go_ret
  exact⟨ret_int' C.out.symm,((Below.refl _ _).alloc (Nat.le_refl _) _).trans (hb.mono (by simp))⟩
 ·have C:Hid (cmpI a 0=1):=by unfold Hid cmpI;rw [if_neg (by omega),if_pos h]
  have D:decide (a<0)=false:=by simp;omega
  have N:(q.dg a 0==0 && (q.dg a 1==0 && (q.dg a 2==0 && q.dg a 3==0)))=false:=by
   rw [Bool.eq_false_iff]
   intro h'
   simp at h'
   have:=split4 a
   omega
  have Q5:=fun w=>(Q4 (q.dg a 0) (q.dg a 1) (q.dg a 2) (q.dg a 3) 0 0 0 0 w).trans (by rw [N])
  clear h0 h1 N Q4
  go_enter Tryz.func214,Tryz.ntmps214
  go_wp2_with (go_at_call 235;refine(HB.out _).mono ?_;rw [D];rintro e w' ⟨rfl,hb⟩;obtain⟨hc,hf⟩:=bcell hb)
  go_ret
  exact⟨ret_int' C.out.symm,((Below.refl _ _).alloc (Nat.le_refl _) _).trans (hb.mono (by simp))⟩
end Go.Proofs.YtjmhfdimoeaplaaGreat.lq
