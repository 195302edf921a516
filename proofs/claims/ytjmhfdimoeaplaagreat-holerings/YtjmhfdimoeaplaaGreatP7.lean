/-
  Joined texts, part 7:
  What zelligeref11's Twin answers, corner 2, the same way.
  What zelligeref11's Twin answers, of any corners.
  What zelligeref11's Across answers.
  What the program's mesh must do (its own shape in memory is left open: MP): the laws of la
  Plain arithmetic of numbers of two words: what word a sum, a difference and a product have
  What package wide's smallest functions answer: a sum, a difference, a number with the othe
  wide.Mul, Cmp, Sign, and the product whose text every law of this layer looks at.
  What package pred's can, area2, dist2, turn, Area2, Orient and Dist2 answer.
  A region whose order is open, with calls and blocks that are made at any time: what holds 
  What the calls of an open region may tell: a number of zelligeref04 (its digits lie in mem
  What zelligeref07's diff, Area and Dist answer.
  What zelligeref07's near, sign, Orient and flat answer.
-/
import Derived.Test.YtjmhfdimoeaplaaGreatP6
import Derived.Test.YtjmhfdimoeaplaaGreatP2
import Derived.WalkKit
import Derived.Laws.Bits64b
import Derived.Test.YtjmhfdimoeaplaaGreatP1
import Derived.Test.YtjmhfdimoeaplaaGreatRows
import Derived.WalkSpells
import Derived.StillTactics
import Derived.Laws.Pointers
import Derived.Laws.Externs
import Derived.Shelf.Spec.BitsCarry
import Derived.RowKit3
import Derived.Laws.BytesArg
import Derived.WalkSmall
import Derived.Deep.QuietTactic
import Derived.BigQuiet
import Derived.Test.YtjmhfdimoeaplaaGreatP3
import Derived.Test.YtjmhfdimoeaplaaGreatP4
set_option maxRecDepth 100000
set_option maxHeartbeats 20000000
namespace Go.Proofs.YtjmhfdimoeaplaaGreat
open Go.RowKit
set_option linter.unusedVariables false
theorem twin_20s(a b:Tr)(w:World)(ha:offB a)(hb:offB b){r:Bool}(hr:r=same a 2 b 0):
  Calls Tryz.prog 200 #[trV a, .int .i64 2,trV b, .int .i64 0, .bool false] w fun e w'=>e= .returned (.bool r)∧Below w.heap.size w w':=by
 have hB: ∀ o o' n,Below w.heap.size w (((w.alloc o).alloc o').drewN n):=fun o o' n=>(((Below.refl _ _).alloc (Nat.le_refl _) _).alloc (by simp) _).trans ⟨rfl,rfl,rfl,Nat.le_refl _,fun _ _=>rfl⟩
 have ha:=ha.all
 have hb:=hb.all
 obtain⟨a0,a1,a2,x0,y0,x1,y1,x2,y2⟩:=a
 obtain⟨b0,b1,b2,s0,t0,s1,t1,s2,t2⟩:=b
 simp only []at ha hb
 have hr':r=(decide (a2=b0) && (decide (a0=b1) && (decide (x0- x2=s1- s0) && decide (y0- y2=t1- t0)))):=by
  rw [hr];simp [same,nx,Tr.v,Tr.x,Tr.y]
 clear hr
 obtain⟨dx,gdx⟩: ∃ dx,dx=x0- x2:=⟨_,rfl⟩
 have vdx:IntKind.i64.wrap (x0- x2)=dx:=by rw [wrap_i64,gdx];unfold wrap64;omega
 have udx:wrap64 (x0- x2)=dx:=by rw [gdx];unfold wrap64;omega
 obtain⟨ex,gex⟩: ∃ ex,ex=s1- s0:=⟨_,rfl⟩
 have vex:IntKind.i64.wrap (s1- s0)=ex:=by rw [wrap_i64,gex];unfold wrap64;omega
 have uex:wrap64 (s1- s0)=ex:=by rw [gex];unfold wrap64;omega
 obtain⟨dy,gdy⟩: ∃ dy,dy=y0- y2:=⟨_,rfl⟩
 have vdy:IntKind.i64.wrap (y0- y2)=dy:=by rw [wrap_i64,gdy];unfold wrap64;omega
 have udy:wrap64 (y0- y2)=dy:=by rw [gdy];unfold wrap64;omega
 obtain⟨ey,gey⟩: ∃ ey,ey=t1- t0:=⟨_,rfl⟩
 have vey:IntKind.i64.wrap (t1- t0)=ey:=by rw [wrap_i64,gey];unfold wrap64;omega
 have uey:wrap64 (t1- t0)=ey:=by rw [gey];unfold wrap64;omega
 rw [←gdx,←gex,←gdy,←gey]at hr'
 have HR:Hid _:=hr'
 clear hr'
 clear gdx gex gdy gey ha hb
 by_cases h0:a2=b0
 ·have e0:(a2==b0)=true:=by simpa using h0
  by_cases h1:a0=b1
  ·have e1:(a0==b1)=true:=by simpa using h1
   by_cases h2:dx=ex
   ·have e2:(dx==ex)=true:=by simpa using h2
    have e3:(dy==ey)=r:=by rw [HR.out,decide_eq_true h0,decide_eq_true h1,decide_eq_true h2];rfl
    clear h0 h1 h2 HR
    go_enter Tryz.func200,Tryz.ntmps200
    go_wp2
    dsimp only [List.append]
    go_quiet (fail)
    go_wp2
    go_ret
    exact⟨by rw [←e3];rfl,hB _ _ _⟩
   ·have e2:(dx==ex)=false:=by simpa using h2
    obtain rfl:r=false:=by rw [HR.out,decide_eq_false h2];simp
    clear h0 h1 h2 HR
    go_enter Tryz.func200,Tryz.ntmps200
    go_wp2
    dsimp only [List.append]
    go_quiet (fail)
    go_wp2
    go_ret
    exact⟨rfl,hB _ _ _⟩
  ·have e1:(a0==b1)=false:=by simpa using h1
   obtain rfl:r=false:=by rw [HR.out,decide_eq_false h1];simp
   clear h0 h1 HR
   go_enter Tryz.func200,Tryz.ntmps200
   go_wp2
   dsimp only [List.append]
   go_quiet (fail)
   go_wp2
   go_ret
   exact⟨rfl,hB _ _ _⟩
 ·have e0:(a2==b0)=false:=by simpa using h0
  obtain rfl:r=false:=by rw [HR.out,decide_eq_false h0];simp
  clear h0 HR
  go_enter Tryz.func200,Tryz.ntmps200
  go_wp2
  dsimp only [List.append]
  go_quiet (fail)
  go_wp2
  go_ret
  exact⟨rfl,hB _ _ _⟩
theorem twin_21s(a b:Tr)(w:World)(ha:offB a)(hb:offB b){r:Bool}(hr:r=same a 2 b 1):
  Calls Tryz.prog 200 #[trV a, .int .i64 2,trV b, .int .i64 1, .bool false] w fun e w'=>e= .returned (.bool r)∧Below w.heap.size w w':=by
 have hB: ∀ o o' n,Below w.heap.size w (((w.alloc o).alloc o').drewN n):=fun o o' n=>(((Below.refl _ _).alloc (Nat.le_refl _) _).alloc (by simp) _).trans ⟨rfl,rfl,rfl,Nat.le_refl _,fun _ _=>rfl⟩
 have ha:=ha.all
 have hb:=hb.all
 obtain⟨a0,a1,a2,x0,y0,x1,y1,x2,y2⟩:=a
 obtain⟨b0,b1,b2,s0,t0,s1,t1,s2,t2⟩:=b
 simp only []at ha hb
 have hr':r=(decide (a2=b1) && (decide (a0=b2) && (decide (x0- x2=s2- s1) && decide (y0- y2=t2- t1)))):=by
  rw [hr];simp [same,nx,Tr.v,Tr.x,Tr.y]
 clear hr
 obtain⟨dx,gdx⟩: ∃ dx,dx=x0- x2:=⟨_,rfl⟩
 have vdx:IntKind.i64.wrap (x0- x2)=dx:=by rw [wrap_i64,gdx];unfold wrap64;omega
 have udx:wrap64 (x0- x2)=dx:=by rw [gdx];unfold wrap64;omega
 obtain⟨ex,gex⟩: ∃ ex,ex=s2- s1:=⟨_,rfl⟩
 have vex:IntKind.i64.wrap (s2- s1)=ex:=by rw [wrap_i64,gex];unfold wrap64;omega
 have uex:wrap64 (s2- s1)=ex:=by rw [gex];unfold wrap64;omega
 obtain⟨dy,gdy⟩: ∃ dy,dy=y0- y2:=⟨_,rfl⟩
 have vdy:IntKind.i64.wrap (y0- y2)=dy:=by rw [wrap_i64,gdy];unfold wrap64;omega
 have udy:wrap64 (y0- y2)=dy:=by rw [gdy];unfold wrap64;omega
 obtain⟨ey,gey⟩: ∃ ey,ey=t2- t1:=⟨_,rfl⟩
 have vey:IntKind.i64.wrap (t2- t1)=ey:=by rw [wrap_i64,gey];unfold wrap64;omega
 have uey:wrap64 (t2- t1)=ey:=by rw [gey];unfold wrap64;omega
 rw [←gdx,←gex,←gdy,←gey]at hr'
 have HR:Hid _:=hr'
 clear hr'
 clear gdx gex gdy gey ha hb
 by_cases h0:a2=b1
 ·have e0:(a2==b1)=true:=by simpa using h0
  by_cases h1:a0=b2
  ·have e1:(a0==b2)=true:=by simpa using h1
   by_cases h2:dx=ex
   ·have e2:(dx==ex)=true:=by simpa using h2
    have e3:(dy==ey)=r:=by rw [HR.out,decide_eq_true h0,decide_eq_true h1,decide_eq_true h2];rfl
    clear h0 h1 h2 HR
    go_enter Tryz.func200,Tryz.ntmps200
    go_wp2
    dsimp only [List.append]
    go_quiet (fail)
    go_wp2
    go_ret
    exact⟨by rw [←e3];rfl,hB _ _ _⟩
   ·have e2:(dx==ex)=false:=by simpa using h2
    obtain rfl:r=false:=by rw [HR.out,decide_eq_false h2];simp
    clear h0 h1 h2 HR
    go_enter Tryz.func200,Tryz.ntmps200
    go_wp2
    dsimp only [List.append]
    go_quiet (fail)
    go_wp2
    go_ret
    exact⟨rfl,hB _ _ _⟩
  ·have e1:(a0==b2)=false:=by simpa using h1
   obtain rfl:r=false:=by rw [HR.out,decide_eq_false h1];simp
   clear h0 h1 HR
   go_enter Tryz.func200,Tryz.ntmps200
   go_wp2
   dsimp only [List.append]
   go_quiet (fail)
   go_wp2
   go_ret
   exact⟨rfl,hB _ _ _⟩
 ·have e0:(a2==b1)=false:=by simpa using h0
  obtain rfl:r=false:=by rw [HR.out,decide_eq_false h0];simp
  clear h0 HR
  go_enter Tryz.func200,Tryz.ntmps200
  go_wp2
  dsimp only [List.append]
  go_quiet (fail)
  go_wp2
  go_ret
  exact⟨rfl,hB _ _ _⟩
theorem twin_22s(a b:Tr)(w:World)(ha:offB a)(hb:offB b){r:Bool}(hr:r=same a 2 b 2):
  Calls Tryz.prog 200 #[trV a, .int .i64 2,trV b, .int .i64 2, .bool false] w fun e w'=>e= .returned (.bool r)∧Below w.heap.size w w':=by
 have hB: ∀ o o' n,Below w.heap.size w (((w.alloc o).alloc o').drewN n):=fun o o' n=>(((Below.refl _ _).alloc (Nat.le_refl _) _).alloc (by simp) _).trans ⟨rfl,rfl,rfl,Nat.le_refl _,fun _ _=>rfl⟩
 have ha:=ha.all
 have hb:=hb.all
 obtain⟨a0,a1,a2,x0,y0,x1,y1,x2,y2⟩:=a
 obtain⟨b0,b1,b2,s0,t0,s1,t1,s2,t2⟩:=b
 simp only []at ha hb
 have hr':r=(decide (a2=b2) && (decide (a0=b0) && (decide (x0- x2=s0- s2) && decide (y0- y2=t0- t2)))):=by
  rw [hr];simp [same,nx,Tr.v,Tr.x,Tr.y]
 clear hr
 obtain⟨dx,gdx⟩: ∃ dx,dx=x0- x2:=⟨_,rfl⟩
 have vdx:IntKind.i64.wrap (x0- x2)=dx:=by rw [wrap_i64,gdx];unfold wrap64;omega
 have udx:wrap64 (x0- x2)=dx:=by rw [gdx];unfold wrap64;omega
 obtain⟨ex,gex⟩: ∃ ex,ex=s0- s2:=⟨_,rfl⟩
 have vex:IntKind.i64.wrap (s0- s2)=ex:=by rw [wrap_i64,gex];unfold wrap64;omega
 have uex:wrap64 (s0- s2)=ex:=by rw [gex];unfold wrap64;omega
 obtain⟨dy,gdy⟩: ∃ dy,dy=y0- y2:=⟨_,rfl⟩
 have vdy:IntKind.i64.wrap (y0- y2)=dy:=by rw [wrap_i64,gdy];unfold wrap64;omega
 have udy:wrap64 (y0- y2)=dy:=by rw [gdy];unfold wrap64;omega
 obtain⟨ey,gey⟩: ∃ ey,ey=t0- t2:=⟨_,rfl⟩
 have vey:IntKind.i64.wrap (t0- t2)=ey:=by rw [wrap_i64,gey];unfold wrap64;omega
 have uey:wrap64 (t0- t2)=ey:=by rw [gey];unfold wrap64;omega
 rw [←gdx,←gex,←gdy,←gey]at hr'
 have HR:Hid _:=hr'
 clear hr'
 clear gdx gex gdy gey ha hb
 by_cases h0:a2=b2
 ·have e0:(a2==b2)=true:=by simpa using h0
  by_cases h1:a0=b0
  ·have e1:(a0==b0)=true:=by simpa using h1
   by_cases h2:dx=ex
   ·have e2:(dx==ex)=true:=by simpa using h2
    have e3:(dy==ey)=r:=by rw [HR.out,decide_eq_true h0,decide_eq_true h1,decide_eq_true h2];rfl
    clear h0 h1 h2 HR
    go_enter Tryz.func200,Tryz.ntmps200
    go_wp2
    dsimp only [List.append]
    go_quiet (fail)
    go_wp2
    go_ret
    exact⟨by rw [←e3];rfl,hB _ _ _⟩
   ·have e2:(dx==ex)=false:=by simpa using h2
    obtain rfl:r=false:=by rw [HR.out,decide_eq_false h2];simp
    clear h0 h1 h2 HR
    go_enter Tryz.func200,Tryz.ntmps200
    go_wp2
    dsimp only [List.append]
    go_quiet (fail)
    go_wp2
    go_ret
    exact⟨rfl,hB _ _ _⟩
  ·have e1:(a0==b0)=false:=by simpa using h1
   obtain rfl:r=false:=by rw [HR.out,decide_eq_false h1];simp
   clear h0 h1 HR
   go_enter Tryz.func200,Tryz.ntmps200
   go_wp2
   dsimp only [List.append]
   go_quiet (fail)
   go_wp2
   go_ret
   exact⟨rfl,hB _ _ _⟩
 ·have e0:(a2==b2)=false:=by simpa using h0
  obtain rfl:r=false:=by rw [HR.out,decide_eq_false h0];simp
  clear h0 HR
  go_enter Tryz.func200,Tryz.ntmps200
  go_wp2
  dsimp only [List.append]
  go_quiet (fail)
  go_wp2
  go_ret
  exact⟨rfl,hB _ _ _⟩
theorem mrTwin(a b:Tr)(i k:Nat)(w:World)(ha:offB a)(hb:offB b)(hi:i<3)(hk:k<3){r:Bool}(hr:r=same a i b k):
  Calls Tryz.prog 200 #[trV a, .int .i64 (i:Int),trV b, .int .i64 (k:Int), .bool false] w fun e w'=>e= .returned (.bool r)∧Below w.heap.size w w':=by
 rcases(by omega:i=0∨i=1∨i=2)with rfl|rfl|rfl<;>rcases(by omega:k=0∨k=1∨k=2)with rfl|rfl|rfl
 ·exact twin_00s a b w ha hb hr
 ·exact twin_01s a b w ha hb hr
 ·exact twin_02s a b w ha hb hr
 ·exact twin_10s a b w ha hb hr
 ·exact twin_11s a b w ha hb hr
 ·exact twin_12s a b w ha hb hr
 ·exact twin_20s a b w ha hb hr
 ·exact twin_21s a b w ha hb hr
 ·exact twin_22s a b w ha hb hr
def CrossIs(r:Option (Tr×Ce×Nat))(i:Int)(e:Ending):Prop:=match r with
 |none=>e= .returned (.tuple #[.int .i64 (-1), .int .i64 0, .agg #[.int .i64 0, .int .i64 0], .bool false])
 |some (t,c,k)=>e= .returned (.tuple #[.int .i64 c.no, .int .i64 (((k+2) % 3:Nat):Int), .agg #[.int .i64 (t.x (nx (nx (corner i)))- c.t.x k), .int .i64 (t.y (nx (nx (corner i)))- c.t.y k)], .bool true])
abbrev MeShape:=Nat→Nat→Ms→(Nat→Prop)→World→Prop
abbrev vtV(a:Vt):Value:= .agg #[.int .i64 a.no, .int .i64 a.x, .int .i64 a.y, .int .i64 a.id]
def vtZero:Vt:=⟨0,0,0,0⟩
def trZero:Tr:=⟨0,0,0,0,0,0,0,0,0⟩
def vertOf(S:Ms)(v:Int):Vt:=match S.V.find? (fun a=>decide (a.no=v))with|some a=>a|none=>vtZero
def faceOf(S:Ms)(f:Int):Tr:=match S.C.find? (fun c=>decide (c.no=f))with|some c=>c.t|none=>trZero
structure MeSpec(MP:MeShape):Prop where
 keep: ∀ {base p:Nat} {S:Ms} {F G:Nat→Prop} {w w':World},MP base p S F w→Keep G w w'→(∀ k,F k→ ¬G k)→MP base p S F w'
 ft: ∀ {base p:Nat} {S:Ms} {F:Nat→Prop} {w:World},MP base p S F w→ ∀ k,F k→base≤k∧k<w.heap.size
 new: ∀ (base:Nat) (n:Int) (w:World),base≤w.heap.size→1≤n∧n≤17179869184→Calls Tryz.prog 45 #[.int .i64 n] w fun e w'=> ∃ (p:Nat) (F:Nat→Prop),e= .returned (ptR p)∧MP base p (Ms.new n) F w'∧(∀ k,F k→w.heap.size≤k)∧Below w.heap.size w w'
 side: ∀ (base p:Nat) (S:Ms) (m:Nat) (F:Nat→Prop) (w:World),MP base p S F w→MsOk S m→m≤1000→Calls Tryz.prog 68 #[ptR p] w fun e w'=>e= .returned (.int .i64 S.n)∧Below w.heap.size w w'
 addV0: ∀ (base p:Nat) (S:Ms) (m:Nat) (F:Nat→Prop) (w:World),MP base p S F w→MsOk S m→m≤1000→ ∀ x y id:Int,In64 x→In64 y→In64 id→inSq S x y=false→Calls Tryz.prog 46 #[ptR p, .agg #[.int .i64 x, .int .i64 y], .int .i64 id] w fun e w'=>e= .returned (.int .i64 (-1))∧Left (MP base p S) F w w'
 addV: ∀ (base p:Nat) (S:Ms) (m:Nat) (F:Nat→Prop) (w:World),MP base p S F w→MsOk S m→m≤1000→ ∀ x y id:Int,In64 x→In64 y→In64 id→inSq S x y=true→Calls Tryz.prog 46 #[ptR p, .agg #[.int .i64 x, .int .i64 y], .int .i64 id] w fun e w'=>e= .returned (.int .i64 S.av.num)∧Left (MP base p (S.addV x y id)) F w w'
 dropV0: ∀ (base p:Nat) (S:Ms) (m:Nat) (F:Nat→Prop) (w:World),MP base p S F w→MsOk S m→m≤1000→ ∀ v:Int,In64 v→(isV S v=false∨around S.C v≠ [])→Calls Tryz.prog 146 #[ptR p, .int .i64 v] w fun e w'=>e= .returned (.bool false)∧Left (MP base p S) F w w'
 dropV: ∀ (base p:Nat) (S:Ms) (m:Nat) (F:Nat→Prop) (w:World),MP base p S F w→MsOk S m→m≤1000→ ∀ (v:Int) (i:Nat) (a:Vt),In64 v→S.V[i]? =some a→a.no=v→around S.C v= []→Calls Tryz.prog 146 #[ptR p, .int .i64 v] w fun e w'=>e= .returned (.bool true)∧Left (MP base p (S.dropV v i)) F w w'
 vert: ∀ (base p:Nat) (S:Ms) (m:Nat) (F:Nat→Prop) (w:World),MP base p S F w→MsOk S m→m≤1000→ ∀ v:Int,In64 v→Calls Tryz.prog 26 #[ptR p, .int .i64 v] w fun e w'=>e= .returned (.tuple #[vtV (vertOf S v), .bool (isV S v)])∧Below w.heap.size w w'
 addF0: ∀ (base p:Nat) (S:Ms) (m:Nat) (F:Nat→Prop) (w:World),MP base p S F w→MsOk S m→m≤1000→ ∀ (t:Tr) (e0:Int),Tr64 t→e0=fErr S t→e0≠0→Calls Tryz.prog 47 #[ptR p,trV t] w fun e w'=>e= .returned (.tuple #[.int .i64 (-1), .int .i64 e0])∧Left (MP base p S) F w w'
 addF: ∀ (base p:Nat) (S:Ms) (m:Nat) (F:Nat→Prop) (w:World),MP base p S F w→MsOk S m→m≤1000→ ∀ t:Tr,Tr64 t→fErr S t=0→Calls Tryz.prog 47 #[ptR p,trV t] w fun e w'=>e= .returned (.tuple #[.int .i64 S.af.num, .int .i64 0])∧Left (MP base p (S.addF t)) F w w'
 dropF0: ∀ (base p:Nat) (S:Ms) (m:Nat) (F:Nat→Prop) (w:World),MP base p S F w→MsOk S m→m≤1000→ ∀ f:Int,In64 f→isF S f=false→Calls Tryz.prog 66 #[ptR p, .int .i64 f] w fun e w'=>e= .returned (.bool false)∧Left (MP base p S) F w w'
 dropF: ∀ (base p:Nat) (S:Ms) (m:Nat) (F:Nat→Prop) (w:World),MP base p S F w→MsOk S m→m≤1000→ ∀ (f:Int) (i:Nat) (c:Ce),In64 f→S.C[i]? =some c→c.no=f→Calls Tryz.prog 66 #[ptR p, .int .i64 f] w fun e w'=>e= .returned (.bool true)∧Left (MP base p (S.dropF f i)) F w w'
 face: ∀ (base p:Nat) (S:Ms) (m:Nat) (F:Nat→Prop) (w:World),MP base p S F w→MsOk S m→m≤1000→ ∀ f:Int,In64 f→Calls Tryz.prog 56 #[ptR p, .int .i64 f] w fun e w'=>e= .returned (.tuple #[trV (faceOf S f), .bool (isF S f)])∧Below w.heap.size w w'
 corner0: ∀ (base p:Nat) (S:Ms) (m:Nat) (F:Nat→Prop) (w:World),MP base p S F w→MsOk S m→m≤1000→ ∀ f i:Int,In64 f→In64 i→isF S f=false→Calls Tryz.prog 110 #[ptR p, .int .i64 f, .int .i64 i] w fun e w'=>e= .returned (.tuple #[.agg #[.int .i64 0, .int .i64 0], .bool false])∧Below w.heap.size w w'
 corner: ∀ (base p:Nat) (S:Ms) (m:Nat) (F:Nat→Prop) (w:World),MP base p S F w→MsOk S m→m≤1000→ ∀ f i:Int,In64 f→In64 i→isF S f=true→Calls Tryz.prog 110 #[ptR p, .int .i64 f, .int .i64 i] w fun e w'=>e= .returned (.tuple #[.agg #[.int .i64 (plX S (faceOf S f) (corner i)), .int .i64 (plY S (faceOf S f) (corner i))], .bool true])∧Below w.heap.size w w'
 across: ∀ (base p:Nat) (S:Ms) (m:Nat) (F:Nat→Prop) (w:World),MP base p S F w→MsOk S m→m≤1000→ ∀ f i:Int,In64 f→In64 i→Calls Tryz.prog 113 #[ptR p, .int .i64 f, .int .i64 i] w fun e w'=>CrossIs (crossed S f i) i e∧Below w.heap.size w w'
 around: ∀ (base p:Nat) (S:Ms) (m:Nat) (F:Nat→Prop) (w:World),MP base p S F w→MsOk S m→m≤1000→ ∀ v:Int,In64 v→ ∀ M,M=around S.C v→Calls Tryz.prog 149 #[ptR p, .int .i64 v] w (GotL w M)
 dump: ∀ (base p:Nat) (S:Ms) (m:Nat) (F:Nat→Prop) (w:World),MP base p S F w→MsOk S m→m≤1000→Calls Tryz.prog 22 #[ptR p] w (GotDump w S)
 check: ∀ (base p:Nat) (S:Ms) (m:Nat) (F:Nat→Prop) (w:World),MP base p S F w→MsOk S m→m≤1000→ ∀ r:Int,(r=if whole S=true then 0 else 6)→Calls Tryz.prog 27 #[ptR p] w fun e w'=>e= .returned (.int .i64 r)∧Below w.heap.size w w'
theorem MeSpec.below{MP:MeShape}(H:MeSpec MP){base p:Nat}{S:Ms}{F:Nat→Prop}{w w':World}(h:MP base p S F w)(hb:Below w.heap.size w w'):MP base p S F w':=H.keep h (Keep.of (F:=fun _=>False) hb) (fun _ _ x=>x)
end Go.Proofs.YtjmhfdimoeaplaaGreat
namespace Go.Proofs.YtjmhfdimoeaplaaGreat.lw
open Go.RowKit
def hi(v:Int):Int:=(v/18446744073709551616+9223372036854775808) % 18446744073709551616- 9223372036854775808
def lo(v:Int):Int:=v % 18446744073709551616
theorem lo_range(v:Int):0≤lo v∧lo v<18446744073709551616:=by unfold lo;omega
def bor(x y:Int):Int:=if x<y then 1 else 0
theorem bor_range(x y:Int):0≤bor x y∧bor x y≤1:=by unfold bor;split<;>decide
theorem hi_0:(0:Int)=hi 0:=by decide
theorem lo_0:(0:Int)=lo 0:=by decide
theorem add_lo(a b:Int):(lo a+lo b) % 18446744073709551616=lo (a+b):=by unfold lo;omega
theorem add_hi(a b:Int):wrap64 ((IntKind.u64.wrap (hi a)+IntKind.u64.wrap (hi b)+(lo a+lo b)/18446744073709551616) % 18446744073709551616)=hi (a+b):=by
 rw [IntKind.wrap_u64,IntKind.wrap_u64];unfold hi lo wrap64;omega
theorem sub_lo(a b:Int):(lo a- lo b) % 18446744073709551616=lo (a- b):=by unfold lo;omega
theorem sub_hi(a b:Int):wrap64 ((IntKind.u64.wrap (hi a)- IntKind.u64.wrap (hi b)- bor (lo a) (lo b)) % 18446744073709551616)=hi (a- b):=by
 rw [IntKind.wrap_u64,IntKind.wrap_u64];unfold bor wrap64;split<;>(simp only [hi,lo]at*;omega)
theorem mask32(x:Int)(h0:0≤x)(h1:x<18446744073709551616):bits .and .u64 x 4294967295=x % 4294967296:=by
 obtain⟨n,rfl⟩:=Int.eq_ofNat_of_zero_le h0
 have h:=bits_and_u64_nat n 4294967295 (by omega) (by omega)
 have e:n &&& 4294967295=n % 4294967296:=Nat.and_two_pow_sub_one_eq_mod n 32
 rw [e]at h
 exact h.trans (by omega)
theorem half_mul(a b:Int)(a0:0≤a)(a1:a<4294967296)(b0:0≤b)(b1:b<4294967296):0≤a*b∧a*b≤18446744065119617025:=by
 refine⟨Int.mul_nonneg a0 b0,?_⟩
 have:=Int.mul_le_mul (show a≤4294967295 by omega) (show b≤4294967295 by omega) b0 (by decide)
 omega
theorem school(a b c d:Int):(a*4294967296+b)*(c*4294967296+d)=a*c*18446744073709551616+a*d*4294967296+b*c*4294967296+b*d:=by
 have h1:a*4294967296*(c*4294967296)=a*c*(4294967296*4294967296):=by rw [Int.mul_assoc a,Int.mul_left_comm 4294967296 c,←Int.mul_assoc]
 have h2:a*4294967296*d=a*d*4294967296:=by rw [Int.mul_assoc a,Int.mul_comm 4294967296 d,←Int.mul_assoc]
 have h3:b*(c*4294967296)=b*c*4294967296:=(Int.mul_assoc b c _).symm
 rw [Int.add_mul,Int.mul_add,Int.mul_add,h1,h2,h3]
 omega
theorem mul64_hi(x y:Int)(x0:0≤x)(x1:x<18446744073709551616)(y0:0≤y)(y1:y<18446744073709551616):
  IntKind.u64.wrap (IntKind.u64.wrap (IntKind.u64.wrap (x/4294967296*(y/4294967296))+IntKind.u64.wrap (IntKind.u64.wrap (x/4294967296*bits .and .u64 y 4294967295)+IntKind.u64.wrap (bits .and .u64 x 4294967295*bits .and .u64 y 4294967295)/4294967296)/4294967296)+
   IntKind.u64.wrap (bits .and .u64 (IntKind.u64.wrap (IntKind.u64.wrap (x/4294967296*bits .and .u64 y 4294967295)+IntKind.u64.wrap (bits .and .u64 x 4294967295*bits .and .u64 y 4294967295)/4294967296)) 4294967295+IntKind.u64.wrap (bits .and .u64 x 4294967295*(y/4294967296)))/4294967296)=x*y/18446744073709551616:=by
 rw [mask32 x x0 x1,mask32 y y0 y1,mask32 (IntKind.u64.wrap _) (wrap_u64_nonneg _) (by rw [IntKind.wrap_u64];omega)]
 have e:=school (x/4294967296) (x % 4294967296) (y/4294967296) (y % 4294967296)
 have ex:x/4294967296*4294967296+x % 4294967296=x:=by omega
 have ey:y/4294967296*4294967296+y % 4294967296=y:=by omega
 rw [ex,ey]at e
 rw [e]
 have b1:=half_mul (x/4294967296) (y/4294967296) (by omega) (by omega) (by omega) (by omega)
 have b2:=half_mul (x/4294967296) (y % 4294967296) (by omega) (by omega) (by omega) (by omega)
 have b3:=half_mul (x % 4294967296) (y/4294967296) (by omega) (by omega) (by omega) (by omega)
 have b4:=half_mul (x % 4294967296) (y % 4294967296) (by omega) (by omega) (by omega) (by omega)
 clear e ex ey
 generalize x/4294967296*(y/4294967296)=p1 at*
 generalize x/4294967296*(y % 4294967296)=p2 at*
 generalize x % 4294967296*(y/4294967296)=p3 at*
 generalize x % 4294967296*(y % 4294967296)=p4 at*
 simp only [IntKind.wrap_u64]
 omega
theorem mul_lo(a b:Int):IntKind.u64.wrap a*IntKind.u64.wrap b % 18446744073709551616=lo (a*b):=by
 rw [IntKind.wrap_u64,IntKind.wrap_u64];unfold lo;exact(Int.mul_emod a b _).symm
theorem ret_tup2{k l:IntKind}{a b c d:Int}(h:a=c)(h':b=d):Ending.returned (.tuple #[.int k a, .int l b])= .returned (.tuple #[.int k c, .int l d]):=by rw [h,h']
theorem ret_int{k:IntKind}{a b:Int}(h:a=b):Ending.returned (.int k a)= .returned (.int k b):=by rw [h]
def cmpI(x y:Int):Int:=if x<y then -1 else if y<x then 1 else 0
theorem add64(x y c:Int)(hx:0≤x)(hy:0≤y)(hc0:0≤c)(hc:c≤1)(w:World):(callFunc 196 #[.int .u64 x, .int .u64 y, .int .u64 c]).run Tryz.prog w=
  .ok (.value (.tuple #[.int .u64 ((x+y+c) % 18446744073709551616), .int .u64 ((x+y+c)/18446744073709551616)])) w:=by
 rw [run_callFunc_extern Tryz.func196 (by kernel_rfl) (by kernel_rfl) (by kernel_rfl) (e:=add64Entry) (by kernel_rfl),run_add64 x y c hx hy hc0 hc]
 rfl
theorem add64_0(x y:Int)(hx:0≤x)(hy:0≤y)(w:World):(callFunc 196 #[.int .u64 x, .int .u64 y, .int .u64 0]).run Tryz.prog w=
  .ok (.value (.tuple #[.int .u64 ((x+y) % 18446744073709551616), .int .u64 ((x+y)/18446744073709551616)])) w:=by
 simpa using add64 x y 0 hx hy (Int.le_refl 0) (by decide) w
theorem sub64(x y b:Int)(hx:0≤x)(hy:0≤y)(hy':y<18446744073709551616)(hb0:0≤b)(hb:b≤1)(w:World):(callFunc 238 #[.int .u64 x, .int .u64 y, .int .u64 b]).run Tryz.prog w=
  .ok (.value (.tuple #[.int .u64 ((x- y- b) % 18446744073709551616), .int .u64 (bor x (y+b))])) w:=by
 obtain⟨x,rfl⟩:=Int.eq_ofNat_of_zero_le hx
 obtain⟨y,rfl⟩:=Int.eq_ofNat_of_zero_le hy
 obtain⟨b,rfl⟩:=Int.eq_ofNat_of_zero_le hb0
 have e1:(((x+18446744073709551616- y- b) % 18446744073709551616:Nat):Int)=((x:Int)- y- b) % 18446744073709551616:=by omega
 have e2:((if x<y+b then 1 else 0:Nat):Int)=bor x (y+b):=by unfold bor;split<;>split<;>omega
 rw [←e1,←e2,run_callFunc_extern Tryz.func238 (by kernel_rfl) (by kernel_rfl) (by kernel_rfl) (e:=sub64Entry) (by kernel_rfl),run_sub64 x y b (by omega)]
 rfl
theorem sub64_0(x y:Int)(hx:0≤x)(hy:0≤y)(hy':y<18446744073709551616)(w:World):(callFunc 238 #[.int .u64 x, .int .u64 y, .int .u64 0]).run Tryz.prog w=
  .ok (.value (.tuple #[.int .u64 ((x- y) % 18446744073709551616), .int .u64 (bor x y)])) w:=by
 simpa using sub64 x y 0 hx hy hy' (Int.le_refl 0) (by decide) w
theorem add_any{ah al bh bl:Int}(a b:Int)(ha:ah=hi a)(hl:al=lo a)(hb:bh=hi b)(hm:bl=lo b)(w:World):
  Calls Tryz.prog 141 #[.agg #[.int .i64 ah, .int .u64 al], .agg #[.int .i64 bh, .int .u64 bl]] w fun e w'=>
   e= .returned (.agg #[.int .i64 (hi (a+b)), .int .u64 (lo (a+b))])∧Below w.heap.size w w':=by
 subst ha hl hb hm
 obtain⟨a1,a2⟩:=lo_range a;obtain⟨b1,b2⟩:=lo_range b
 have k0:0≤(lo a+lo b)/18446744073709551616:=by omega
 have k1:(lo a+lo b)/18446744073709551616≤1:=by omega
 have k2:=wrap_u64_nonneg (hi a)
 have k3:=wrap_u64_nonneg (hi b)
 go_enter Tryz.func141,Tryz.ntmps141
 go_wp2_with (first|simp only [add64_0 (lo a) (lo b) a1 b1]|simp only [add64 _ _ _ k2 k3 k0 k1])
 refine bodyPost_ret (v:= .agg #[.int .i64 (hi (a+b)), .int .u64 (lo (a+b))]) (by simp [results,Tryz.results141,go_sem,add_lo,add_hi]) rfl ⟨rfl,?_⟩
 exact(((Below.refl _ _).alloc (Nat.le_refl _) _).alloc (by simp) _).alloc (by simp;omega) _
theorem sub_any{ah al bh bl:Int}(a b:Int)(ha:ah=hi a)(hl:al=lo a)(hb:bh=hi b)(hm:bl=lo b)(w:World):
  Calls Tryz.prog 224 #[.agg #[.int .i64 ah, .int .u64 al], .agg #[.int .i64 bh, .int .u64 bl]] w fun e w'=>
   e= .returned (.agg #[.int .i64 (hi (a- b)), .int .u64 (lo (a- b))])∧Below w.heap.size w w':=by
 subst ha hl hb hm
 obtain⟨a1,a2⟩:=lo_range a;obtain⟨b1,b2⟩:=lo_range b
 obtain⟨k0,k1⟩:=bor_range (lo a) (lo b)
 have k2:=wrap_u64_nonneg (hi a)
 have k3:=wrap_u64_nonneg (hi b)
 have k4:IntKind.u64.wrap (hi b)<18446744073709551616:=by rw [IntKind.wrap_u64];omega
 go_enter Tryz.func224,Tryz.ntmps224
 go_wp2_with (first|simp only [sub64_0 (lo a) (lo b) a1 b1 b2]|simp only [sub64 _ _ _ k2 k3 k4 k0 k1])
 refine bodyPost_ret (v:= .agg #[.int .i64 (hi (a- b)), .int .u64 (lo (a- b))]) (by simp [results,Tryz.results224,go_sem,sub_lo,sub_hi]) rfl ⟨rfl,?_⟩
 exact(((Below.refl _ _).alloc (Nat.le_refl _) _).alloc (by simp) _).alloc (by simp;omega) _
theorem mul64_any(x y:Int)(x0:0≤x)(x1:x<18446744073709551616)(y0:0≤y)(y1:y<18446744073709551616)(w:World):
  Calls Tryz.prog 143 #[.int .u64 x, .int .u64 y] w fun e w'=>e= .returned (.tuple #[.int .u64 (x*y/18446744073709551616), .int .u64 (x*y % 18446744073709551616)])∧w'=w:=by
 go_enter Tryz.func143,Tryz.ntmps143
 go_wp2
 go_ret2
 exact⟨ret_tup2 (mul64_hi x y x0 x1 y0 y1) (IntKind.wrap_u64 _),rfl⟩
theorem cmpI64_any(x y:Int)(w:World):
  Calls Tryz.prog 138 #[.int .i64 x, .int .i64 y] w fun e w'=>e= .returned (.int .i64 (cmpI x y))∧w'=w:=by
 unfold cmpI
 go_enter Tryz.func138,Tryz.ntmps138
 go_wp2
 all_goals (go_ret;exact⟨rfl,rfl⟩)
theorem cmpU64_any(x y:Int)(w:World):
  Calls Tryz.prog 139 #[.int .u64 x, .int .u64 y] w fun e w'=>e= .returned (.int .i64 (cmpI x y))∧w'=w:=by
 unfold cmpI
 go_enter Tryz.func139,Tryz.ntmps139
 go_wp2
 all_goals (go_ret;exact⟨rfl,rfl⟩)
end Go.Proofs.YtjmhfdimoeaplaaGreat.lw
namespace Go.Proofs.YtjmhfdimoeaplaaGreat.lw
open Go.RowKit
set_option linter.unusedVariables false
theorem u_neg(a:Int)(h0:a<0)(h1: -9223372036854775808≤a):IntKind.u64.wrap a=a+18446744073709551616:=by rw [IntKind.wrap_u64];omega
theorem mul_pp(a b:Int):wrap64 (a*b/18446744073709551616)=hi (a*b):=by unfold wrap64 hi;omega
theorem mul_np(a b:Int)(a0:a<0)(a1: -9223372036854775808≤a):wrap64 (IntKind.u64.wrap (IntKind.u64.wrap a*b/18446744073709551616- b))=hi (a*b):=by
 rw [u_neg a a0 a1,Int.add_mul,IntKind.wrap_u64];unfold wrap64 hi;omega
theorem mul_pn(a b:Int)(b0:b<0)(b1: -9223372036854775808≤b):wrap64 (IntKind.u64.wrap (a*IntKind.u64.wrap b/18446744073709551616- a))=hi (a*b):=by
 rw [u_neg b b0 b1,Int.mul_add,IntKind.wrap_u64];unfold wrap64 hi;omega
theorem mul_nn(a b:Int)(a0:a<0)(a1: -9223372036854775808≤a)(b0:b<0)(b1: -9223372036854775808≤b):wrap64 (IntKind.u64.wrap (IntKind.u64.wrap (IntKind.u64.wrap a*IntKind.u64.wrap b/18446744073709551616- IntKind.u64.wrap b)- IntKind.u64.wrap a))=hi (a*b):=by
 rw [u_neg a a0 a1,u_neg b b0 b1,Int.add_mul,Int.mul_add,Int.mul_add,IntKind.wrap_u64,IntKind.wrap_u64];unfold wrap64 hi;omega
theorem lo_pp(a b:Int):a*b % 18446744073709551616=lo (a*b):=rfl
theorem lo_np(a b:Int):IntKind.u64.wrap a*b % 18446744073709551616=lo (a*b):=by rw [IntKind.wrap_u64];unfold lo;rw [Int.mul_emod,Int.emod_emod,←Int.mul_emod]
theorem lo_pn(a b:Int):a*IntKind.u64.wrap b % 18446744073709551616=lo (a*b):=by rw [IntKind.wrap_u64];unfold lo;rw [Int.mul_emod,Int.emod_emod,←Int.mul_emod]
theorem mul_any_pp(a b:Int)(a0: -9223372036854775808≤a)(a1:a≤9223372036854775807)(b0: -9223372036854775808≤b)(b1:b≤9223372036854775807)(ha:0≤a)(hb:0≤b)(w:World):
  Calls Tryz.prog 75 #[.int .i64 a, .int .i64 b] w fun e w'=>e= .returned (.agg #[.int .i64 (hi (a*b)), .int .u64 (lo (a*b))])∧Below w.heap.size w w':=by
 have va:IntKind.u64.wrap a<18446744073709551616:=by rw [IntKind.wrap_u64];omega
 have vb:IntKind.u64.wrap b<18446744073709551616:=by rw [IntKind.wrap_u64];omega
 go_enter Tryz.func75,Tryz.ntmps75
 go_wp2_with (go_at_call 143;refine(mul64_any _ _ ha (by omega) hb (by omega) _).mono ?_;rintro e w' ⟨rfl,rfl⟩)
 exact bodyPost_ret (v:= .agg #[.int .i64 (hi (a*b)), .int .u64 (lo (a*b))]) (by simp [results,Tryz.results75,go_sem,lo_pp,mul_pp]) rfl ⟨rfl,(Below.refl _ _).alloc (Nat.le_refl _) _⟩
theorem mul_any_np(a b:Int)(a0: -9223372036854775808≤a)(a1:a≤9223372036854775807)(b0: -9223372036854775808≤b)(b1:b≤9223372036854775807)(ha:a<0)(hb:0≤b)(w:World):
  Calls Tryz.prog 75 #[.int .i64 a, .int .i64 b] w fun e w'=>e= .returned (.agg #[.int .i64 (hi (a*b)), .int .u64 (lo (a*b))])∧Below w.heap.size w w':=by
 have va:IntKind.u64.wrap a<18446744073709551616:=by rw [IntKind.wrap_u64];omega
 have vb:IntKind.u64.wrap b<18446744073709551616:=by rw [IntKind.wrap_u64];omega
 go_enter Tryz.func75,Tryz.ntmps75
 go_wp2_with (go_at_call 143;refine(mul64_any _ _ (wrap_u64_nonneg a) va hb (by omega) _).mono ?_;rintro e w' ⟨rfl,rfl⟩)
 exact bodyPost_ret (v:= .agg #[.int .i64 (hi (a*b)), .int .u64 (lo (a*b))]) (by simp [results,Tryz.results75,go_sem,lo_np,mul_np a b ha a0]) rfl ⟨rfl,(Below.refl _ _).alloc (Nat.le_refl _) _⟩
theorem mul_any_pn(a b:Int)(a0: -9223372036854775808≤a)(a1:a≤9223372036854775807)(b0: -9223372036854775808≤b)(b1:b≤9223372036854775807)(ha:0≤a)(hb:b<0)(w:World):
  Calls Tryz.prog 75 #[.int .i64 a, .int .i64 b] w fun e w'=>e= .returned (.agg #[.int .i64 (hi (a*b)), .int .u64 (lo (a*b))])∧Below w.heap.size w w':=by
 have va:IntKind.u64.wrap a<18446744073709551616:=by rw [IntKind.wrap_u64];omega
 have vb:IntKind.u64.wrap b<18446744073709551616:=by rw [IntKind.wrap_u64];omega
 go_enter Tryz.func75,Tryz.ntmps75
 go_wp2_with (go_at_call 143;refine(mul64_any _ _ ha (by omega) (wrap_u64_nonneg b) vb _).mono ?_;rintro e w' ⟨rfl,rfl⟩)
 exact bodyPost_ret (v:= .agg #[.int .i64 (hi (a*b)), .int .u64 (lo (a*b))]) (by simp [results,Tryz.results75,go_sem,lo_pn,mul_pn a b hb b0]) rfl ⟨rfl,(Below.refl _ _).alloc (Nat.le_refl _) _⟩
theorem mul_any_nn(a b:Int)(a0: -9223372036854775808≤a)(a1:a≤9223372036854775807)(b0: -9223372036854775808≤b)(b1:b≤9223372036854775807)(ha:a<0)(hb:b<0)(w:World):
  Calls Tryz.prog 75 #[.int .i64 a, .int .i64 b] w fun e w'=>e= .returned (.agg #[.int .i64 (hi (a*b)), .int .u64 (lo (a*b))])∧Below w.heap.size w w':=by
 have va:IntKind.u64.wrap a<18446744073709551616:=by rw [IntKind.wrap_u64];omega
 have vb:IntKind.u64.wrap b<18446744073709551616:=by rw [IntKind.wrap_u64];omega
 go_enter Tryz.func75,Tryz.ntmps75
 go_wp2_with (go_at_call 143;refine(mul64_any _ _ (wrap_u64_nonneg a) va (wrap_u64_nonneg b) vb _).mono ?_;rintro e w' ⟨rfl,rfl⟩)
 exact bodyPost_ret (v:= .agg #[.int .i64 (hi (a*b)), .int .u64 (lo (a*b))]) (by simp [results,Tryz.results75,go_sem,mul_lo,mul_nn a b ha a0 hb b0]) rfl ⟨rfl,(Below.refl _ _).alloc (Nat.le_refl _) _⟩
theorem mul_any(a b:Int)(a0: -9223372036854775808≤a)(a1:a≤9223372036854775807)(b0: -9223372036854775808≤b)(b1:b≤9223372036854775807)(w:World):
  Calls Tryz.prog 75 #[.int .i64 a, .int .i64 b] w fun e w'=>e= .returned (.agg #[.int .i64 (hi (a*b)), .int .u64 (lo (a*b))])∧Below w.heap.size w w':=by
 rcases Int.lt_or_le a 0 with ha|ha<;>rcases Int.lt_or_le b 0 with hb|hb
 ·exact mul_any_nn a b a0 a1 b0 b1 ha hb w
 ·exact mul_any_np a b a0 a1 b0 b1 ha hb w
 ·exact mul_any_pn a b a0 a1 b0 b1 ha hb w
 ·exact mul_any_pp a b a0 a1 b0 b1 ha hb w
theorem cmp_hi(a b:Int)(a0: -170141183460469231731687303715884105728≤a)(a1:a<170141183460469231731687303715884105728)(b0: -170141183460469231731687303715884105728≤b)(b1:b<170141183460469231731687303715884105728)(h:hi a≠hi b):cmpI (hi a) (hi b)=cmpI a b:=by
 have e:hi a=a/18446744073709551616:=by unfold hi;omega
 have e':hi b=b/18446744073709551616:=by unfold hi;omega
 rw [e,e']at h ⊢;unfold cmpI;split<;>split<;>(try split)<;>(try split)<;>omega
theorem cmp_lo(a b:Int)(a0: -170141183460469231731687303715884105728≤a)(a1:a<170141183460469231731687303715884105728)(b0: -170141183460469231731687303715884105728≤b)(b1:b<170141183460469231731687303715884105728)(h:hi a=hi b):cmpI (lo a) (lo b)=cmpI a b:=by
 have e:hi a=a/18446744073709551616:=by unfold hi;omega
 have e':hi b=b/18446744073709551616:=by unfold hi;omega
 rw [e,e']at h;unfold cmpI lo;split<;>split<;>(try split)<;>(try split)<;>omega
theorem cmp_any{ah al bh bl:Int}(a b:Int)(ha:ah=hi a)(hl:al=lo a)(hb:bh=hi b)(hm:bl=lo b)(a0: -170141183460469231731687303715884105728≤a)(a1:a<170141183460469231731687303715884105728)(b0: -170141183460469231731687303715884105728≤b)(b1:b<170141183460469231731687303715884105728)(w:World):
  Calls Tryz.prog 73 #[.agg #[.int .i64 ah, .int .u64 al], .agg #[.int .i64 bh, .int .u64 bl]] w fun e w'=>e= .returned (.int .i64 (cmpI a b))∧Below w.heap.size w w':=by
 subst ha hl hb hm
 by_cases g:hi a=hi b
 ·have E:Hid _:=cmp_lo a b a0 a1 b0 b1 g
  have g':(hi a==hi b)=true:=by simpa using g
  clear g
  go_enter Tryz.func73,Tryz.ntmps73
  go_wp2_with (go_at_call 139;refine(cmpU64_any _ _ _).mono ?_;rintro e w' ⟨rfl,rfl⟩)
  go_ret
  exact⟨ret_int E.out,((Below.refl _ _).alloc (Nat.le_refl _) _).alloc (by simp) _⟩
 ·have E:Hid _:=cmp_hi a b a0 a1 b0 b1 g
  have g':(hi a==hi b)=false:=by simpa using g
  clear g
  go_enter Tryz.func73,Tryz.ntmps73
  go_wp2_with (go_at_call 138;refine(cmpI64_any _ _ _).mono ?_;rintro e w' ⟨rfl,rfl⟩)
  go_ret
  exact⟨ret_int E.out,((Below.refl _ _).alloc (Nat.le_refl _) _).alloc (by simp) _⟩
theorem sign_any{ah al:Int}(a:Int)(ha:ah=hi a)(hl:al=lo a)(a0: -170141183460469231731687303715884105728≤a)(a1:a<170141183460469231731687303715884105728)(w:World):
  Calls Tryz.prog 186 #[.agg #[.int .i64 ah, .int .u64 al]] w fun e w'=>e= .returned (.int .i64 (cmpI a 0))∧Below w.heap.size w w':=by
 subst ha hl
 go_enter Tryz.func186,Tryz.ntmps186
 go_wp2_with (go_at_call 73;refine(cmp_any a 0 rfl rfl hi_0 lo_0 a0 a1 (by decide) (by decide) _).mono ?_;rintro e w' ⟨rfl,hb⟩)
 go_ret
 exact⟨rfl,((Below.refl _ _).alloc (Nat.le_refl _) _).trans (hb.mono (by simp))⟩
end Go.Proofs.YtjmhfdimoeaplaaGreat.lw
namespace Go.Proofs.YtjmhfdimoeaplaaGreat
open Go.RowKit
set_option linter.unusedVariables false
def pcells:List (Int×Int)→List Value
 | []=> []
 |p::l=> .int .i64 p.1:: .int .i64 p.2::pcells l
theorem pcells_at: ∀ (L:List (Int×Int)) (k:Nat) (x y:Int),L[k]? =some (x,y)→(pcells L)[k*2]? =some (.int .i64 x)∧(pcells L)[k*2+1]? =some (.int .i64 y)
 | [],k,x,y,h=>by simp at h
 |p::l,0,x,y,h=>by simp at h;subst h;exact⟨rfl,rfl⟩
 |p::l,k+1,x,y,h=>by
  have h':l[k]? =some (x,y):=by simpa using h
  have:=pcells_at l k x y h'
  have e1:(k+1)*2=k*2+1+1:=by omega
  rw [e1]
  exact⟨this.1,this.2⟩
def canAll(L:List (Int×Int)):Bool:=L.all fun p=>canC p.1 p.2
theorem canAll_drop{L:List (Int×Int)}{k:Nat}{x y:Int}(h:L[k]? =some (x,y)):canAll (L.drop k)=(canC x y && canAll (L.drop (k+1))):=by
 obtain⟨hk,he⟩:=List.getElem?_eq_some_iff.1 h
 rw [List.drop_eq_getElem_cons hk,he]
 rfl
theorem lw_sign(x:Int):lw.cmpI x 0=x.sign:=cmp_sign x
theorem pcan(L:List (Int×Int))(n b:Nat)(w:World)(hn:n=L.length)(hs:n≤1000)(hr:Row w b (pcells L))(hb:b<w.heap.size){r:Bool}(hres:r=canAll L):Calls Tryz.prog 197 #[.slice (some ⟨b,0,none⟩) n n] w fun e w'=>e= .returned (.bool r)∧Below w.heap.size w w':=by
 subst hn
 have HR:Hid _:=hres
 clear hres
 go_enter Tryz.func197,Tryz.ntmps197
 go_wp2
 go_loopw [7] (fun i wr=> ∃ k:Nat,k≤L.length∧i= .int .i64 (k:Int)∧canAll L=canAll (L.drop k)∧Below w.heap.size w wr) (fun i _=>L.length- (intOf i).toNat)
 case atStart=>exact⟨0,by omega,rfl,rfl,Below.refl _ _⟩
 case round=>
  obtain⟨k,hk,rfl,hd,bel⟩:=hrel
  by_cases hlt:k<L.length
  ·obtain⟨x,y,hxy⟩: ∃ x y,L[k]? =some (x,y):=⟨L[k].1,L[k].2,by rw [List.getElem?_eq_getElem hlt]⟩
   obtain⟨c1,c2⟩:=pcells_at L k x y hxy
   have hr':=hr.below bel hb
   have q1:=hr'.cell _ _ c1
   have q2:=hr'.cell _ _ c2
   rw [canAll_drop hxy]at hd
   have HD:Hid _:=hd
   clear hr hr' hxy c1 c2 hd
   obtain⟨V,hV,bV,x_p,sV⟩:=bs_2 wr (.int .i64 x) (.int .i64 y) 24
   cases hc:canC x y
   ·go_wp2_with (go_at_call 129;fail)
    rw [←hV]
    clear hV
    refine(lCan x y V hc.symm).mono ?_
    rintro e w1 ⟨rfl,b1⟩
    go_wp2
    go_ret
    exact⟨by rw [HR.out,HD.out,hc];rfl,also (also bel bV) b1⟩
   ·go_wp2_with (go_at_call 129;fail)
    rw [←hV]
    clear hV
    refine(lCan x y V hc.symm).mono ?_
    rintro e w1 ⟨rfl,b1⟩
    have hw:wrap64 ((k:Int)+1)=(k:Int)+1:=wrap_in (by omega) (by omega)
    go_wp2
    go_roundw
    case rel=>exact⟨k+1,by omega,by simp,by rw [HD.out,hc];rfl,also (also bel bV) b1⟩
    case measure=>simp [intOf];omega
  ·obtain rfl:k=L.length:=by omega
   go_wp2
   go_ret
   exact⟨by rw [HR.out,hd,List.drop_length];rfl,bel⟩
theorem can3{a1 a2 b1 b2 c1 c2:Int}:canAll [(a1,a2),(b1,b2),(c1,c2)]=true↔(canC a1 a2=true∧canC b1 b2=true∧canC c1 c2=true):=by simp [canAll]
theorem can4{a1 a2 b1 b2 c1 c2 d1 d2:Int}:canAll [(a1,a2),(b1,b2),(c1,c2),(d1,d2)]=true↔(canC a1 a2=true∧canC b1 b2=true∧canC c1 c2=true∧canC d1 d2=true):=by simp [canAll]
theorem can_sub{x y:Int}(hx:inC x=true)(hy:inC y=true):wrap64 (x- y)=x- y∧ -9223372036854775808≤x- y∧x- y≤9223372036854775807:=by
 have h:=can_diff hx hy
 exact⟨wrap_in (by omega) (by omega),by omega,by omega⟩
def arP(a1 a2 b1 b2 c1 c2:Int):Int:=if canAll [(a1,a2),(b1,b2),(c1,c2)]then areaP a1 a2 b1 b2 c1 c2 else 0
theorem area_wide{a1 a2 b1 b2 c1 c2:Int}(ha:canC a1 a2=true)(hb:canC b1 b2=true)(hc:canC c1 c2=true): -10000000000000000000000000≤areaP a1 a2 b1 b2 c1 c2∧areaP a1 a2 b1 b2 c1 c2≤10000000000000000000000000:=by
 have h:=area_abs (D:=2199023255552) (can_diff (canC_true.1 hb).1 (canC_true.1 ha).1) (can_diff (canC_true.1 hb).2 (canC_true.1 ha).2) (can_diff (canC_true.1 hc).1 (canC_true.1 ha).1) (can_diff (canC_true.1 hc).2 (canC_true.1 ha).2)
 omega
theorem dist_wide{a1 a2 b1 b2:Int}(ha:canC a1 a2=true)(hb:canC b1 b2=true):0≤distP a1 a2 b1 b2∧distP a1 a2 b1 b2≤10000000000000000000000000:=by
 have h:=dist_abs (D:=2199023255552) (can_diff (canC_true.1 hb).1 (canC_true.1 ha).1) (can_diff (canC_true.1 hb).2 (canC_true.1 ha).2)
 have:=dist_nonneg a1 a2 b1 b2
 omega
theorem ar_wide(a1 a2 b1 b2 c1 c2:Int): -10000000000000000000000000≤arP a1 a2 b1 b2 c1 c2∧arP a1 a2 b1 b2 c1 c2≤10000000000000000000000000:=by
 unfold arP
 cases h:canAll [(a1,a2),(b1,b2),(c1,c2)]
 ·exact⟨by simp,by simp⟩
 ·obtain⟨h1,h2,h3⟩:=can3.1 h
  exact area_wide h1 h2 h3
theorem parea(a1 a2 b1 b2 c1 c2:Int)(w:World)(ha:canC a1 a2=true)(hb:canC b1 b2=true)(hc:canC c1 c2=true){u v:Int}(hu:u=lw.hi (areaP a1 a2 b1 b2 c1 c2))(hv:v=lw.lo (areaP a1 a2 b1 b2 c1 c2)):
  Calls Tryz.prog 198 #[.agg #[.int .i64 a1, .int .i64 a2], .agg #[.int .i64 b1, .int .i64 b2], .agg #[.int .i64 c1, .int .i64 c2]] w fun e w'=>e= .returned (.agg #[.int .i64 u, .int .u64 v])∧Below w.heap.size w w':=by
 obtain⟨x,hx⟩: ∃ x,x=b1- a1:=⟨_,rfl⟩
 have c_x:=can_sub (canC_true.1 hb).1 (canC_true.1 ha).1
 rw [←hx]at c_x
 have w_x:wrap64 (b1- a1)=x:=by rw [←hx];exact c_x.1
 have v_x:IntKind.i64.wrap (b1- a1)=x:=(wrap_i64 _).trans w_x
 have R_x:Hid _:=c_x.2
 have E_x:Hid _:=hx
 clear c_x hx
 obtain⟨y,hy⟩: ∃ y,y=c2- a2:=⟨_,rfl⟩
 have c_y:=can_sub (canC_true.1 hc).2 (canC_true.1 ha).2
 rw [←hy]at c_y
 have w_y:wrap64 (c2- a2)=y:=by rw [←hy];exact c_y.1
 have v_y:IntKind.i64.wrap (c2- a2)=y:=(wrap_i64 _).trans w_y
 have R_y:Hid _:=c_y.2
 have E_y:Hid _:=hy
 clear c_y hy
 obtain⟨z,hz⟩: ∃ z,z=b2- a2:=⟨_,rfl⟩
 have c_z:=can_sub (canC_true.1 hb).2 (canC_true.1 ha).2
 rw [←hz]at c_z
 have w_z:wrap64 (b2- a2)=z:=by rw [←hz];exact c_z.1
 have v_z:IntKind.i64.wrap (b2- a2)=z:=(wrap_i64 _).trans w_z
 have R_z:Hid _:=c_z.2
 have E_z:Hid _:=hz
 clear c_z hz
 obtain⟨t,ht⟩: ∃ t,t=c1- a1:=⟨_,rfl⟩
 have c_t:=can_sub (canC_true.1 hc).1 (canC_true.1 ha).1
 rw [←ht]at c_t
 have w_t:wrap64 (c1- a1)=t:=by rw [←ht];exact c_t.1
 have v_t:IntKind.i64.wrap (c1- a1)=t:=(wrap_i64 _).trans w_t
 have R_t:Hid _:=c_t.2
 have E_t:Hid _:=ht
 clear c_t ht
 have HU:Hid (u=lw.hi (x*y- z*t)):=by unfold Hid;rw [hu,E_x.out,E_y.out,E_z.out,E_t.out];rfl
 have HV:Hid (v=lw.lo (x*y- z*t)):=by unfold Hid;rw [hv,E_x.out,E_y.out,E_z.out,E_t.out];rfl
 clear hu hv ha hb hc
 obtain⟨W,hW,bW,x_a,x_b,x_c,x_r,sW⟩:=bs_2222 w (.int .i64 a1) (.int .i64 a2) (.int .i64 b1) (.int .i64 b2) (.int .i64 c1) (.int .i64 c2) (.int .i64 0) (.int .u64 0) 24 24 24 149
 have zbW:=bW.size
 have BB:=bW
 go_enter Tryz.func198,Tryz.ntmps198
 go_wp2
 rw [←hW]
 clear hW
 have dd1:Below W.heap.size W W.drew:=(Below.refl _ _).drew
 have zdd1:=dd1.size
 replace BB:=also BB dd1
 replace x_a:=x_a.on dd1
 replace x_b:=x_b.on dd1
 replace x_c:=x_c.on dd1
 replace x_r:=x_r.on dd1
 refine wp_region_held_drew (S:=(fun w'=>w'.cell? ⟨w.heap.size,0,none⟩=some (.int .i64 a1)∧w'.cell? ⟨w.heap.size,1,none⟩=some (.int .i64 a2)∧w'.cell? ⟨w.heap.size+1,0,none⟩=some (.int .i64 b1)∧w'.cell? ⟨w.heap.size+1,1,none⟩=some (.int .i64 b2)∧w'.cell? ⟨w.heap.size+1+1,0,none⟩=some (.int .i64 c1)∧w'.cell? ⟨w.heap.size+1+1,1,none⟩=some (.int .i64 c2)∧Below w.heap.size w w')) (by kernel_rfl) ?_ (fun hHeld=>?_)
 ·exact⟨x_a.c0,x_a.c1,x_b.c0,x_b.c1,x_c.c0,x_c.c1,BB⟩
 refine tn 0 ?_;refine tn 1 ?_;refine tn 2 ?_;refine tn 3 ?_;refine tn 4 ?_;refine tn 5 ?_;refine tn 6 ?_;refine tn 7 ?_;refine tn 8 ?_;refine tn 9 ?_;refine tn 11 ?_;refine tn 12 ?_;refine tn 13 ?_;refine tn 14 ?_;refine tn 15 ?_;refine tn 16 ?_;refine tn 17 ?_;refine tn 18 ?_;refine tn 19 ?_;refine tn 20 ?_
 simp only [Act.put,ps1,ps2,ps3]
 refine tcl 10 fun Kc hK=>?_
 go_simp
 (go_at_call 75;refine(lw.mul_any x y R_x.out.1 R_x.out.2 R_y.out.1 R_y.out.2 _).mono ?_;rintro e w1 ⟨rfl,bw1⟩)
 refine hK.out _ _ ?_ (fun hHeld=>?_)
 ·exact⟨cell_on bw1 hHeld.1,cell_on bw1 hHeld.2.1,cell_on bw1 hHeld.2.2.1,cell_on bw1 hHeld.2.2.2.1,cell_on bw1 hHeld.2.2.2.2.1,cell_on bw1 hHeld.2.2.2.2.2.1,also hHeld.2.2.2.2.2.2 bw1⟩
 clear hK Kc
 have zbw1:=bw1.size
 replace BB:=also BB bw1
 replace x_a:=x_a.on bw1
 replace x_b:=x_b.on bw1
 replace x_c:=x_c.on bw1
 replace x_r:=x_r.on bw1
 refine tcl 21 fun Kc hK=>?_
 go_simp
 (go_at_call 75;refine(lw.mul_any z t R_z.out.1 R_z.out.2 R_t.out.1 R_t.out.2 _).mono ?_;rintro e w2 ⟨rfl,bw2⟩)
 refine hK.out _ _ ?_ (fun hHeld=>?_)
 ·exact⟨cell_on bw2 hHeld.1,cell_on bw2 hHeld.2.1,cell_on bw2 hHeld.2.2.1,cell_on bw2 hHeld.2.2.2.1,cell_on bw2 hHeld.2.2.2.2.1,cell_on bw2 hHeld.2.2.2.2.2.1,also hHeld.2.2.2.2.2.2 bw2⟩
 clear hK Kc
 have zbw2:=bw2.size
 replace BB:=also BB bw2
 replace x_a:=x_a.on bw2
 replace x_b:=x_b.on bw2
 replace x_c:=x_c.on bw2
 replace x_r:=x_r.on bw2
 refine tcl 22 fun Kc hK=>?_
 go_simp
 (go_at_call 224;refine(lw.sub_any (x*y) (z*t) rfl rfl rfl rfl _).mono ?_;rintro e w3 ⟨rfl,bw3⟩)
 refine hK.out _ _ ?_ (fun hHeld=>?_)
 ·exact⟨cell_on bw3 hHeld.1,cell_on bw3 hHeld.2.1,cell_on bw3 hHeld.2.2.1,cell_on bw3 hHeld.2.2.2.1,cell_on bw3 hHeld.2.2.2.2.1,cell_on bw3 hHeld.2.2.2.2.2.1,also hHeld.2.2.2.2.2.2 bw3⟩
 clear hK Kc
 have zbw3:=bw3.size
 replace BB:=also BB bw3
 replace x_a:=x_a.on bw3
 replace x_b:=x_b.on bw3
 replace x_c:=x_c.on bw3
 replace x_r:=x_r.on bw3
 have⟨x_r_0,x_r_1,x_r_2,x_r_3⟩:=x_r
 refine tcl 23 fun Kc hK=>?_
 go_simp
 refine hK.out _ _ ?_ (fun hHeld=>?_)
 ·first|exact⟨cell_put2 hHeld.1 (by omega) _ _,cell_put2 hHeld.2.1 (by omega) _ _,cell_put2 hHeld.2.2.1 (by omega) _ _,cell_put2 hHeld.2.2.2.1 (by omega) _ _,cell_put2 hHeld.2.2.2.2.1 (by omega) _ _,cell_put2 hHeld.2.2.2.2.2.1 (by omega) _ _,below_put2 hHeld.2.2.2.2.2.2 (by omega) _ _⟩|exact⟨x_a.c0,x_a.c1,x_b.c0,x_b.c1,x_c.c0,x_c.c1,BB⟩
 clear hK Kc
 refine wpAnyH_done (by kernel_rfl) ?_ _
 go_wp2
 exact bodyPost_ret (v:= .agg #[.int .i64 (lw.hi (x*y- z*t)), .int .u64 (lw.lo (x*y- z*t))]) (by simp [results,Tryz.results198,go_sem, *]) rfl (⟨by rw [HU.out,HV.out],below_put2 BB (by omega) _ _⟩)
theorem pdist(a1 a2 b1 b2:Int)(w:World)(ha:canC a1 a2=true)(hb:canC b1 b2=true){u v:Int}(hu:u=lw.hi (distP a1 a2 b1 b2))(hv:v=lw.lo (distP a1 a2 b1 b2)):
  Calls Tryz.prog 212 #[.agg #[.int .i64 a1, .int .i64 a2], .agg #[.int .i64 b1, .int .i64 b2]] w fun e w'=>e= .returned (.agg #[.int .i64 u, .int .u64 v])∧Below w.heap.size w w':=by
 obtain⟨x,hx⟩: ∃ x,x=b1- a1:=⟨_,rfl⟩
 have c_x:=can_sub (canC_true.1 hb).1 (canC_true.1 ha).1
 rw [←hx]at c_x
 have w_x:wrap64 (b1- a1)=x:=by rw [←hx];exact c_x.1
 have v_x:IntKind.i64.wrap (b1- a1)=x:=(wrap_i64 _).trans w_x
 have R_x:Hid _:=c_x.2
 have E_x:Hid _:=hx
 clear c_x hx
 obtain⟨y,hy⟩: ∃ y,y=b2- a2:=⟨_,rfl⟩
 have c_y:=can_sub (canC_true.1 hb).2 (canC_true.1 ha).2
 rw [←hy]at c_y
 have w_y:wrap64 (b2- a2)=y:=by rw [←hy];exact c_y.1
 have v_y:IntKind.i64.wrap (b2- a2)=y:=(wrap_i64 _).trans w_y
 have R_y:Hid _:=c_y.2
 have E_y:Hid _:=hy
 clear c_y hy
 have HU:Hid (u=lw.hi (x*x+y*y)):=by unfold Hid;rw [hu,E_x.out,E_y.out];rfl
 have HV:Hid (v=lw.lo (x*x+y*y)):=by unfold Hid;rw [hv,E_x.out,E_y.out];rfl
 clear hu hv ha hb
 obtain⟨W,hW,bW,x_a,x_b,x_r,sW⟩:=bs_222 w (.int .i64 a1) (.int .i64 a2) (.int .i64 b1) (.int .i64 b2) (.int .i64 0) (.int .u64 0) 24 24 149
 have zbW:=bW.size
 have BB:=bW
 go_enter Tryz.func212,Tryz.ntmps212
 go_wp2
 rw [←hW]
 clear hW
 have dd1:Below W.heap.size W W.drew:=(Below.refl _ _).drew
 have zdd1:=dd1.size
 replace BB:=also BB dd1
 replace x_a:=x_a.on dd1
 replace x_b:=x_b.on dd1
 replace x_r:=x_r.on dd1
 refine wp_region_held_drew (S:=(fun w'=>w'.cell? ⟨w.heap.size,0,none⟩=some (.int .i64 a1)∧w'.cell? ⟨w.heap.size,1,none⟩=some (.int .i64 a2)∧w'.cell? ⟨w.heap.size+1,0,none⟩=some (.int .i64 b1)∧w'.cell? ⟨w.heap.size+1,1,none⟩=some (.int .i64 b2)∧Below w.heap.size w w')) (by kernel_rfl) ?_ (fun hHeld=>?_)
 ·exact⟨x_a.c0,x_a.c1,x_b.c0,x_b.c1,BB⟩
 refine tn 0 ?_;refine tn 1 ?_;refine tn 2 ?_;refine tn 3 ?_;refine tn 4 ?_;refine tn 5 ?_;refine tn 6 ?_;refine tn 7 ?_;refine tn 8 ?_;refine tn 9 ?_;refine tn 10 ?_;refine tn 11 ?_
 simp only [Act.put,ps1,ps2,ps3]
 refine wpAnyH_done (by kernel_rfl) ?_ _
 go_wp2_with (go_at_call 75;fail)
 refine(lw.mul_any x x R_x.out.1 R_x.out.2 R_x.out.1 R_x.out.2 _).mono ?_
 rintro e w1 ⟨rfl,bw1⟩
 have zbw1:=bw1.size
 replace BB:=also BB bw1
 replace x_a:=x_a.on bw1
 replace x_b:=x_b.on bw1
 replace x_r:=x_r.on bw1
 go_wp2_with (go_at_call 75;fail)
 refine(lw.mul_any y y R_y.out.1 R_y.out.2 R_y.out.1 R_y.out.2 _).mono ?_
 rintro e w2 ⟨rfl,bw2⟩
 have zbw2:=bw2.size
 replace BB:=also BB bw2
 replace x_a:=x_a.on bw2
 replace x_b:=x_b.on bw2
 replace x_r:=x_r.on bw2
 go_wp2_with (go_at_call 141;fail)
 refine(lw.add_any (x*x) (y*y) rfl rfl rfl rfl _).mono ?_
 rintro e w3 ⟨rfl,bw3⟩
 have zbw3:=bw3.size
 replace BB:=also BB bw3
 replace x_a:=x_a.on bw3
 replace x_b:=x_b.on bw3
 replace x_r:=x_r.on bw3
 have⟨x_r_0,x_r_1,x_r_2,x_r_3⟩:=x_r
 go_wp2
 exact bodyPost_ret (v:= .agg #[.int .i64 (lw.hi (x*x+y*y)), .int .u64 (lw.lo (x*x+y*y))]) (by simp [results,Tryz.results212,go_sem, *]) rfl (⟨by rw [HU.out,HV.out],below_put2 BB (by omega) _ _⟩)
end Go.Proofs.YtjmhfdimoeaplaaGreat
namespace Go.Proofs.YtjmhfdimoeaplaaGreat
open Go.RowKit
set_option linter.unusedVariables false
def upd{α:Type}(f:Nat→α)(i:Nat)(x:α):Nat→α:=fun j=>if j=i then x else f j
theorem upd_same{α:Type}(f:Nat→α)(i:Nat)(x:α):upd f i x i=x:=by unfold upd;rw [if_pos rfl]
theorem upd_other{α:Type}(f:Nat→α)(i j:Nat)(x:α)(h:j≠i):upd f i x j=f j:=by unfold upd;rw [if_neg h]
def GoodSp(Sp:Nat→Value→(World→Prop)→(Nat→Prop)→Prop):Prop:= ∀ j x R A,Sp j x R A→(∀ w w',R w→Below w.heap.size w w'→R w')∧ ∀ w k,R w→w.heap.size≤k→A k
def nb(x:Bool):Nat:=match x with|true=>0|false=>1
structure Mk(U:World)(Z:Nat→List Value)(Sp:Nat→Value→(World→Prop)→(Nat→Prop)→Prop)(b e:Nat→Bool)(p:Nat→Nat)(R:Nat→World→Prop)(A:Nat→Nat→Prop)(u v:Nat→Value)(w:World):Prop where
 spec: ∀ j,b j=true→Sp j (u j) (R j) (A j)
 res: ∀ j,b j=true→R j w
 ptr: ∀ i,e i=true→v i= .pointer (some ⟨p i,0,none⟩)
 blk: ∀ i,e i=true→Row w (p i) (Z i)
 old: ∀ i,e i=true→U.heap.size≤p i
 lt: ∀ i,e i=true→p i<w.heap.size
 ne: ∀ i j,e i=true→e j=true→i≠j→p i≠p j
 ap: ∀ i j,e i=true→b j=true→A j (p i)
 bel:Below U.heap.size U w
variable {U : World} {Z : Nat → List Value} {Sp : Nat → Value → (World → Prop) → (Nat → Prop) → Prop} {b e : Nat → Bool} {p : Nat → Nat} {R : Nat → World → Prop} {A : Nat → Nat → Prop} {u v : Nat → Value} {w w' : World}
theorem Mk.start(U:World)(Z:Nat→List Value)(Sp:Nat→Value→(World→Prop)→(Nat→Prop)→Prop){w:World}(h:Below U.heap.size U w):Mk U Z Sp (fun _=>false) (fun _=>false) (fun _=>0) (fun _ _=>True) (fun _ _=>True) (fun _=>undef) (fun _=>undef) w:=
 ⟨fun _ h=>Bool.noConfusion h,fun _ h=>Bool.noConfusion h,fun _ h=>Bool.noConfusion h,fun _ h=>Bool.noConfusion h,fun _ h=>Bool.noConfusion h,fun _ h=>Bool.noConfusion h,fun _ _ h=>Bool.noConfusion h,fun _ _ h=>Bool.noConfusion h,h⟩
theorem Mk.call(h:Mk U Z Sp b e p R A u v w)(hG:GoodSp Sp)(j:Nat)(hb:Below w.heap.size w w')(x:Value)(R':World→Prop)(A':Nat→Prop)(hs:Sp j x R' A')(hR:R' w')(hin: ∀ i,e i=true→A' (p i)):
  Mk U Z Sp (upd b j true) e p (upd R j R') (upd A j A') (upd u j x) v w':=by
 refine⟨fun i hi=>?_,fun i hi=>?_,h.ptr,fun i hi=>(h.blk i hi).below hb (h.lt i hi),h.old,fun i hi=>Nat.lt_of_lt_of_le (h.lt i hi) hb.size,h.ne,fun i k hi hk=>?_,also h.bel hb⟩
 ·by_cases q:i=j
  ·subst q;simp only [upd_same];exact hs
  ·rw [upd_other _ _ _ _ q]at hi;simp only [upd_other _ _ _ _ q];exact h.spec i hi
 ·by_cases q:i=j
  ·subst q;simp only [upd_same];exact hR
  ·rw [upd_other _ _ _ _ q]at hi;simp only [upd_other _ _ _ _ q];exact(hG _ _ _ _ (h.spec i hi)).1 _ _ (h.res i hi) hb
 ·by_cases q:k=j
  ·subst q;simp only [upd_same];exact hin i hi
  ·rw [upd_other _ _ _ _ q]at hk;simp only [upd_other _ _ _ _ q];exact h.ap i k hi hk
theorem Mk.alloc(h:Mk U Z Sp b e p R A u v w)(hG:GoodSp Sp)(i:Nat)(t:TypeId)(hi:e i=false):
  Mk U Z Sp b (upd e i true) (upd p i w.heap.size) R A u (upd v i (.pointer (some ⟨w.heap.size,0,none⟩))) (w.alloc (.cells (Z i).toArray t)):=by
 have hb:Below w.heap.size w (w.alloc (.cells (Z i).toArray t)):=(Below.refl _ _).alloc (Nat.le_refl _) _
 refine⟨h.spec,fun j hj=>(hG _ _ _ _ (h.spec j hj)).1 _ _ (h.res j hj) hb,fun k hk=>?_,fun k hk=>?_,fun k hk=>?_,fun k hk=>?_,fun k m hk hm hne=>?_,fun k j hk hj=>?_,also h.bel hb⟩
 ·by_cases q:k=i
  ·subst q;simp only [upd_same]
  ·rw [upd_other _ _ _ _ q]at hk;simp only [upd_other _ _ _ _ q];exact h.ptr k hk
 ·by_cases q:k=i
  ·subst q;simp only [upd_same];exact Row.new _ _ _
  ·rw [upd_other _ _ _ _ q]at hk;simp only [upd_other _ _ _ _ q];exact(h.blk k hk).below hb (h.lt k hk)
 ·by_cases q:k=i
  ·subst q;simp only [upd_same];exact h.bel.size
  ·rw [upd_other _ _ _ _ q]at hk;simp only [upd_other _ _ _ _ q];exact h.old k hk
 ·by_cases q:k=i
  ·subst q;simp only [upd_same];simp
  ·rw [upd_other _ _ _ _ q]at hk;simp only [upd_other _ _ _ _ q];exact Nat.lt_of_lt_of_le (h.lt k hk) hb.size
 ·by_cases q:k=i
  ·subst q
   rw [upd_other _ _ _ _ (fun x=>hne x.symm)]at hm
   simp only [upd_same,upd_other _ _ _ _ (fun x=>hne x.symm)]
   exact Nat.ne_of_gt (h.lt m hm)
  ·rw [upd_other _ _ _ _ q]at hk
   by_cases q2:m=i
   ·subst q2;simp only [upd_same,upd_other _ _ _ _ q];exact Nat.ne_of_lt (h.lt k hk)
   ·rw [upd_other _ _ _ _ q2]at hm;simp only [upd_other _ _ _ _ q,upd_other _ _ _ _ q2];exact h.ne k m hk hm hne
 ·by_cases q:k=i
  ·subst q;simp only [upd_same];exact(hG _ _ _ _ (h.spec j hj)).2 _ _ (h.res j hj) (Nat.le_refl _)
  ·rw [upd_other _ _ _ _ q]at hk;simp only [upd_other _ _ _ _ q];exact h.ap k j hk hj
variable {P : Program} {md : Region.Mode} {Q : Exit → Act → World → Prop} {S : World → Prop}
theorem ready_at{l:List Oper}{L:Array Bool}{i:Nat}(hi:i∈Region.ready md l.toArray L):i<l.length∧L.getD i true=false∧ ∀ o,l[i]? =some o→ ∀ (k:Nat) x,o.after[k]? =some x→Region.binds md x=true→L.getD x.on false=true:=by
 unfold Region.ready at hi
 rw [List.mem_filter,List.mem_range,Bool.and_eq_true_iff]at hi
 obtain⟨h1,h2,h3⟩:=hi
 refine⟨by simpa using h1,by simpa using h2,fun o ho k x hx hb=>?_⟩
 have ho':l.toArray[i]? =some o:=by simpa using ho
 rw [ho']at h3
 simp only [Option.map_some,Option.getD_some]at h3
 obtain⟨hk,rfl⟩:=Array.getElem?_eq_some_iff.1 hx
 have:=Array.all_eq_true.1 h3 k hk
 rw [hb]at this
 simpa using this
theorem ready_ne{l:List Oper}{L:Array Bool}{i:Nat}(hi:i<l.length)(h:(!L.getD i true && ((l.toArray[i]?).map (·.after.all fun e=> !Region.binds md e||L.getD e.on false)).getD false)=true):Region.ready md l.toArray L≠ []:=by
 intro e
 have:i∈Region.ready md l.toArray L:=by
  unfold Region.ready
  rw [List.mem_filter,List.mem_range]
  exact⟨by simpa using hi,h⟩
 rw [e]at this
 cases this
theorem phase{l:List Oper}(Inv:Nat→Array Bool→Act→World→Prop)
  (hstep: ∀ f L a w,Inv f L a w→wpAnyH P md l.toArray Q S f L a w∨ ∃ g,f=g+1∧Region.ready md l.toArray L≠ []∧ ∀ i∈Region.ready md l.toArray L, ∃ o,l[i]? =some o∧ ∀ K':Act→World→Prop,Shut (∀ a w,S w→Inv g (L.setIfInBounds i true) a w→K' a w)→if Region.wanted o (yielded l.toArray a.tmps)=true then Oper.wp P o a w K' Q else K' (a.put o.dst undef) w):
  ∀ f L a w,Inv f L a w→wpAnyH P md l.toArray Q S f L a w:=by
 intro f
 induction f with
 |zero=>
  intro L a w h
  rcases hstep 0 L a w h with h|⟨g,hg,_⟩
  ·exact h
  ·omega
 |succ f ih=>
  intro L a w h
  rcases hstep (f+1) L a w h with h|⟨g,hg,hne,hall⟩
  ·exact h
  ·obtain rfl:f=g:=by omega
   refine⟨fun e=>absurd e hne,fun i hi=>?_⟩
   obtain⟨o,ho,ho2⟩:=hall i hi
   exact wpOp_step (by simpa using ho) (fun K' hK=>ho2 K' (fun a w hS hI=>hK a w ⟨hS,ih _ a w hI⟩))
end Go.Proofs.YtjmhfdimoeaplaaGreat
namespace Go.Proofs.YtjmhfdimoeaplaaGreat
open Go.RowKit
set_option linter.unusedVariables false
def ValIs(x0:Value)(x:Value)(R:World→Prop)(A:Nat→Prop):Prop:=x=x0∧R=(fun _=>True)∧A=fun _=>True
theorem valIs_good{x0 x:Value}{R:World→Prop}{A:Nat→Prop}(h:ValIs x0 x R A):(∀ w w',R w→Below w.heap.size w w'→R w')∧ ∀ w k,R w→w.heap.size≤k→A k:=by
 obtain⟨rfl,rfl,rfl⟩:=h
 exact⟨fun _ _ _ _=>trivial,fun _ _ _ _=>trivial⟩
theorem few_num{z:Int}(h:z.natAbs≤1000000000000000000000000000000000000000000000000000000000000):hf.nlen z.natAbs≤1000000:=hfew (K:=7) (Nat.lt_of_le_of_lt h (by decide)) (by decide)
theorem fieldS(s:Int)(d:Option Addr)(l c:Nat)(w:World):(Instr.field 94 (.agg #[.int .i64 s, .slice d l c]) 0).run Tryz.prog w= .ok (.int .i64 s) w:=by simp [Instr.field,go_sem,asAgg]
def R64(x:Int):Prop:= -9223372036854775808≤x∧x≤9223372036854775807
theorem in_64{x:Int}(h:inC x=true):R64 x:=by have:=inC_true.1 h;exact⟨by omega,by omega⟩
theorem rpDiff(a b:Int)(w:World)(ha:R64 a)(hb:R64 b){z:Int}(hz:z=b- a):Calls Tryz.prog 183 #[.int .i64 a, .int .i64 b] w (GotR w (fun _=>True) z):=by
 have FA:Hid _:=few_i64 ha
 have FB:Hid _:=few_i64 hb
 have HA:Hid _:=ha
 have HB:Hid _:=hb
 have HZ:Hid _:=hz
 clear ha hb hz
 obtain⟨W,hW,bW,x_r,sW⟩:=bs_2 w (.int .i64 0) (.slice none 0 0) 94
 have zbW:=bW.size
 have BB:=bW
 go_enter Tryz.func183,Tryz.ntmps183
 go_wp2_with (go_at_call 40;fail)
 rw [←hW]
 clear hW
 refine(rwLong b W HB.out.1 HB.out.2).mono ?_
 rintro e w1 ⟨s1,d1,l1,c1,rfl,r1,f1,bw1⟩
 have zbw1:=bw1.size
 replace BB:=also BB bw1
 replace x_r:=x_r.on bw1
 go_wp2_with (go_at_call 40;fail)
 refine(rwLong a w1 HA.out.1 HA.out.2).mono ?_
 rintro e w2 ⟨s2,d2,l2,c2,rfl,r2,f2,bw2⟩
 have zbw2:=bw2.size
 replace BB:=also BB bw2
 replace x_r:=x_r.on bw2
 replace r1:=r1.below bw2
 go_wp2_with (go_at_call 89;fail)
 refine(rwSub s1 s2 d1 d2 l1 c1 l2 c2 b a z w2 r1 r2 FB.out FA.out HZ.out).mono ?_
 rintro e w3 ⟨s3,d3,l3,c3,rfl,r3,f3,bw3⟩
 have zbw3:=bw3.size
 replace BB:=also BB bw3
 replace x_r:=x_r.on bw3
 replace r1:=r1.below bw3
 replace r2:=r2.below bw3
 have⟨x_r_0,x_r_1,x_r_2,x_r_3⟩:=x_r
 go_wp2
 exact bodyPost_ret (v:= .agg #[.int .i64 s3, .slice d3 l3 c3]) (by simp [results,Tryz.results183,go_sem, *]) rfl (endR _ (by omega) BB r3 (f3 _ (by omega) ⟨f1 _ (by omega) trivial,f2 _ (by omega) trivial⟩) (fun j hj _=>f3 j (by omega) ⟨f1 j (by omega) trivial,f2 j (by omega) trivial⟩) _ _)
theorem rpArea(a1 a2 b1 b2 c1 c2:Int)(w:World)(ha:canC a1 a2=true)(hb:canC b1 b2=true)(hc:canC c1 c2=true){z:Int}(hz:z=areaP a1 a2 b1 b2 c1 c2):Calls Tryz.prog 181 #[.agg #[.int .i64 a1, .int .i64 a2], .agg #[.int .i64 b1, .int .i64 b2], .agg #[.int .i64 c1, .int .i64 c2]] w (GotR w (fun _=>True) z):=by
 have Ra1:Hid _:=in_64 (canC_true.1 ha).1
 have Ra2:Hid _:=in_64 (canC_true.1 ha).2
 have Rb1:Hid _:=in_64 (canC_true.1 hb).1
 have Rb2:Hid _:=in_64 (canC_true.1 hb).2
 have Rc1:Hid _:=in_64 (canC_true.1 hc).1
 have Rc2:Hid _:=in_64 (canC_true.1 hc).2
 have qx:=can_diff (canC_true.1 hb).1 (canC_true.1 ha).1
 have qy:=can_diff (canC_true.1 hc).2 (canC_true.1 ha).2
 have qu:=can_diff (canC_true.1 hb).2 (canC_true.1 ha).2
 have qv:=can_diff (canC_true.1 hc).1 (canC_true.1 ha).1
 obtain⟨x,hx⟩: ∃ z:Int,z=b1- a1:=⟨_,rfl⟩
 have Ex:Hid _:=hx
 obtain⟨y,hy⟩: ∃ z:Int,z=c2- a2:=⟨_,rfl⟩
 have Ey:Hid _:=hy
 obtain⟨u,hu⟩: ∃ z:Int,z=b2- a2:=⟨_,rfl⟩
 have Eu:Hid _:=hu
 obtain⟨v,hv⟩: ∃ z:Int,z=c1- a1:=⟨_,rfl⟩
 have Ev:Hid _:=hv
 obtain⟨p,hp⟩: ∃ z:Int,z=x*y:=⟨_,rfl⟩
 have Ep:Hid _:=hp
 obtain⟨q,hq⟩: ∃ z:Int,z=u*v:=⟨_,rfl⟩
 have Eq:Hid _:=hq
 have HZ:Hid (z=p- q):=by unfold Hid;rw [hz,hp,hq,hx,hy,hu,hv];rfl
 rw [←hx]at qx
 have Fx:Hid _:=few_num (z:=x) (by omega)
 rw [←hy]at qy
 have Fy:Hid _:=few_num (z:=y) (by omega)
 rw [←hu]at qu
 have Fu:Hid _:=few_num (z:=u) (by omega)
 rw [←hv]at qv
 have Fv:Hid _:=few_num (z:=v) (by omega)
 have qp:=prod_abs qx qy
 have qq:=prod_abs qu qv
 rw [←hp]at qp
 rw [←hq]at qq
 have Fp:Hid _:=few_num (z:=p) (by omega)
 have Fq:Hid _:=few_num (z:=q) (by omega)
 clear hz hx hy hu hv hp hq qx qy qu qv qp qq ha hb hc
 obtain⟨W,hW,bW,x_a,x_b,x_c,x_r,sW⟩:=bs_2222 w (.int .i64 a1) (.int .i64 a2) (.int .i64 b1) (.int .i64 b2) (.int .i64 c1) (.int .i64 c2) (.int .i64 0) (.slice none 0 0) 24 24 24 94
 have zbW:=bW.size
 have BB:=bW
 go_enter Tryz.func181,Tryz.ntmps181
 go_wp2
 rw [←hW]
 clear hW
 have dd1:Below W.heap.size W W.drew:=(Below.refl _ _).drew
 have zdd1:=dd1.size
 replace BB:=also BB dd1
 replace x_a:=x_a.on dd1
 replace x_b:=x_b.on dd1
 replace x_c:=x_c.on dd1
 replace x_r:=x_r.on dd1
 refine wp_region_held_drew (S:=(fun w'=>w'.cell? ⟨w.heap.size,0,none⟩=some (.int .i64 a1)∧w'.cell? ⟨w.heap.size,1,none⟩=some (.int .i64 a2)∧w'.cell? ⟨w.heap.size+1,0,none⟩=some (.int .i64 b1)∧w'.cell? ⟨w.heap.size+1,1,none⟩=some (.int .i64 b2)∧w'.cell? ⟨w.heap.size+1+1,0,none⟩=some (.int .i64 c1)∧w'.cell? ⟨w.heap.size+1+1,1,none⟩=some (.int .i64 c2)∧Below w.heap.size w w')) (by kernel_rfl) ?_ (fun hHeld=>?_)
 ·exact⟨x_a.c0,x_a.c1,x_b.c0,x_b.c1,x_c.c0,x_c.c1,BB⟩
 refine tn 0 ?_;refine tn 1 ?_;refine tn 2 ?_;refine tn 3 ?_;refine tn 5 ?_;refine tn 6 ?_;refine tn 7 ?_;refine tn 8 ?_;refine tn 11 ?_;refine tn 12 ?_;refine tn 13 ?_;refine tn 14 ?_;refine tn 16 ?_;refine tn 17 ?_;refine tn 18 ?_;refine tn 19 ?_
 simp only [Act.put,ps1,ps2,ps3]
 refine tcl 4 fun Kc hK=>?_
 go_simp
 (go_at_call 183;refine(rpDiff a1 b1 _ Ra1.out Rb1.out Ex.out).mono ?_;rintro e w1 ⟨s11,d11,l11,c11,rfl,r11,f11,bw1⟩)
 refine hK.out _ _ ?_ (fun hHeld=>?_)
 ·exact⟨cell_on bw1 hHeld.1,cell_on bw1 hHeld.2.1,cell_on bw1 hHeld.2.2.1,cell_on bw1 hHeld.2.2.2.1,cell_on bw1 hHeld.2.2.2.2.1,cell_on bw1 hHeld.2.2.2.2.2.1,also hHeld.2.2.2.2.2.2 bw1⟩
 clear hK Kc
 have zbw1:=bw1.size
 replace BB:=also BB bw1
 replace x_a:=x_a.on bw1
 replace x_b:=x_b.on bw1
 replace x_c:=x_c.on bw1
 replace x_r:=x_r.on bw1
 refine tcl 9 fun Kc hK=>?_
 go_simp
 (go_at_call 183;refine(rpDiff a2 c2 _ Ra2.out Rc2.out Ey.out).mono ?_;rintro e w2 ⟨s12,d12,l12,c12,rfl,r12,f12,bw2⟩)
 refine hK.out _ _ ?_ (fun hHeld=>?_)
 ·exact⟨cell_on bw2 hHeld.1,cell_on bw2 hHeld.2.1,cell_on bw2 hHeld.2.2.1,cell_on bw2 hHeld.2.2.2.1,cell_on bw2 hHeld.2.2.2.2.1,cell_on bw2 hHeld.2.2.2.2.2.1,also hHeld.2.2.2.2.2.2 bw2⟩
 clear hK Kc
 have zbw2:=bw2.size
 replace BB:=also BB bw2
 replace x_a:=x_a.on bw2
 replace x_b:=x_b.on bw2
 replace x_c:=x_c.on bw2
 replace x_r:=x_r.on bw2
 replace r11:=r11.below bw2
 refine tcl 10 fun Kc hK=>?_
 go_simp
 (go_at_call 90;refine(rwMul s11 s12 d11 d12 l11 c11 l12 c12 x y p _ r11 r12 Fx.out Fy.out Ep.out).mono ?_;rintro e w3 ⟨s13,d13,l13,c13,rfl,r13,f13,bw3⟩)
 refine hK.out _ _ ?_ (fun hHeld=>?_)
 ·exact⟨cell_on bw3 hHeld.1,cell_on bw3 hHeld.2.1,cell_on bw3 hHeld.2.2.1,cell_on bw3 hHeld.2.2.2.1,cell_on bw3 hHeld.2.2.2.2.1,cell_on bw3 hHeld.2.2.2.2.2.1,also hHeld.2.2.2.2.2.2 bw3⟩
 clear hK Kc
 have zbw3:=bw3.size
 replace BB:=also BB bw3
 replace x_a:=x_a.on bw3
 replace x_b:=x_b.on bw3
 replace x_c:=x_c.on bw3
 replace x_r:=x_r.on bw3
 replace r11:=r11.below bw3
 replace r12:=r12.below bw3
 refine tcl 15 fun Kc hK=>?_
 go_simp
 (go_at_call 183;refine(rpDiff a2 b2 _ Ra2.out Rb2.out Eu.out).mono ?_;rintro e w4 ⟨s14,d14,l14,c14,rfl,r14,f14,bw4⟩)
 refine hK.out _ _ ?_ (fun hHeld=>?_)
 ·exact⟨cell_on bw4 hHeld.1,cell_on bw4 hHeld.2.1,cell_on bw4 hHeld.2.2.1,cell_on bw4 hHeld.2.2.2.1,cell_on bw4 hHeld.2.2.2.2.1,cell_on bw4 hHeld.2.2.2.2.2.1,also hHeld.2.2.2.2.2.2 bw4⟩
 clear hK Kc
 have zbw4:=bw4.size
 replace BB:=also BB bw4
 replace x_a:=x_a.on bw4
 replace x_b:=x_b.on bw4
 replace x_c:=x_c.on bw4
 replace x_r:=x_r.on bw4
 replace r11:=r11.below bw4
 replace r12:=r12.below bw4
 replace r13:=r13.below bw4
 refine tcl 20 fun Kc hK=>?_
 go_simp
 (go_at_call 183;refine(rpDiff a1 c1 _ Ra1.out Rc1.out Ev.out).mono ?_;rintro e w5 ⟨s15,d15,l15,c15,rfl,r15,f15,bw5⟩)
 refine hK.out _ _ ?_ (fun hHeld=>?_)
 ·exact⟨cell_on bw5 hHeld.1,cell_on bw5 hHeld.2.1,cell_on bw5 hHeld.2.2.1,cell_on bw5 hHeld.2.2.2.1,cell_on bw5 hHeld.2.2.2.2.1,cell_on bw5 hHeld.2.2.2.2.2.1,also hHeld.2.2.2.2.2.2 bw5⟩
 clear hK Kc
 have zbw5:=bw5.size
 replace BB:=also BB bw5
 replace x_a:=x_a.on bw5
 replace x_b:=x_b.on bw5
 replace x_c:=x_c.on bw5
 replace x_r:=x_r.on bw5
 replace r11:=r11.below bw5
 replace r12:=r12.below bw5
 replace r13:=r13.below bw5
 replace r14:=r14.below bw5
 refine tcl 21 fun Kc hK=>?_
 go_simp
 (go_at_call 90;refine(rwMul s14 s15 d14 d15 l14 c14 l15 c15 u v q _ r14 r15 Fu.out Fv.out Eq.out).mono ?_;rintro e w6 ⟨s16,d16,l16,c16,rfl,r16,f16,bw6⟩)
 refine hK.out _ _ ?_ (fun hHeld=>?_)
 ·exact⟨cell_on bw6 hHeld.1,cell_on bw6 hHeld.2.1,cell_on bw6 hHeld.2.2.1,cell_on bw6 hHeld.2.2.2.1,cell_on bw6 hHeld.2.2.2.2.1,cell_on bw6 hHeld.2.2.2.2.2.1,also hHeld.2.2.2.2.2.2 bw6⟩
 clear hK Kc
 have zbw6:=bw6.size
 replace BB:=also BB bw6
 replace x_a:=x_a.on bw6
 replace x_b:=x_b.on bw6
 replace x_c:=x_c.on bw6
 replace x_r:=x_r.on bw6
 replace r11:=r11.below bw6
 replace r12:=r12.below bw6
 replace r13:=r13.below bw6
 replace r14:=r14.below bw6
 replace r15:=r15.below bw6
 refine tcl 22 fun Kc hK=>?_
 go_simp
 (go_at_call 89;refine(rwSub s13 s16 d13 d16 l13 c13 l16 c16 p q z _ r13 r16 Fp.out Fq.out HZ.out).mono ?_;rintro e w7 ⟨s17,d17,l17,c17,rfl,r17,f17,bw7⟩)
 refine hK.out _ _ ?_ (fun hHeld=>?_)
 ·exact⟨cell_on bw7 hHeld.1,cell_on bw7 hHeld.2.1,cell_on bw7 hHeld.2.2.1,cell_on bw7 hHeld.2.2.2.1,cell_on bw7 hHeld.2.2.2.2.1,cell_on bw7 hHeld.2.2.2.2.2.1,also hHeld.2.2.2.2.2.2 bw7⟩
 clear hK Kc
 have zbw7:=bw7.size
 replace BB:=also BB bw7
 replace x_a:=x_a.on bw7
 replace x_b:=x_b.on bw7
 replace x_c:=x_c.on bw7
 replace x_r:=x_r.on bw7
 replace r11:=r11.below bw7
 replace r12:=r12.below bw7
 replace r13:=r13.below bw7
 replace r14:=r14.below bw7
 replace r15:=r15.below bw7
 replace r16:=r16.below bw7
 have⟨x_r_0,x_r_1,x_r_2,x_r_3⟩:=x_r
 refine tcl 23 fun Kc hK=>?_
 go_simp
 refine hK.out _ _ ?_ (fun hHeld=>?_)
 ·first|exact⟨cell_put2 hHeld.1 (by omega) _ _,cell_put2 hHeld.2.1 (by omega) _ _,cell_put2 hHeld.2.2.1 (by omega) _ _,cell_put2 hHeld.2.2.2.1 (by omega) _ _,cell_put2 hHeld.2.2.2.2.1 (by omega) _ _,cell_put2 hHeld.2.2.2.2.2.1 (by omega) _ _,below_put2 hHeld.2.2.2.2.2.2 (by omega) _ _⟩|exact⟨x_a.c0,x_a.c1,x_b.c0,x_b.c1,x_c.c0,x_c.c1,BB⟩
 clear hK Kc
 refine wpAnyH_done (by kernel_rfl) ?_ _
 go_wp2
 exact bodyPost_ret (v:= .agg #[.int .i64 s17, .slice d17 l17 c17]) (by simp [results,Tryz.results181,go_sem, *]) rfl (endR _ (by omega) BB r17 (f17 _ (by omega) ⟨f13 _ (by omega) trivial,f16 _ (by omega) trivial⟩) (fun j hj _=>f17 j (by omega) ⟨f13 j (by omega) trivial,f16 j (by omega) trivial⟩) _ _)
def nearP(a1 a2 b1 b2:Int):Bool:=decide (-8192<b1- a1∧b1- a1<8192∧ -8192<b2- a2∧b2- a2<8192)
theorem near_abs{a1 a2 b1 b2:Int}(h:nearP a1 a2 b1 b2=true):(b1- a1).natAbs≤8191∧(b2- a2).natAbs≤8191:=by
 have:=of_decide_eq_true h
 omega
theorem rpSign(n:Int)(w:World){g:Int}(hg:g=n.sign):Calls Tryz.prog 180 #[.int .i64 n] w fun e w'=>e= .returned (.int .i64 g)∧Below w.heap.size w w':=by
 rcases Int.lt_trichotomy n 0 with h|h|h
 ·obtain rfl:g= -1:=by rw [hg,Int.sign_eq_neg_one_of_neg h]
  clear hg
  go_enter Tryz.func180,Tryz.ntmps180
  go_wp2
  go_ret
  exact⟨rfl,Below.refl _ _⟩
 ·subst h
  obtain rfl:g=0:=hg
  go_enter Tryz.func180,Tryz.ntmps180
  go_wp2
  go_ret
  exact⟨rfl,Below.refl _ _⟩
 ·obtain rfl:g=1:=by rw [hg,Int.sign_eq_one_of_pos h]
  clear hg
  have h': ¬n<0:=by omega
  go_enter Tryz.func180,Tryz.ntmps180
  go_wp2
  go_ret
  exact⟨rfl,Below.refl _ _⟩
theorem rpNear(a1 a2 b1 b2:Int)(w:World)(ha:canC a1 a2=true)(hb:canC b1 b2=true){r:Bool}(hr:r=nearP a1 a2 b1 b2):
  Calls Tryz.prog 179 #[.agg #[.int .i64 a1, .int .i64 a2], .agg #[.int .i64 b1, .int .i64 b2]] w fun e w'=>e= .returned (.bool r)∧Below w.heap.size w w':=by
 obtain⟨x,hx⟩: ∃ x,x=b1- a1:=⟨_,rfl⟩
 have c_x:=can_sub (canC_true.1 hb).1 (canC_true.1 ha).1
 rw [←hx]at c_x
 have w_x:wrap64 (b1- a1)=x:=by rw [←hx];exact c_x.1
 have v_x:IntKind.i64.wrap (b1- a1)=x:=(wrap_i64 _).trans w_x
 have R_x:Hid _:=c_x.2
 have E_x:Hid _:=hx
 clear c_x hx
 obtain⟨y,hy⟩: ∃ y,y=b2- a2:=⟨_,rfl⟩
 have c_y:=can_sub (canC_true.1 hb).2 (canC_true.1 ha).2
 rw [←hy]at c_y
 have w_y:wrap64 (b2- a2)=y:=by rw [←hy];exact c_y.1
 have v_y:IntKind.i64.wrap (b2- a2)=y:=(wrap_i64 _).trans w_y
 have R_y:Hid _:=c_y.2
 have E_y:Hid _:=hy
 clear c_y hy
 have HR:Hid (r=decide (-8192<x∧x<8192∧ -8192<y∧y<8192)):=by unfold Hid;rw [hr,E_x.out,E_y.out];rfl
 clear hr ha hb
 rcases Decidable.em (-8192<x)with k0|k0
 rotate_left
 ·skip
  obtain rfl:r=false:=by rw [HR.out];simp;omega
  have k':decide (-8192<x)=false:=decide_eq_false k0
  obtain⟨W,hW,bW,x_a,x_b,sW⟩:=bs_22 w (.int .i64 a1) (.int .i64 a2) (.int .i64 b1) (.int .i64 b2) 24 24
  have zbW:=bW.size
  have BB:=bW
  go_enter Tryz.func179,Tryz.ntmps179
  go_wp2
  rw [←hW]
  clear hW
  have dd1:Below W.heap.size W W.drew:=(Below.refl _ _).drew
  have zdd1:=dd1.size
  replace BB:=also BB dd1
  replace x_a:=x_a.on dd1
  replace x_b:=x_b.on dd1
  refine wp_region_held_drew (S:=(fun w'=>w'.cell? ⟨w.heap.size,0,none⟩=some (.int .i64 a1)∧w'.cell? ⟨w.heap.size,1,none⟩=some (.int .i64 a2)∧w'.cell? ⟨w.heap.size+1,0,none⟩=some (.int .i64 b1)∧w'.cell? ⟨w.heap.size+1,1,none⟩=some (.int .i64 b2)∧Below w.heap.size w w')) (by kernel_rfl) ?_ (fun hHeld=>?_)
  ·exact⟨x_a.c0,x_a.c1,x_b.c0,x_b.c1,BB⟩
  refine tn 0 ?_;refine tn 1 ?_;refine tn 2 ?_;refine tn 3 ?_;refine tn 4 ?_;refine tn 5 ?_;refine tn 6 ?_;refine tn 7 ?_;refine tn 8 ?_;refine tn 9 ?_;refine tn 10 ?_;refine tn 11 ?_
  simp only [Act.put,ps1,ps2,ps3]
  refine wpAnyH_done (by kernel_rfl) ?_ _
  go_wp2
  go_ret
  exact⟨rfl,BB⟩
 rcases Decidable.em (x<8192)with k1|k1
 rotate_left
 ·skip
  obtain rfl:r=false:=by rw [HR.out];simp;omega
  have k':decide (x<8192)=false:=decide_eq_false k1
  obtain⟨W,hW,bW,x_a,x_b,sW⟩:=bs_22 w (.int .i64 a1) (.int .i64 a2) (.int .i64 b1) (.int .i64 b2) 24 24
  have zbW:=bW.size
  have BB:=bW
  go_enter Tryz.func179,Tryz.ntmps179
  go_wp2
  rw [←hW]
  clear hW
  have dd1:Below W.heap.size W W.drew:=(Below.refl _ _).drew
  have zdd1:=dd1.size
  replace BB:=also BB dd1
  replace x_a:=x_a.on dd1
  replace x_b:=x_b.on dd1
  refine wp_region_held_drew (S:=(fun w'=>w'.cell? ⟨w.heap.size,0,none⟩=some (.int .i64 a1)∧w'.cell? ⟨w.heap.size,1,none⟩=some (.int .i64 a2)∧w'.cell? ⟨w.heap.size+1,0,none⟩=some (.int .i64 b1)∧w'.cell? ⟨w.heap.size+1,1,none⟩=some (.int .i64 b2)∧Below w.heap.size w w')) (by kernel_rfl) ?_ (fun hHeld=>?_)
  ·exact⟨x_a.c0,x_a.c1,x_b.c0,x_b.c1,BB⟩
  refine tn 0 ?_;refine tn 1 ?_;refine tn 2 ?_;refine tn 3 ?_;refine tn 4 ?_;refine tn 5 ?_;refine tn 6 ?_;refine tn 7 ?_;refine tn 8 ?_;refine tn 9 ?_;refine tn 10 ?_;refine tn 11 ?_
  simp only [Act.put,ps1,ps2,ps3]
  refine wpAnyH_done (by kernel_rfl) ?_ _
  go_wp2
  go_ret
  exact⟨rfl,BB⟩
 rcases Decidable.em (-8192<y)with k2|k2
 rotate_left
 ·skip
  obtain rfl:r=false:=by rw [HR.out];simp;omega
  have k':decide (-8192<y)=false:=decide_eq_false k2
  obtain⟨W,hW,bW,x_a,x_b,sW⟩:=bs_22 w (.int .i64 a1) (.int .i64 a2) (.int .i64 b1) (.int .i64 b2) 24 24
  have zbW:=bW.size
  have BB:=bW
  go_enter Tryz.func179,Tryz.ntmps179
  go_wp2
  rw [←hW]
  clear hW
  have dd1:Below W.heap.size W W.drew:=(Below.refl _ _).drew
  have zdd1:=dd1.size
  replace BB:=also BB dd1
  replace x_a:=x_a.on dd1
  replace x_b:=x_b.on dd1
  refine wp_region_held_drew (S:=(fun w'=>w'.cell? ⟨w.heap.size,0,none⟩=some (.int .i64 a1)∧w'.cell? ⟨w.heap.size,1,none⟩=some (.int .i64 a2)∧w'.cell? ⟨w.heap.size+1,0,none⟩=some (.int .i64 b1)∧w'.cell? ⟨w.heap.size+1,1,none⟩=some (.int .i64 b2)∧Below w.heap.size w w')) (by kernel_rfl) ?_ (fun hHeld=>?_)
  ·exact⟨x_a.c0,x_a.c1,x_b.c0,x_b.c1,BB⟩
  refine tn 0 ?_;refine tn 1 ?_;refine tn 2 ?_;refine tn 3 ?_;refine tn 4 ?_;refine tn 5 ?_;refine tn 6 ?_;refine tn 7 ?_;refine tn 8 ?_;refine tn 9 ?_;refine tn 10 ?_;refine tn 11 ?_
  simp only [Act.put,ps1,ps2,ps3]
  refine wpAnyH_done (by kernel_rfl) ?_ _
  go_wp2
  go_ret
  exact⟨rfl,BB⟩
 rcases Decidable.em (y<8192)with k3|k3
 rotate_left
 ·skip
  obtain rfl:r=false:=by rw [HR.out];simp;omega
  have k':decide (y<8192)=false:=decide_eq_false k3
  obtain⟨W,hW,bW,x_a,x_b,sW⟩:=bs_22 w (.int .i64 a1) (.int .i64 a2) (.int .i64 b1) (.int .i64 b2) 24 24
  have zbW:=bW.size
  have BB:=bW
  go_enter Tryz.func179,Tryz.ntmps179
  go_wp2
  rw [←hW]
  clear hW
  have dd1:Below W.heap.size W W.drew:=(Below.refl _ _).drew
  have zdd1:=dd1.size
  replace BB:=also BB dd1
  replace x_a:=x_a.on dd1
  replace x_b:=x_b.on dd1
  refine wp_region_held_drew (S:=(fun w'=>w'.cell? ⟨w.heap.size,0,none⟩=some (.int .i64 a1)∧w'.cell? ⟨w.heap.size,1,none⟩=some (.int .i64 a2)∧w'.cell? ⟨w.heap.size+1,0,none⟩=some (.int .i64 b1)∧w'.cell? ⟨w.heap.size+1,1,none⟩=some (.int .i64 b2)∧Below w.heap.size w w')) (by kernel_rfl) ?_ (fun hHeld=>?_)
  ·exact⟨x_a.c0,x_a.c1,x_b.c0,x_b.c1,BB⟩
  refine tn 0 ?_;refine tn 1 ?_;refine tn 2 ?_;refine tn 3 ?_;refine tn 4 ?_;refine tn 5 ?_;refine tn 6 ?_;refine tn 7 ?_;refine tn 8 ?_;refine tn 9 ?_;refine tn 10 ?_;refine tn 11 ?_
  simp only [Act.put,ps1,ps2,ps3]
  refine wpAnyH_done (by kernel_rfl) ?_ _
  go_wp2
  go_ret
  exact⟨rfl,BB⟩
 obtain rfl:r=true:=by rw [HR.out];simp;omega
 obtain⟨W,hW,bW,x_a,x_b,sW⟩:=bs_22 w (.int .i64 a1) (.int .i64 a2) (.int .i64 b1) (.int .i64 b2) 24 24
 have zbW:=bW.size
 have BB:=bW
 go_enter Tryz.func179,Tryz.ntmps179
 go_wp2
 rw [←hW]
 clear hW
 have dd1:Below W.heap.size W W.drew:=(Below.refl _ _).drew
 have zdd1:=dd1.size
 replace BB:=also BB dd1
 replace x_a:=x_a.on dd1
 replace x_b:=x_b.on dd1
 refine wp_region_held_drew (S:=(fun w'=>w'.cell? ⟨w.heap.size,0,none⟩=some (.int .i64 a1)∧w'.cell? ⟨w.heap.size,1,none⟩=some (.int .i64 a2)∧w'.cell? ⟨w.heap.size+1,0,none⟩=some (.int .i64 b1)∧w'.cell? ⟨w.heap.size+1,1,none⟩=some (.int .i64 b2)∧Below w.heap.size w w')) (by kernel_rfl) ?_ (fun hHeld=>?_)
 ·exact⟨x_a.c0,x_a.c1,x_b.c0,x_b.c1,BB⟩
 refine tn 0 ?_;refine tn 1 ?_;refine tn 2 ?_;refine tn 3 ?_;refine tn 4 ?_;refine tn 5 ?_;refine tn 6 ?_;refine tn 7 ?_;refine tn 8 ?_;refine tn 9 ?_;refine tn 10 ?_;refine tn 11 ?_
 simp only [Act.put,ps1,ps2,ps3]
 refine wpAnyH_done (by kernel_rfl) ?_ _
 go_wp2
 go_ret
 exact⟨rfl,BB⟩
theorem rpOrient(a1 a2 b1 b2 c1 c2:Int)(w:World)(ha:canC a1 a2=true)(hb:canC b1 b2=true)(hc:canC c1 c2=true){g:Int}(hg:g=(areaP a1 a2 b1 b2 c1 c2).sign):
  Calls Tryz.prog 120 #[.agg #[.int .i64 a1, .int .i64 a2], .agg #[.int .i64 b1, .int .i64 b2], .agg #[.int .i64 c1, .int .i64 c2]] w fun e w'=>e= .returned (.int .i64 g)∧Below w.heap.size w w':=by
 cases n1:nearP a1 a2 b1 b2
 ·skip
  have HG:Hid _:=hg
  clear hg
  obtain⟨W,hW,bW,x_a,x_b,x_c,sW⟩:=bs_222 w (.int .i64 a1) (.int .i64 a2) (.int .i64 b1) (.int .i64 b2) (.int .i64 c1) (.int .i64 c2) 24 24 24
  have zbW:=bW.size
  have BB:=bW
  go_enter Tryz.func120,Tryz.ntmps120
  go_wp2_with (go_at_call 179;fail)
  rw [←hW]
  clear hW
  refine(rpNear a1 a2 b1 b2 W ha hb n1.symm).mono ?_
  rintro e w1 ⟨rfl,bw1⟩
  have zbw1:=bw1.size
  replace BB:=also BB bw1
  replace x_a:=x_a.on bw1
  replace x_b:=x_b.on bw1
  replace x_c:=x_c.on bw1
  have⟨x_a_0,x_a_1,x_a_2,x_a_3⟩:=x_a
  have⟨x_b_0,x_b_1,x_b_2,x_b_3⟩:=x_b
  have⟨x_c_0,x_c_1,x_c_2,x_c_3⟩:=x_c
  go_wp2_with (go_at_call 181;fail)
  refine(rpArea a1 a2 b1 b2 c1 c2 w1 ha hb hc rfl).mono ?_
  rintro e w3 ⟨s11,d11,l11,c11,rfl,r11,f11,bw3⟩
  clear x_a_0 x_a_1 x_a_2 x_a_3 x_b_0 x_b_1 x_b_2 x_b_3 x_c_0 x_c_1 x_c_2 x_c_3
  have zbw3:=bw3.size
  replace BB:=also BB bw3
  replace x_a:=x_a.on bw3
  replace x_b:=x_b.on bw3
  replace x_c:=x_c.on bw3
  have hfS:=fieldS s11 d11 l11 c11 w3
  go_wp2
  go_ret
  exact⟨by rw [HG.out,←r11.sg];rfl,BB⟩
 ·skip
  cases n2:nearP a1 a2 c1 c2
  ·skip
   have HG:Hid _:=hg
   clear hg
   obtain⟨W,hW,bW,x_a,x_b,x_c,sW⟩:=bs_222 w (.int .i64 a1) (.int .i64 a2) (.int .i64 b1) (.int .i64 b2) (.int .i64 c1) (.int .i64 c2) 24 24 24
   have zbW:=bW.size
   have BB:=bW
   go_enter Tryz.func120,Tryz.ntmps120
   go_wp2_with (go_at_call 179;fail)
   rw [←hW]
   clear hW
   refine(rpNear a1 a2 b1 b2 W ha hb n1.symm).mono ?_
   rintro e w1 ⟨rfl,bw1⟩
   have zbw1:=bw1.size
   replace BB:=also BB bw1
   replace x_a:=x_a.on bw1
   replace x_b:=x_b.on bw1
   replace x_c:=x_c.on bw1
   have⟨x_a_0,x_a_1,x_a_2,x_a_3⟩:=x_a
   have⟨x_b_0,x_b_1,x_b_2,x_b_3⟩:=x_b
   have⟨x_c_0,x_c_1,x_c_2,x_c_3⟩:=x_c
   go_wp2_with (go_at_call 179;fail)
   refine(rpNear a1 a2 c1 c2 w1 ha hc n2.symm).mono ?_
   rintro e w2 ⟨rfl,bw2⟩
   clear x_a_0 x_a_1 x_a_2 x_a_3 x_b_0 x_b_1 x_b_2 x_b_3 x_c_0 x_c_1 x_c_2 x_c_3
   have zbw2:=bw2.size
   replace BB:=also BB bw2
   replace x_a:=x_a.on bw2
   replace x_b:=x_b.on bw2
   replace x_c:=x_c.on bw2
   have⟨x_a_0,x_a_1,x_a_2,x_a_3⟩:=x_a
   have⟨x_b_0,x_b_1,x_b_2,x_b_3⟩:=x_b
   have⟨x_c_0,x_c_1,x_c_2,x_c_3⟩:=x_c
   go_wp2_with (go_at_call 181;fail)
   refine(rpArea a1 a2 b1 b2 c1 c2 w2 ha hb hc rfl).mono ?_
   rintro e w3 ⟨s11,d11,l11,c11,rfl,r11,f11,bw3⟩
   clear x_a_0 x_a_1 x_a_2 x_a_3 x_b_0 x_b_1 x_b_2 x_b_3 x_c_0 x_c_1 x_c_2 x_c_3
   have zbw3:=bw3.size
   replace BB:=also BB bw3
   replace x_a:=x_a.on bw3
   replace x_b:=x_b.on bw3
   replace x_c:=x_c.on bw3
   have hfS:=fieldS s11 d11 l11 c11 w3
   go_wp2
   go_ret
   exact⟨by rw [HG.out,←r11.sg];rfl,BB⟩
  ·skip
   obtain⟨qx,qu⟩:=near_abs n1
   obtain⟨qv,qy⟩:=near_abs n2
   obtain⟨x,hx⟩: ∃ z:Int,z=b1- a1:=⟨_,rfl⟩
   rw [←hx]at qx
   have wx:wrap64 (b1- a1)=x:=by rw [←hx];exact wrap_in (by omega) (by omega)
   obtain⟨y,hy⟩: ∃ z:Int,z=c2- a2:=⟨_,rfl⟩
   rw [←hy]at qy
   have wy:wrap64 (c2- a2)=y:=by rw [←hy];exact wrap_in (by omega) (by omega)
   obtain⟨u,hu⟩: ∃ z:Int,z=b2- a2:=⟨_,rfl⟩
   rw [←hu]at qu
   have wu:wrap64 (b2- a2)=u:=by rw [←hu];exact wrap_in (by omega) (by omega)
   obtain⟨v,hv⟩: ∃ z:Int,z=c1- a1:=⟨_,rfl⟩
   rw [←hv]at qv
   have wv:wrap64 (c1- a1)=v:=by rw [←hv];exact wrap_in (by omega) (by omega)
   obtain⟨p,hp⟩: ∃ z:Int,z=x*y:=⟨_,rfl⟩
   have qp:p.natAbs≤67092481:=by rw [hp];exact prod_abs qx qy
   have wp:wrap64 (x*y)=p:=by rw [←hp];exact wrap_in (by omega) (by omega)
   obtain⟨q,hq⟩: ∃ z:Int,z=u*v:=⟨_,rfl⟩
   have qq:q.natAbs≤67092481:=by rw [hq];exact prod_abs qu qv
   have wq:wrap64 (u*v)=q:=by rw [←hq];exact wrap_in (by omega) (by omega)
   obtain⟨z,hz⟩: ∃ z:Int,z=p- q:=⟨_,rfl⟩
   have qz:z.natAbs≤134184962:=by rw [hz];omega
   have wz:wrap64 (p- q)=z:=by rw [←hz];exact wrap_in (by omega) (by omega)
   have HG:Hid (g=z.sign):=by unfold Hid;rw [hg,hz,hp,hq,hx,hy,hu,hv];rfl
   clear hg hz hp hq hx hy hu hv qx qy qu qv qp qq qz
   obtain⟨W,hW,bW,x_a,x_b,x_c,sW⟩:=bs_222 w (.int .i64 a1) (.int .i64 a2) (.int .i64 b1) (.int .i64 b2) (.int .i64 c1) (.int .i64 c2) 24 24 24
   have zbW:=bW.size
   have BB:=bW
   go_enter Tryz.func120,Tryz.ntmps120
   go_wp2_with (go_at_call 179;fail)
   rw [←hW]
   clear hW
   refine(rpNear a1 a2 b1 b2 W ha hb n1.symm).mono ?_
   rintro e w1 ⟨rfl,bw1⟩
   have zbw1:=bw1.size
   replace BB:=also BB bw1
   replace x_a:=x_a.on bw1
   replace x_b:=x_b.on bw1
   replace x_c:=x_c.on bw1
   have⟨x_a_0,x_a_1,x_a_2,x_a_3⟩:=x_a
   have⟨x_b_0,x_b_1,x_b_2,x_b_3⟩:=x_b
   have⟨x_c_0,x_c_1,x_c_2,x_c_3⟩:=x_c
   go_wp2_with (go_at_call 179;fail)
   refine(rpNear a1 a2 c1 c2 w1 ha hc n2.symm).mono ?_
   rintro e w2 ⟨rfl,bw2⟩
   clear x_a_0 x_a_1 x_a_2 x_a_3 x_b_0 x_b_1 x_b_2 x_b_3 x_c_0 x_c_1 x_c_2 x_c_3
   have zbw2:=bw2.size
   replace BB:=also BB bw2
   replace x_a:=x_a.on bw2
   replace x_b:=x_b.on bw2
   replace x_c:=x_c.on bw2
   have⟨x_a_0,x_a_1,x_a_2,x_a_3⟩:=x_a
   have⟨x_b_0,x_b_1,x_b_2,x_b_3⟩:=x_b
   have⟨x_c_0,x_c_1,x_c_2,x_c_3⟩:=x_c
   go_wp2_with (go_at_call 180;fail)
   refine(rpSign z w2 HG.out).mono ?_
   rintro e w3 ⟨rfl,bw3⟩
   clear x_a_0 x_a_1 x_a_2 x_a_3 x_b_0 x_b_1 x_b_2 x_b_3 x_c_0 x_c_1 x_c_2 x_c_3
   have zbw3:=bw3.size
   replace BB:=also BB bw3
   replace x_a:=x_a.on bw3
   replace x_b:=x_b.on bw3
   replace x_c:=x_c.on bw3
   go_wp2
   go_ret
   exact⟨rfl,BB⟩
end Go.Proofs.YtjmhfdimoeaplaaGreat
