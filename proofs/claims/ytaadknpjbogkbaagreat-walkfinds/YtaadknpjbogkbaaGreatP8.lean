/-
  Joined texts, part 8:
  What zelligeref11's Twin answers, corner 2, the same way.
  What zelligeref11's Twin answers, corner 0, the other way round.
  What zelligeref11's Twin answers, corner 1, the other way round.
  What zelligeref11's Twin answers, corner 2, the other way round.
  What zelligeref11's Twin answers, of any corners.
  What zelligeref11's Across answers, in numbers.
  What zelligeref11's Across answers of an edge that begins at corner 0.
-/
import Derived.Test.YtaadknpjbogkbaaGreatP7
namespace Go.Proofs.YtaadknpjbogkbaaGreat
open Go.RowKit
set_option linter.unusedVariables false
set_option maxRecDepth 100000 in
set_option maxHeartbeats 1000000 in
theorem twin_20s(a b:Tr)(w:World)(ha:offB a)(hb:offB b){r:Bool}(hr:r=same a 2 b 0):
  Calls Tryz.prog 63 #[trV a, .int .i64 2,trV b, .int .i64 0, .bool false] w fun e w'=>e= .returned (.bool r)∧Below w.heap.size w w':=by
 have hB: ∀ o o' n,Below w.heap.size w (((w.alloc o).alloc o').drewN n):=fun o o' n=>(((Below.refl _ _).alloc (Nat.le_refl _) _).alloc (by simp) _).trans ⟨rfl,rfl,rfl,Nat.le_refl _,fun _ _=>rfl⟩
 have ha:=ha.all
 have hb:=hb.all
 obtain⟨a0,a1,a2,x0,y0,x1,y1,x2,y2⟩:=a
 obtain⟨b0,b1,b2,s0,t0,s1,t1,s2,t2⟩:=b
 simp only []at ha hb
 have hr':r=(decide (a2=b0) && (decide (a0=b1) && (decide (x0- x2=s1- s0) && decide (y0- y2=t1- t0)))):=by
  rw [hr];simp [same,nx,Tr.v,Tr.x,Tr.y]
 clear hr
 obtain⟨dx,gdx⟩: ∃ dx,dx=x0- x2:=⟨_,rfl⟩
 have vdx:IntKind.i64.wrap (x0- x2)=dx:=by rw [wrap_i64,gdx];unfold wrap64;omega
 have udx:wrap64 (x0- x2)=dx:=by rw [gdx];unfold wrap64;omega
 obtain⟨ex,gex⟩: ∃ ex,ex=s1- s0:=⟨_,rfl⟩
 have vex:IntKind.i64.wrap (s1- s0)=ex:=by rw [wrap_i64,gex];unfold wrap64;omega
 have uex:wrap64 (s1- s0)=ex:=by rw [gex];unfold wrap64;omega
 obtain⟨dy,gdy⟩: ∃ dy,dy=y0- y2:=⟨_,rfl⟩
 have vdy:IntKind.i64.wrap (y0- y2)=dy:=by rw [wrap_i64,gdy];unfold wrap64;omega
 have udy:wrap64 (y0- y2)=dy:=by rw [gdy];unfold wrap64;omega
 obtain⟨ey,gey⟩: ∃ ey,ey=t1- t0:=⟨_,rfl⟩
 have vey:IntKind.i64.wrap (t1- t0)=ey:=by rw [wrap_i64,gey];unfold wrap64;omega
 have uey:wrap64 (t1- t0)=ey:=by rw [gey];unfold wrap64;omega
 rw [←gdx,←gex,←gdy,←gey]at hr'
 have HR:Hid _:=hr'
 clear hr'
 clear gdx gex gdy gey ha hb
 by_cases h0:a2=b0
 ·have e0:(a2==b0)=true:=by simpa using h0
  by_cases h1:a0=b1
  ·have e1:(a0==b1)=true:=by simpa using h1
   by_cases h2:dx=ex
   ·have e2:(dx==ex)=true:=by simpa using h2
    have e3:(dy==ey)=r:=by rw [HR.out,decide_eq_true h0,decide_eq_true h1,decide_eq_true h2];rfl
    clear h0 h1 h2 HR
    go_enter Tryz.func63,Tryz.ntmps63
    go_wp2
    dsimp only [List.append]
    go_quiet (fail)
    go_wp2
    go_ret
    exact⟨by rw [←e3];rfl,hB _ _ _⟩
   ·have e2:(dx==ex)=false:=by simpa using h2
    obtain rfl:r=false:=by rw [HR.out,decide_eq_false h2];simp
    clear h0 h1 h2 HR
    go_enter Tryz.func63,Tryz.ntmps63
    go_wp2
    dsimp only [List.append]
    go_quiet (fail)
    go_wp2
    go_ret
    exact⟨rfl,hB _ _ _⟩
  ·have e1:(a0==b1)=false:=by simpa using h1
   obtain rfl:r=false:=by rw [HR.out,decide_eq_false h1];simp
   clear h0 h1 HR
   go_enter Tryz.func63,Tryz.ntmps63
   go_wp2
   dsimp only [List.append]
   go_quiet (fail)
   go_wp2
   go_ret
   exact⟨rfl,hB _ _ _⟩
 ·have e0:(a2==b0)=false:=by simpa using h0
  obtain rfl:r=false:=by rw [HR.out,decide_eq_false h0];simp
  clear h0 HR
  go_enter Tryz.func63,Tryz.ntmps63
  go_wp2
  dsimp only [List.append]
  go_quiet (fail)
  go_wp2
  go_ret
  exact⟨rfl,hB _ _ _⟩
set_option maxRecDepth 100000 in
set_option maxHeartbeats 1000000 in
theorem twin_21s(a b:Tr)(w:World)(ha:offB a)(hb:offB b){r:Bool}(hr:r=same a 2 b 1):
  Calls Tryz.prog 63 #[trV a, .int .i64 2,trV b, .int .i64 1, .bool false] w fun e w'=>e= .returned (.bool r)∧Below w.heap.size w w':=by
 have hB: ∀ o o' n,Below w.heap.size w (((w.alloc o).alloc o').drewN n):=fun o o' n=>(((Below.refl _ _).alloc (Nat.le_refl _) _).alloc (by simp) _).trans ⟨rfl,rfl,rfl,Nat.le_refl _,fun _ _=>rfl⟩
 have ha:=ha.all
 have hb:=hb.all
 obtain⟨a0,a1,a2,x0,y0,x1,y1,x2,y2⟩:=a
 obtain⟨b0,b1,b2,s0,t0,s1,t1,s2,t2⟩:=b
 simp only []at ha hb
 have hr':r=(decide (a2=b1) && (decide (a0=b2) && (decide (x0- x2=s2- s1) && decide (y0- y2=t2- t1)))):=by
  rw [hr];simp [same,nx,Tr.v,Tr.x,Tr.y]
 clear hr
 obtain⟨dx,gdx⟩: ∃ dx,dx=x0- x2:=⟨_,rfl⟩
 have vdx:IntKind.i64.wrap (x0- x2)=dx:=by rw [wrap_i64,gdx];unfold wrap64;omega
 have udx:wrap64 (x0- x2)=dx:=by rw [gdx];unfold wrap64;omega
 obtain⟨ex,gex⟩: ∃ ex,ex=s2- s1:=⟨_,rfl⟩
 have vex:IntKind.i64.wrap (s2- s1)=ex:=by rw [wrap_i64,gex];unfold wrap64;omega
 have uex:wrap64 (s2- s1)=ex:=by rw [gex];unfold wrap64;omega
 obtain⟨dy,gdy⟩: ∃ dy,dy=y0- y2:=⟨_,rfl⟩
 have vdy:IntKind.i64.wrap (y0- y2)=dy:=by rw [wrap_i64,gdy];unfold wrap64;omega
 have udy:wrap64 (y0- y2)=dy:=by rw [gdy];unfold wrap64;omega
 obtain⟨ey,gey⟩: ∃ ey,ey=t2- t1:=⟨_,rfl⟩
 have vey:IntKind.i64.wrap (t2- t1)=ey:=by rw [wrap_i64,gey];unfold wrap64;omega
 have uey:wrap64 (t2- t1)=ey:=by rw [gey];unfold wrap64;omega
 rw [←gdx,←gex,←gdy,←gey]at hr'
 have HR:Hid _:=hr'
 clear hr'
 clear gdx gex gdy gey ha hb
 by_cases h0:a2=b1
 ·have e0:(a2==b1)=true:=by simpa using h0
  by_cases h1:a0=b2
  ·have e1:(a0==b2)=true:=by simpa using h1
   by_cases h2:dx=ex
   ·have e2:(dx==ex)=true:=by simpa using h2
    have e3:(dy==ey)=r:=by rw [HR.out,decide_eq_true h0,decide_eq_true h1,decide_eq_true h2];rfl
    clear h0 h1 h2 HR
    go_enter Tryz.func63,Tryz.ntmps63
    go_wp2
    dsimp only [List.append]
    go_quiet (fail)
    go_wp2
    go_ret
    exact⟨by rw [←e3];rfl,hB _ _ _⟩
   ·have e2:(dx==ex)=false:=by simpa using h2
    obtain rfl:r=false:=by rw [HR.out,decide_eq_false h2];simp
    clear h0 h1 h2 HR
    go_enter Tryz.func63,Tryz.ntmps63
    go_wp2
    dsimp only [List.append]
    go_quiet (fail)
    go_wp2
    go_ret
    exact⟨rfl,hB _ _ _⟩
  ·have e1:(a0==b2)=false:=by simpa using h1
   obtain rfl:r=false:=by rw [HR.out,decide_eq_false h1];simp
   clear h0 h1 HR
   go_enter Tryz.func63,Tryz.ntmps63
   go_wp2
   dsimp only [List.append]
   go_quiet (fail)
   go_wp2
   go_ret
   exact⟨rfl,hB _ _ _⟩
 ·have e0:(a2==b1)=false:=by simpa using h0
  obtain rfl:r=false:=by rw [HR.out,decide_eq_false h0];simp
  clear h0 HR
  go_enter Tryz.func63,Tryz.ntmps63
  go_wp2
  dsimp only [List.append]
  go_quiet (fail)
  go_wp2
  go_ret
  exact⟨rfl,hB _ _ _⟩
set_option maxRecDepth 100000 in
set_option maxHeartbeats 1000000 in
theorem twin_22s(a b:Tr)(w:World)(ha:offB a)(hb:offB b){r:Bool}(hr:r=same a 2 b 2):
  Calls Tryz.prog 63 #[trV a, .int .i64 2,trV b, .int .i64 2, .bool false] w fun e w'=>e= .returned (.bool r)∧Below w.heap.size w w':=by
 have hB: ∀ o o' n,Below w.heap.size w (((w.alloc o).alloc o').drewN n):=fun o o' n=>(((Below.refl _ _).alloc (Nat.le_refl _) _).alloc (by simp) _).trans ⟨rfl,rfl,rfl,Nat.le_refl _,fun _ _=>rfl⟩
 have ha:=ha.all
 have hb:=hb.all
 obtain⟨a0,a1,a2,x0,y0,x1,y1,x2,y2⟩:=a
 obtain⟨b0,b1,b2,s0,t0,s1,t1,s2,t2⟩:=b
 simp only []at ha hb
 have hr':r=(decide (a2=b2) && (decide (a0=b0) && (decide (x0- x2=s0- s2) && decide (y0- y2=t0- t2)))):=by
  rw [hr];simp [same,nx,Tr.v,Tr.x,Tr.y]
 clear hr
 obtain⟨dx,gdx⟩: ∃ dx,dx=x0- x2:=⟨_,rfl⟩
 have vdx:IntKind.i64.wrap (x0- x2)=dx:=by rw [wrap_i64,gdx];unfold wrap64;omega
 have udx:wrap64 (x0- x2)=dx:=by rw [gdx];unfold wrap64;omega
 obtain⟨ex,gex⟩: ∃ ex,ex=s0- s2:=⟨_,rfl⟩
 have vex:IntKind.i64.wrap (s0- s2)=ex:=by rw [wrap_i64,gex];unfold wrap64;omega
 have uex:wrap64 (s0- s2)=ex:=by rw [gex];unfold wrap64;omega
 obtain⟨dy,gdy⟩: ∃ dy,dy=y0- y2:=⟨_,rfl⟩
 have vdy:IntKind.i64.wrap (y0- y2)=dy:=by rw [wrap_i64,gdy];unfold wrap64;omega
 have udy:wrap64 (y0- y2)=dy:=by rw [gdy];unfold wrap64;omega
 obtain⟨ey,gey⟩: ∃ ey,ey=t0- t2:=⟨_,rfl⟩
 have vey:IntKind.i64.wrap (t0- t2)=ey:=by rw [wrap_i64,gey];unfold wrap64;omega
 have uey:wrap64 (t0- t2)=ey:=by rw [gey];unfold wrap64;omega
 rw [←gdx,←gex,←gdy,←gey]at hr'
 have HR:Hid _:=hr'
 clear hr'
 clear gdx gex gdy gey ha hb
 by_cases h0:a2=b2
 ·have e0:(a2==b2)=true:=by simpa using h0
  by_cases h1:a0=b0
  ·have e1:(a0==b0)=true:=by simpa using h1
   by_cases h2:dx=ex
   ·have e2:(dx==ex)=true:=by simpa using h2
    have e3:(dy==ey)=r:=by rw [HR.out,decide_eq_true h0,decide_eq_true h1,decide_eq_true h2];rfl
    clear h0 h1 h2 HR
    go_enter Tryz.func63,Tryz.ntmps63
    go_wp2
    dsimp only [List.append]
    go_quiet (fail)
    go_wp2
    go_ret
    exact⟨by rw [←e3];rfl,hB _ _ _⟩
   ·have e2:(dx==ex)=false:=by simpa using h2
    obtain rfl:r=false:=by rw [HR.out,decide_eq_false h2];simp
    clear h0 h1 h2 HR
    go_enter Tryz.func63,Tryz.ntmps63
    go_wp2
    dsimp only [List.append]
    go_quiet (fail)
    go_wp2
    go_ret
    exact⟨rfl,hB _ _ _⟩
  ·have e1:(a0==b0)=false:=by simpa using h1
   obtain rfl:r=false:=by rw [HR.out,decide_eq_false h1];simp
   clear h0 h1 HR
   go_enter Tryz.func63,Tryz.ntmps63
   go_wp2
   dsimp only [List.append]
   go_quiet (fail)
   go_wp2
   go_ret
   exact⟨rfl,hB _ _ _⟩
 ·have e0:(a2==b2)=false:=by simpa using h0
  obtain rfl:r=false:=by rw [HR.out,decide_eq_false h0];simp
  clear h0 HR
  go_enter Tryz.func63,Tryz.ntmps63
  go_wp2
  dsimp only [List.append]
  go_quiet (fail)
  go_wp2
  go_ret
  exact⟨rfl,hB _ _ _⟩
set_option maxRecDepth 100000 in
set_option maxHeartbeats 1000000 in
theorem twin_00r(a b:Tr)(w:World)(ha:offB a)(hb:offB b){r:Bool}(hr:r=opp a 0 b 0):
  Calls Tryz.prog 63 #[trV a, .int .i64 0,trV b, .int .i64 0, .bool true] w fun e w'=>e= .returned (.bool r)∧Below w.heap.size w w':=by
 have hB: ∀ o o' n,Below w.heap.size w (((w.alloc o).alloc o').drewN n):=fun o o' n=>(((Below.refl _ _).alloc (Nat.le_refl _) _).alloc (by simp) _).trans ⟨rfl,rfl,rfl,Nat.le_refl _,fun _ _=>rfl⟩
 have ha:=ha.all
 have hb:=hb.all
 obtain⟨a0,a1,a2,x0,y0,x1,y1,x2,y2⟩:=a
 obtain⟨b0,b1,b2,s0,t0,s1,t1,s2,t2⟩:=b
 simp only []at ha hb
 have hr':r=(decide (a0=b1) && (decide (a1=b0) && (decide (x1- x0=s0- s1) && decide (y1- y0=t0- t1)))):=by
  rw [hr];simp [opp,nx,Tr.v,Tr.x,Tr.y]
 clear hr
 obtain⟨dx,gdx⟩: ∃ dx,dx=x1- x0:=⟨_,rfl⟩
 have vdx:IntKind.i64.wrap (x1- x0)=dx:=by rw [wrap_i64,gdx];unfold wrap64;omega
 have udx:wrap64 (x1- x0)=dx:=by rw [gdx];unfold wrap64;omega
 obtain⟨ex,gex⟩: ∃ ex,ex=s0- s1:=⟨_,rfl⟩
 have vex:IntKind.i64.wrap (s0- s1)=ex:=by rw [wrap_i64,gex];unfold wrap64;omega
 have uex:wrap64 (s0- s1)=ex:=by rw [gex];unfold wrap64;omega
 obtain⟨dy,gdy⟩: ∃ dy,dy=y1- y0:=⟨_,rfl⟩
 have vdy:IntKind.i64.wrap (y1- y0)=dy:=by rw [wrap_i64,gdy];unfold wrap64;omega
 have udy:wrap64 (y1- y0)=dy:=by rw [gdy];unfold wrap64;omega
 obtain⟨ey,gey⟩: ∃ ey,ey=t0- t1:=⟨_,rfl⟩
 have vey:IntKind.i64.wrap (t0- t1)=ey:=by rw [wrap_i64,gey];unfold wrap64;omega
 have uey:wrap64 (t0- t1)=ey:=by rw [gey];unfold wrap64;omega
 rw [←gdx,←gex,←gdy,←gey]at hr'
 have HR:Hid _:=hr'
 clear hr'
 clear gdx gex gdy gey ha hb
 by_cases h0:a0=b1
 ·have e0:(a0==b1)=true:=by simpa using h0
  by_cases h1:a1=b0
  ·have e1:(a1==b0)=true:=by simpa using h1
   by_cases h2:dx=ex
   ·have e2:(dx==ex)=true:=by simpa using h2
    have e3:(dy==ey)=r:=by rw [HR.out,decide_eq_true h0,decide_eq_true h1,decide_eq_true h2];rfl
    clear h0 h1 h2 HR
    go_enter Tryz.func63,Tryz.ntmps63
    go_wp2
    dsimp only [List.append]
    go_quiet (fail)
    go_wp2
    go_ret
    exact⟨by rw [←e3];rfl,hB _ _ _⟩
   ·have e2:(dx==ex)=false:=by simpa using h2
    obtain rfl:r=false:=by rw [HR.out,decide_eq_false h2];simp
    clear h0 h1 h2 HR
    go_enter Tryz.func63,Tryz.ntmps63
    go_wp2
    dsimp only [List.append]
    go_quiet (fail)
    go_wp2
    go_ret
    exact⟨rfl,hB _ _ _⟩
  ·have e1:(a1==b0)=false:=by simpa using h1
   obtain rfl:r=false:=by rw [HR.out,decide_eq_false h1];simp
   clear h0 h1 HR
   go_enter Tryz.func63,Tryz.ntmps63
   go_wp2
   dsimp only [List.append]
   go_quiet (fail)
   go_wp2
   go_ret
   exact⟨rfl,hB _ _ _⟩
 ·have e0:(a0==b1)=false:=by simpa using h0
  obtain rfl:r=false:=by rw [HR.out,decide_eq_false h0];simp
  clear h0 HR
  go_enter Tryz.func63,Tryz.ntmps63
  go_wp2
  dsimp only [List.append]
  go_quiet (fail)
  go_wp2
  go_ret
  exact⟨rfl,hB _ _ _⟩
set_option maxRecDepth 100000 in
set_option maxHeartbeats 1000000 in
theorem twin_01r(a b:Tr)(w:World)(ha:offB a)(hb:offB b){r:Bool}(hr:r=opp a 0 b 1):
  Calls Tryz.prog 63 #[trV a, .int .i64 0,trV b, .int .i64 1, .bool true] w fun e w'=>e= .returned (.bool r)∧Below w.heap.size w w':=by
 have hB: ∀ o o' n,Below w.heap.size w (((w.alloc o).alloc o').drewN n):=fun o o' n=>(((Below.refl _ _).alloc (Nat.le_refl _) _).alloc (by simp) _).trans ⟨rfl,rfl,rfl,Nat.le_refl _,fun _ _=>rfl⟩
 have ha:=ha.all
 have hb:=hb.all
 obtain⟨a0,a1,a2,x0,y0,x1,y1,x2,y2⟩:=a
 obtain⟨b0,b1,b2,s0,t0,s1,t1,s2,t2⟩:=b
 simp only []at ha hb
 have hr':r=(decide (a0=b2) && (decide (a1=b1) && (decide (x1- x0=s1- s2) && decide (y1- y0=t1- t2)))):=by
  rw [hr];simp [opp,nx,Tr.v,Tr.x,Tr.y]
 clear hr
 obtain⟨dx,gdx⟩: ∃ dx,dx=x1- x0:=⟨_,rfl⟩
 have vdx:IntKind.i64.wrap (x1- x0)=dx:=by rw [wrap_i64,gdx];unfold wrap64;omega
 have udx:wrap64 (x1- x0)=dx:=by rw [gdx];unfold wrap64;omega
 obtain⟨ex,gex⟩: ∃ ex,ex=s1- s2:=⟨_,rfl⟩
 have vex:IntKind.i64.wrap (s1- s2)=ex:=by rw [wrap_i64,gex];unfold wrap64;omega
 have uex:wrap64 (s1- s2)=ex:=by rw [gex];unfold wrap64;omega
 obtain⟨dy,gdy⟩: ∃ dy,dy=y1- y0:=⟨_,rfl⟩
 have vdy:IntKind.i64.wrap (y1- y0)=dy:=by rw [wrap_i64,gdy];unfold wrap64;omega
 have udy:wrap64 (y1- y0)=dy:=by rw [gdy];unfold wrap64;omega
 obtain⟨ey,gey⟩: ∃ ey,ey=t1- t2:=⟨_,rfl⟩
 have vey:IntKind.i64.wrap (t1- t2)=ey:=by rw [wrap_i64,gey];unfold wrap64;omega
 have uey:wrap64 (t1- t2)=ey:=by rw [gey];unfold wrap64;omega
 rw [←gdx,←gex,←gdy,←gey]at hr'
 have HR:Hid _:=hr'
 clear hr'
 clear gdx gex gdy gey ha hb
 by_cases h0:a0=b2
 ·have e0:(a0==b2)=true:=by simpa using h0
  by_cases h1:a1=b1
  ·have e1:(a1==b1)=true:=by simpa using h1
   by_cases h2:dx=ex
   ·have e2:(dx==ex)=true:=by simpa using h2
    have e3:(dy==ey)=r:=by rw [HR.out,decide_eq_true h0,decide_eq_true h1,decide_eq_true h2];rfl
    clear h0 h1 h2 HR
    go_enter Tryz.func63,Tryz.ntmps63
    go_wp2
    dsimp only [List.append]
    go_quiet (fail)
    go_wp2
    go_ret
    exact⟨by rw [←e3];rfl,hB _ _ _⟩
   ·have e2:(dx==ex)=false:=by simpa using h2
    obtain rfl:r=false:=by rw [HR.out,decide_eq_false h2];simp
    clear h0 h1 h2 HR
    go_enter Tryz.func63,Tryz.ntmps63
    go_wp2
    dsimp only [List.append]
    go_quiet (fail)
    go_wp2
    go_ret
    exact⟨rfl,hB _ _ _⟩
  ·have e1:(a1==b1)=false:=by simpa using h1
   obtain rfl:r=false:=by rw [HR.out,decide_eq_false h1];simp
   clear h0 h1 HR
   go_enter Tryz.func63,Tryz.ntmps63
   go_wp2
   dsimp only [List.append]
   go_quiet (fail)
   go_wp2
   go_ret
   exact⟨rfl,hB _ _ _⟩
 ·have e0:(a0==b2)=false:=by simpa using h0
  obtain rfl:r=false:=by rw [HR.out,decide_eq_false h0];simp
  clear h0 HR
  go_enter Tryz.func63,Tryz.ntmps63
  go_wp2
  dsimp only [List.append]
  go_quiet (fail)
  go_wp2
  go_ret
  exact⟨rfl,hB _ _ _⟩
set_option maxRecDepth 100000 in
set_option maxHeartbeats 1000000 in
theorem twin_02r(a b:Tr)(w:World)(ha:offB a)(hb:offB b){r:Bool}(hr:r=opp a 0 b 2):
  Calls Tryz.prog 63 #[trV a, .int .i64 0,trV b, .int .i64 2, .bool true] w fun e w'=>e= .returned (.bool r)∧Below w.heap.size w w':=by
 have hB: ∀ o o' n,Below w.heap.size w (((w.alloc o).alloc o').drewN n):=fun o o' n=>(((Below.refl _ _).alloc (Nat.le_refl _) _).alloc (by simp) _).trans ⟨rfl,rfl,rfl,Nat.le_refl _,fun _ _=>rfl⟩
 have ha:=ha.all
 have hb:=hb.all
 obtain⟨a0,a1,a2,x0,y0,x1,y1,x2,y2⟩:=a
 obtain⟨b0,b1,b2,s0,t0,s1,t1,s2,t2⟩:=b
 simp only []at ha hb
 have hr':r=(decide (a0=b0) && (decide (a1=b2) && (decide (x1- x0=s2- s0) && decide (y1- y0=t2- t0)))):=by
  rw [hr];simp [opp,nx,Tr.v,Tr.x,Tr.y]
 clear hr
 obtain⟨dx,gdx⟩: ∃ dx,dx=x1- x0:=⟨_,rfl⟩
 have vdx:IntKind.i64.wrap (x1- x0)=dx:=by rw [wrap_i64,gdx];unfold wrap64;omega
 have udx:wrap64 (x1- x0)=dx:=by rw [gdx];unfold wrap64;omega
 obtain⟨ex,gex⟩: ∃ ex,ex=s2- s0:=⟨_,rfl⟩
 have vex:IntKind.i64.wrap (s2- s0)=ex:=by rw [wrap_i64,gex];unfold wrap64;omega
 have uex:wrap64 (s2- s0)=ex:=by rw [gex];unfold wrap64;omega
 obtain⟨dy,gdy⟩: ∃ dy,dy=y1- y0:=⟨_,rfl⟩
 have vdy:IntKind.i64.wrap (y1- y0)=dy:=by rw [wrap_i64,gdy];unfold wrap64;omega
 have udy:wrap64 (y1- y0)=dy:=by rw [gdy];unfold wrap64;omega
 obtain⟨ey,gey⟩: ∃ ey,ey=t2- t0:=⟨_,rfl⟩
 have vey:IntKind.i64.wrap (t2- t0)=ey:=by rw [wrap_i64,gey];unfold wrap64;omega
 have uey:wrap64 (t2- t0)=ey:=by rw [gey];unfold wrap64;omega
 rw [←gdx,←gex,←gdy,←gey]at hr'
 have HR:Hid _:=hr'
 clear hr'
 clear gdx gex gdy gey ha hb
 by_cases h0:a0=b0
 ·have e0:(a0==b0)=true:=by simpa using h0
  by_cases h1:a1=b2
  ·have e1:(a1==b2)=true:=by simpa using h1
   by_cases h2:dx=ex
   ·have e2:(dx==ex)=true:=by simpa using h2
    have e3:(dy==ey)=r:=by rw [HR.out,decide_eq_true h0,decide_eq_true h1,decide_eq_true h2];rfl
    clear h0 h1 h2 HR
    go_enter Tryz.func63,Tryz.ntmps63
    go_wp2
    dsimp only [List.append]
    go_quiet (fail)
    go_wp2
    go_ret
    exact⟨by rw [←e3];rfl,hB _ _ _⟩
   ·have e2:(dx==ex)=false:=by simpa using h2
    obtain rfl:r=false:=by rw [HR.out,decide_eq_false h2];simp
    clear h0 h1 h2 HR
    go_enter Tryz.func63,Tryz.ntmps63
    go_wp2
    dsimp only [List.append]
    go_quiet (fail)
    go_wp2
    go_ret
    exact⟨rfl,hB _ _ _⟩
  ·have e1:(a1==b2)=false:=by simpa using h1
   obtain rfl:r=false:=by rw [HR.out,decide_eq_false h1];simp
   clear h0 h1 HR
   go_enter Tryz.func63,Tryz.ntmps63
   go_wp2
   dsimp only [List.append]
   go_quiet (fail)
   go_wp2
   go_ret
   exact⟨rfl,hB _ _ _⟩
 ·have e0:(a0==b0)=false:=by simpa using h0
  obtain rfl:r=false:=by rw [HR.out,decide_eq_false h0];simp
  clear h0 HR
  go_enter Tryz.func63,Tryz.ntmps63
  go_wp2
  dsimp only [List.append]
  go_quiet (fail)
  go_wp2
  go_ret
  exact⟨rfl,hB _ _ _⟩
set_option maxRecDepth 100000 in
set_option maxHeartbeats 1000000 in
theorem twin_10r(a b:Tr)(w:World)(ha:offB a)(hb:offB b){r:Bool}(hr:r=opp a 1 b 0):
  Calls Tryz.prog 63 #[trV a, .int .i64 1,trV b, .int .i64 0, .bool true] w fun e w'=>e= .returned (.bool r)∧Below w.heap.size w w':=by
 have hB: ∀ o o' n,Below w.heap.size w (((w.alloc o).alloc o').drewN n):=fun o o' n=>(((Below.refl _ _).alloc (Nat.le_refl _) _).alloc (by simp) _).trans ⟨rfl,rfl,rfl,Nat.le_refl _,fun _ _=>rfl⟩
 have ha:=ha.all
 have hb:=hb.all
 obtain⟨a0,a1,a2,x0,y0,x1,y1,x2,y2⟩:=a
 obtain⟨b0,b1,b2,s0,t0,s1,t1,s2,t2⟩:=b
 simp only []at ha hb
 have hr':r=(decide (a1=b1) && (decide (a2=b0) && (decide (x2- x1=s0- s1) && decide (y2- y1=t0- t1)))):=by
  rw [hr];simp [opp,nx,Tr.v,Tr.x,Tr.y]
 clear hr
 obtain⟨dx,gdx⟩: ∃ dx,dx=x2- x1:=⟨_,rfl⟩
 have vdx:IntKind.i64.wrap (x2- x1)=dx:=by rw [wrap_i64,gdx];unfold wrap64;omega
 have udx:wrap64 (x2- x1)=dx:=by rw [gdx];unfold wrap64;omega
 obtain⟨ex,gex⟩: ∃ ex,ex=s0- s1:=⟨_,rfl⟩
 have vex:IntKind.i64.wrap (s0- s1)=ex:=by rw [wrap_i64,gex];unfold wrap64;omega
 have uex:wrap64 (s0- s1)=ex:=by rw [gex];unfold wrap64;omega
 obtain⟨dy,gdy⟩: ∃ dy,dy=y2- y1:=⟨_,rfl⟩
 have vdy:IntKind.i64.wrap (y2- y1)=dy:=by rw [wrap_i64,gdy];unfold wrap64;omega
 have udy:wrap64 (y2- y1)=dy:=by rw [gdy];unfold wrap64;omega
 obtain⟨ey,gey⟩: ∃ ey,ey=t0- t1:=⟨_,rfl⟩
 have vey:IntKind.i64.wrap (t0- t1)=ey:=by rw [wrap_i64,gey];unfold wrap64;omega
 have uey:wrap64 (t0- t1)=ey:=by rw [gey];unfold wrap64;omega
 rw [←gdx,←gex,←gdy,←gey]at hr'
 have HR:Hid _:=hr'
 clear hr'
 clear gdx gex gdy gey ha hb
 by_cases h0:a1=b1
 ·have e0:(a1==b1)=true:=by simpa using h0
  by_cases h1:a2=b0
  ·have e1:(a2==b0)=true:=by simpa using h1
   by_cases h2:dx=ex
   ·have e2:(dx==ex)=true:=by simpa using h2
    have e3:(dy==ey)=r:=by rw [HR.out,decide_eq_true h0,decide_eq_true h1,decide_eq_true h2];rfl
    clear h0 h1 h2 HR
    go_enter Tryz.func63,Tryz.ntmps63
    go_wp2
    dsimp only [List.append]
    go_quiet (fail)
    go_wp2
    go_ret
    exact⟨by rw [←e3];rfl,hB _ _ _⟩
   ·have e2:(dx==ex)=false:=by simpa using h2
    obtain rfl:r=false:=by rw [HR.out,decide_eq_false h2];simp
    clear h0 h1 h2 HR
    go_enter Tryz.func63,Tryz.ntmps63
    go_wp2
    dsimp only [List.append]
    go_quiet (fail)
    go_wp2
    go_ret
    exact⟨rfl,hB _ _ _⟩
  ·have e1:(a2==b0)=false:=by simpa using h1
   obtain rfl:r=false:=by rw [HR.out,decide_eq_false h1];simp
   clear h0 h1 HR
   go_enter Tryz.func63,Tryz.ntmps63
   go_wp2
   dsimp only [List.append]
   go_quiet (fail)
   go_wp2
   go_ret
   exact⟨rfl,hB _ _ _⟩
 ·have e0:(a1==b1)=false:=by simpa using h0
  obtain rfl:r=false:=by rw [HR.out,decide_eq_false h0];simp
  clear h0 HR
  go_enter Tryz.func63,Tryz.ntmps63
  go_wp2
  dsimp only [List.append]
  go_quiet (fail)
  go_wp2
  go_ret
  exact⟨rfl,hB _ _ _⟩
set_option maxRecDepth 100000 in
set_option maxHeartbeats 1000000 in
theorem twin_11r(a b:Tr)(w:World)(ha:offB a)(hb:offB b){r:Bool}(hr:r=opp a 1 b 1):
  Calls Tryz.prog 63 #[trV a, .int .i64 1,trV b, .int .i64 1, .bool true] w fun e w'=>e= .returned (.bool r)∧Below w.heap.size w w':=by
 have hB: ∀ o o' n,Below w.heap.size w (((w.alloc o).alloc o').drewN n):=fun o o' n=>(((Below.refl _ _).alloc (Nat.le_refl _) _).alloc (by simp) _).trans ⟨rfl,rfl,rfl,Nat.le_refl _,fun _ _=>rfl⟩
 have ha:=ha.all
 have hb:=hb.all
 obtain⟨a0,a1,a2,x0,y0,x1,y1,x2,y2⟩:=a
 obtain⟨b0,b1,b2,s0,t0,s1,t1,s2,t2⟩:=b
 simp only []at ha hb
 have hr':r=(decide (a1=b2) && (decide (a2=b1) && (decide (x2- x1=s1- s2) && decide (y2- y1=t1- t2)))):=by
  rw [hr];simp [opp,nx,Tr.v,Tr.x,Tr.y]
 clear hr
 obtain⟨dx,gdx⟩: ∃ dx,dx=x2- x1:=⟨_,rfl⟩
 have vdx:IntKind.i64.wrap (x2- x1)=dx:=by rw [wrap_i64,gdx];unfold wrap64;omega
 have udx:wrap64 (x2- x1)=dx:=by rw [gdx];unfold wrap64;omega
 obtain⟨ex,gex⟩: ∃ ex,ex=s1- s2:=⟨_,rfl⟩
 have vex:IntKind.i64.wrap (s1- s2)=ex:=by rw [wrap_i64,gex];unfold wrap64;omega
 have uex:wrap64 (s1- s2)=ex:=by rw [gex];unfold wrap64;omega
 obtain⟨dy,gdy⟩: ∃ dy,dy=y2- y1:=⟨_,rfl⟩
 have vdy:IntKind.i64.wrap (y2- y1)=dy:=by rw [wrap_i64,gdy];unfold wrap64;omega
 have udy:wrap64 (y2- y1)=dy:=by rw [gdy];unfold wrap64;omega
 obtain⟨ey,gey⟩: ∃ ey,ey=t1- t2:=⟨_,rfl⟩
 have vey:IntKind.i64.wrap (t1- t2)=ey:=by rw [wrap_i64,gey];unfold wrap64;omega
 have uey:wrap64 (t1- t2)=ey:=by rw [gey];unfold wrap64;omega
 rw [←gdx,←gex,←gdy,←gey]at hr'
 have HR:Hid _:=hr'
 clear hr'
 clear gdx gex gdy gey ha hb
 by_cases h0:a1=b2
 ·have e0:(a1==b2)=true:=by simpa using h0
  by_cases h1:a2=b1
  ·have e1:(a2==b1)=true:=by simpa using h1
   by_cases h2:dx=ex
   ·have e2:(dx==ex)=true:=by simpa using h2
    have e3:(dy==ey)=r:=by rw [HR.out,decide_eq_true h0,decide_eq_true h1,decide_eq_true h2];rfl
    clear h0 h1 h2 HR
    go_enter Tryz.func63,Tryz.ntmps63
    go_wp2
    dsimp only [List.append]
    go_quiet (fail)
    go_wp2
    go_ret
    exact⟨by rw [←e3];rfl,hB _ _ _⟩
   ·have e2:(dx==ex)=false:=by simpa using h2
    obtain rfl:r=false:=by rw [HR.out,decide_eq_false h2];simp
    clear h0 h1 h2 HR
    go_enter Tryz.func63,Tryz.ntmps63
    go_wp2
    dsimp only [List.append]
    go_quiet (fail)
    go_wp2
    go_ret
    exact⟨rfl,hB _ _ _⟩
  ·have e1:(a2==b1)=false:=by simpa using h1
   obtain rfl:r=false:=by rw [HR.out,decide_eq_false h1];simp
   clear h0 h1 HR
   go_enter Tryz.func63,Tryz.ntmps63
   go_wp2
   dsimp only [List.append]
   go_quiet (fail)
   go_wp2
   go_ret
   exact⟨rfl,hB _ _ _⟩
 ·have e0:(a1==b2)=false:=by simpa using h0
  obtain rfl:r=false:=by rw [HR.out,decide_eq_false h0];simp
  clear h0 HR
  go_enter Tryz.func63,Tryz.ntmps63
  go_wp2
  dsimp only [List.append]
  go_quiet (fail)
  go_wp2
  go_ret
  exact⟨rfl,hB _ _ _⟩
set_option maxRecDepth 100000 in
set_option maxHeartbeats 1000000 in
theorem twin_12r(a b:Tr)(w:World)(ha:offB a)(hb:offB b){r:Bool}(hr:r=opp a 1 b 2):
  Calls Tryz.prog 63 #[trV a, .int .i64 1,trV b, .int .i64 2, .bool true] w fun e w'=>e= .returned (.bool r)∧Below w.heap.size w w':=by
 have hB: ∀ o o' n,Below w.heap.size w (((w.alloc o).alloc o').drewN n):=fun o o' n=>(((Below.refl _ _).alloc (Nat.le_refl _) _).alloc (by simp) _).trans ⟨rfl,rfl,rfl,Nat.le_refl _,fun _ _=>rfl⟩
 have ha:=ha.all
 have hb:=hb.all
 obtain⟨a0,a1,a2,x0,y0,x1,y1,x2,y2⟩:=a
 obtain⟨b0,b1,b2,s0,t0,s1,t1,s2,t2⟩:=b
 simp only []at ha hb
 have hr':r=(decide (a1=b0) && (decide (a2=b2) && (decide (x2- x1=s2- s0) && decide (y2- y1=t2- t0)))):=by
  rw [hr];simp [opp,nx,Tr.v,Tr.x,Tr.y]
 clear hr
 obtain⟨dx,gdx⟩: ∃ dx,dx=x2- x1:=⟨_,rfl⟩
 have vdx:IntKind.i64.wrap (x2- x1)=dx:=by rw [wrap_i64,gdx];unfold wrap64;omega
 have udx:wrap64 (x2- x1)=dx:=by rw [gdx];unfold wrap64;omega
 obtain⟨ex,gex⟩: ∃ ex,ex=s2- s0:=⟨_,rfl⟩
 have vex:IntKind.i64.wrap (s2- s0)=ex:=by rw [wrap_i64,gex];unfold wrap64;omega
 have uex:wrap64 (s2- s0)=ex:=by rw [gex];unfold wrap64;omega
 obtain⟨dy,gdy⟩: ∃ dy,dy=y2- y1:=⟨_,rfl⟩
 have vdy:IntKind.i64.wrap (y2- y1)=dy:=by rw [wrap_i64,gdy];unfold wrap64;omega
 have udy:wrap64 (y2- y1)=dy:=by rw [gdy];unfold wrap64;omega
 obtain⟨ey,gey⟩: ∃ ey,ey=t2- t0:=⟨_,rfl⟩
 have vey:IntKind.i64.wrap (t2- t0)=ey:=by rw [wrap_i64,gey];unfold wrap64;omega
 have uey:wrap64 (t2- t0)=ey:=by rw [gey];unfold wrap64;omega
 rw [←gdx,←gex,←gdy,←gey]at hr'
 have HR:Hid _:=hr'
 clear hr'
 clear gdx gex gdy gey ha hb
 by_cases h0:a1=b0
 ·have e0:(a1==b0)=true:=by simpa using h0
  by_cases h1:a2=b2
  ·have e1:(a2==b2)=true:=by simpa using h1
   by_cases h2:dx=ex
   ·have e2:(dx==ex)=true:=by simpa using h2
    have e3:(dy==ey)=r:=by rw [HR.out,decide_eq_true h0,decide_eq_true h1,decide_eq_true h2];rfl
    clear h0 h1 h2 HR
    go_enter Tryz.func63,Tryz.ntmps63
    go_wp2
    dsimp only [List.append]
    go_quiet (fail)
    go_wp2
    go_ret
    exact⟨by rw [←e3];rfl,hB _ _ _⟩
   ·have e2:(dx==ex)=false:=by simpa using h2
    obtain rfl:r=false:=by rw [HR.out,decide_eq_false h2];simp
    clear h0 h1 h2 HR
    go_enter Tryz.func63,Tryz.ntmps63
    go_wp2
    dsimp only [List.append]
    go_quiet (fail)
    go_wp2
    go_ret
    exact⟨rfl,hB _ _ _⟩
  ·have e1:(a2==b2)=false:=by simpa using h1
   obtain rfl:r=false:=by rw [HR.out,decide_eq_false h1];simp
   clear h0 h1 HR
   go_enter Tryz.func63,Tryz.ntmps63
   go_wp2
   dsimp only [List.append]
   go_quiet (fail)
   go_wp2
   go_ret
   exact⟨rfl,hB _ _ _⟩
 ·have e0:(a1==b0)=false:=by simpa using h0
  obtain rfl:r=false:=by rw [HR.out,decide_eq_false h0];simp
  clear h0 HR
  go_enter Tryz.func63,Tryz.ntmps63
  go_wp2
  dsimp only [List.append]
  go_quiet (fail)
  go_wp2
  go_ret
  exact⟨rfl,hB _ _ _⟩
set_option maxRecDepth 100000 in
set_option maxHeartbeats 1000000 in
theorem twin_20r(a b:Tr)(w:World)(ha:offB a)(hb:offB b){r:Bool}(hr:r=opp a 2 b 0):
  Calls Tryz.prog 63 #[trV a, .int .i64 2,trV b, .int .i64 0, .bool true] w fun e w'=>e= .returned (.bool r)∧Below w.heap.size w w':=by
 have hB: ∀ o o' n,Below w.heap.size w (((w.alloc o).alloc o').drewN n):=fun o o' n=>(((Below.refl _ _).alloc (Nat.le_refl _) _).alloc (by simp) _).trans ⟨rfl,rfl,rfl,Nat.le_refl _,fun _ _=>rfl⟩
 have ha:=ha.all
 have hb:=hb.all
 obtain⟨a0,a1,a2,x0,y0,x1,y1,x2,y2⟩:=a
 obtain⟨b0,b1,b2,s0,t0,s1,t1,s2,t2⟩:=b
 simp only []at ha hb
 have hr':r=(decide (a2=b1) && (decide (a0=b0) && (decide (x0- x2=s0- s1) && decide (y0- y2=t0- t1)))):=by
  rw [hr];simp [opp,nx,Tr.v,Tr.x,Tr.y]
 clear hr
 obtain⟨dx,gdx⟩: ∃ dx,dx=x0- x2:=⟨_,rfl⟩
 have vdx:IntKind.i64.wrap (x0- x2)=dx:=by rw [wrap_i64,gdx];unfold wrap64;omega
 have udx:wrap64 (x0- x2)=dx:=by rw [gdx];unfold wrap64;omega
 obtain⟨ex,gex⟩: ∃ ex,ex=s0- s1:=⟨_,rfl⟩
 have vex:IntKind.i64.wrap (s0- s1)=ex:=by rw [wrap_i64,gex];unfold wrap64;omega
 have uex:wrap64 (s0- s1)=ex:=by rw [gex];unfold wrap64;omega
 obtain⟨dy,gdy⟩: ∃ dy,dy=y0- y2:=⟨_,rfl⟩
 have vdy:IntKind.i64.wrap (y0- y2)=dy:=by rw [wrap_i64,gdy];unfold wrap64;omega
 have udy:wrap64 (y0- y2)=dy:=by rw [gdy];unfold wrap64;omega
 obtain⟨ey,gey⟩: ∃ ey,ey=t0- t1:=⟨_,rfl⟩
 have vey:IntKind.i64.wrap (t0- t1)=ey:=by rw [wrap_i64,gey];unfold wrap64;omega
 have uey:wrap64 (t0- t1)=ey:=by rw [gey];unfold wrap64;omega
 rw [←gdx,←gex,←gdy,←gey]at hr'
 have HR:Hid _:=hr'
 clear hr'
 clear gdx gex gdy gey ha hb
 by_cases h0:a2=b1
 ·have e0:(a2==b1)=true:=by simpa using h0
  by_cases h1:a0=b0
  ·have e1:(a0==b0)=true:=by simpa using h1
   by_cases h2:dx=ex
   ·have e2:(dx==ex)=true:=by simpa using h2
    have e3:(dy==ey)=r:=by rw [HR.out,decide_eq_true h0,decide_eq_true h1,decide_eq_true h2];rfl
    clear h0 h1 h2 HR
    go_enter Tryz.func63,Tryz.ntmps63
    go_wp2
    dsimp only [List.append]
    go_quiet (fail)
    go_wp2
    go_ret
    exact⟨by rw [←e3];rfl,hB _ _ _⟩
   ·have e2:(dx==ex)=false:=by simpa using h2
    obtain rfl:r=false:=by rw [HR.out,decide_eq_false h2];simp
    clear h0 h1 h2 HR
    go_enter Tryz.func63,Tryz.ntmps63
    go_wp2
    dsimp only [List.append]
    go_quiet (fail)
    go_wp2
    go_ret
    exact⟨rfl,hB _ _ _⟩
  ·have e1:(a0==b0)=false:=by simpa using h1
   obtain rfl:r=false:=by rw [HR.out,decide_eq_false h1];simp
   clear h0 h1 HR
   go_enter Tryz.func63,Tryz.ntmps63
   go_wp2
   dsimp only [List.append]
   go_quiet (fail)
   go_wp2
   go_ret
   exact⟨rfl,hB _ _ _⟩
 ·have e0:(a2==b1)=false:=by simpa using h0
  obtain rfl:r=false:=by rw [HR.out,decide_eq_false h0];simp
  clear h0 HR
  go_enter Tryz.func63,Tryz.ntmps63
  go_wp2
  dsimp only [List.append]
  go_quiet (fail)
  go_wp2
  go_ret
  exact⟨rfl,hB _ _ _⟩
set_option maxRecDepth 100000 in
set_option maxHeartbeats 1000000 in
theorem twin_21r(a b:Tr)(w:World)(ha:offB a)(hb:offB b){r:Bool}(hr:r=opp a 2 b 1):
  Calls Tryz.prog 63 #[trV a, .int .i64 2,trV b, .int .i64 1, .bool true] w fun e w'=>e= .returned (.bool r)∧Below w.heap.size w w':=by
 have hB: ∀ o o' n,Below w.heap.size w (((w.alloc o).alloc o').drewN n):=fun o o' n=>(((Below.refl _ _).alloc (Nat.le_refl _) _).alloc (by simp) _).trans ⟨rfl,rfl,rfl,Nat.le_refl _,fun _ _=>rfl⟩
 have ha:=ha.all
 have hb:=hb.all
 obtain⟨a0,a1,a2,x0,y0,x1,y1,x2,y2⟩:=a
 obtain⟨b0,b1,b2,s0,t0,s1,t1,s2,t2⟩:=b
 simp only []at ha hb
 have hr':r=(decide (a2=b2) && (decide (a0=b1) && (decide (x0- x2=s1- s2) && decide (y0- y2=t1- t2)))):=by
  rw [hr];simp [opp,nx,Tr.v,Tr.x,Tr.y]
 clear hr
 obtain⟨dx,gdx⟩: ∃ dx,dx=x0- x2:=⟨_,rfl⟩
 have vdx:IntKind.i64.wrap (x0- x2)=dx:=by rw [wrap_i64,gdx];unfold wrap64;omega
 have udx:wrap64 (x0- x2)=dx:=by rw [gdx];unfold wrap64;omega
 obtain⟨ex,gex⟩: ∃ ex,ex=s1- s2:=⟨_,rfl⟩
 have vex:IntKind.i64.wrap (s1- s2)=ex:=by rw [wrap_i64,gex];unfold wrap64;omega
 have uex:wrap64 (s1- s2)=ex:=by rw [gex];unfold wrap64;omega
 obtain⟨dy,gdy⟩: ∃ dy,dy=y0- y2:=⟨_,rfl⟩
 have vdy:IntKind.i64.wrap (y0- y2)=dy:=by rw [wrap_i64,gdy];unfold wrap64;omega
 have udy:wrap64 (y0- y2)=dy:=by rw [gdy];unfold wrap64;omega
 obtain⟨ey,gey⟩: ∃ ey,ey=t1- t2:=⟨_,rfl⟩
 have vey:IntKind.i64.wrap (t1- t2)=ey:=by rw [wrap_i64,gey];unfold wrap64;omega
 have uey:wrap64 (t1- t2)=ey:=by rw [gey];unfold wrap64;omega
 rw [←gdx,←gex,←gdy,←gey]at hr'
 have HR:Hid _:=hr'
 clear hr'
 clear gdx gex gdy gey ha hb
 by_cases h0:a2=b2
 ·have e0:(a2==b2)=true:=by simpa using h0
  by_cases h1:a0=b1
  ·have e1:(a0==b1)=true:=by simpa using h1
   by_cases h2:dx=ex
   ·have e2:(dx==ex)=true:=by simpa using h2
    have e3:(dy==ey)=r:=by rw [HR.out,decide_eq_true h0,decide_eq_true h1,decide_eq_true h2];rfl
    clear h0 h1 h2 HR
    go_enter Tryz.func63,Tryz.ntmps63
    go_wp2
    dsimp only [List.append]
    go_quiet (fail)
    go_wp2
    go_ret
    exact⟨by rw [←e3];rfl,hB _ _ _⟩
   ·have e2:(dx==ex)=false:=by simpa using h2
    obtain rfl:r=false:=by rw [HR.out,decide_eq_false h2];simp
    clear h0 h1 h2 HR
    go_enter Tryz.func63,Tryz.ntmps63
    go_wp2
    dsimp only [List.append]
    go_quiet (fail)
    go_wp2
    go_ret
    exact⟨rfl,hB _ _ _⟩
  ·have e1:(a0==b1)=false:=by simpa using h1
   obtain rfl:r=false:=by rw [HR.out,decide_eq_false h1];simp
   clear h0 h1 HR
   go_enter Tryz.func63,Tryz.ntmps63
   go_wp2
   dsimp only [List.append]
   go_quiet (fail)
   go_wp2
   go_ret
   exact⟨rfl,hB _ _ _⟩
 ·have e0:(a2==b2)=false:=by simpa using h0
  obtain rfl:r=false:=by rw [HR.out,decide_eq_false h0];simp
  clear h0 HR
  go_enter Tryz.func63,Tryz.ntmps63
  go_wp2
  dsimp only [List.append]
  go_quiet (fail)
  go_wp2
  go_ret
  exact⟨rfl,hB _ _ _⟩
set_option maxRecDepth 100000 in
set_option maxHeartbeats 1000000 in
theorem twin_22r(a b:Tr)(w:World)(ha:offB a)(hb:offB b){r:Bool}(hr:r=opp a 2 b 2):
  Calls Tryz.prog 63 #[trV a, .int .i64 2,trV b, .int .i64 2, .bool true] w fun e w'=>e= .returned (.bool r)∧Below w.heap.size w w':=by
 have hB: ∀ o o' n,Below w.heap.size w (((w.alloc o).alloc o').drewN n):=fun o o' n=>(((Below.refl _ _).alloc (Nat.le_refl _) _).alloc (by simp) _).trans ⟨rfl,rfl,rfl,Nat.le_refl _,fun _ _=>rfl⟩
 have ha:=ha.all
 have hb:=hb.all
 obtain⟨a0,a1,a2,x0,y0,x1,y1,x2,y2⟩:=a
 obtain⟨b0,b1,b2,s0,t0,s1,t1,s2,t2⟩:=b
 simp only []at ha hb
 have hr':r=(decide (a2=b0) && (decide (a0=b2) && (decide (x0- x2=s2- s0) && decide (y0- y2=t2- t0)))):=by
  rw [hr];simp [opp,nx,Tr.v,Tr.x,Tr.y]
 clear hr
 obtain⟨dx,gdx⟩: ∃ dx,dx=x0- x2:=⟨_,rfl⟩
 have vdx:IntKind.i64.wrap (x0- x2)=dx:=by rw [wrap_i64,gdx];unfold wrap64;omega
 have udx:wrap64 (x0- x2)=dx:=by rw [gdx];unfold wrap64;omega
 obtain⟨ex,gex⟩: ∃ ex,ex=s2- s0:=⟨_,rfl⟩
 have vex:IntKind.i64.wrap (s2- s0)=ex:=by rw [wrap_i64,gex];unfold wrap64;omega
 have uex:wrap64 (s2- s0)=ex:=by rw [gex];unfold wrap64;omega
 obtain⟨dy,gdy⟩: ∃ dy,dy=y0- y2:=⟨_,rfl⟩
 have vdy:IntKind.i64.wrap (y0- y2)=dy:=by rw [wrap_i64,gdy];unfold wrap64;omega
 have udy:wrap64 (y0- y2)=dy:=by rw [gdy];unfold wrap64;omega
 obtain⟨ey,gey⟩: ∃ ey,ey=t2- t0:=⟨_,rfl⟩
 have vey:IntKind.i64.wrap (t2- t0)=ey:=by rw [wrap_i64,gey];unfold wrap64;omega
 have uey:wrap64 (t2- t0)=ey:=by rw [gey];unfold wrap64;omega
 rw [←gdx,←gex,←gdy,←gey]at hr'
 have HR:Hid _:=hr'
 clear hr'
 clear gdx gex gdy gey ha hb
 by_cases h0:a2=b0
 ·have e0:(a2==b0)=true:=by simpa using h0
  by_cases h1:a0=b2
  ·have e1:(a0==b2)=true:=by simpa using h1
   by_cases h2:dx=ex
   ·have e2:(dx==ex)=true:=by simpa using h2
    have e3:(dy==ey)=r:=by rw [HR.out,decide_eq_true h0,decide_eq_true h1,decide_eq_true h2];rfl
    clear h0 h1 h2 HR
    go_enter Tryz.func63,Tryz.ntmps63
    go_wp2
    dsimp only [List.append]
    go_quiet (fail)
    go_wp2
    go_ret
    exact⟨by rw [←e3];rfl,hB _ _ _⟩
   ·have e2:(dx==ex)=false:=by simpa using h2
    obtain rfl:r=false:=by rw [HR.out,decide_eq_false h2];simp
    clear h0 h1 h2 HR
    go_enter Tryz.func63,Tryz.ntmps63
    go_wp2
    dsimp only [List.append]
    go_quiet (fail)
    go_wp2
    go_ret
    exact⟨rfl,hB _ _ _⟩
  ·have e1:(a0==b2)=false:=by simpa using h1
   obtain rfl:r=false:=by rw [HR.out,decide_eq_false h1];simp
   clear h0 h1 HR
   go_enter Tryz.func63,Tryz.ntmps63
   go_wp2
   dsimp only [List.append]
   go_quiet (fail)
   go_wp2
   go_ret
   exact⟨rfl,hB _ _ _⟩
 ·have e0:(a2==b0)=false:=by simpa using h0
  obtain rfl:r=false:=by rw [HR.out,decide_eq_false h0];simp
  clear h0 HR
  go_enter Tryz.func63,Tryz.ntmps63
  go_wp2
  dsimp only [List.append]
  go_quiet (fail)
  go_wp2
  go_ret
  exact⟨rfl,hB _ _ _⟩
theorem mrTwin(a b:Tr)(i k:Nat)(w:World)(ha:offB a)(hb:offB b)(hi:i<3)(hk:k<3){r:Bool}(hr:r=same a i b k):
  Calls Tryz.prog 63 #[trV a, .int .i64 (i:Int),trV b, .int .i64 (k:Int), .bool false] w fun e w'=>e= .returned (.bool r)∧Below w.heap.size w w':=by
 rcases(by omega:i=0∨i=1∨i=2)with rfl|rfl|rfl<;>rcases(by omega:k=0∨k=1∨k=2)with rfl|rfl|rfl
 ·exact twin_00s a b w ha hb hr
 ·exact twin_01s a b w ha hb hr
 ·exact twin_02s a b w ha hb hr
 ·exact twin_10s a b w ha hb hr
 ·exact twin_11s a b w ha hb hr
 ·exact twin_12s a b w ha hb hr
 ·exact twin_20s a b w ha hb hr
 ·exact twin_21s a b w ha hb hr
 ·exact twin_22s a b w ha hb hr
def AcrIs(t:Tr)(a:Nat)(r:Option (Ce×Nat))(e:Ending):Prop:=match r with
 |none=>e= .returned (.tuple #[.int .i64 (-1), .int .i64 0, .agg #[.int .i64 0, .int .i64 0], .bool false])
 |some (c,k)=>e= .returned (.tuple #[.int .i64 c.no, .int .i64 (((k+2) % 3:Nat):Int), .agg #[.int .i64 (t.x (nx a)- c.t.x k), .int .i64 (t.y (nx a)- c.t.y k)], .bool true])
def AcrPost(t:Tr)(a:Nat)(r:Option (Ce×Nat))(w:World)(e:Ending)(w':World):Prop:=AcrIs t a r e∧Below w.heap.size w w'
theorem acr_drop{t:Tr}{a k:Nat}{C:List Ce}{c:Ce}(h:C[k]? =some c):acr t a (C.drop k)=if opp t a c.t 0=true then some (c,0)else if opp t a c.t 1=true then some (c,1)else if opp t a c.t 2=true then some (c,2)else acr t a (C.drop (k+1)):=by
 rw [drop_at h]
 rfl
theorem acr_found{t:Tr}{a k j:Nat}{C:List Ce}{c:Ce}(h:C[k]? =some c)(hj:j<3)(hno: ∀ j',j'<j→opp t a c.t j'=false)(hy:opp t a c.t j=true):acr t a (C.drop k)=some (c,j):=by
 rw [acr_drop h]
 rcases(by omega:j=0∨j=1∨j=2)with rfl|rfl|rfl
 ·rw [if_pos hy]
 ·rw [if_neg (by rw [hno 0 (by omega)];exact Bool.false_ne_true),if_pos hy]
 ·rw [if_neg (by rw [hno 0 (by omega)];exact Bool.false_ne_true),if_neg (by rw [hno 1 (by omega)];exact Bool.false_ne_true),if_pos hy]
theorem acr_on{t:Tr}{a k:Nat}{C:List Ce}{c:Ce}(h:C[k]? =some c)(hno: ∀ j',j'<3→opp t a c.t j'=false):acr t a (C.drop k)=acr t a (C.drop (k+1)):=by
 rw [acr_drop h,if_neg (by rw [hno 0 (by omega)];exact Bool.false_ne_true),if_neg (by rw [hno 1 (by omega)];exact Bool.false_ne_true),if_neg (by rw [hno 2 (by omega)];exact Bool.false_ne_true)]
theorem corner_at(i:Int):(0≤Int.tmod i 3+3∧Int.tmod i 3+3≤5)∧Int.tmod (Int.tmod i 3+3) 3=(corner i:Int):=by
 have h1: -3<Int.tmod i 3∧Int.tmod i 3<3∧(Int.tmod i 3+3) % 3=i % 3:=by
  rw [Int.tmod_eq_emod]
  split<;>omega
 refine⟨by omega,?_⟩
 rw [Int.tmod_eq_emod_of_nonneg (by omega),h1.2.2]
 unfold corner
 omega
set_option maxRecDepth 100000 in
set_option maxHeartbeats 4000000 in
theorem across_0(p:Nat)(S:Ms)(f i:Int)(w:World)(h:MeLook p S w)(hC:S.C.length≤1000)(hco: ∀ c∈S.C,offB c.t)(idx:Nat)(c0:Ce)(hi:fAt Ce.no f S.C 0=(idx:Int))(hx:S.C[idx]? =some c0)(hcn:nx (corner i)=0):
  Calls Tryz.prog 29 #[ptR p, .int .i64 f, .int .i64 i] w (AcrPost c0.t 0 (acr c0.t 0 S.C) w):=by
 have HL:Hid _:=h
 have HI:Hid ((idx:Int)=_):=hi.symm
 have HX0:Hid _:=hx
 have hct:=hco c0 (List.mem_of_getElem? hx)
 have hlt0:=(List.getElem?_eq_some_iff.1 hx).1
 have hd:decide ((idx:Int)<0)=false:=decide_eq_false (by omega)
 obtain⟨⟨hm1,hm2⟩,hm3⟩:=corner_at i
 obtain⟨m,hm⟩: ∃ m,m=Int.tmod i 3:=⟨_,rfl⟩
 rw [←hm]at hm1 hm2 hm3
 have hm':=hm.symm
 obtain⟨cn,hcn'⟩: ∃ cn,cn=corner i:=⟨_,rfl⟩
 rw [←hcn']at hcn hm3
 have hc3:cn<3:=by rw [hcn'];unfold corner;omega
 have hm4:Int.tmod ((cn:Int)+1) 3=0:=by rw [Int.tmod_eq_emod_of_nonneg (by omega)];unfold nx at hcn;omega
 have hm5:((cn:Int)+1) % 3=0:=by unfold nx at hcn;omega
 have hm6:(m+3) % 3=(cn:Int):=by rw [←Int.tmod_eq_emod_of_nonneg (by omega)];exact hm3
 clear h hi hx hm hcn hcn'
 obtain⟨W0,hW0⟩: ∃ W,W=w.alloc (.cells ([.int .i64 0, .int .i64 0]:List Value).toArray 32):=⟨_,rfl⟩
 have B0:Below w.heap.size w W0:=by rw [hW0];exact(Below.refl _ _).alloc (Nat.le_refl _) _
 have z0:W0.heap.size=w.heap.size+1:=by rw [hW0];simp
 have R0:Row W0 w.heap.size [.int .i64 0, .int .i64 0]:=by rw [hW0];exact Row.new w _ _
 have hW0':w.alloc (.cells #[.int .i64 0, .int .i64 0] 32)=W0:=hW0.symm
 clear hW0
 go_enter Tryz.func29,Tryz.ntmps29
 go_wp2_with (go_at_call 27;fail)
 refine(mrFaceAt p S f W0 (HL.out.below B0) hC HI.out).mono ?_
 rintro e w1 ⟨rfl,b1⟩
 have L1:=(HL.out.below B0).below b1
 have R1:=R0.below b1 (by omega)
 have z1:=b1.size
 obtain⟨g1,cp1,x1,x2,x3,hrow1,hc1,hbl1,H1⟩:=L1.face HX0.out
 have g1_:=H1 1 _ rfl
 have g2_:=H1 2 _ rfl
 have g3_:=H1 3 _ rfl
 have g4_:=H1 4 _ rfl
 have g5_:=H1 5 _ rfl
 have g6_:=H1 6 _ rfl
 have g7_:=H1 7 _ rfl
 have g8_:=H1 8 _ rfl
 have g9_:=H1 9 _ rfl
 have m1:=hrow1.cell 4 _ rfl
 obtain⟨nn,hnn⟩: ∃ nn,nn=S.C.length:=⟨_,rfl⟩
 have HNN:Hid _:=hnn
 rw [←hnn]at m1 hc1 hlt0 hC
 obtain⟨t,ht⟩: ∃ t,t=c0.t:=⟨_,rfl⟩
 have hW0'':=hW0'
 clear hW0' hW0''
 obtain⟨W2,hW2⟩: ∃ W,W=w1.alloc (.cells (trC c0.t).toArray 49):=⟨_,rfl⟩
 have B2:Below w1.heap.size w1 W2:=by rw [hW2];exact(Below.refl _ _).alloc (Nat.le_refl _) _
 have z2:W2.heap.size=w1.heap.size+1:=by rw [hW2];simp
 have T2:Row W2 w1.heap.size (trC c0.t):=by rw [hW2];exact Row.new w1 _ _
 have R2:=R1.below B2 (by omega)
 have L2:Hid _:=L1.below B2
 have hW2':w1.alloc (.cells #[.int .i64 c0.t.v0, .int .i64 c0.t.v1, .int .i64 c0.t.v2, .int .i64 c0.t.x0, .int .i64 c0.t.y0, .int .i64 c0.t.x1, .int .i64 c0.t.y1, .int .i64 c0.t.x2, .int .i64 c0.t.y2] 49)=W2:=hW2.symm
 have BW:Below w.heap.size w W2:=(B0.trans (b1.mono (by omega))).trans (B2.mono (by omega))
 clear hW2 hrow1 H1 L1 R1 R0 hnn ht
 go_wp2
 clear hW2' g1_ g2_ g3_ g4_ g5_ g6_ g7_ g8_ g9_ m1
 go_loopw [13] (fun q wr=> ∃ k:Nat,k≤S.C.length∧q= .int .i64 (k:Int)∧acr c0.t 0 S.C=acr c0.t 0 (S.C.drop k)∧Below W2.heap.size W2 wr) (fun q _=>S.C.length- (intOf q).toNat)
 case atStart=>exact⟨0,by omega,rfl,by simp,Below.refl _ _⟩
 case round=>
  obtain⟨k,hk,rfl,hac,bel⟩:=hrel
  have zr:=bel.size
  by_cases hlt:k<S.C.length
  ·obtain⟨c,hx⟩: ∃ c,S.C[k]? =some c:=⟨S.C[k],List.getElem?_eq_getElem hlt⟩
   have hcm:=hco c (List.mem_of_getElem? hx)
   have HAC:Hid _:=hac
   have HX:Hid _:=hx
   obtain⟨y1,y2,ya,yca,yb,ycb,hrow⟩:=(L2.out.below bel).row
   have m2:=hrow.cell 4 _ rfl
   rw [←HNN.out]at m2 hlt
   clear hac hrow hx hk
   go_wp2
   go_loopw [14] (fun q wr'=> ∃ j:Nat,j≤3∧q= .int .i64 (j:Int)∧(∀ j',j'<j→opp c0.t 0 c.t j'=false)∧Below W2.heap.size W2 wr') (fun q _=>3- (intOf q).toNat)
   case atStart=>exact⟨0,by omega,rfl,(fun j' h=>by omega),bel⟩
   case round=>
    obtain⟨j,hj,rfl,hno,bel2⟩:=hrel
    have zr2:=bel2.size
    have HNo:Hid _:=hno
    clear m2
    by_cases hj3:j<3
    ·obtain⟨g8,cp8,x4,x5,x6,hrow8w,hc8,hbw8,H8w⟩:=HL.out.face HX.out
     have BR:Below w.heap.size w wr:=BW.trans (bel2.mono (by omega))
     have zBR:=BR.size
     have hpw:=hrow8w.lt
     have H8: ∀ j u,(ceC c)[j]? =some u→wr.cell? ⟨g8,k*10+j,none⟩=some u:=fun j u hj=>(BR.cell (p:=⟨g8,k*10+j,none⟩) hbw8).trans (H8w j u hj)
     have hrow8:=hrow8w.below BR hpw
     have hbl8:g8<wr.heap.size:=by omega
     clear H8w hrow8w
     have k0:wr.cell? ⟨g8,k*10,none⟩=some (.int .i64 c.no):=H8 0 _ rfl
     have k1:=H8 1 _ rfl
     have k2:=H8 2 _ rfl
     have k3:=H8 3 _ rfl
     have k4:=H8 4 _ rfl
     have k5:=H8 5 _ rfl
     have k6:=H8 6 _ rfl
     have k7:=H8 7 _ rfl
     have k8:=H8 8 _ rfl
     have k9:=H8 9 _ rfl
     have hp8:=hrow8.lt
     have m8:=hrow8.cell 4 _ rfl
     rw [←HNN.out]at m8 hc8
     have T8:=T2.below bel2 (by omega)
     have R8:=R2.below bel2 (by omega)
     obtain⟨W3,hW3⟩: ∃ W,W=wr.alloc (.cells (trC c.t).toArray 49):=⟨_,rfl⟩
     have B3:Below wr.heap.size wr W3:=by rw [hW3];exact(Below.refl _ _).alloc (Nat.le_refl _) _
     have z3:W3.heap.size=wr.heap.size+1:=by rw [hW3];simp
     have U3:Row W3 wr.heap.size (trC c.t):=by rw [hW3];exact Row.new wr _ _
     have T3:=T8.below B3 (by omega)
     have R3:=R8.below B3 (by omega)
     have hW3':wr.alloc (.cells #[.int .i64 c.t.v0, .int .i64 c.t.v1, .int .i64 c.t.v2, .int .i64 c.t.x0, .int .i64 c.t.y0, .int .i64 c.t.x1, .int .i64 c.t.y1, .int .i64 c.t.x2, .int .i64 c.t.y2] 49)=W3:=hW3.symm
     have t3_0:=T3.cell 0 _ rfl
     have u3_0:=U3.cell 0 _ rfl
     have t3_1:=T3.cell 1 _ rfl
     have u3_1:=U3.cell 1 _ rfl
     have t3_2:=T3.cell 2 _ rfl
     have u3_2:=U3.cell 2 _ rfl
     have t3_3:=T3.cell 3 _ rfl
     have u3_3:=U3.cell 3 _ rfl
     have t3_4:=T3.cell 4 _ rfl
     have u3_4:=U3.cell 4 _ rfl
     have t3_5:=T3.cell 5 _ rfl
     have u3_5:=U3.cell 5 _ rfl
     have t3_6:=T3.cell 6 _ rfl
     have u3_6:=U3.cell 6 _ rfl
     have t3_7:=T3.cell 7 _ rfl
     have u3_7:=U3.cell 7 _ rfl
     have t3_8:=T3.cell 8 _ rfl
     have u3_8:=U3.cell 8 _ rfl
     have m3:=(B3.cell (p:=⟨p,4,none⟩) hp8).trans m8
     have k03:=(B3.cell (p:=⟨g8,k*10,none⟩) hbl8).trans k0
     clear hW3 H8 hrow8 hno T8 R8
     rcases(by omega:j=0∨j=1∨j=2)with rfl|rfl|rfl
     ·obtain⟨r,hr⟩: ∃ r,r=opp c0.t 0 c.t 0:=⟨_,rfl⟩
      have HJ:Hid _:=hr
      clear hr
      go_wp2_with (go_at_call 63;fail)
      refine(twin_00r c0.t c.t W3 hct hcm HJ.out).mono ?_
      rintro e w9 ⟨rfl,b9⟩
      have z9:=b9.size
      have BB:Below W2.heap.size W2 w9:=(bel2.trans (B3.mono (by omega))).trans (b9.mono (by omega))
      have T9:=T3.below b9 (by omega)
      have U9:=U3.below b9 (by omega)
      have R9:=R3.below b9 (by omega)
      have hp9:p<W3.heap.size:=by omega
      have hg9:g8<W3.heap.size:=by omega
      have m9:=(b9.cell (p:=⟨p,4,none⟩) hp9).trans m3
      have k09:=(b9.cell (p:=⟨g8,k*10,none⟩) hg9).trans k03
      clear t3_0 u3_0 t3_1 u3_1 t3_2 u3_2 t3_3 u3_3 t3_4 u3_4 t3_5 u3_5 t3_6 u3_6 t3_7 u3_7 t3_8 u3_8 m3 k03 k0 k1 k2 k3 k4 k5 k6 k7 k8 k9 m8 hW3' T3 U3 R3
      cases r with
      |true=>
       have HF:Hid (acr c0.t 0 S.C=some (c,0)):=by unfold Hid;rw [HAC.out];exact acr_found HX.out (by decide) HNo.out HJ.out.symm
       have t9x:=T9.cell 5 _ rfl
       have t9y:=T9.cell 6 _ rfl
       obtain⟨W5,hW5⟩: ∃ W,W=w9.alloc (.cells ([.int .i64 c0.t.x1, .int .i64 c0.t.y1]:List Value).toArray 32):=⟨_,rfl⟩
       have B5:Below w9.heap.size w9 W5:=by rw [hW5];exact(Below.refl _ _).alloc (Nat.le_refl _) _
       have z5:W5.heap.size=w9.heap.size+1:=by rw [hW5];simp
       have O5:Row W5 w9.heap.size [.int .i64 c0.t.x1, .int .i64 c0.t.y1]:=by rw [hW5];exact Row.new w9 _ _
       have hW5':w9.alloc (.cells #[.int .i64 c0.t.x1, .int .i64 c0.t.y1] 32)=W5:=hW5.symm
       have U5:=U9.below B5 (by omega)
       have R5:=R9.below B5 (by omega)
       have ox:=O5.cell 0 _ rfl
       have oy:=O5.cell 1 _ rfl
       have ux:=U5.cell 3 _ rfl
       have uy:=U5.cell 4 _ rfl
       have m5:=(B5.cell (p:=⟨p,4,none⟩) (Nat.lt_of_lt_of_le hp9 z9)).trans m9
       have k05:=(B5.cell (p:=⟨g8,k*10,none⟩) (Nat.lt_of_lt_of_le hg9 z9)).trans k09
       have wj:(IntKind.i64.wrap 2).tmod 3=2:=by decide
       have r0:=R5.cell 0 _ rfl
       have r1:=R5.cell 1 _ rfl
       have f0:=R5.free 0 (by simp)
       have f1:=R5.free 1 (by simp)
       have qct:=hct.all
       have qcm:=hcm.all
       obtain⟨dx,gdx⟩: ∃ dx,dx=c0.t.x1- c.t.x0:=⟨_,rfl⟩
       have vdx:IntKind.i64.wrap (c0.t.x1- c.t.x0)=dx:=by rw [wrap_i64,gdx];unfold wrap64;omega
       have Gdx:Hid _:=gdx
       clear gdx
       obtain⟨dy,gdy⟩: ∃ dy,dy=c0.t.y1- c.t.y0:=⟨_,rfl⟩
       have vdy:IntKind.i64.wrap (c0.t.y1- c.t.y0)=dy:=by rw [wrap_i64,gdy];unfold wrap64;omega
       have Gdy:Hid _:=gdy
       clear gdy
       clear hW5 qct qcm 
       go_wp2
       refine wp_region_held_drew (S:=fun w'=>w'.cell? ⟨p,4,none⟩=some (.slice (some ⟨g8,0,none⟩) nn cp8)∧w'.cell? ⟨g8,k*10,none⟩=some (.int .i64 c.no)∧w'.cell? ⟨w9.heap.size,0,none⟩=some (.int .i64 c0.t.x1)∧w'.cell? ⟨w9.heap.size,1,none⟩=some (.int .i64 c0.t.y1)∧w'.cell? ⟨wr.heap.size,3,none⟩=some (.int .i64 c.t.x0)∧w'.cell? ⟨wr.heap.size,4,none⟩=some (.int .i64 c.t.y0)) (by kernel_rfl) ?_ (fun hHeld=>?_)
       ·exact⟨m5,k05,ox,oy,ux,uy⟩
       refine tn 0 ?_;refine tn 1 ?_;refine tn 2 ?_;refine tn 3 ?_;refine tn 4 ?_;refine tn 5 ?_;refine tn 6 ?_;refine tn 7 ?_;refine tn 8 ?_;refine tn 9 ?_;refine tn 10 ?_;refine tn 11 ?_;refine tn 12 ?_;refine tn 13 ?_;refine tn 14 ?_;refine tn 15 ?_;refine tn 16 ?_;refine tn 17 ?_;refine tn 18 ?_;refine tn 19 ?_;refine tn 20 ?_;refine tn 21 ?_;refine tn 22 ?_;refine tn 23 ?_;refine tn 24 ?_;refine tn 25 ?_;refine tn 26 ?_;refine tn 27 ?_;refine tn 28 ?_;refine tn 29 ?_
       simp only [Act.put,ps1,ps2,ps3]
       refine tcl 30 fun Kc hK=>?_
       go_simp
       refine hK.out _ _ ?_ (fun hHeld=>?_)
       ·exact⟨(World.cell?_setCell_other _ _ _ _ (by intro q;simp only [Addr.mk.injEq]at q;omega)).trans ((World.cell?_setCell_other _ _ _ _ (by intro q;simp only [Addr.mk.injEq]at q;omega)).trans m5),(World.cell?_setCell_other _ _ _ _ (by intro q;simp only [Addr.mk.injEq]at q;omega)).trans ((World.cell?_setCell_other _ _ _ _ (by intro q;simp only [Addr.mk.injEq]at q;omega)).trans k05),(World.cell?_setCell_other _ _ _ _ (by intro q;simp only [Addr.mk.injEq]at q;omega)).trans ((World.cell?_setCell_other _ _ _ _ (by intro q;simp only [Addr.mk.injEq]at q;omega)).trans ox),(World.cell?_setCell_other _ _ _ _ (by intro q;simp only [Addr.mk.injEq]at q;omega)).trans ((World.cell?_setCell_other _ _ _ _ (by intro q;simp only [Addr.mk.injEq]at q;omega)).trans oy),(World.cell?_setCell_other _ _ _ _ (by intro q;simp only [Addr.mk.injEq]at q;omega)).trans ((World.cell?_setCell_other _ _ _ _ (by intro q;simp only [Addr.mk.injEq]at q;omega)).trans ux),(World.cell?_setCell_other _ _ _ _ (by intro q;simp only [Addr.mk.injEq]at q;omega)).trans ((World.cell?_setCell_other _ _ _ _ (by intro q;simp only [Addr.mk.injEq]at q;omega)).trans uy)⟩
       clear hK Kc
       refine tz (i:=31) rfl ?_
       simp only [Act.put,ps1,ps2,ps3]
       refine wpAnyH_done (by kernel_rfl) ?_ _
       have rC:=(R5.set 0 (.int .i64 dx) (by simp)).set 1 (.int .i64 dy) (by simp)
       have rc0:=rC.cell 0 _ rfl
       have rc1:=rC.cell 1 _ rfl
       go_wp2
       have BF:Below w.heap.size w W5:=(BW.trans (BB.mono (by omega))).trans (B5.mono (by omega))
       refine bodyPost_ret (v:= .tuple #[.int .i64 c.no, .int .i64 2, .agg #[.int .i64 dx, .int .i64 dy], .bool true]) (by simp [results,Tryz.results29,go_sem, *]) rfl ⟨?_,below_put2 BF.drew (by omega) _ _⟩
       rw [HF.out,Gdx.out,Gdy.out]
       rfl
      |false=>
       go_wp2
       go_roundw
       case rel=>exact⟨1,by omega,by simp,(fun j' h'=>if e:j'=0 then by rw [e];exact HJ.out.symm else HNo.out j' (by omega)),BB⟩
       case measure=>simp [intOf]
     ·obtain⟨r,hr⟩: ∃ r,r=opp c0.t 0 c.t 1:=⟨_,rfl⟩
      have HJ:Hid _:=hr
      clear hr
      go_wp2_with (go_at_call 63;fail)
      refine(twin_01r c0.t c.t W3 hct hcm HJ.out).mono ?_
      rintro e w9 ⟨rfl,b9⟩
      have z9:=b9.size
      have BB:Below W2.heap.size W2 w9:=(bel2.trans (B3.mono (by omega))).trans (b9.mono (by omega))
      have T9:=T3.below b9 (by omega)
      have U9:=U3.below b9 (by omega)
      have R9:=R3.below b9 (by omega)
      have hp9:p<W3.heap.size:=by omega
      have hg9:g8<W3.heap.size:=by omega
      have m9:=(b9.cell (p:=⟨p,4,none⟩) hp9).trans m3
      have k09:=(b9.cell (p:=⟨g8,k*10,none⟩) hg9).trans k03
      clear t3_0 u3_0 t3_1 u3_1 t3_2 u3_2 t3_3 u3_3 t3_4 u3_4 t3_5 u3_5 t3_6 u3_6 t3_7 u3_7 t3_8 u3_8 m3 k03 k0 k1 k2 k3 k4 k5 k6 k7 k8 k9 m8 hW3' T3 U3 R3
      cases r with
      |true=>
       have HF:Hid (acr c0.t 0 S.C=some (c,1)):=by unfold Hid;rw [HAC.out];exact acr_found HX.out (by decide) HNo.out HJ.out.symm
       have t9x:=T9.cell 5 _ rfl
       have t9y:=T9.cell 6 _ rfl
       obtain⟨W5,hW5⟩: ∃ W,W=w9.alloc (.cells ([.int .i64 c0.t.x1, .int .i64 c0.t.y1]:List Value).toArray 32):=⟨_,rfl⟩
       have B5:Below w9.heap.size w9 W5:=by rw [hW5];exact(Below.refl _ _).alloc (Nat.le_refl _) _
       have z5:W5.heap.size=w9.heap.size+1:=by rw [hW5];simp
       have O5:Row W5 w9.heap.size [.int .i64 c0.t.x1, .int .i64 c0.t.y1]:=by rw [hW5];exact Row.new w9 _ _
       have hW5':w9.alloc (.cells #[.int .i64 c0.t.x1, .int .i64 c0.t.y1] 32)=W5:=hW5.symm
       have U5:=U9.below B5 (by omega)
       have R5:=R9.below B5 (by omega)
       have ox:=O5.cell 0 _ rfl
       have oy:=O5.cell 1 _ rfl
       have ux:=U5.cell 5 _ rfl
       have uy:=U5.cell 6 _ rfl
       have m5:=(B5.cell (p:=⟨p,4,none⟩) (Nat.lt_of_lt_of_le hp9 z9)).trans m9
       have k05:=(B5.cell (p:=⟨g8,k*10,none⟩) (Nat.lt_of_lt_of_le hg9 z9)).trans k09
       have wj:(IntKind.i64.wrap 3).tmod 3=0:=by decide
       have r0:=R5.cell 0 _ rfl
       have r1:=R5.cell 1 _ rfl
       have f0:=R5.free 0 (by simp)
       have f1:=R5.free 1 (by simp)
       have qct:=hct.all
       have qcm:=hcm.all
       obtain⟨dx,gdx⟩: ∃ dx,dx=c0.t.x1- c.t.x1:=⟨_,rfl⟩
       have vdx:IntKind.i64.wrap (c0.t.x1- c.t.x1)=dx:=by rw [wrap_i64,gdx];unfold wrap64;omega
       have Gdx:Hid _:=gdx
       clear gdx
       obtain⟨dy,gdy⟩: ∃ dy,dy=c0.t.y1- c.t.y1:=⟨_,rfl⟩
       have vdy:IntKind.i64.wrap (c0.t.y1- c.t.y1)=dy:=by rw [wrap_i64,gdy];unfold wrap64;omega
       have Gdy:Hid _:=gdy
       clear gdy
       clear hW5 qct qcm 
       go_wp2
       refine wp_region_held_drew (S:=fun w'=>w'.cell? ⟨p,4,none⟩=some (.slice (some ⟨g8,0,none⟩) nn cp8)∧w'.cell? ⟨g8,k*10,none⟩=some (.int .i64 c.no)∧w'.cell? ⟨w9.heap.size,0,none⟩=some (.int .i64 c0.t.x1)∧w'.cell? ⟨w9.heap.size,1,none⟩=some (.int .i64 c0.t.y1)∧w'.cell? ⟨wr.heap.size,5,none⟩=some (.int .i64 c.t.x1)∧w'.cell? ⟨wr.heap.size,6,none⟩=some (.int .i64 c.t.y1)) (by kernel_rfl) ?_ (fun hHeld=>?_)
       ·exact⟨m5,k05,ox,oy,ux,uy⟩
       refine tn 0 ?_;refine tn 1 ?_;refine tn 2 ?_;refine tn 3 ?_;refine tn 4 ?_;refine tn 5 ?_;refine tn 6 ?_;refine tn 7 ?_;refine tn 8 ?_;refine tn 9 ?_;refine tn 10 ?_;refine tn 11 ?_;refine tn 12 ?_;refine tn 13 ?_;refine tn 14 ?_;refine tn 15 ?_;refine tn 16 ?_;refine tn 17 ?_;refine tn 18 ?_;refine tn 19 ?_;refine tn 20 ?_;refine tn 21 ?_;refine tn 22 ?_;refine tn 23 ?_;refine tn 24 ?_;refine tn 25 ?_;refine tn 26 ?_;refine tn 27 ?_;refine tn 28 ?_;refine tn 29 ?_
       simp only [Act.put,ps1,ps2,ps3]
       refine tcl 30 fun Kc hK=>?_
       go_simp
       refine hK.out _ _ ?_ (fun hHeld=>?_)
       ·exact⟨(World.cell?_setCell_other _ _ _ _ (by intro q;simp only [Addr.mk.injEq]at q;omega)).trans ((World.cell?_setCell_other _ _ _ _ (by intro q;simp only [Addr.mk.injEq]at q;omega)).trans m5),(World.cell?_setCell_other _ _ _ _ (by intro q;simp only [Addr.mk.injEq]at q;omega)).trans ((World.cell?_setCell_other _ _ _ _ (by intro q;simp only [Addr.mk.injEq]at q;omega)).trans k05),(World.cell?_setCell_other _ _ _ _ (by intro q;simp only [Addr.mk.injEq]at q;omega)).trans ((World.cell?_setCell_other _ _ _ _ (by intro q;simp only [Addr.mk.injEq]at q;omega)).trans ox),(World.cell?_setCell_other _ _ _ _ (by intro q;simp only [Addr.mk.injEq]at q;omega)).trans ((World.cell?_setCell_other _ _ _ _ (by intro q;simp only [Addr.mk.injEq]at q;omega)).trans oy),(World.cell?_setCell_other _ _ _ _ (by intro q;simp only [Addr.mk.injEq]at q;omega)).trans ((World.cell?_setCell_other _ _ _ _ (by intro q;simp only [Addr.mk.injEq]at q;omega)).trans ux),(World.cell?_setCell_other _ _ _ _ (by intro q;simp only [Addr.mk.injEq]at q;omega)).trans ((World.cell?_setCell_other _ _ _ _ (by intro q;simp only [Addr.mk.injEq]at q;omega)).trans uy)⟩
       clear hK Kc
       refine tz (i:=31) rfl ?_
       simp only [Act.put,ps1,ps2,ps3]
       refine wpAnyH_done (by kernel_rfl) ?_ _
       have rC:=(R5.set 0 (.int .i64 dx) (by simp)).set 1 (.int .i64 dy) (by simp)
       have rc0:=rC.cell 0 _ rfl
       have rc1:=rC.cell 1 _ rfl
       go_wp2
       have BF:Below w.heap.size w W5:=(BW.trans (BB.mono (by omega))).trans (B5.mono (by omega))
       refine bodyPost_ret (v:= .tuple #[.int .i64 c.no, .int .i64 0, .agg #[.int .i64 dx, .int .i64 dy], .bool true]) (by simp [results,Tryz.results29,go_sem, *]) rfl ⟨?_,below_put2 BF.drew (by omega) _ _⟩
       rw [HF.out,Gdx.out,Gdy.out]
       rfl
      |false=>
       go_wp2
       go_roundw
       case rel=>exact⟨2,by omega,by simp,(fun j' h'=>if e:j'=1 then by rw [e];exact HJ.out.symm else HNo.out j' (by omega)),BB⟩
       case measure=>simp [intOf]
     ·obtain⟨r,hr⟩: ∃ r,r=opp c0.t 0 c.t 2:=⟨_,rfl⟩
      have HJ:Hid _:=hr
      clear hr
      go_wp2_with (go_at_call 63;fail)
      refine(twin_02r c0.t c.t W3 hct hcm HJ.out).mono ?_
      rintro e w9 ⟨rfl,b9⟩
      have z9:=b9.size
      have BB:Below W2.heap.size W2 w9:=(bel2.trans (B3.mono (by omega))).trans (b9.mono (by omega))
      have T9:=T3.below b9 (by omega)
      have U9:=U3.below b9 (by omega)
      have R9:=R3.below b9 (by omega)
      have hp9:p<W3.heap.size:=by omega
      have hg9:g8<W3.heap.size:=by omega
      have m9:=(b9.cell (p:=⟨p,4,none⟩) hp9).trans m3
      have k09:=(b9.cell (p:=⟨g8,k*10,none⟩) hg9).trans k03
      clear t3_0 u3_0 t3_1 u3_1 t3_2 u3_2 t3_3 u3_3 t3_4 u3_4 t3_5 u3_5 t3_6 u3_6 t3_7 u3_7 t3_8 u3_8 m3 k03 k0 k1 k2 k3 k4 k5 k6 k7 k8 k9 m8 hW3' T3 U3 R3
      cases r with
      |true=>
       have HF:Hid (acr c0.t 0 S.C=some (c,2)):=by unfold Hid;rw [HAC.out];exact acr_found HX.out (by decide) HNo.out HJ.out.symm
       have t9x:=T9.cell 5 _ rfl
       have t9y:=T9.cell 6 _ rfl
       obtain⟨W5,hW5⟩: ∃ W,W=w9.alloc (.cells ([.int .i64 c0.t.x1, .int .i64 c0.t.y1]:List Value).toArray 32):=⟨_,rfl⟩
       have B5:Below w9.heap.size w9 W5:=by rw [hW5];exact(Below.refl _ _).alloc (Nat.le_refl _) _
       have z5:W5.heap.size=w9.heap.size+1:=by rw [hW5];simp
       have O5:Row W5 w9.heap.size [.int .i64 c0.t.x1, .int .i64 c0.t.y1]:=by rw [hW5];exact Row.new w9 _ _
       have hW5':w9.alloc (.cells #[.int .i64 c0.t.x1, .int .i64 c0.t.y1] 32)=W5:=hW5.symm
       have U5:=U9.below B5 (by omega)
       have R5:=R9.below B5 (by omega)
       have ox:=O5.cell 0 _ rfl
       have oy:=O5.cell 1 _ rfl
       have ux:=U5.cell 7 _ rfl
       have uy:=U5.cell 8 _ rfl
       have m5:=(B5.cell (p:=⟨p,4,none⟩) (Nat.lt_of_lt_of_le hp9 z9)).trans m9
       have k05:=(B5.cell (p:=⟨g8,k*10,none⟩) (Nat.lt_of_lt_of_le hg9 z9)).trans k09
       have wj:(IntKind.i64.wrap 4).tmod 3=1:=by decide
       have r0:=R5.cell 0 _ rfl
       have r1:=R5.cell 1 _ rfl
       have f0:=R5.free 0 (by simp)
       have f1:=R5.free 1 (by simp)
       have qct:=hct.all
       have qcm:=hcm.all
       obtain⟨dx,gdx⟩: ∃ dx,dx=c0.t.x1- c.t.x2:=⟨_,rfl⟩
       have vdx:IntKind.i64.wrap (c0.t.x1- c.t.x2)=dx:=by rw [wrap_i64,gdx];unfold wrap64;omega
       have Gdx:Hid _:=gdx
       clear gdx
       obtain⟨dy,gdy⟩: ∃ dy,dy=c0.t.y1- c.t.y2:=⟨_,rfl⟩
       have vdy:IntKind.i64.wrap (c0.t.y1- c.t.y2)=dy:=by rw [wrap_i64,gdy];unfold wrap64;omega
       have Gdy:Hid _:=gdy
       clear gdy
       clear hW5 qct qcm 
       go_wp2
       refine wp_region_held_drew (S:=fun w'=>w'.cell? ⟨p,4,none⟩=some (.slice (some ⟨g8,0,none⟩) nn cp8)∧w'.cell? ⟨g8,k*10,none⟩=some (.int .i64 c.no)∧w'.cell? ⟨w9.heap.size,0,none⟩=some (.int .i64 c0.t.x1)∧w'.cell? ⟨w9.heap.size,1,none⟩=some (.int .i64 c0.t.y1)∧w'.cell? ⟨wr.heap.size,7,none⟩=some (.int .i64 c.t.x2)∧w'.cell? ⟨wr.heap.size,8,none⟩=some (.int .i64 c.t.y2)) (by kernel_rfl) ?_ (fun hHeld=>?_)
       ·exact⟨m5,k05,ox,oy,ux,uy⟩
       refine tn 0 ?_;refine tn 1 ?_;refine tn 2 ?_;refine tn 3 ?_;refine tn 4 ?_;refine tn 5 ?_;refine tn 6 ?_;refine tn 7 ?_;refine tn 8 ?_;refine tn 9 ?_;refine tn 10 ?_;refine tn 11 ?_;refine tn 12 ?_;refine tn 13 ?_;refine tn 14 ?_;refine tn 15 ?_;refine tn 16 ?_;refine tn 17 ?_;refine tn 18 ?_;refine tn 19 ?_;refine tn 20 ?_;refine tn 21 ?_;refine tn 22 ?_;refine tn 23 ?_;refine tn 24 ?_;refine tn 25 ?_;refine tn 26 ?_;refine tn 27 ?_;refine tn 28 ?_;refine tn 29 ?_
       simp only [Act.put,ps1,ps2,ps3]
       refine tcl 30 fun Kc hK=>?_
       go_simp
       refine hK.out _ _ ?_ (fun hHeld=>?_)
       ·exact⟨(World.cell?_setCell_other _ _ _ _ (by intro q;simp only [Addr.mk.injEq]at q;omega)).trans ((World.cell?_setCell_other _ _ _ _ (by intro q;simp only [Addr.mk.injEq]at q;omega)).trans m5),(World.cell?_setCell_other _ _ _ _ (by intro q;simp only [Addr.mk.injEq]at q;omega)).trans ((World.cell?_setCell_other _ _ _ _ (by intro q;simp only [Addr.mk.injEq]at q;omega)).trans k05),(World.cell?_setCell_other _ _ _ _ (by intro q;simp only [Addr.mk.injEq]at q;omega)).trans ((World.cell?_setCell_other _ _ _ _ (by intro q;simp only [Addr.mk.injEq]at q;omega)).trans ox),(World.cell?_setCell_other _ _ _ _ (by intro q;simp only [Addr.mk.injEq]at q;omega)).trans ((World.cell?_setCell_other _ _ _ _ (by intro q;simp only [Addr.mk.injEq]at q;omega)).trans oy),(World.cell?_setCell_other _ _ _ _ (by intro q;simp only [Addr.mk.injEq]at q;omega)).trans ((World.cell?_setCell_other _ _ _ _ (by intro q;simp only [Addr.mk.injEq]at q;omega)).trans ux),(World.cell?_setCell_other _ _ _ _ (by intro q;simp only [Addr.mk.injEq]at q;omega)).trans ((World.cell?_setCell_other _ _ _ _ (by intro q;simp only [Addr.mk.injEq]at q;omega)).trans uy)⟩
       clear hK Kc
       refine tz (i:=31) rfl ?_
       simp only [Act.put,ps1,ps2,ps3]
       refine wpAnyH_done (by kernel_rfl) ?_ _
       have rC:=(R5.set 0 (.int .i64 dx) (by simp)).set 1 (.int .i64 dy) (by simp)
       have rc0:=rC.cell 0 _ rfl
       have rc1:=rC.cell 1 _ rfl
       go_wp2
       have BF:Below w.heap.size w W5:=(BW.trans (BB.mono (by omega))).trans (B5.mono (by omega))
       refine bodyPost_ret (v:= .tuple #[.int .i64 c.no, .int .i64 1, .agg #[.int .i64 dx, .int .i64 dy], .bool true]) (by simp [results,Tryz.results29,go_sem, *]) rfl ⟨?_,below_put2 BF.drew (by omega) _ _⟩
       rw [HF.out,Gdx.out,Gdy.out]
       rfl
      |false=>
       go_wp2
       go_roundw
       case rel=>exact⟨3,by omega,by simp,(fun j' h'=>if e:j'=2 then by rw [e];exact HJ.out.symm else HNo.out j' (by omega)),BB⟩
       case measure=>simp [intOf]
    ·obtain rfl:j=3:=by omega
     have HT:Hid (acr c0.t 0 S.C=acr c0.t 0 (S.C.drop (k+1))):=by unfold Hid;rw [HAC.out];exact acr_on HX.out hno
     clear hno
     go_wp2
     go_roundw
     case rel=>exact⟨k+1,by have:=HNN.out;omega,by simp,HT.out,bel2⟩
     case measure=>have:=HNN.out;simp [intOf];omega
  ·obtain rfl:k=S.C.length:=by omega
   have HT:Hid (acr c0.t 0 S.C=none):=by unfold Hid;rw [hac,List.drop_length];rfl
   obtain⟨y1,y2,ya,yca,yb,ycb,hrow⟩:=(L2.out.below bel).row
   have m2:=hrow.cell 4 _ rfl
   rw [←HNN.out]at m2 ⊢
   have R8:=R2.below bel (by omega)
   have r0:=R8.cell 0 _ rfl
   have r1:=R8.cell 1 _ rfl
   have f0:=R8.free 0 (by simp)
   have f1:=R8.free 1 (by simp)
   have rC:=(R8.set 0 (.int .i64 0) (by simp)).set 1 (.int .i64 0) (by simp)
   have rc0:=rC.cell 0 _ rfl
   have rc1:=rC.cell 1 _ rfl
   clear hac hrow
   go_wp2
   refine bodyPost_ret (v:= .tuple #[.int .i64 (-1), .int .i64 0, .agg #[.int .i64 0, .int .i64 0], .bool false]) (by simp [results,Tryz.results29,go_sem, *]) rfl ⟨?_,below_put2 (BW.trans (bel.mono (by omega))) (by omega) _ _⟩
   rw [HT.out]
   rfl
end Go.Proofs.YtaadknpjbogkbaaGreat
