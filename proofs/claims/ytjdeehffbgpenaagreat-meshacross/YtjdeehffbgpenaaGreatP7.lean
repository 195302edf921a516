/-
  Joined texts, part 7:
  What zelligeref11's Twin answers, corner 1, the same way.
  What zelligeref11's Twin answers, corner 2, the same way.
  What zelligeref11's Twin answers, of any corners.
  What zelligeref11's Across answers, in numbers.
  What zelligeref11's Across answers.
  What the program's mesh must do (its own shape in memory is left open: MP): the laws of layer 11 are walked over this.
  Plain arithmetic of numbers of two words: what word a sum, a difference and a product have. It imports nothing of the program.
  What package wide's smallest functions answer: a sum, a difference, a number with the other sign, as words.
  wide.Mul, Cmp, Sign, and the product whose text every law of this layer looks at.
  What package pred's can, area2, dist2, turn, Area2, Orient and Dist2 answer.
  What zelligeref07's diff, Area and Dist answer.
-/
import Derived.Test.YtjdeehffbgpenaaGreatP6
import Derived.WalkKit
import Derived.Laws.Bits64b
import Derived.Test.YtjdeehffbgpenaaGreatRows
import Derived.WalkSpells
import Derived.StillTactics
import Derived.Laws.Pointers
import Derived.Laws.Externs
import Derived.Shelf.Spec.BitsCarry
import Derived.RowKit3
import Derived.Laws.BytesArg
import Derived.WalkSmall
import Derived.Deep.QuietTactic
import Derived.BigQuiet
namespace Go.Proofs.YtjdeehffbgpenaaGreat
open Go.RowKit
set_option linter.unusedVariables false


set_option maxRecDepth 100000 in
set_option maxHeartbeats 1000000 in
theorem twin_10s (a b : Tr) (w : World) (ha : offB a) (hb : offB b) {r : Bool} (hr : r = same a 1 b 0) :
    Calls Tryz.prog 55 #[trV a, .int .i64 1, trV b, .int .i64 0, .bool false] w fun e w' => e = .returned (.bool r) ∧ Below w.heap.size w w' := by
  have hB : ∀ o o' n, Below w.heap.size w (((w.alloc o).alloc o').drewN n) := fun o o' n => (((Below.refl _ _).alloc (Nat.le_refl _) _).alloc (by simp) _).trans ⟨rfl, rfl, rfl, Nat.le_refl _, fun _ _ => rfl⟩
  have ha := ha.all
  have hb := hb.all
  obtain ⟨a0, a1, a2, x0, y0, x1, y1, x2, y2⟩ := a
  obtain ⟨b0, b1, b2, s0, t0, s1, t1, s2, t2⟩ := b
  simp only [] at ha hb
  have hr' : r = (decide (a1 = b0) && (decide (a2 = b1) && (decide (x2 - x1 = s1 - s0) && decide (y2 - y1 = t1 - t0)))) := by
    rw [hr]; simp [same, nx, Tr.v, Tr.x, Tr.y]
  clear hr
  obtain ⟨dx, gdx⟩ : ∃ dx, dx = x2 - x1 := ⟨_, rfl⟩
  have vdx : IntKind.i64.wrap (x2 - x1) = dx := by rw [wrap_i64, gdx]; unfold wrap64; omega
  have udx : wrap64 (x2 - x1) = dx := by rw [gdx]; unfold wrap64; omega
  obtain ⟨ex, gex⟩ : ∃ ex, ex = s1 - s0 := ⟨_, rfl⟩
  have vex : IntKind.i64.wrap (s1 - s0) = ex := by rw [wrap_i64, gex]; unfold wrap64; omega
  have uex : wrap64 (s1 - s0) = ex := by rw [gex]; unfold wrap64; omega
  obtain ⟨dy, gdy⟩ : ∃ dy, dy = y2 - y1 := ⟨_, rfl⟩
  have vdy : IntKind.i64.wrap (y2 - y1) = dy := by rw [wrap_i64, gdy]; unfold wrap64; omega
  have udy : wrap64 (y2 - y1) = dy := by rw [gdy]; unfold wrap64; omega
  obtain ⟨ey, gey⟩ : ∃ ey, ey = t1 - t0 := ⟨_, rfl⟩
  have vey : IntKind.i64.wrap (t1 - t0) = ey := by rw [wrap_i64, gey]; unfold wrap64; omega
  have uey : wrap64 (t1 - t0) = ey := by rw [gey]; unfold wrap64; omega
  rw [← gdx, ← gex, ← gdy, ← gey] at hr'
  have HR : Hid _ := hr'
  clear hr'
  clear gdx gex gdy gey ha hb
  by_cases h0 : a1 = b0
  · have e0 : (a1 == b0) = true := by simpa using h0
    by_cases h1 : a2 = b1
    · have e1 : (a2 == b1) = true := by simpa using h1
      by_cases h2 : dx = ex
      · have e2 : (dx == ex) = true := by simpa using h2
        have e3 : (dy == ey) = r := by rw [HR.out, decide_eq_true h0, decide_eq_true h1, decide_eq_true h2]; rfl
        clear h0 h1 h2 HR
        go_enter Tryz.func55, Tryz.ntmps55
        go_wp2
        dsimp only [List.append]
        go_quiet (fail)
        go_wp2
        go_ret
        exact ⟨by rw [← e3]; rfl, hB _ _ _⟩
      · have e2 : (dx == ex) = false := by simpa using h2
        obtain rfl : r = false := by rw [HR.out, decide_eq_false h2]; simp
        clear h0 h1 h2 HR
        go_enter Tryz.func55, Tryz.ntmps55
        go_wp2
        dsimp only [List.append]
        go_quiet (fail)
        go_wp2
        go_ret
        exact ⟨rfl, hB _ _ _⟩
    · have e1 : (a2 == b1) = false := by simpa using h1
      obtain rfl : r = false := by rw [HR.out, decide_eq_false h1]; simp
      clear h0 h1 HR
      go_enter Tryz.func55, Tryz.ntmps55
      go_wp2
      dsimp only [List.append]
      go_quiet (fail)
      go_wp2
      go_ret
      exact ⟨rfl, hB _ _ _⟩
  · have e0 : (a1 == b0) = false := by simpa using h0
    obtain rfl : r = false := by rw [HR.out, decide_eq_false h0]; simp
    clear h0 HR
    go_enter Tryz.func55, Tryz.ntmps55
    go_wp2
    dsimp only [List.append]
    go_quiet (fail)
    go_wp2
    go_ret
    exact ⟨rfl, hB _ _ _⟩
set_option maxRecDepth 100000 in
set_option maxHeartbeats 1000000 in
theorem twin_11s (a b : Tr) (w : World) (ha : offB a) (hb : offB b) {r : Bool} (hr : r = same a 1 b 1) :
    Calls Tryz.prog 55 #[trV a, .int .i64 1, trV b, .int .i64 1, .bool false] w fun e w' => e = .returned (.bool r) ∧ Below w.heap.size w w' := by
  have hB : ∀ o o' n, Below w.heap.size w (((w.alloc o).alloc o').drewN n) := fun o o' n => (((Below.refl _ _).alloc (Nat.le_refl _) _).alloc (by simp) _).trans ⟨rfl, rfl, rfl, Nat.le_refl _, fun _ _ => rfl⟩
  have ha := ha.all
  have hb := hb.all
  obtain ⟨a0, a1, a2, x0, y0, x1, y1, x2, y2⟩ := a
  obtain ⟨b0, b1, b2, s0, t0, s1, t1, s2, t2⟩ := b
  simp only [] at ha hb
  have hr' : r = (decide (a1 = b1) && (decide (a2 = b2) && (decide (x2 - x1 = s2 - s1) && decide (y2 - y1 = t2 - t1)))) := by
    rw [hr]; simp [same, nx, Tr.v, Tr.x, Tr.y]
  clear hr
  obtain ⟨dx, gdx⟩ : ∃ dx, dx = x2 - x1 := ⟨_, rfl⟩
  have vdx : IntKind.i64.wrap (x2 - x1) = dx := by rw [wrap_i64, gdx]; unfold wrap64; omega
  have udx : wrap64 (x2 - x1) = dx := by rw [gdx]; unfold wrap64; omega
  obtain ⟨ex, gex⟩ : ∃ ex, ex = s2 - s1 := ⟨_, rfl⟩
  have vex : IntKind.i64.wrap (s2 - s1) = ex := by rw [wrap_i64, gex]; unfold wrap64; omega
  have uex : wrap64 (s2 - s1) = ex := by rw [gex]; unfold wrap64; omega
  obtain ⟨dy, gdy⟩ : ∃ dy, dy = y2 - y1 := ⟨_, rfl⟩
  have vdy : IntKind.i64.wrap (y2 - y1) = dy := by rw [wrap_i64, gdy]; unfold wrap64; omega
  have udy : wrap64 (y2 - y1) = dy := by rw [gdy]; unfold wrap64; omega
  obtain ⟨ey, gey⟩ : ∃ ey, ey = t2 - t1 := ⟨_, rfl⟩
  have vey : IntKind.i64.wrap (t2 - t1) = ey := by rw [wrap_i64, gey]; unfold wrap64; omega
  have uey : wrap64 (t2 - t1) = ey := by rw [gey]; unfold wrap64; omega
  rw [← gdx, ← gex, ← gdy, ← gey] at hr'
  have HR : Hid _ := hr'
  clear hr'
  clear gdx gex gdy gey ha hb
  by_cases h0 : a1 = b1
  · have e0 : (a1 == b1) = true := by simpa using h0
    by_cases h1 : a2 = b2
    · have e1 : (a2 == b2) = true := by simpa using h1
      by_cases h2 : dx = ex
      · have e2 : (dx == ex) = true := by simpa using h2
        have e3 : (dy == ey) = r := by rw [HR.out, decide_eq_true h0, decide_eq_true h1, decide_eq_true h2]; rfl
        clear h0 h1 h2 HR
        go_enter Tryz.func55, Tryz.ntmps55
        go_wp2
        dsimp only [List.append]
        go_quiet (fail)
        go_wp2
        go_ret
        exact ⟨by rw [← e3]; rfl, hB _ _ _⟩
      · have e2 : (dx == ex) = false := by simpa using h2
        obtain rfl : r = false := by rw [HR.out, decide_eq_false h2]; simp
        clear h0 h1 h2 HR
        go_enter Tryz.func55, Tryz.ntmps55
        go_wp2
        dsimp only [List.append]
        go_quiet (fail)
        go_wp2
        go_ret
        exact ⟨rfl, hB _ _ _⟩
    · have e1 : (a2 == b2) = false := by simpa using h1
      obtain rfl : r = false := by rw [HR.out, decide_eq_false h1]; simp
      clear h0 h1 HR
      go_enter Tryz.func55, Tryz.ntmps55
      go_wp2
      dsimp only [List.append]
      go_quiet (fail)
      go_wp2
      go_ret
      exact ⟨rfl, hB _ _ _⟩
  · have e0 : (a1 == b1) = false := by simpa using h0
    obtain rfl : r = false := by rw [HR.out, decide_eq_false h0]; simp
    clear h0 HR
    go_enter Tryz.func55, Tryz.ntmps55
    go_wp2
    dsimp only [List.append]
    go_quiet (fail)
    go_wp2
    go_ret
    exact ⟨rfl, hB _ _ _⟩
set_option maxRecDepth 100000 in
set_option maxHeartbeats 1000000 in
theorem twin_12s (a b : Tr) (w : World) (ha : offB a) (hb : offB b) {r : Bool} (hr : r = same a 1 b 2) :
    Calls Tryz.prog 55 #[trV a, .int .i64 1, trV b, .int .i64 2, .bool false] w fun e w' => e = .returned (.bool r) ∧ Below w.heap.size w w' := by
  have hB : ∀ o o' n, Below w.heap.size w (((w.alloc o).alloc o').drewN n) := fun o o' n => (((Below.refl _ _).alloc (Nat.le_refl _) _).alloc (by simp) _).trans ⟨rfl, rfl, rfl, Nat.le_refl _, fun _ _ => rfl⟩
  have ha := ha.all
  have hb := hb.all
  obtain ⟨a0, a1, a2, x0, y0, x1, y1, x2, y2⟩ := a
  obtain ⟨b0, b1, b2, s0, t0, s1, t1, s2, t2⟩ := b
  simp only [] at ha hb
  have hr' : r = (decide (a1 = b2) && (decide (a2 = b0) && (decide (x2 - x1 = s0 - s2) && decide (y2 - y1 = t0 - t2)))) := by
    rw [hr]; simp [same, nx, Tr.v, Tr.x, Tr.y]
  clear hr
  obtain ⟨dx, gdx⟩ : ∃ dx, dx = x2 - x1 := ⟨_, rfl⟩
  have vdx : IntKind.i64.wrap (x2 - x1) = dx := by rw [wrap_i64, gdx]; unfold wrap64; omega
  have udx : wrap64 (x2 - x1) = dx := by rw [gdx]; unfold wrap64; omega
  obtain ⟨ex, gex⟩ : ∃ ex, ex = s0 - s2 := ⟨_, rfl⟩
  have vex : IntKind.i64.wrap (s0 - s2) = ex := by rw [wrap_i64, gex]; unfold wrap64; omega
  have uex : wrap64 (s0 - s2) = ex := by rw [gex]; unfold wrap64; omega
  obtain ⟨dy, gdy⟩ : ∃ dy, dy = y2 - y1 := ⟨_, rfl⟩
  have vdy : IntKind.i64.wrap (y2 - y1) = dy := by rw [wrap_i64, gdy]; unfold wrap64; omega
  have udy : wrap64 (y2 - y1) = dy := by rw [gdy]; unfold wrap64; omega
  obtain ⟨ey, gey⟩ : ∃ ey, ey = t0 - t2 := ⟨_, rfl⟩
  have vey : IntKind.i64.wrap (t0 - t2) = ey := by rw [wrap_i64, gey]; unfold wrap64; omega
  have uey : wrap64 (t0 - t2) = ey := by rw [gey]; unfold wrap64; omega
  rw [← gdx, ← gex, ← gdy, ← gey] at hr'
  have HR : Hid _ := hr'
  clear hr'
  clear gdx gex gdy gey ha hb
  by_cases h0 : a1 = b2
  · have e0 : (a1 == b2) = true := by simpa using h0
    by_cases h1 : a2 = b0
    · have e1 : (a2 == b0) = true := by simpa using h1
      by_cases h2 : dx = ex
      · have e2 : (dx == ex) = true := by simpa using h2
        have e3 : (dy == ey) = r := by rw [HR.out, decide_eq_true h0, decide_eq_true h1, decide_eq_true h2]; rfl
        clear h0 h1 h2 HR
        go_enter Tryz.func55, Tryz.ntmps55
        go_wp2
        dsimp only [List.append]
        go_quiet (fail)
        go_wp2
        go_ret
        exact ⟨by rw [← e3]; rfl, hB _ _ _⟩
      · have e2 : (dx == ex) = false := by simpa using h2
        obtain rfl : r = false := by rw [HR.out, decide_eq_false h2]; simp
        clear h0 h1 h2 HR
        go_enter Tryz.func55, Tryz.ntmps55
        go_wp2
        dsimp only [List.append]
        go_quiet (fail)
        go_wp2
        go_ret
        exact ⟨rfl, hB _ _ _⟩
    · have e1 : (a2 == b0) = false := by simpa using h1
      obtain rfl : r = false := by rw [HR.out, decide_eq_false h1]; simp
      clear h0 h1 HR
      go_enter Tryz.func55, Tryz.ntmps55
      go_wp2
      dsimp only [List.append]
      go_quiet (fail)
      go_wp2
      go_ret
      exact ⟨rfl, hB _ _ _⟩
  · have e0 : (a1 == b2) = false := by simpa using h0
    obtain rfl : r = false := by rw [HR.out, decide_eq_false h0]; simp
    clear h0 HR
    go_enter Tryz.func55, Tryz.ntmps55
    go_wp2
    dsimp only [List.append]
    go_quiet (fail)
    go_wp2
    go_ret
    exact ⟨rfl, hB _ _ _⟩
end Go.Proofs.YtjdeehffbgpenaaGreat

namespace Go.Proofs.YtjdeehffbgpenaaGreat
open Go.RowKit
set_option linter.unusedVariables false


set_option maxRecDepth 100000 in
set_option maxHeartbeats 1000000 in
theorem twin_20s (a b : Tr) (w : World) (ha : offB a) (hb : offB b) {r : Bool} (hr : r = same a 2 b 0) :
    Calls Tryz.prog 55 #[trV a, .int .i64 2, trV b, .int .i64 0, .bool false] w fun e w' => e = .returned (.bool r) ∧ Below w.heap.size w w' := by
  have hB : ∀ o o' n, Below w.heap.size w (((w.alloc o).alloc o').drewN n) := fun o o' n => (((Below.refl _ _).alloc (Nat.le_refl _) _).alloc (by simp) _).trans ⟨rfl, rfl, rfl, Nat.le_refl _, fun _ _ => rfl⟩
  have ha := ha.all
  have hb := hb.all
  obtain ⟨a0, a1, a2, x0, y0, x1, y1, x2, y2⟩ := a
  obtain ⟨b0, b1, b2, s0, t0, s1, t1, s2, t2⟩ := b
  simp only [] at ha hb
  have hr' : r = (decide (a2 = b0) && (decide (a0 = b1) && (decide (x0 - x2 = s1 - s0) && decide (y0 - y2 = t1 - t0)))) := by
    rw [hr]; simp [same, nx, Tr.v, Tr.x, Tr.y]
  clear hr
  obtain ⟨dx, gdx⟩ : ∃ dx, dx = x0 - x2 := ⟨_, rfl⟩
  have vdx : IntKind.i64.wrap (x0 - x2) = dx := by rw [wrap_i64, gdx]; unfold wrap64; omega
  have udx : wrap64 (x0 - x2) = dx := by rw [gdx]; unfold wrap64; omega
  obtain ⟨ex, gex⟩ : ∃ ex, ex = s1 - s0 := ⟨_, rfl⟩
  have vex : IntKind.i64.wrap (s1 - s0) = ex := by rw [wrap_i64, gex]; unfold wrap64; omega
  have uex : wrap64 (s1 - s0) = ex := by rw [gex]; unfold wrap64; omega
  obtain ⟨dy, gdy⟩ : ∃ dy, dy = y0 - y2 := ⟨_, rfl⟩
  have vdy : IntKind.i64.wrap (y0 - y2) = dy := by rw [wrap_i64, gdy]; unfold wrap64; omega
  have udy : wrap64 (y0 - y2) = dy := by rw [gdy]; unfold wrap64; omega
  obtain ⟨ey, gey⟩ : ∃ ey, ey = t1 - t0 := ⟨_, rfl⟩
  have vey : IntKind.i64.wrap (t1 - t0) = ey := by rw [wrap_i64, gey]; unfold wrap64; omega
  have uey : wrap64 (t1 - t0) = ey := by rw [gey]; unfold wrap64; omega
  rw [← gdx, ← gex, ← gdy, ← gey] at hr'
  have HR : Hid _ := hr'
  clear hr'
  clear gdx gex gdy gey ha hb
  by_cases h0 : a2 = b0
  · have e0 : (a2 == b0) = true := by simpa using h0
    by_cases h1 : a0 = b1
    · have e1 : (a0 == b1) = true := by simpa using h1
      by_cases h2 : dx = ex
      · have e2 : (dx == ex) = true := by simpa using h2
        have e3 : (dy == ey) = r := by rw [HR.out, decide_eq_true h0, decide_eq_true h1, decide_eq_true h2]; rfl
        clear h0 h1 h2 HR
        go_enter Tryz.func55, Tryz.ntmps55
        go_wp2
        dsimp only [List.append]
        go_quiet (fail)
        go_wp2
        go_ret
        exact ⟨by rw [← e3]; rfl, hB _ _ _⟩
      · have e2 : (dx == ex) = false := by simpa using h2
        obtain rfl : r = false := by rw [HR.out, decide_eq_false h2]; simp
        clear h0 h1 h2 HR
        go_enter Tryz.func55, Tryz.ntmps55
        go_wp2
        dsimp only [List.append]
        go_quiet (fail)
        go_wp2
        go_ret
        exact ⟨rfl, hB _ _ _⟩
    · have e1 : (a0 == b1) = false := by simpa using h1
      obtain rfl : r = false := by rw [HR.out, decide_eq_false h1]; simp
      clear h0 h1 HR
      go_enter Tryz.func55, Tryz.ntmps55
      go_wp2
      dsimp only [List.append]
      go_quiet (fail)
      go_wp2
      go_ret
      exact ⟨rfl, hB _ _ _⟩
  · have e0 : (a2 == b0) = false := by simpa using h0
    obtain rfl : r = false := by rw [HR.out, decide_eq_false h0]; simp
    clear h0 HR
    go_enter Tryz.func55, Tryz.ntmps55
    go_wp2
    dsimp only [List.append]
    go_quiet (fail)
    go_wp2
    go_ret
    exact ⟨rfl, hB _ _ _⟩
set_option maxRecDepth 100000 in
set_option maxHeartbeats 1000000 in
theorem twin_21s (a b : Tr) (w : World) (ha : offB a) (hb : offB b) {r : Bool} (hr : r = same a 2 b 1) :
    Calls Tryz.prog 55 #[trV a, .int .i64 2, trV b, .int .i64 1, .bool false] w fun e w' => e = .returned (.bool r) ∧ Below w.heap.size w w' := by
  have hB : ∀ o o' n, Below w.heap.size w (((w.alloc o).alloc o').drewN n) := fun o o' n => (((Below.refl _ _).alloc (Nat.le_refl _) _).alloc (by simp) _).trans ⟨rfl, rfl, rfl, Nat.le_refl _, fun _ _ => rfl⟩
  have ha := ha.all
  have hb := hb.all
  obtain ⟨a0, a1, a2, x0, y0, x1, y1, x2, y2⟩ := a
  obtain ⟨b0, b1, b2, s0, t0, s1, t1, s2, t2⟩ := b
  simp only [] at ha hb
  have hr' : r = (decide (a2 = b1) && (decide (a0 = b2) && (decide (x0 - x2 = s2 - s1) && decide (y0 - y2 = t2 - t1)))) := by
    rw [hr]; simp [same, nx, Tr.v, Tr.x, Tr.y]
  clear hr
  obtain ⟨dx, gdx⟩ : ∃ dx, dx = x0 - x2 := ⟨_, rfl⟩
  have vdx : IntKind.i64.wrap (x0 - x2) = dx := by rw [wrap_i64, gdx]; unfold wrap64; omega
  have udx : wrap64 (x0 - x2) = dx := by rw [gdx]; unfold wrap64; omega
  obtain ⟨ex, gex⟩ : ∃ ex, ex = s2 - s1 := ⟨_, rfl⟩
  have vex : IntKind.i64.wrap (s2 - s1) = ex := by rw [wrap_i64, gex]; unfold wrap64; omega
  have uex : wrap64 (s2 - s1) = ex := by rw [gex]; unfold wrap64; omega
  obtain ⟨dy, gdy⟩ : ∃ dy, dy = y0 - y2 := ⟨_, rfl⟩
  have vdy : IntKind.i64.wrap (y0 - y2) = dy := by rw [wrap_i64, gdy]; unfold wrap64; omega
  have udy : wrap64 (y0 - y2) = dy := by rw [gdy]; unfold wrap64; omega
  obtain ⟨ey, gey⟩ : ∃ ey, ey = t2 - t1 := ⟨_, rfl⟩
  have vey : IntKind.i64.wrap (t2 - t1) = ey := by rw [wrap_i64, gey]; unfold wrap64; omega
  have uey : wrap64 (t2 - t1) = ey := by rw [gey]; unfold wrap64; omega
  rw [← gdx, ← gex, ← gdy, ← gey] at hr'
  have HR : Hid _ := hr'
  clear hr'
  clear gdx gex gdy gey ha hb
  by_cases h0 : a2 = b1
  · have e0 : (a2 == b1) = true := by simpa using h0
    by_cases h1 : a0 = b2
    · have e1 : (a0 == b2) = true := by simpa using h1
      by_cases h2 : dx = ex
      · have e2 : (dx == ex) = true := by simpa using h2
        have e3 : (dy == ey) = r := by rw [HR.out, decide_eq_true h0, decide_eq_true h1, decide_eq_true h2]; rfl
        clear h0 h1 h2 HR
        go_enter Tryz.func55, Tryz.ntmps55
        go_wp2
        dsimp only [List.append]
        go_quiet (fail)
        go_wp2
        go_ret
        exact ⟨by rw [← e3]; rfl, hB _ _ _⟩
      · have e2 : (dx == ex) = false := by simpa using h2
        obtain rfl : r = false := by rw [HR.out, decide_eq_false h2]; simp
        clear h0 h1 h2 HR
        go_enter Tryz.func55, Tryz.ntmps55
        go_wp2
        dsimp only [List.append]
        go_quiet (fail)
        go_wp2
        go_ret
        exact ⟨rfl, hB _ _ _⟩
    · have e1 : (a0 == b2) = false := by simpa using h1
      obtain rfl : r = false := by rw [HR.out, decide_eq_false h1]; simp
      clear h0 h1 HR
      go_enter Tryz.func55, Tryz.ntmps55
      go_wp2
      dsimp only [List.append]
      go_quiet (fail)
      go_wp2
      go_ret
      exact ⟨rfl, hB _ _ _⟩
  · have e0 : (a2 == b1) = false := by simpa using h0
    obtain rfl : r = false := by rw [HR.out, decide_eq_false h0]; simp
    clear h0 HR
    go_enter Tryz.func55, Tryz.ntmps55
    go_wp2
    dsimp only [List.append]
    go_quiet (fail)
    go_wp2
    go_ret
    exact ⟨rfl, hB _ _ _⟩
set_option maxRecDepth 100000 in
set_option maxHeartbeats 1000000 in
theorem twin_22s (a b : Tr) (w : World) (ha : offB a) (hb : offB b) {r : Bool} (hr : r = same a 2 b 2) :
    Calls Tryz.prog 55 #[trV a, .int .i64 2, trV b, .int .i64 2, .bool false] w fun e w' => e = .returned (.bool r) ∧ Below w.heap.size w w' := by
  have hB : ∀ o o' n, Below w.heap.size w (((w.alloc o).alloc o').drewN n) := fun o o' n => (((Below.refl _ _).alloc (Nat.le_refl _) _).alloc (by simp) _).trans ⟨rfl, rfl, rfl, Nat.le_refl _, fun _ _ => rfl⟩
  have ha := ha.all
  have hb := hb.all
  obtain ⟨a0, a1, a2, x0, y0, x1, y1, x2, y2⟩ := a
  obtain ⟨b0, b1, b2, s0, t0, s1, t1, s2, t2⟩ := b
  simp only [] at ha hb
  have hr' : r = (decide (a2 = b2) && (decide (a0 = b0) && (decide (x0 - x2 = s0 - s2) && decide (y0 - y2 = t0 - t2)))) := by
    rw [hr]; simp [same, nx, Tr.v, Tr.x, Tr.y]
  clear hr
  obtain ⟨dx, gdx⟩ : ∃ dx, dx = x0 - x2 := ⟨_, rfl⟩
  have vdx : IntKind.i64.wrap (x0 - x2) = dx := by rw [wrap_i64, gdx]; unfold wrap64; omega
  have udx : wrap64 (x0 - x2) = dx := by rw [gdx]; unfold wrap64; omega
  obtain ⟨ex, gex⟩ : ∃ ex, ex = s0 - s2 := ⟨_, rfl⟩
  have vex : IntKind.i64.wrap (s0 - s2) = ex := by rw [wrap_i64, gex]; unfold wrap64; omega
  have uex : wrap64 (s0 - s2) = ex := by rw [gex]; unfold wrap64; omega
  obtain ⟨dy, gdy⟩ : ∃ dy, dy = y0 - y2 := ⟨_, rfl⟩
  have vdy : IntKind.i64.wrap (y0 - y2) = dy := by rw [wrap_i64, gdy]; unfold wrap64; omega
  have udy : wrap64 (y0 - y2) = dy := by rw [gdy]; unfold wrap64; omega
  obtain ⟨ey, gey⟩ : ∃ ey, ey = t0 - t2 := ⟨_, rfl⟩
  have vey : IntKind.i64.wrap (t0 - t2) = ey := by rw [wrap_i64, gey]; unfold wrap64; omega
  have uey : wrap64 (t0 - t2) = ey := by rw [gey]; unfold wrap64; omega
  rw [← gdx, ← gex, ← gdy, ← gey] at hr'
  have HR : Hid _ := hr'
  clear hr'
  clear gdx gex gdy gey ha hb
  by_cases h0 : a2 = b2
  · have e0 : (a2 == b2) = true := by simpa using h0
    by_cases h1 : a0 = b0
    · have e1 : (a0 == b0) = true := by simpa using h1
      by_cases h2 : dx = ex
      · have e2 : (dx == ex) = true := by simpa using h2
        have e3 : (dy == ey) = r := by rw [HR.out, decide_eq_true h0, decide_eq_true h1, decide_eq_true h2]; rfl
        clear h0 h1 h2 HR
        go_enter Tryz.func55, Tryz.ntmps55
        go_wp2
        dsimp only [List.append]
        go_quiet (fail)
        go_wp2
        go_ret
        exact ⟨by rw [← e3]; rfl, hB _ _ _⟩
      · have e2 : (dx == ex) = false := by simpa using h2
        obtain rfl : r = false := by rw [HR.out, decide_eq_false h2]; simp
        clear h0 h1 h2 HR
        go_enter Tryz.func55, Tryz.ntmps55
        go_wp2
        dsimp only [List.append]
        go_quiet (fail)
        go_wp2
        go_ret
        exact ⟨rfl, hB _ _ _⟩
    · have e1 : (a0 == b0) = false := by simpa using h1
      obtain rfl : r = false := by rw [HR.out, decide_eq_false h1]; simp
      clear h0 h1 HR
      go_enter Tryz.func55, Tryz.ntmps55
      go_wp2
      dsimp only [List.append]
      go_quiet (fail)
      go_wp2
      go_ret
      exact ⟨rfl, hB _ _ _⟩
  · have e0 : (a2 == b2) = false := by simpa using h0
    obtain rfl : r = false := by rw [HR.out, decide_eq_false h0]; simp
    clear h0 HR
    go_enter Tryz.func55, Tryz.ntmps55
    go_wp2
    dsimp only [List.append]
    go_quiet (fail)
    go_wp2
    go_ret
    exact ⟨rfl, hB _ _ _⟩
end Go.Proofs.YtjdeehffbgpenaaGreat

namespace Go.Proofs.YtjdeehffbgpenaaGreat
open Go.RowKit
set_option linter.unusedVariables false


theorem mrTwin (a b : Tr) (i k : Nat) (w : World) (ha : offB a) (hb : offB b) (hi : i < 3) (hk : k < 3) {r : Bool} (hr : r = same a i b k) :
    Calls Tryz.prog 55 #[trV a, .int .i64 (i : Int), trV b, .int .i64 (k : Int), .bool false] w fun e w' => e = .returned (.bool r) ∧ Below w.heap.size w w' := by
  rcases (by omega : i = 0 ∨ i = 1 ∨ i = 2) with rfl | rfl | rfl <;> rcases (by omega : k = 0 ∨ k = 1 ∨ k = 2) with rfl | rfl | rfl
  · exact twin_00s a b w ha hb hr
  · exact twin_01s a b w ha hb hr
  · exact twin_02s a b w ha hb hr
  · exact twin_10s a b w ha hb hr
  · exact twin_11s a b w ha hb hr
  · exact twin_12s a b w ha hb hr
  · exact twin_20s a b w ha hb hr
  · exact twin_21s a b w ha hb hr
  · exact twin_22s a b w ha hb hr
end Go.Proofs.YtjdeehffbgpenaaGreat

namespace Go.Proofs.YtjdeehffbgpenaaGreat
open Go.RowKit
set_option linter.unusedVariables false


theorem corner_at (i : Int) : (0 ≤ Int.tmod i 3 + 3 ∧ Int.tmod i 3 + 3 ≤ 5) ∧ Int.tmod (Int.tmod i 3 + 3) 3 = (corner i : Int) := by
  have h1 : -3 < Int.tmod i 3 ∧ Int.tmod i 3 < 3 ∧ (Int.tmod i 3 + 3) % 3 = i % 3 := by
    rw [Int.tmod_eq_emod]
    split <;> omega
  refine ⟨by omega, ?_⟩
  rw [Int.tmod_eq_emod_of_nonneg (by omega), h1.2.2]
  unfold corner
  omega
end Go.Proofs.YtjdeehffbgpenaaGreat

namespace Go.Proofs.YtjdeehffbgpenaaGreat
open Go.RowKit
set_option linter.unusedVariables false

theorem find_at {α : Type} {f : α → Int} {v : Int} {a : α} : ∀ (L : List α) (k : Int) (i : Nat), 0 ≤ k → fAt f v L k = k + (i : Int) → L[i]? = some a → L.find? (fun a => decide (f a = v)) = some a := by
  intro L
  induction L with
  | nil => intro k i _ h; simp [fAt] at h; omega
  | cons b L ih =>
    intro k i hk h ha
    unfold fAt at h
    by_cases e : f b = v
    · rw [if_pos e] at h
      obtain rfl : i = 0 := by omega
      simp only [List.getElem?_cons_zero, Option.some.injEq] at ha
      subst ha
      simp [e]
    · rw [if_neg e] at h
      cases i with
      | zero => rcases fAt_spec f v L (k + 1) (by omega) with ⟨h1, _⟩ | ⟨j, _, h1, _⟩ <;> omega
      | succ i =>
        simp only [e, decide_false, Bool.false_eq_true, not_false_eq_true, List.find?_cons_of_neg]
        exact ih (k + 1) i (by omega) (by omega) (by simpa using ha)
theorem find_not {α : Type} {f : α → Int} {v : Int} {L : List α} (h : ∀ a ∈ L, f a ≠ v) : L.find? (fun a => decide (f a = v)) = none := by
  rw [List.find?_eq_none]
  intro a ha
  simpa using h a ha
/-- What is told of the face across from a corner. -/
def CrossIs (r : Option (Tr × Ce × Nat)) (i : Int) (e : Ending) : Prop := match r with
  | none => e = .returned (.tuple #[.int .i64 (-1), .int .i64 0, .agg #[.int .i64 0, .int .i64 0], .bool false])
  | some (t, c, k) => e = .returned (.tuple #[.int .i64 c.no, .int .i64 (((k + 2) % 3 : Nat) : Int), .agg #[.int .i64 (t.x (nx (nx (corner i))) - c.t.x k), .int .i64 (t.y (nx (nx (corner i))) - c.t.y k)], .bool true])
end Go.Proofs.YtjdeehffbgpenaaGreat

namespace Go.Proofs.YtjdeehffbgpenaaGreat
open Go.RowKit
set_option linter.unusedVariables false

abbrev MeShape := Nat → Nat → Ms → (Nat → Prop) → World → Prop
abbrev vtV (a : Vt) : Value := .agg #[.int .i64 a.no, .int .i64 a.x, .int .i64 a.y, .int .i64 a.id]
def vtZero : Vt := ⟨0, 0, 0, 0⟩
def trZero : Tr := ⟨0, 0, 0, 0, 0, 0, 0, 0, 0⟩
/-- A vertex, a face by its number. -/
def vertOf (S : Ms) (v : Int) : Vt := match S.V.find? (fun a => decide (a.no = v)) with | some a => a | none => vtZero
def faceOf (S : Ms) (f : Int) : Tr := match S.C.find? (fun c => decide (c.no = f)) with | some c => c.t | none => trZero
/-- The document's error of a face that is to be put. -/
structure MeSpec (MP : MeShape) : Prop where
  keep : ∀ {base p : Nat} {S : Ms} {F G : Nat → Prop} {w w' : World}, MP base p S F w → Keep G w w' → (∀ k, F k → ¬ G k) → MP base p S F w'
  ft : ∀ {base p : Nat} {S : Ms} {F : Nat → Prop} {w : World}, MP base p S F w → ∀ k, F k → base ≤ k ∧ k < w.heap.size
  new : ∀ (base : Nat) (n : Int) (w : World), base ≤ w.heap.size → 1 ≤ n ∧ n ≤ 17179869184 → Calls Tryz.prog 26 #[.int .i64 n] w fun e w' => ∃ (p : Nat) (F : Nat → Prop), e = .returned (ptR p) ∧ MP base p (Ms.new n) F w' ∧ (∀ k, F k → w.heap.size ≤ k) ∧ Below w.heap.size w w'
  side : ∀ (base p : Nat) (S : Ms) (m : Nat) (F : Nat → Prop) (w : World), MP base p S F w → MsOk S m → m ≤ 1000 → Calls Tryz.prog 13 #[ptR p] w fun e w' => e = .returned (.int .i64 S.n) ∧ Below w.heap.size w w'
  addV0 : ∀ (base p : Nat) (S : Ms) (m : Nat) (F : Nat → Prop) (w : World), MP base p S F w → MsOk S m → m ≤ 1000 → ∀ x y id : Int, In64 x → In64 y → In64 id → inSq S x y = false → Calls Tryz.prog 63 #[ptR p, .agg #[.int .i64 x, .int .i64 y], .int .i64 id] w fun e w' => e = .returned (.int .i64 (-1)) ∧ Left (MP base p S) F w w'
  addV : ∀ (base p : Nat) (S : Ms) (m : Nat) (F : Nat → Prop) (w : World), MP base p S F w → MsOk S m → m ≤ 1000 → ∀ x y id : Int, In64 x → In64 y → In64 id → inSq S x y = true → Calls Tryz.prog 63 #[ptR p, .agg #[.int .i64 x, .int .i64 y], .int .i64 id] w fun e w' => e = .returned (.int .i64 S.av.num) ∧ Left (MP base p (S.addV x y id)) F w w'
  dropV0 : ∀ (base p : Nat) (S : Ms) (m : Nat) (F : Nat → Prop) (w : World), MP base p S F w → MsOk S m → m ≤ 1000 → ∀ v : Int, In64 v → (isV S v = false ∨ around S.C v ≠ []) → Calls Tryz.prog 61 #[ptR p, .int .i64 v] w fun e w' => e = .returned (.bool false) ∧ Left (MP base p S) F w w'
  dropV : ∀ (base p : Nat) (S : Ms) (m : Nat) (F : Nat → Prop) (w : World), MP base p S F w → MsOk S m → m ≤ 1000 → ∀ (v : Int) (i : Nat) (a : Vt), In64 v → S.V[i]? = some a → a.no = v → around S.C v = [] → Calls Tryz.prog 61 #[ptR p, .int .i64 v] w fun e w' => e = .returned (.bool true) ∧ Left (MP base p (S.dropV v i)) F w w'
  vert : ∀ (base p : Nat) (S : Ms) (m : Nat) (F : Nat → Prop) (w : World), MP base p S F w → MsOk S m → m ≤ 1000 → ∀ v : Int, In64 v → Calls Tryz.prog 15 #[ptR p, .int .i64 v] w fun e w' => e = .returned (.tuple #[vtV (vertOf S v), .bool (isV S v)]) ∧ Below w.heap.size w w'
  addF0 : ∀ (base p : Nat) (S : Ms) (m : Nat) (F : Nat → Prop) (w : World), MP base p S F w → MsOk S m → m ≤ 1000 → ∀ (t : Tr) (e0 : Int), Tr64 t → e0 = fErr S t → e0 ≠ 0 → Calls Tryz.prog 57 #[ptR p, trV t] w fun e w' => e = .returned (.tuple #[.int .i64 (-1), .int .i64 e0]) ∧ Left (MP base p S) F w w'
  addF : ∀ (base p : Nat) (S : Ms) (m : Nat) (F : Nat → Prop) (w : World), MP base p S F w → MsOk S m → m ≤ 1000 → ∀ t : Tr, Tr64 t → fErr S t = 0 → Calls Tryz.prog 57 #[ptR p, trV t] w fun e w' => e = .returned (.tuple #[.int .i64 S.af.num, .int .i64 0]) ∧ Left (MP base p (S.addF t)) F w w'
  dropF0 : ∀ (base p : Nat) (S : Ms) (m : Nat) (F : Nat → Prop) (w : World), MP base p S F w → MsOk S m → m ≤ 1000 → ∀ f : Int, In64 f → isF S f = false → Calls Tryz.prog 59 #[ptR p, .int .i64 f] w fun e w' => e = .returned (.bool false) ∧ Left (MP base p S) F w w'
  dropF : ∀ (base p : Nat) (S : Ms) (m : Nat) (F : Nat → Prop) (w : World), MP base p S F w → MsOk S m → m ≤ 1000 → ∀ (f : Int) (i : Nat) (c : Ce), In64 f → S.C[i]? = some c → c.no = f → Calls Tryz.prog 59 #[ptR p, .int .i64 f] w fun e w' => e = .returned (.bool true) ∧ Left (MP base p (S.dropF f i)) F w w'
  face : ∀ (base p : Nat) (S : Ms) (m : Nat) (F : Nat → Prop) (w : World), MP base p S F w → MsOk S m → m ≤ 1000 → ∀ f : Int, In64 f → Calls Tryz.prog 16 #[ptR p, .int .i64 f] w fun e w' => e = .returned (.tuple #[trV (faceOf S f), .bool (isF S f)]) ∧ Below w.heap.size w w'
  corner0 : ∀ (base p : Nat) (S : Ms) (m : Nat) (F : Nat → Prop) (w : World), MP base p S F w → MsOk S m → m ≤ 1000 → ∀ f i : Int, In64 f → In64 i → isF S f = false → Calls Tryz.prog 17 #[ptR p, .int .i64 f, .int .i64 i] w fun e w' => e = .returned (.tuple #[.agg #[.int .i64 0, .int .i64 0], .bool false]) ∧ Below w.heap.size w w'
  corner : ∀ (base p : Nat) (S : Ms) (m : Nat) (F : Nat → Prop) (w : World), MP base p S F w → MsOk S m → m ≤ 1000 → ∀ f i : Int, In64 f → In64 i → isF S f = true → Calls Tryz.prog 17 #[ptR p, .int .i64 f, .int .i64 i] w fun e w' => e = .returned (.tuple #[.agg #[.int .i64 (plX S (faceOf S f) (corner i)), .int .i64 (plY S (faceOf S f) (corner i))], .bool true]) ∧ Below w.heap.size w w'
  across : ∀ (base p : Nat) (S : Ms) (m : Nat) (F : Nat → Prop) (w : World), MP base p S F w → MsOk S m → m ≤ 1000 → ∀ f i : Int, In64 f → In64 i → Calls Tryz.prog 24 #[ptR p, .int .i64 f, .int .i64 i] w fun e w' => CrossIs (crossed S f i) i e ∧ Below w.heap.size w w'
  around : ∀ (base p : Nat) (S : Ms) (m : Nat) (F : Nat → Prop) (w : World), MP base p S F w → MsOk S m → m ≤ 1000 → ∀ v : Int, In64 v → ∀ M, M = around S.C v → Calls Tryz.prog 21 #[ptR p, .int .i64 v] w (GotL w M)
  dump : ∀ (base p : Nat) (S : Ms) (m : Nat) (F : Nat → Prop) (w : World), MP base p S F w → MsOk S m → m ≤ 1000 → Calls Tryz.prog 9 #[ptR p] w (GotDump w S)
  check : ∀ (base p : Nat) (S : Ms) (m : Nat) (F : Nat → Prop) (w : World), MP base p S F w → MsOk S m → m ≤ 1000 → ∀ r : Int, (r = if whole S = true then 0 else 6) → Calls Tryz.prog 11 #[ptR p] w fun e w' => e = .returned (.int .i64 r) ∧ Below w.heap.size w w'
theorem MeSpec.below {MP : MeShape} (H : MeSpec MP) {base p : Nat} {S : Ms} {F : Nat → Prop} {w w' : World} (h : MP base p S F w) (hb : Below w.heap.size w w') : MP base p S F w' := H.keep h (Keep.of (F := fun _ => False) hb) (fun _ _ x => x)
end Go.Proofs.YtjdeehffbgpenaaGreat

namespace Go.Proofs.YtjdeehffbgpenaaGreat.lw
open Go.RowKit

/-- The high word, with its sign, of a number taken modulo 2^128. -/
def hi (v : Int) : Int := (v / 18446744073709551616 + 9223372036854775808) % 18446744073709551616 - 9223372036854775808
/-- The low word, without a sign. -/
def lo (v : Int) : Int := v % 18446744073709551616

theorem lo_range (v : Int) : 0 ≤ lo v ∧ lo v < 18446744073709551616 := by unfold lo; omega
/-- The borrow, under a name. -/
def bor (x y : Int) : Int := if x < y then 1 else 0
theorem bor_range (x y : Int) : 0 ≤ bor x y ∧ bor x y ≤ 1 := by unfold bor; split <;> decide

theorem hi_0 : (0 : Int) = hi 0 := by decide
theorem lo_0 : (0 : Int) = lo 0 := by decide
theorem add_lo (a b : Int) : (lo a + lo b) % 18446744073709551616 = lo (a + b) := by unfold lo; omega
theorem add_hi (a b : Int) : wrap64 ((IntKind.u64.wrap (hi a) + IntKind.u64.wrap (hi b) + (lo a + lo b) / 18446744073709551616) % 18446744073709551616) = hi (a + b) := by
  rw [IntKind.wrap_u64, IntKind.wrap_u64]; unfold hi lo wrap64; omega
theorem sub_lo (a b : Int) : (lo a - lo b) % 18446744073709551616 = lo (a - b) := by unfold lo; omega
theorem sub_hi (a b : Int) : wrap64 ((IntKind.u64.wrap (hi a) - IntKind.u64.wrap (hi b) - bor (lo a) (lo b)) % 18446744073709551616) = hi (a - b) := by
  rw [IntKind.wrap_u64, IntKind.wrap_u64]; unfold bor wrap64; split <;> (simp only [hi, lo] at *; omega)
theorem mask32 (x : Int) (h0 : 0 ≤ x) (h1 : x < 18446744073709551616) : bits .and .u64 x 4294967295 = x % 4294967296 := by
  obtain ⟨n, rfl⟩ := Int.eq_ofNat_of_zero_le h0
  have h := bits_and_u64_nat n 4294967295 (by omega) (by omega)
  have e : n &&& 4294967295 = n % 4294967296 := Nat.and_two_pow_sub_one_eq_mod n 32
  rw [e] at h
  exact h.trans (by omega)
theorem half_mul (a b : Int) (a0 : 0 ≤ a) (a1 : a < 4294967296) (b0 : 0 ≤ b) (b1 : b < 4294967296) : 0 ≤ a * b ∧ a * b ≤ 18446744065119617025 := by
  refine ⟨Int.mul_nonneg a0 b0, ?_⟩
  have := Int.mul_le_mul (show a ≤ 4294967295 by omega) (show b ≤ 4294967295 by omega) b0 (by decide)
  omega
theorem school (a b c d : Int) : (a * 4294967296 + b) * (c * 4294967296 + d) = a * c * 18446744073709551616 + a * d * 4294967296 + b * c * 4294967296 + b * d := by
  have h1 : a * 4294967296 * (c * 4294967296) = a * c * (4294967296 * 4294967296) := by rw [Int.mul_assoc a, Int.mul_left_comm 4294967296 c, ← Int.mul_assoc]
  have h2 : a * 4294967296 * d = a * d * 4294967296 := by rw [Int.mul_assoc a, Int.mul_comm 4294967296 d, ← Int.mul_assoc]
  have h3 : b * (c * 4294967296) = b * c * 4294967296 := (Int.mul_assoc b c _).symm
  rw [Int.add_mul, Int.mul_add, Int.mul_add, h1, h2, h3]
  omega
theorem mul64_hi (x y : Int) (x0 : 0 ≤ x) (x1 : x < 18446744073709551616) (y0 : 0 ≤ y) (y1 : y < 18446744073709551616) :
    IntKind.u64.wrap (IntKind.u64.wrap (IntKind.u64.wrap (x / 4294967296 * (y / 4294967296)) + IntKind.u64.wrap (IntKind.u64.wrap (x / 4294967296 * bits .and .u64 y 4294967295) + IntKind.u64.wrap (bits .and .u64 x 4294967295 * bits .and .u64 y 4294967295) / 4294967296) / 4294967296) +
      IntKind.u64.wrap (bits .and .u64 (IntKind.u64.wrap (IntKind.u64.wrap (x / 4294967296 * bits .and .u64 y 4294967295) + IntKind.u64.wrap (bits .and .u64 x 4294967295 * bits .and .u64 y 4294967295) / 4294967296)) 4294967295 + IntKind.u64.wrap (bits .and .u64 x 4294967295 * (y / 4294967296))) / 4294967296) = x * y / 18446744073709551616 := by
  rw [mask32 x x0 x1, mask32 y y0 y1, mask32 (IntKind.u64.wrap _) (wrap_u64_nonneg _) (by rw [IntKind.wrap_u64]; omega)]
  have e := school (x / 4294967296) (x % 4294967296) (y / 4294967296) (y % 4294967296)
  have ex : x / 4294967296 * 4294967296 + x % 4294967296 = x := by omega
  have ey : y / 4294967296 * 4294967296 + y % 4294967296 = y := by omega
  rw [ex, ey] at e
  rw [e]
  have b1 := half_mul (x / 4294967296) (y / 4294967296) (by omega) (by omega) (by omega) (by omega)
  have b2 := half_mul (x / 4294967296) (y % 4294967296) (by omega) (by omega) (by omega) (by omega)
  have b3 := half_mul (x % 4294967296) (y / 4294967296) (by omega) (by omega) (by omega) (by omega)
  have b4 := half_mul (x % 4294967296) (y % 4294967296) (by omega) (by omega) (by omega) (by omega)
  clear e ex ey
  generalize x / 4294967296 * (y / 4294967296) = p1 at *
  generalize x / 4294967296 * (y % 4294967296) = p2 at *
  generalize x % 4294967296 * (y / 4294967296) = p3 at *
  generalize x % 4294967296 * (y % 4294967296) = p4 at *
  simp only [IntKind.wrap_u64]
  omega

/-- What is left of a product of two words that were taken without their signs. -/
theorem mul_lo (a b : Int) : IntKind.u64.wrap a * IntKind.u64.wrap b % 18446744073709551616 = lo (a * b) := by
  rw [IntKind.wrap_u64, IntKind.wrap_u64]; unfold lo; exact (Int.mul_emod a b _).symm
theorem ret_tup2 {k l : IntKind} {a b c d : Int} (h : a = c) (h' : b = d) : Ending.returned (.tuple #[.int k a, .int l b]) = .returned (.tuple #[.int k c, .int l d]) := by rw [h, h']
theorem ret_int {k : IntKind} {a b : Int} (h : a = b) : Ending.returned (.int k a) = .returned (.int k b) := by rw [h]

/-- -1, 0, 1: how two numbers lie. -/
def cmpI (x y : Int) : Int := if x < y then -1 else if y < x then 1 else 0
end Go.Proofs.YtjdeehffbgpenaaGreat.lw

namespace Go.Proofs.YtjdeehffbgpenaaGreat.lw
open Go.RowKit

theorem add64 (x y c : Int) (hx : 0 ≤ x) (hy : 0 ≤ y) (hc0 : 0 ≤ c) (hc : c ≤ 1) (w : World) : (callFunc 106 #[.int .u64 x, .int .u64 y, .int .u64 c]).run Tryz.prog w =
    .ok (.value (.tuple #[.int .u64 ((x + y + c) % 18446744073709551616), .int .u64 ((x + y + c) / 18446744073709551616)])) w := by
  rw [run_callFunc_extern Tryz.func106 (by kernel_rfl) (by kernel_rfl) (by kernel_rfl) (e := add64Entry) (by kernel_rfl), run_add64 x y c hx hy hc0 hc]
  rfl
theorem add64_0 (x y : Int) (hx : 0 ≤ x) (hy : 0 ≤ y) (w : World) : (callFunc 106 #[.int .u64 x, .int .u64 y, .int .u64 0]).run Tryz.prog w =
    .ok (.value (.tuple #[.int .u64 ((x + y) % 18446744073709551616), .int .u64 ((x + y) / 18446744073709551616)])) w := by
  simpa using add64 x y 0 hx hy (Int.le_refl 0) (by decide) w
theorem sub64 (x y b : Int) (hx : 0 ≤ x) (hy : 0 ≤ y) (hy' : y < 18446744073709551616) (hb0 : 0 ≤ b) (hb : b ≤ 1) (w : World) : (callFunc 137 #[.int .u64 x, .int .u64 y, .int .u64 b]).run Tryz.prog w =
    .ok (.value (.tuple #[.int .u64 ((x - y - b) % 18446744073709551616), .int .u64 (bor x (y + b))])) w := by
  obtain ⟨x, rfl⟩ := Int.eq_ofNat_of_zero_le hx
  obtain ⟨y, rfl⟩ := Int.eq_ofNat_of_zero_le hy
  obtain ⟨b, rfl⟩ := Int.eq_ofNat_of_zero_le hb0
  have e1 : (((x + 18446744073709551616 - y - b) % 18446744073709551616 : Nat) : Int) = ((x : Int) - y - b) % 18446744073709551616 := by omega
  have e2 : ((if x < y + b then 1 else 0 : Nat) : Int) = bor x (y + b) := by unfold bor; split <;> split <;> omega
  rw [← e1, ← e2, run_callFunc_extern Tryz.func137 (by kernel_rfl) (by kernel_rfl) (by kernel_rfl) (e := sub64Entry) (by kernel_rfl), run_sub64 x y b (by omega)]
  rfl
theorem sub64_0 (x y : Int) (hx : 0 ≤ x) (hy : 0 ≤ y) (hy' : y < 18446744073709551616) (w : World) : (callFunc 137 #[.int .u64 x, .int .u64 y, .int .u64 0]).run Tryz.prog w =
    .ok (.value (.tuple #[.int .u64 ((x - y) % 18446744073709551616), .int .u64 (bor x y)])) w := by
  simpa using sub64 x y 0 hx hy hy' (Int.le_refl 0) (by decide) w

theorem add_any {ah al bh bl : Int} (a b : Int) (ha : ah = hi a) (hl : al = lo a) (hb : bh = hi b) (hm : bl = lo b) (w : World) :
    Calls Tryz.prog 71 #[.agg #[.int .i64 ah, .int .u64 al], .agg #[.int .i64 bh, .int .u64 bl]] w fun e w' =>
      e = .returned (.agg #[.int .i64 (hi (a + b)), .int .u64 (lo (a + b))]) ∧ Below w.heap.size w w' := by
  subst ha hl hb hm
  obtain ⟨a1, a2⟩ := lo_range a; obtain ⟨b1, b2⟩ := lo_range b
  have k0 : 0 ≤ (lo a + lo b) / 18446744073709551616 := by omega
  have k1 : (lo a + lo b) / 18446744073709551616 ≤ 1 := by omega
  have k2 := wrap_u64_nonneg (hi a)
  have k3 := wrap_u64_nonneg (hi b)
  go_enter Tryz.func71, Tryz.ntmps71
  go_wp2_with (first | simp only [add64_0 (lo a) (lo b) a1 b1] | simp only [add64 _ _ _ k2 k3 k0 k1])
  refine bodyPost_ret (v := .agg #[.int .i64 (hi (a + b)), .int .u64 (lo (a + b))]) (by simp [results, Tryz.results71, go_sem, add_lo, add_hi]) rfl ⟨rfl, ?_⟩
  exact (((Below.refl _ _).alloc (Nat.le_refl _) _).alloc (by simp) _).alloc (by simp; omega) _

theorem sub_any {ah al bh bl : Int} (a b : Int) (ha : ah = hi a) (hl : al = lo a) (hb : bh = hi b) (hm : bl = lo b) (w : World) :
    Calls Tryz.prog 123 #[.agg #[.int .i64 ah, .int .u64 al], .agg #[.int .i64 bh, .int .u64 bl]] w fun e w' =>
      e = .returned (.agg #[.int .i64 (hi (a - b)), .int .u64 (lo (a - b))]) ∧ Below w.heap.size w w' := by
  subst ha hl hb hm
  obtain ⟨a1, a2⟩ := lo_range a; obtain ⟨b1, b2⟩ := lo_range b
  obtain ⟨k0, k1⟩ := bor_range (lo a) (lo b)
  have k2 := wrap_u64_nonneg (hi a)
  have k3 := wrap_u64_nonneg (hi b)
  have k4 : IntKind.u64.wrap (hi b) < 18446744073709551616 := by rw [IntKind.wrap_u64]; omega
  go_enter Tryz.func123, Tryz.ntmps123
  go_wp2_with (first | simp only [sub64_0 (lo a) (lo b) a1 b1 b2] | simp only [sub64 _ _ _ k2 k3 k4 k0 k1])
  refine bodyPost_ret (v := .agg #[.int .i64 (hi (a - b)), .int .u64 (lo (a - b))]) (by simp [results, Tryz.results123, go_sem, sub_lo, sub_hi]) rfl ⟨rfl, ?_⟩
  exact (((Below.refl _ _).alloc (Nat.le_refl _) _).alloc (by simp) _).alloc (by simp; omega) _

theorem mul64_any (x y : Int) (x0 : 0 ≤ x) (x1 : x < 18446744073709551616) (y0 : 0 ≤ y) (y1 : y < 18446744073709551616) (w : World) :
    Calls Tryz.prog 73 #[.int .u64 x, .int .u64 y] w fun e w' => e = .returned (.tuple #[.int .u64 (x * y / 18446744073709551616), .int .u64 (x * y % 18446744073709551616)]) ∧ w' = w := by
  go_enter Tryz.func73, Tryz.ntmps73
  go_wp2
  go_ret2
  exact ⟨ret_tup2 (mul64_hi x y x0 x1 y0 y1) (IntKind.wrap_u64 _), rfl⟩

theorem cmpI64_any (x y : Int) (w : World) :
    Calls Tryz.prog 68 #[.int .i64 x, .int .i64 y] w fun e w' => e = .returned (.int .i64 (cmpI x y)) ∧ w' = w := by
  unfold cmpI
  go_enter Tryz.func68, Tryz.ntmps68
  go_wp2
  all_goals (go_ret; exact ⟨rfl, rfl⟩)
theorem cmpU64_any (x y : Int) (w : World) :
    Calls Tryz.prog 69 #[.int .u64 x, .int .u64 y] w fun e w' => e = .returned (.int .i64 (cmpI x y)) ∧ w' = w := by
  unfold cmpI
  go_enter Tryz.func69, Tryz.ntmps69
  go_wp2
  all_goals (go_ret; exact ⟨rfl, rfl⟩)
end Go.Proofs.YtjdeehffbgpenaaGreat.lw

namespace Go.Proofs.YtjdeehffbgpenaaGreat.lw
open Go.RowKit
set_option linter.unusedVariables false
set_option maxRecDepth 100000

theorem u_neg (a : Int) (h0 : a < 0) (h1 : -9223372036854775808 ≤ a) : IntKind.u64.wrap a = a + 18446744073709551616 := by rw [IntKind.wrap_u64]; omega
theorem mul_pp (a b : Int) : wrap64 (a * b / 18446744073709551616) = hi (a * b) := by unfold wrap64 hi; omega
theorem mul_np (a b : Int) (a0 : a < 0) (a1 : -9223372036854775808 ≤ a) : wrap64 (IntKind.u64.wrap (IntKind.u64.wrap a * b / 18446744073709551616 - b)) = hi (a * b) := by
  rw [u_neg a a0 a1, Int.add_mul, IntKind.wrap_u64]; unfold wrap64 hi; omega
theorem mul_pn (a b : Int) (b0 : b < 0) (b1 : -9223372036854775808 ≤ b) : wrap64 (IntKind.u64.wrap (a * IntKind.u64.wrap b / 18446744073709551616 - a)) = hi (a * b) := by
  rw [u_neg b b0 b1, Int.mul_add, IntKind.wrap_u64]; unfold wrap64 hi; omega
theorem mul_nn (a b : Int) (a0 : a < 0) (a1 : -9223372036854775808 ≤ a) (b0 : b < 0) (b1 : -9223372036854775808 ≤ b) : wrap64 (IntKind.u64.wrap (IntKind.u64.wrap (IntKind.u64.wrap a * IntKind.u64.wrap b / 18446744073709551616 - IntKind.u64.wrap b) - IntKind.u64.wrap a)) = hi (a * b) := by
  rw [u_neg a a0 a1, u_neg b b0 b1, Int.add_mul, Int.mul_add, Int.mul_add, IntKind.wrap_u64, IntKind.wrap_u64]; unfold wrap64 hi; omega
theorem lo_pp (a b : Int) : a * b % 18446744073709551616 = lo (a * b) := rfl
theorem lo_np (a b : Int) : IntKind.u64.wrap a * b % 18446744073709551616 = lo (a * b) := by rw [IntKind.wrap_u64]; unfold lo; rw [Int.mul_emod, Int.emod_emod, ← Int.mul_emod]
theorem lo_pn (a b : Int) : a * IntKind.u64.wrap b % 18446744073709551616 = lo (a * b) := by rw [IntKind.wrap_u64]; unfold lo; rw [Int.mul_emod, Int.emod_emod, ← Int.mul_emod]

theorem mul_any_pp (a b : Int) (a0 : -9223372036854775808 ≤ a) (a1 : a ≤ 9223372036854775807) (b0 : -9223372036854775808 ≤ b) (b1 : b ≤ 9223372036854775807) (ha : 0 ≤ a) (hb : 0 ≤ b) (w : World) :
    Calls Tryz.prog 37 #[.int .i64 a, .int .i64 b] w fun e w' => e = .returned (.agg #[.int .i64 (hi (a * b)), .int .u64 (lo (a * b))]) ∧ Below w.heap.size w w' := by
  have va : IntKind.u64.wrap a < 18446744073709551616 := by rw [IntKind.wrap_u64]; omega
  have vb : IntKind.u64.wrap b < 18446744073709551616 := by rw [IntKind.wrap_u64]; omega
  go_enter Tryz.func37, Tryz.ntmps37
  go_wp2_with (go_at_call 73; refine (mul64_any _ _ ha (by omega) hb (by omega) _).mono ?_; rintro e w' ⟨rfl, rfl⟩)
  exact bodyPost_ret (v := .agg #[.int .i64 (hi (a * b)), .int .u64 (lo (a * b))]) (by simp [results, Tryz.results37, go_sem, lo_pp, mul_pp]) rfl ⟨rfl, (Below.refl _ _).alloc (Nat.le_refl _) _⟩
theorem mul_any_np (a b : Int) (a0 : -9223372036854775808 ≤ a) (a1 : a ≤ 9223372036854775807) (b0 : -9223372036854775808 ≤ b) (b1 : b ≤ 9223372036854775807) (ha : a < 0) (hb : 0 ≤ b) (w : World) :
    Calls Tryz.prog 37 #[.int .i64 a, .int .i64 b] w fun e w' => e = .returned (.agg #[.int .i64 (hi (a * b)), .int .u64 (lo (a * b))]) ∧ Below w.heap.size w w' := by
  have va : IntKind.u64.wrap a < 18446744073709551616 := by rw [IntKind.wrap_u64]; omega
  have vb : IntKind.u64.wrap b < 18446744073709551616 := by rw [IntKind.wrap_u64]; omega
  go_enter Tryz.func37, Tryz.ntmps37
  go_wp2_with (go_at_call 73; refine (mul64_any _ _ (wrap_u64_nonneg a) va hb (by omega) _).mono ?_; rintro e w' ⟨rfl, rfl⟩)
  exact bodyPost_ret (v := .agg #[.int .i64 (hi (a * b)), .int .u64 (lo (a * b))]) (by simp [results, Tryz.results37, go_sem, lo_np, mul_np a b ha a0]) rfl ⟨rfl, (Below.refl _ _).alloc (Nat.le_refl _) _⟩
theorem mul_any_pn (a b : Int) (a0 : -9223372036854775808 ≤ a) (a1 : a ≤ 9223372036854775807) (b0 : -9223372036854775808 ≤ b) (b1 : b ≤ 9223372036854775807) (ha : 0 ≤ a) (hb : b < 0) (w : World) :
    Calls Tryz.prog 37 #[.int .i64 a, .int .i64 b] w fun e w' => e = .returned (.agg #[.int .i64 (hi (a * b)), .int .u64 (lo (a * b))]) ∧ Below w.heap.size w w' := by
  have va : IntKind.u64.wrap a < 18446744073709551616 := by rw [IntKind.wrap_u64]; omega
  have vb : IntKind.u64.wrap b < 18446744073709551616 := by rw [IntKind.wrap_u64]; omega
  go_enter Tryz.func37, Tryz.ntmps37
  go_wp2_with (go_at_call 73; refine (mul64_any _ _ ha (by omega) (wrap_u64_nonneg b) vb _).mono ?_; rintro e w' ⟨rfl, rfl⟩)
  exact bodyPost_ret (v := .agg #[.int .i64 (hi (a * b)), .int .u64 (lo (a * b))]) (by simp [results, Tryz.results37, go_sem, lo_pn, mul_pn a b hb b0]) rfl ⟨rfl, (Below.refl _ _).alloc (Nat.le_refl _) _⟩
theorem mul_any_nn (a b : Int) (a0 : -9223372036854775808 ≤ a) (a1 : a ≤ 9223372036854775807) (b0 : -9223372036854775808 ≤ b) (b1 : b ≤ 9223372036854775807) (ha : a < 0) (hb : b < 0) (w : World) :
    Calls Tryz.prog 37 #[.int .i64 a, .int .i64 b] w fun e w' => e = .returned (.agg #[.int .i64 (hi (a * b)), .int .u64 (lo (a * b))]) ∧ Below w.heap.size w w' := by
  have va : IntKind.u64.wrap a < 18446744073709551616 := by rw [IntKind.wrap_u64]; omega
  have vb : IntKind.u64.wrap b < 18446744073709551616 := by rw [IntKind.wrap_u64]; omega
  go_enter Tryz.func37, Tryz.ntmps37
  go_wp2_with (go_at_call 73; refine (mul64_any _ _ (wrap_u64_nonneg a) va (wrap_u64_nonneg b) vb _).mono ?_; rintro e w' ⟨rfl, rfl⟩)
  exact bodyPost_ret (v := .agg #[.int .i64 (hi (a * b)), .int .u64 (lo (a * b))]) (by simp [results, Tryz.results37, go_sem, mul_lo, mul_nn a b ha a0 hb b0]) rfl ⟨rfl, (Below.refl _ _).alloc (Nat.le_refl _) _⟩
theorem mul_any (a b : Int) (a0 : -9223372036854775808 ≤ a) (a1 : a ≤ 9223372036854775807) (b0 : -9223372036854775808 ≤ b) (b1 : b ≤ 9223372036854775807) (w : World) :
    Calls Tryz.prog 37 #[.int .i64 a, .int .i64 b] w fun e w' => e = .returned (.agg #[.int .i64 (hi (a * b)), .int .u64 (lo (a * b))]) ∧ Below w.heap.size w w' := by
  rcases Int.lt_or_le a 0 with ha | ha <;> rcases Int.lt_or_le b 0 with hb | hb
  · exact mul_any_nn a b a0 a1 b0 b1 ha hb w
  · exact mul_any_np a b a0 a1 b0 b1 ha hb w
  · exact mul_any_pn a b a0 a1 b0 b1 ha hb w
  · exact mul_any_pp a b a0 a1 b0 b1 ha hb w

theorem cmp_hi (a b : Int) (a0 : -170141183460469231731687303715884105728 ≤ a) (a1 : a < 170141183460469231731687303715884105728) (b0 : -170141183460469231731687303715884105728 ≤ b) (b1 : b < 170141183460469231731687303715884105728) (h : hi a ≠ hi b) : cmpI (hi a) (hi b) = cmpI a b := by
  have e : hi a = a / 18446744073709551616 := by unfold hi; omega
  have e' : hi b = b / 18446744073709551616 := by unfold hi; omega
  rw [e, e'] at h ⊢; unfold cmpI; split <;> split <;> (try split) <;> (try split) <;> omega
theorem cmp_lo (a b : Int) (a0 : -170141183460469231731687303715884105728 ≤ a) (a1 : a < 170141183460469231731687303715884105728) (b0 : -170141183460469231731687303715884105728 ≤ b) (b1 : b < 170141183460469231731687303715884105728) (h : hi a = hi b) : cmpI (lo a) (lo b) = cmpI a b := by
  have e : hi a = a / 18446744073709551616 := by unfold hi; omega
  have e' : hi b = b / 18446744073709551616 := by unfold hi; omega
  rw [e, e'] at h; unfold cmpI lo; split <;> split <;> (try split) <;> (try split) <;> omega
theorem cmp_any {ah al bh bl : Int} (a b : Int) (ha : ah = hi a) (hl : al = lo a) (hb : bh = hi b) (hm : bl = lo b) (a0 : -170141183460469231731687303715884105728 ≤ a) (a1 : a < 170141183460469231731687303715884105728) (b0 : -170141183460469231731687303715884105728 ≤ b) (b1 : b < 170141183460469231731687303715884105728) (w : World) :
    Calls Tryz.prog 35 #[.agg #[.int .i64 ah, .int .u64 al], .agg #[.int .i64 bh, .int .u64 bl]] w fun e w' => e = .returned (.int .i64 (cmpI a b)) ∧ Below w.heap.size w w' := by
  subst ha hl hb hm
  by_cases g : hi a = hi b
  · have E : Hid _ := cmp_lo a b a0 a1 b0 b1 g
    have g' : (hi a == hi b) = true := by simpa using g
    clear g
    go_enter Tryz.func35, Tryz.ntmps35
    go_wp2_with (go_at_call 69; refine (cmpU64_any _ _ _).mono ?_; rintro e w' ⟨rfl, rfl⟩)
    go_ret
    exact ⟨ret_int E.out, ((Below.refl _ _).alloc (Nat.le_refl _) _).alloc (by simp) _⟩
  · have E : Hid _ := cmp_hi a b a0 a1 b0 b1 g
    have g' : (hi a == hi b) = false := by simpa using g
    clear g
    go_enter Tryz.func35, Tryz.ntmps35
    go_wp2_with (go_at_call 68; refine (cmpI64_any _ _ _).mono ?_; rintro e w' ⟨rfl, rfl⟩)
    go_ret
    exact ⟨ret_int E.out, ((Below.refl _ _).alloc (Nat.le_refl _) _).alloc (by simp) _⟩
theorem sign_any {ah al : Int} (a : Int) (ha : ah = hi a) (hl : al = lo a) (a0 : -170141183460469231731687303715884105728 ≤ a) (a1 : a < 170141183460469231731687303715884105728) (w : World) :
    Calls Tryz.prog 136 #[.agg #[.int .i64 ah, .int .u64 al]] w fun e w' => e = .returned (.int .i64 (cmpI a 0)) ∧ Below w.heap.size w w' := by
  subst ha hl
  go_enter Tryz.func136, Tryz.ntmps136
  go_wp2_with (go_at_call 35; refine (cmp_any a 0 rfl rfl hi_0 lo_0 a0 a1 (by decide) (by decide) _).mono ?_; rintro e w' ⟨rfl, hb⟩)
  go_ret
  exact ⟨rfl, ((Below.refl _ _).alloc (Nat.le_refl _) _).trans (hb.mono (by simp))⟩
end Go.Proofs.YtjdeehffbgpenaaGreat.lw

namespace Go.Proofs.YtjdeehffbgpenaaGreat
open Go.RowKit
set_option linter.unusedVariables false

/-- The cells of points, one behind the other. -/
def pcells : List (Int × Int) → List Value
  | [] => []
  | p :: l => .int .i64 p.1 :: .int .i64 p.2 :: pcells l
theorem pcells_at : ∀ (L : List (Int × Int)) (k : Nat) (x y : Int), L[k]? = some (x, y) → (pcells L)[k * 2]? = some (.int .i64 x) ∧ (pcells L)[k * 2 + 1]? = some (.int .i64 y)
  | [], k, x, y, h => by simp at h
  | p :: l, 0, x, y, h => by simp at h; subst h; exact ⟨rfl, rfl⟩
  | p :: l, k + 1, x, y, h => by
    have h' : l[k]? = some (x, y) := by simpa using h
    have := pcells_at l k x y h'
    have e1 : (k + 1) * 2 = k * 2 + 1 + 1 := by omega
    rw [e1]
    exact ⟨this.1, this.2⟩
/-- Whether all points can be. -/
def canAll (L : List (Int × Int)) : Bool := L.all fun p => canC p.1 p.2
theorem canAll_drop {L : List (Int × Int)} {k : Nat} {x y : Int} (h : L[k]? = some (x, y)) : canAll (L.drop k) = (canC x y && canAll (L.drop (k + 1))) := by
  obtain ⟨hk, he⟩ := List.getElem?_eq_some_iff.1 h
  rw [List.drop_eq_getElem_cons hk, he]
  rfl
theorem lw_sign (x : Int) : lw.cmpI x 0 = x.sign := cmp_sign x
set_option maxRecDepth 100000 in
theorem pcan (L : List (Int × Int)) (n b : Nat) (w : World) (hn : n = L.length) (hs : n ≤ 1000) (hr : Row w b (pcells L)) (hb : b < w.heap.size) {r : Bool} (hres : r = canAll L) : Calls Tryz.prog 107 #[.slice (some ⟨b, 0, none⟩) n n] w fun e w' => e = .returned (.bool r) ∧ Below w.heap.size w w' := by
  subst hn
  have HR : Hid _ := hres
  clear hres
  go_enter Tryz.func107, Tryz.ntmps107
  go_wp2
  go_loopw [7] (fun i wr => ∃ k : Nat, k ≤ L.length ∧ i = .int .i64 (k : Int) ∧ canAll L = canAll (L.drop k) ∧ Below w.heap.size w wr) (fun i _ => L.length - (intOf i).toNat)
  case atStart => exact ⟨0, by omega, rfl, rfl, Below.refl _ _⟩
  case round =>
    obtain ⟨k, hk, rfl, hd, bel⟩ := hrel
    by_cases hlt : k < L.length
    · obtain ⟨x, y, hxy⟩ : ∃ x y, L[k]? = some (x, y) := ⟨L[k].1, L[k].2, by rw [List.getElem?_eq_getElem hlt]⟩
      obtain ⟨c1, c2⟩ := pcells_at L k x y hxy
      have hr' := hr.below bel hb
      have q1 := hr'.cell _ _ c1
      have q2 := hr'.cell _ _ c2
      rw [canAll_drop hxy] at hd
      have HD : Hid _ := hd
      clear hr hr' hxy c1 c2 hd
      obtain ⟨V, hV, bV, x_p, sV⟩ := bs_2 wr (.int .i64 x) (.int .i64 y) 41
      cases hc : canC x y
      · go_wp2_with (go_at_call 111; fail)
        rw [← hV]
        clear hV
        refine (lCan x y V hc.symm).mono ?_
        rintro e w1 ⟨rfl, b1⟩
        go_wp2
        go_ret
        exact ⟨by rw [HR.out, HD.out, hc]; rfl, also (also bel bV) b1⟩
      · go_wp2_with (go_at_call 111; fail)
        rw [← hV]
        clear hV
        refine (lCan x y V hc.symm).mono ?_
        rintro e w1 ⟨rfl, b1⟩
        have hw : wrap64 ((k : Int) + 1) = (k : Int) + 1 := wrap_in (by omega) (by omega)
        go_wp2
        go_roundw
        case rel => exact ⟨k + 1, by omega, by simp, by rw [HD.out, hc]; rfl, also (also bel bV) b1⟩
        case measure => simp [intOf]; omega
    · obtain rfl : k = L.length := by omega
      go_wp2
      go_ret
      exact ⟨by rw [HR.out, hd, List.drop_length]; rfl, bel⟩
theorem can3 {a1 a2 b1 b2 c1 c2 : Int} : canAll [(a1, a2), (b1, b2), (c1, c2)] = true ↔ (canC a1 a2 = true ∧ canC b1 b2 = true ∧ canC c1 c2 = true) := by simp [canAll]
/-- Differences of points that can be. -/
theorem can_sub {x y : Int} (hx : inC x = true) (hy : inC y = true) : wrap64 (x - y) = x - y ∧ -9223372036854775808 ≤ x - y ∧ x - y ≤ 9223372036854775807 := by
  have h := can_diff hx hy
  exact ⟨wrap_in (by omega) (by omega), by omega, by omega⟩
/-- Twice the area, the square of the distance, as they are told: nought, if a point can't be. -/
def arP (a1 a2 b1 b2 c1 c2 : Int) : Int := if canAll [(a1, a2), (b1, b2), (c1, c2)] then areaP a1 a2 b1 b2 c1 c2 else 0
theorem area_wide {a1 a2 b1 b2 c1 c2 : Int} (ha : canC a1 a2 = true) (hb : canC b1 b2 = true) (hc : canC c1 c2 = true) : -10000000000000000000000000 ≤ areaP a1 a2 b1 b2 c1 c2 ∧ areaP a1 a2 b1 b2 c1 c2 ≤ 10000000000000000000000000 := by
  have h := area_abs (D := 2199023255552) (can_diff (canC_true.1 hb).1 (canC_true.1 ha).1) (can_diff (canC_true.1 hb).2 (canC_true.1 ha).2) (can_diff (canC_true.1 hc).1 (canC_true.1 ha).1) (can_diff (canC_true.1 hc).2 (canC_true.1 ha).2)
  omega
theorem ar_wide (a1 a2 b1 b2 c1 c2 : Int) : -10000000000000000000000000 ≤ arP a1 a2 b1 b2 c1 c2 ∧ arP a1 a2 b1 b2 c1 c2 ≤ 10000000000000000000000000 := by
  unfold arP
  cases h : canAll [(a1, a2), (b1, b2), (c1, c2)]
  · exact ⟨by simp, by simp⟩
  · obtain ⟨h1, h2, h3⟩ := can3.1 h
    exact area_wide h1 h2 h3
set_option maxRecDepth 100000 in
set_option maxHeartbeats 4000000 in
theorem parea (a1 a2 b1 b2 c1 c2 : Int) (w : World) (ha : canC a1 a2 = true) (hb : canC b1 b2 = true) (hc : canC c1 c2 = true) {u v : Int} (hu : u = lw.hi (areaP a1 a2 b1 b2 c1 c2)) (hv : v = lw.lo (areaP a1 a2 b1 b2 c1 c2)) :
    Calls Tryz.prog 108 #[.agg #[.int .i64 a1, .int .i64 a2], .agg #[.int .i64 b1, .int .i64 b2], .agg #[.int .i64 c1, .int .i64 c2]] w fun e w' => e = .returned (.agg #[.int .i64 u, .int .u64 v]) ∧ Below w.heap.size w w' := by
  obtain ⟨x, hx⟩ : ∃ x, x = b1 - a1 := ⟨_, rfl⟩
  have c_x := can_sub (canC_true.1 hb).1 (canC_true.1 ha).1
  rw [← hx] at c_x
  have w_x : wrap64 (b1 - a1) = x := by rw [← hx]; exact c_x.1
  have v_x : IntKind.i64.wrap (b1 - a1) = x := (wrap_i64 _).trans w_x
  have R_x : Hid _ := c_x.2
  have E_x : Hid _ := hx
  clear c_x hx
  obtain ⟨y, hy⟩ : ∃ y, y = c2 - a2 := ⟨_, rfl⟩
  have c_y := can_sub (canC_true.1 hc).2 (canC_true.1 ha).2
  rw [← hy] at c_y
  have w_y : wrap64 (c2 - a2) = y := by rw [← hy]; exact c_y.1
  have v_y : IntKind.i64.wrap (c2 - a2) = y := (wrap_i64 _).trans w_y
  have R_y : Hid _ := c_y.2
  have E_y : Hid _ := hy
  clear c_y hy
  obtain ⟨z, hz⟩ : ∃ z, z = b2 - a2 := ⟨_, rfl⟩
  have c_z := can_sub (canC_true.1 hb).2 (canC_true.1 ha).2
  rw [← hz] at c_z
  have w_z : wrap64 (b2 - a2) = z := by rw [← hz]; exact c_z.1
  have v_z : IntKind.i64.wrap (b2 - a2) = z := (wrap_i64 _).trans w_z
  have R_z : Hid _ := c_z.2
  have E_z : Hid _ := hz
  clear c_z hz
  obtain ⟨t, ht⟩ : ∃ t, t = c1 - a1 := ⟨_, rfl⟩
  have c_t := can_sub (canC_true.1 hc).1 (canC_true.1 ha).1
  rw [← ht] at c_t
  have w_t : wrap64 (c1 - a1) = t := by rw [← ht]; exact c_t.1
  have v_t : IntKind.i64.wrap (c1 - a1) = t := (wrap_i64 _).trans w_t
  have R_t : Hid _ := c_t.2
  have E_t : Hid _ := ht
  clear c_t ht
  have HU : Hid (u = lw.hi (x * y - z * t)) := by unfold Hid; rw [hu, E_x.out, E_y.out, E_z.out, E_t.out]; rfl
  have HV : Hid (v = lw.lo (x * y - z * t)) := by unfold Hid; rw [hv, E_x.out, E_y.out, E_z.out, E_t.out]; rfl
  clear hu hv ha hb hc
  obtain ⟨W, hW, bW, x_a, x_b, x_c, x_r, sW⟩ := bs_2222 w (.int .i64 a1) (.int .i64 a2) (.int .i64 b1) (.int .i64 b2) (.int .i64 c1) (.int .i64 c2) (.int .i64 0) (.int .u64 0) 41 41 41 90
  have zbW := bW.size
  have BB := bW
  go_enter Tryz.func108, Tryz.ntmps108
  go_wp2
  rw [← hW]
  clear hW
  have dd1 : Below W.heap.size W W.drew := (Below.refl _ _).drew
  have zdd1 := dd1.size
  replace BB := also BB dd1
  replace x_a := x_a.on dd1
  replace x_b := x_b.on dd1
  replace x_c := x_c.on dd1
  replace x_r := x_r.on dd1
  refine wp_region_held_drew (S := (fun w' => w'.cell? ⟨w.heap.size, 0, none⟩ = some (.int .i64 a1) ∧ w'.cell? ⟨w.heap.size, 1, none⟩ = some (.int .i64 a2) ∧ w'.cell? ⟨w.heap.size + 1, 0, none⟩ = some (.int .i64 b1) ∧ w'.cell? ⟨w.heap.size + 1, 1, none⟩ = some (.int .i64 b2) ∧ w'.cell? ⟨w.heap.size + 1 + 1, 0, none⟩ = some (.int .i64 c1) ∧ w'.cell? ⟨w.heap.size + 1 + 1, 1, none⟩ = some (.int .i64 c2) ∧ Below w.heap.size w w')) (by kernel_rfl) ?_ (fun hHeld => ?_)
  · exact ⟨x_a.c0, x_a.c1, x_b.c0, x_b.c1, x_c.c0, x_c.c1, BB⟩
  refine ty (i := 0) (v := ?vs0) rfl ?hys0 ?_
  case hys0 => (intro w hSw; (try dsimp only at hSw); go_simp <;> with_reducible rfl)
  simp only [Act.put, ps1, ps2, ps3]
  refine ty (i := 1) (v := ?vs1) rfl ?hys1 ?_
  case hys1 => (intro w hSw; (try dsimp only at hSw); go_simp <;> with_reducible rfl)
  simp only [Act.put, ps1, ps2, ps3]
  refine ty (i := 2) (v := ?vs2) rfl ?hys2 ?_
  case hys2 => (intro w hSw; (try dsimp only at hSw); go_simp <;> with_reducible rfl)
  simp only [Act.put, ps1, ps2, ps3]
  refine ty (i := 3) (v := ?vs3) rfl ?hys3 ?_
  case hys3 => (intro w hSw; (try dsimp only at hSw); go_simp <;> with_reducible rfl)
  simp only [Act.put, ps1, ps2, ps3]
  refine ty (i := 4) (v := ?vs4) rfl ?hys4 ?_
  case hys4 => (intro w hSw; (try dsimp only at hSw); go_simp <;> with_reducible rfl)
  simp only [Act.put, ps1, ps2, ps3]
  refine ty (i := 5) (v := ?vs5) rfl ?hys5 ?_
  case hys5 => (intro w hSw; (try dsimp only at hSw); go_simp <;> with_reducible rfl)
  simp only [Act.put, ps1, ps2, ps3]
  refine ty (i := 6) (v := ?vs6) rfl ?hys6 ?_
  case hys6 => (intro w hSw; (try dsimp only at hSw); go_simp <;> with_reducible rfl)
  simp only [Act.put, ps1, ps2, ps3]
  refine ty (i := 7) (v := ?vs7) rfl ?hys7 ?_
  case hys7 => (intro w hSw; (try dsimp only at hSw); go_simp <;> with_reducible rfl)
  simp only [Act.put, ps1, ps2, ps3]
  refine ty (i := 8) (v := ?vs8) rfl ?hys8 ?_
  case hys8 => (intro w hSw; (try dsimp only at hSw); go_simp <;> with_reducible rfl)
  simp only [Act.put, ps1, ps2, ps3]
  refine ty (i := 9) (v := ?vs9) rfl ?hys9 ?_
  case hys9 => (intro w hSw; (try dsimp only at hSw); go_simp <;> with_reducible rfl)
  simp only [Act.put, ps1, ps2, ps3]
  refine ty (i := 11) (v := ?vs11) rfl ?hys11 ?_
  case hys11 => (intro w hSw; (try dsimp only at hSw); go_simp <;> with_reducible rfl)
  simp only [Act.put, ps1, ps2, ps3]
  refine ty (i := 12) (v := ?vs12) rfl ?hys12 ?_
  case hys12 => (intro w hSw; (try dsimp only at hSw); go_simp <;> with_reducible rfl)
  simp only [Act.put, ps1, ps2, ps3]
  refine ty (i := 13) (v := ?vs13) rfl ?hys13 ?_
  case hys13 => (intro w hSw; (try dsimp only at hSw); go_simp <;> with_reducible rfl)
  simp only [Act.put, ps1, ps2, ps3]
  refine ty (i := 14) (v := ?vs14) rfl ?hys14 ?_
  case hys14 => (intro w hSw; (try dsimp only at hSw); go_simp <;> with_reducible rfl)
  simp only [Act.put, ps1, ps2, ps3]
  refine ty (i := 15) (v := ?vs15) rfl ?hys15 ?_
  case hys15 => (intro w hSw; (try dsimp only at hSw); go_simp <;> with_reducible rfl)
  simp only [Act.put, ps1, ps2, ps3]
  refine ty (i := 16) (v := ?vs16) rfl ?hys16 ?_
  case hys16 => (intro w hSw; (try dsimp only at hSw); go_simp <;> with_reducible rfl)
  simp only [Act.put, ps1, ps2, ps3]
  refine ty (i := 17) (v := ?vs17) rfl ?hys17 ?_
  case hys17 => (intro w hSw; (try dsimp only at hSw); go_simp <;> with_reducible rfl)
  simp only [Act.put, ps1, ps2, ps3]
  refine ty (i := 18) (v := ?vs18) rfl ?hys18 ?_
  case hys18 => (intro w hSw; (try dsimp only at hSw); go_simp <;> with_reducible rfl)
  simp only [Act.put, ps1, ps2, ps3]
  refine ty (i := 19) (v := ?vs19) rfl ?hys19 ?_
  case hys19 => (intro w hSw; (try dsimp only at hSw); go_simp <;> with_reducible rfl)
  simp only [Act.put, ps1, ps2, ps3]
  refine ty (i := 20) (v := ?vs20) rfl ?hys20 ?_
  case hys20 => (intro w hSw; (try dsimp only at hSw); go_simp <;> with_reducible rfl)
  simp only [Act.put, ps1, ps2, ps3]
  refine take_call (i := 10) rfl (by kernel_rfl) (fun Kc hK => ?_)
  go_simp
  (go_at_call 37; refine (lw.mul_any x y R_x.out.1 R_x.out.2 R_y.out.1 R_y.out.2 _).mono ?_; rintro e w1 ⟨rfl, bw1⟩)
  refine hK.out _ _ ?_ (fun hHeld => ?_)
  · exact ⟨cell_on bw1 hHeld.1, cell_on bw1 hHeld.2.1, cell_on bw1 hHeld.2.2.1, cell_on bw1 hHeld.2.2.2.1, cell_on bw1 hHeld.2.2.2.2.1, cell_on bw1 hHeld.2.2.2.2.2.1, also hHeld.2.2.2.2.2.2 bw1⟩
  clear hK Kc
  have zbw1 := bw1.size
  replace BB := also BB bw1
  replace x_a := x_a.on bw1
  replace x_b := x_b.on bw1
  replace x_c := x_c.on bw1
  replace x_r := x_r.on bw1
  refine take_call (i := 21) rfl (by kernel_rfl) (fun Kc hK => ?_)
  go_simp
  (go_at_call 37; refine (lw.mul_any z t R_z.out.1 R_z.out.2 R_t.out.1 R_t.out.2 _).mono ?_; rintro e w2 ⟨rfl, bw2⟩)
  refine hK.out _ _ ?_ (fun hHeld => ?_)
  · exact ⟨cell_on bw2 hHeld.1, cell_on bw2 hHeld.2.1, cell_on bw2 hHeld.2.2.1, cell_on bw2 hHeld.2.2.2.1, cell_on bw2 hHeld.2.2.2.2.1, cell_on bw2 hHeld.2.2.2.2.2.1, also hHeld.2.2.2.2.2.2 bw2⟩
  clear hK Kc
  have zbw2 := bw2.size
  replace BB := also BB bw2
  replace x_a := x_a.on bw2
  replace x_b := x_b.on bw2
  replace x_c := x_c.on bw2
  replace x_r := x_r.on bw2
  refine take_call (i := 22) rfl (by kernel_rfl) (fun Kc hK => ?_)
  go_simp
  (go_at_call 123; refine (lw.sub_any (x * y) (z * t) rfl rfl rfl rfl _).mono ?_; rintro e w3 ⟨rfl, bw3⟩)
  refine hK.out _ _ ?_ (fun hHeld => ?_)
  · exact ⟨cell_on bw3 hHeld.1, cell_on bw3 hHeld.2.1, cell_on bw3 hHeld.2.2.1, cell_on bw3 hHeld.2.2.2.1, cell_on bw3 hHeld.2.2.2.2.1, cell_on bw3 hHeld.2.2.2.2.2.1, also hHeld.2.2.2.2.2.2 bw3⟩
  clear hK Kc
  have zbw3 := bw3.size
  replace BB := also BB bw3
  replace x_a := x_a.on bw3
  replace x_b := x_b.on bw3
  replace x_c := x_c.on bw3
  replace x_r := x_r.on bw3
  have ⟨x_r_0, x_r_1, x_r_2, x_r_3⟩ := x_r
  refine take_call (i := 23) rfl (by kernel_rfl) (fun Kc hK => ?_)
  go_simp
  refine hK.out _ _ ?_ (fun hHeld => ?_)
  · first | exact ⟨cell_put2 hHeld.1 (by omega) _ _, cell_put2 hHeld.2.1 (by omega) _ _, cell_put2 hHeld.2.2.1 (by omega) _ _, cell_put2 hHeld.2.2.2.1 (by omega) _ _, cell_put2 hHeld.2.2.2.2.1 (by omega) _ _, cell_put2 hHeld.2.2.2.2.2.1 (by omega) _ _, below_put2 hHeld.2.2.2.2.2.2 (by omega) _ _⟩ | exact ⟨x_a.c0, x_a.c1, x_b.c0, x_b.c1, x_c.c0, x_c.c1, BB⟩
  clear hK Kc
  refine wpAnyH_done (by kernel_rfl) ?_ _
  go_wp2
  exact bodyPost_ret (v := .agg #[.int .i64 (lw.hi (x * y - z * t)), .int .u64 (lw.lo (x * y - z * t))]) (by simp [results, Tryz.results108, go_sem, *]) rfl (⟨by rw [HU.out, HV.out], below_put2 BB (by omega) _ _⟩)
end Go.Proofs.YtjdeehffbgpenaaGreat

namespace Go.Proofs.YtjdeehffbgpenaaGreat
open Go.RowKit
set_option linter.unusedVariables false

theorem few_num {z : Int} (h : z.natAbs ≤ 1000000000000000000000000000000000000000000000000000000000000) : hf.nlen z.natAbs ≤ 1000000 := hfew (K := 7) (Nat.lt_of_le_of_lt h (by decide)) (by decide)
theorem fieldS (s : Int) (d : Option Addr) (l c : Nat) (w : World) : (Instr.field 95 (.agg #[.int .i64 s, .slice d l c]) 0).run Tryz.prog w = .ok (.int .i64 s) w := by simp [Instr.field, go_sem, asAgg]
def R64 (x : Int) : Prop := -9223372036854775808 ≤ x ∧ x ≤ 9223372036854775807
theorem in_64 {x : Int} (h : inC x = true) : R64 x := by have := inC_true.1 h; exact ⟨by omega, by omega⟩
set_option maxRecDepth 100000 in
theorem rpDiff (a b : Int) (w : World) (ha : R64 a) (hb : R64 b) {z : Int} (hz : z = b - a) : Calls Tryz.prog 79 #[.int .i64 a, .int .i64 b] w (GotR w (fun _ => True) z) := by
  have FA : Hid _ := few_i64 ha
  have FB : Hid _ := few_i64 hb
  have HA : Hid _ := ha
  have HB : Hid _ := hb
  have HZ : Hid _ := hz
  clear ha hb hz
  obtain ⟨W, hW, bW, x_r, sW⟩ := bs_2 w (.int .i64 0) (.slice none 0 0) 95
  have zbW := bW.size
  have BB := bW
  go_enter Tryz.func79, Tryz.ntmps79
  go_wp2_with (go_at_call 42; fail)
  rw [← hW]
  clear hW
  refine (rwLong b W HB.out.1 HB.out.2).mono ?_
  rintro e w1 ⟨s1, d1, l1, c1, rfl, r1, f1, bw1⟩
  have zbw1 := bw1.size
  replace BB := also BB bw1
  replace x_r := x_r.on bw1
  go_wp2_with (go_at_call 42; fail)
  refine (rwLong a w1 HA.out.1 HA.out.2).mono ?_
  rintro e w2 ⟨s2, d2, l2, c2, rfl, r2, f2, bw2⟩
  have zbw2 := bw2.size
  replace BB := also BB bw2
  replace x_r := x_r.on bw2
  replace r1 := r1.below bw2
  go_wp2_with (go_at_call 78; fail)
  refine (rwSub s1 s2 d1 d2 l1 c1 l2 c2 b a z w2 r1 r2 FB.out FA.out HZ.out).mono ?_
  rintro e w3 ⟨s3, d3, l3, c3, rfl, r3, f3, bw3⟩
  have zbw3 := bw3.size
  replace BB := also BB bw3
  replace x_r := x_r.on bw3
  replace r1 := r1.below bw3
  replace r2 := r2.below bw3
  have ⟨x_r_0, x_r_1, x_r_2, x_r_3⟩ := x_r
  go_wp2
  exact bodyPost_ret (v := .agg #[.int .i64 s3, .slice d3 l3 c3]) (by simp [results, Tryz.results79, go_sem, *]) rfl (endR _ (by omega) BB r3 (f3 _ (by omega) ⟨f1 _ (by omega) trivial, f2 _ (by omega) trivial⟩) (fun j hj _ => f3 j (by omega) ⟨f1 j (by omega) trivial, f2 j (by omega) trivial⟩) _ _)
set_option maxRecDepth 100000 in
set_option maxHeartbeats 4000000 in
theorem rpArea (a1 a2 b1 b2 c1 c2 : Int) (w : World) (ha : canC a1 a2 = true) (hb : canC b1 b2 = true) (hc : canC c1 c2 = true) {z : Int} (hz : z = areaP a1 a2 b1 b2 c1 c2) : Calls Tryz.prog 39 #[.agg #[.int .i64 a1, .int .i64 a2], .agg #[.int .i64 b1, .int .i64 b2], .agg #[.int .i64 c1, .int .i64 c2]] w (GotR w (fun _ => True) z) := by
  have Ra1 : Hid _ := in_64 (canC_true.1 ha).1
  have Ra2 : Hid _ := in_64 (canC_true.1 ha).2
  have Rb1 : Hid _ := in_64 (canC_true.1 hb).1
  have Rb2 : Hid _ := in_64 (canC_true.1 hb).2
  have Rc1 : Hid _ := in_64 (canC_true.1 hc).1
  have Rc2 : Hid _ := in_64 (canC_true.1 hc).2
  have qx := can_diff (canC_true.1 hb).1 (canC_true.1 ha).1
  have qy := can_diff (canC_true.1 hc).2 (canC_true.1 ha).2
  have qu := can_diff (canC_true.1 hb).2 (canC_true.1 ha).2
  have qv := can_diff (canC_true.1 hc).1 (canC_true.1 ha).1
  obtain ⟨x, hx⟩ : ∃ z : Int, z = b1 - a1 := ⟨_, rfl⟩
  have Ex : Hid _ := hx
  obtain ⟨y, hy⟩ : ∃ z : Int, z = c2 - a2 := ⟨_, rfl⟩
  have Ey : Hid _ := hy
  obtain ⟨u, hu⟩ : ∃ z : Int, z = b2 - a2 := ⟨_, rfl⟩
  have Eu : Hid _ := hu
  obtain ⟨v, hv⟩ : ∃ z : Int, z = c1 - a1 := ⟨_, rfl⟩
  have Ev : Hid _ := hv
  obtain ⟨p, hp⟩ : ∃ z : Int, z = x * y := ⟨_, rfl⟩
  have Ep : Hid _ := hp
  obtain ⟨q, hq⟩ : ∃ z : Int, z = u * v := ⟨_, rfl⟩
  have Eq : Hid _ := hq
  have HZ : Hid (z = p - q) := by unfold Hid; rw [hz, hp, hq, hx, hy, hu, hv]; rfl
  rw [← hx] at qx
  have Fx : Hid _ := few_num (z := x) (by omega)
  rw [← hy] at qy
  have Fy : Hid _ := few_num (z := y) (by omega)
  rw [← hu] at qu
  have Fu : Hid _ := few_num (z := u) (by omega)
  rw [← hv] at qv
  have Fv : Hid _ := few_num (z := v) (by omega)
  have qp := prod_abs qx qy
  have qq := prod_abs qu qv
  rw [← hp] at qp
  rw [← hq] at qq
  have Fp : Hid _ := few_num (z := p) (by omega)
  have Fq : Hid _ := few_num (z := q) (by omega)
  clear hz hx hy hu hv hp hq qx qy qu qv qp qq ha hb hc
  obtain ⟨W, hW, bW, x_a, x_b, x_c, x_r, sW⟩ := bs_2222 w (.int .i64 a1) (.int .i64 a2) (.int .i64 b1) (.int .i64 b2) (.int .i64 c1) (.int .i64 c2) (.int .i64 0) (.slice none 0 0) 41 41 41 95
  have zbW := bW.size
  have BB := bW
  go_enter Tryz.func39, Tryz.ntmps39
  go_wp2
  rw [← hW]
  clear hW
  have dd1 : Below W.heap.size W W.drew := (Below.refl _ _).drew
  have zdd1 := dd1.size
  replace BB := also BB dd1
  replace x_a := x_a.on dd1
  replace x_b := x_b.on dd1
  replace x_c := x_c.on dd1
  replace x_r := x_r.on dd1
  refine wp_region_held_drew (S := (fun w' => w'.cell? ⟨w.heap.size, 0, none⟩ = some (.int .i64 a1) ∧ w'.cell? ⟨w.heap.size, 1, none⟩ = some (.int .i64 a2) ∧ w'.cell? ⟨w.heap.size + 1, 0, none⟩ = some (.int .i64 b1) ∧ w'.cell? ⟨w.heap.size + 1, 1, none⟩ = some (.int .i64 b2) ∧ w'.cell? ⟨w.heap.size + 1 + 1, 0, none⟩ = some (.int .i64 c1) ∧ w'.cell? ⟨w.heap.size + 1 + 1, 1, none⟩ = some (.int .i64 c2) ∧ Below w.heap.size w w')) (by kernel_rfl) ?_ (fun hHeld => ?_)
  · exact ⟨x_a.c0, x_a.c1, x_b.c0, x_b.c1, x_c.c0, x_c.c1, BB⟩
  refine ty (i := 0) (v := ?vs0) rfl ?hys0 ?_
  case hys0 => (intro w hSw; (try dsimp only at hSw); go_simp <;> with_reducible rfl)
  simp only [Act.put, ps1, ps2, ps3]
  refine ty (i := 1) (v := ?vs1) rfl ?hys1 ?_
  case hys1 => (intro w hSw; (try dsimp only at hSw); go_simp <;> with_reducible rfl)
  simp only [Act.put, ps1, ps2, ps3]
  refine ty (i := 2) (v := ?vs2) rfl ?hys2 ?_
  case hys2 => (intro w hSw; (try dsimp only at hSw); go_simp <;> with_reducible rfl)
  simp only [Act.put, ps1, ps2, ps3]
  refine ty (i := 3) (v := ?vs3) rfl ?hys3 ?_
  case hys3 => (intro w hSw; (try dsimp only at hSw); go_simp <;> with_reducible rfl)
  simp only [Act.put, ps1, ps2, ps3]
  refine ty (i := 5) (v := ?vs5) rfl ?hys5 ?_
  case hys5 => (intro w hSw; (try dsimp only at hSw); go_simp <;> with_reducible rfl)
  simp only [Act.put, ps1, ps2, ps3]
  refine ty (i := 6) (v := ?vs6) rfl ?hys6 ?_
  case hys6 => (intro w hSw; (try dsimp only at hSw); go_simp <;> with_reducible rfl)
  simp only [Act.put, ps1, ps2, ps3]
  refine ty (i := 7) (v := ?vs7) rfl ?hys7 ?_
  case hys7 => (intro w hSw; (try dsimp only at hSw); go_simp <;> with_reducible rfl)
  simp only [Act.put, ps1, ps2, ps3]
  refine ty (i := 8) (v := ?vs8) rfl ?hys8 ?_
  case hys8 => (intro w hSw; (try dsimp only at hSw); go_simp <;> with_reducible rfl)
  simp only [Act.put, ps1, ps2, ps3]
  refine ty (i := 11) (v := ?vs11) rfl ?hys11 ?_
  case hys11 => (intro w hSw; (try dsimp only at hSw); go_simp <;> with_reducible rfl)
  simp only [Act.put, ps1, ps2, ps3]
  refine ty (i := 12) (v := ?vs12) rfl ?hys12 ?_
  case hys12 => (intro w hSw; (try dsimp only at hSw); go_simp <;> with_reducible rfl)
  simp only [Act.put, ps1, ps2, ps3]
  refine ty (i := 13) (v := ?vs13) rfl ?hys13 ?_
  case hys13 => (intro w hSw; (try dsimp only at hSw); go_simp <;> with_reducible rfl)
  simp only [Act.put, ps1, ps2, ps3]
  refine ty (i := 14) (v := ?vs14) rfl ?hys14 ?_
  case hys14 => (intro w hSw; (try dsimp only at hSw); go_simp <;> with_reducible rfl)
  simp only [Act.put, ps1, ps2, ps3]
  refine ty (i := 16) (v := ?vs16) rfl ?hys16 ?_
  case hys16 => (intro w hSw; (try dsimp only at hSw); go_simp <;> with_reducible rfl)
  simp only [Act.put, ps1, ps2, ps3]
  refine ty (i := 17) (v := ?vs17) rfl ?hys17 ?_
  case hys17 => (intro w hSw; (try dsimp only at hSw); go_simp <;> with_reducible rfl)
  simp only [Act.put, ps1, ps2, ps3]
  refine ty (i := 18) (v := ?vs18) rfl ?hys18 ?_
  case hys18 => (intro w hSw; (try dsimp only at hSw); go_simp <;> with_reducible rfl)
  simp only [Act.put, ps1, ps2, ps3]
  refine ty (i := 19) (v := ?vs19) rfl ?hys19 ?_
  case hys19 => (intro w hSw; (try dsimp only at hSw); go_simp <;> with_reducible rfl)
  simp only [Act.put, ps1, ps2, ps3]
  refine take_call (i := 4) rfl (by kernel_rfl) (fun Kc hK => ?_)
  go_simp
  (go_at_call 79; refine (rpDiff a1 b1 _ Ra1.out Rb1.out Ex.out).mono ?_; rintro e w1 ⟨s11, d11, l11, c11, rfl, r11, f11, bw1⟩)
  refine hK.out _ _ ?_ (fun hHeld => ?_)
  · exact ⟨cell_on bw1 hHeld.1, cell_on bw1 hHeld.2.1, cell_on bw1 hHeld.2.2.1, cell_on bw1 hHeld.2.2.2.1, cell_on bw1 hHeld.2.2.2.2.1, cell_on bw1 hHeld.2.2.2.2.2.1, also hHeld.2.2.2.2.2.2 bw1⟩
  clear hK Kc
  have zbw1 := bw1.size
  replace BB := also BB bw1
  replace x_a := x_a.on bw1
  replace x_b := x_b.on bw1
  replace x_c := x_c.on bw1
  replace x_r := x_r.on bw1
  refine take_call (i := 9) rfl (by kernel_rfl) (fun Kc hK => ?_)
  go_simp
  (go_at_call 79; refine (rpDiff a2 c2 _ Ra2.out Rc2.out Ey.out).mono ?_; rintro e w2 ⟨s12, d12, l12, c12, rfl, r12, f12, bw2⟩)
  refine hK.out _ _ ?_ (fun hHeld => ?_)
  · exact ⟨cell_on bw2 hHeld.1, cell_on bw2 hHeld.2.1, cell_on bw2 hHeld.2.2.1, cell_on bw2 hHeld.2.2.2.1, cell_on bw2 hHeld.2.2.2.2.1, cell_on bw2 hHeld.2.2.2.2.2.1, also hHeld.2.2.2.2.2.2 bw2⟩
  clear hK Kc
  have zbw2 := bw2.size
  replace BB := also BB bw2
  replace x_a := x_a.on bw2
  replace x_b := x_b.on bw2
  replace x_c := x_c.on bw2
  replace x_r := x_r.on bw2
  replace r11 := r11.below bw2
  refine take_call (i := 10) rfl (by kernel_rfl) (fun Kc hK => ?_)
  go_simp
  (go_at_call 41; refine (rwMul s11 s12 d11 d12 l11 c11 l12 c12 x y p _ r11 r12 Fx.out Fy.out Ep.out).mono ?_; rintro e w3 ⟨s13, d13, l13, c13, rfl, r13, f13, bw3⟩)
  refine hK.out _ _ ?_ (fun hHeld => ?_)
  · exact ⟨cell_on bw3 hHeld.1, cell_on bw3 hHeld.2.1, cell_on bw3 hHeld.2.2.1, cell_on bw3 hHeld.2.2.2.1, cell_on bw3 hHeld.2.2.2.2.1, cell_on bw3 hHeld.2.2.2.2.2.1, also hHeld.2.2.2.2.2.2 bw3⟩
  clear hK Kc
  have zbw3 := bw3.size
  replace BB := also BB bw3
  replace x_a := x_a.on bw3
  replace x_b := x_b.on bw3
  replace x_c := x_c.on bw3
  replace x_r := x_r.on bw3
  replace r11 := r11.below bw3
  replace r12 := r12.below bw3
  refine take_call (i := 15) rfl (by kernel_rfl) (fun Kc hK => ?_)
  go_simp
  (go_at_call 79; refine (rpDiff a2 b2 _ Ra2.out Rb2.out Eu.out).mono ?_; rintro e w4 ⟨s14, d14, l14, c14, rfl, r14, f14, bw4⟩)
  refine hK.out _ _ ?_ (fun hHeld => ?_)
  · exact ⟨cell_on bw4 hHeld.1, cell_on bw4 hHeld.2.1, cell_on bw4 hHeld.2.2.1, cell_on bw4 hHeld.2.2.2.1, cell_on bw4 hHeld.2.2.2.2.1, cell_on bw4 hHeld.2.2.2.2.2.1, also hHeld.2.2.2.2.2.2 bw4⟩
  clear hK Kc
  have zbw4 := bw4.size
  replace BB := also BB bw4
  replace x_a := x_a.on bw4
  replace x_b := x_b.on bw4
  replace x_c := x_c.on bw4
  replace x_r := x_r.on bw4
  replace r11 := r11.below bw4
  replace r12 := r12.below bw4
  replace r13 := r13.below bw4
  refine take_call (i := 20) rfl (by kernel_rfl) (fun Kc hK => ?_)
  go_simp
  (go_at_call 79; refine (rpDiff a1 c1 _ Ra1.out Rc1.out Ev.out).mono ?_; rintro e w5 ⟨s15, d15, l15, c15, rfl, r15, f15, bw5⟩)
  refine hK.out _ _ ?_ (fun hHeld => ?_)
  · exact ⟨cell_on bw5 hHeld.1, cell_on bw5 hHeld.2.1, cell_on bw5 hHeld.2.2.1, cell_on bw5 hHeld.2.2.2.1, cell_on bw5 hHeld.2.2.2.2.1, cell_on bw5 hHeld.2.2.2.2.2.1, also hHeld.2.2.2.2.2.2 bw5⟩
  clear hK Kc
  have zbw5 := bw5.size
  replace BB := also BB bw5
  replace x_a := x_a.on bw5
  replace x_b := x_b.on bw5
  replace x_c := x_c.on bw5
  replace x_r := x_r.on bw5
  replace r11 := r11.below bw5
  replace r12 := r12.below bw5
  replace r13 := r13.below bw5
  replace r14 := r14.below bw5
  refine take_call (i := 21) rfl (by kernel_rfl) (fun Kc hK => ?_)
  go_simp
  (go_at_call 41; refine (rwMul s14 s15 d14 d15 l14 c14 l15 c15 u v q _ r14 r15 Fu.out Fv.out Eq.out).mono ?_; rintro e w6 ⟨s16, d16, l16, c16, rfl, r16, f16, bw6⟩)
  refine hK.out _ _ ?_ (fun hHeld => ?_)
  · exact ⟨cell_on bw6 hHeld.1, cell_on bw6 hHeld.2.1, cell_on bw6 hHeld.2.2.1, cell_on bw6 hHeld.2.2.2.1, cell_on bw6 hHeld.2.2.2.2.1, cell_on bw6 hHeld.2.2.2.2.2.1, also hHeld.2.2.2.2.2.2 bw6⟩
  clear hK Kc
  have zbw6 := bw6.size
  replace BB := also BB bw6
  replace x_a := x_a.on bw6
  replace x_b := x_b.on bw6
  replace x_c := x_c.on bw6
  replace x_r := x_r.on bw6
  replace r11 := r11.below bw6
  replace r12 := r12.below bw6
  replace r13 := r13.below bw6
  replace r14 := r14.below bw6
  replace r15 := r15.below bw6
  refine take_call (i := 22) rfl (by kernel_rfl) (fun Kc hK => ?_)
  go_simp
  (go_at_call 78; refine (rwSub s13 s16 d13 d16 l13 c13 l16 c16 p q z _ r13 r16 Fp.out Fq.out HZ.out).mono ?_; rintro e w7 ⟨s17, d17, l17, c17, rfl, r17, f17, bw7⟩)
  refine hK.out _ _ ?_ (fun hHeld => ?_)
  · exact ⟨cell_on bw7 hHeld.1, cell_on bw7 hHeld.2.1, cell_on bw7 hHeld.2.2.1, cell_on bw7 hHeld.2.2.2.1, cell_on bw7 hHeld.2.2.2.2.1, cell_on bw7 hHeld.2.2.2.2.2.1, also hHeld.2.2.2.2.2.2 bw7⟩
  clear hK Kc
  have zbw7 := bw7.size
  replace BB := also BB bw7
  replace x_a := x_a.on bw7
  replace x_b := x_b.on bw7
  replace x_c := x_c.on bw7
  replace x_r := x_r.on bw7
  replace r11 := r11.below bw7
  replace r12 := r12.below bw7
  replace r13 := r13.below bw7
  replace r14 := r14.below bw7
  replace r15 := r15.below bw7
  replace r16 := r16.below bw7
  have ⟨x_r_0, x_r_1, x_r_2, x_r_3⟩ := x_r
  refine take_call (i := 23) rfl (by kernel_rfl) (fun Kc hK => ?_)
  go_simp
  refine hK.out _ _ ?_ (fun hHeld => ?_)
  · first | exact ⟨cell_put2 hHeld.1 (by omega) _ _, cell_put2 hHeld.2.1 (by omega) _ _, cell_put2 hHeld.2.2.1 (by omega) _ _, cell_put2 hHeld.2.2.2.1 (by omega) _ _, cell_put2 hHeld.2.2.2.2.1 (by omega) _ _, cell_put2 hHeld.2.2.2.2.2.1 (by omega) _ _, below_put2 hHeld.2.2.2.2.2.2 (by omega) _ _⟩ | exact ⟨x_a.c0, x_a.c1, x_b.c0, x_b.c1, x_c.c0, x_c.c1, BB⟩
  clear hK Kc
  refine wpAnyH_done (by kernel_rfl) ?_ _
  go_wp2
  exact bodyPost_ret (v := .agg #[.int .i64 s17, .slice d17 l17 c17]) (by simp [results, Tryz.results39, go_sem, *]) rfl (endR _ (by omega) BB r17 (f17 _ (by omega) ⟨f13 _ (by omega) trivial, f16 _ (by omega) trivial⟩) (fun j hj _ => f17 j (by omega) ⟨f13 j (by omega) trivial, f16 j (by omega) trivial⟩) _ _)
end Go.Proofs.YtjdeehffbgpenaaGreat
