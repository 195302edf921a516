/-
  What package quad's sum, difference and negation answer, as words.
-/
import Derived.Test.YtjlndalcaepofaaRows
import Derived.Test.YtjlndalcaepofaaQuadA
import Derived.WalkKit
import Derived.WalkSpells
import Derived.StillTactics
import Derived.Laws.Pointers
import Derived.Laws.Externs
import Derived.Shelf.Spec.BitsCarry
import Derived.RowKit3
import Derived.Deep.RegionHeld3
import Derived.Deep.QuietTactic
import Derived.BigQuiet
import Derived.RegionTactic
namespace Go.Proofs.Ytjlndalcaepofaa
open Go.RowKit
set_option linter.unusedVariables false

theorem add64 (x y c : Int) (hx : 0 ≤ x) (hy : 0 ≤ y) (hc0 : 0 ≤ c) (hc : c ≤ 1) (w : World) : (callFunc 29 #[.int .u64 x, .int .u64 y, .int .u64 c]).run Try.prog w =
    .ok (.value (.tuple #[.int .u64 ((x + y + c) % 18446744073709551616), .int .u64 ((x + y + c) / 18446744073709551616)])) w := by
  rw [run_callFunc_extern Try.func29 (by kernel_rfl) (by kernel_rfl) (by kernel_rfl) (e := add64Entry) (by kernel_rfl), run_add64 x y c hx hy hc0 hc]
  rfl
theorem add64_0 (x y : Int) (hx : 0 ≤ x) (hy : 0 ≤ y) (w : World) : (callFunc 29 #[.int .u64 x, .int .u64 y, .int .u64 0]).run Try.prog w =
    .ok (.value (.tuple #[.int .u64 ((x + y) % 18446744073709551616), .int .u64 ((x + y) / 18446744073709551616)])) w := by
  simpa using add64 x y 0 hx hy (Int.le_refl 0) (by decide) w
theorem sub64 (x y b : Int) (hx : 0 ≤ x) (hy : 0 ≤ y) (hy' : y < 18446744073709551616) (hb0 : 0 ≤ b) (hb : b ≤ 1) (w : World) : (callFunc 30 #[.int .u64 x, .int .u64 y, .int .u64 b]).run Try.prog w =
    .ok (.value (.tuple #[.int .u64 ((x - y - b) % 18446744073709551616), .int .u64 (bor x (y + b))])) w := by
  obtain ⟨x, rfl⟩ := Int.eq_ofNat_of_zero_le hx
  obtain ⟨y, rfl⟩ := Int.eq_ofNat_of_zero_le hy
  obtain ⟨b, rfl⟩ := Int.eq_ofNat_of_zero_le hb0
  have e1 : (((x + 18446744073709551616 - y - b) % 18446744073709551616 : Nat) : Int) = ((x : Int) - y - b) % 18446744073709551616 := by omega
  have e2 : ((if x < y + b then 1 else 0 : Nat) : Int) = bor x (y + b) := by unfold bor; split <;> split <;> omega
  rw [← e1, ← e2, run_callFunc_extern Try.func30 (by kernel_rfl) (by kernel_rfl) (by kernel_rfl) (e := sub64Entry) (by kernel_rfl), run_sub64 x y b (by omega)]
  rfl

theorem keep_other {w : World} {b c i k : Nat} {u v : Value} (h : w.cell? ⟨b, k, none⟩ = some u) (hne : c ≠ b) : ((w.setCell ⟨c, i, none⟩ v).drew).cell? ⟨b, k, none⟩ = some u :=
  (World.cell?_setCell_other _ _ _ _ (by intro q; simp only [Addr.mk.injEq] at q; omega)).trans h

/-- What holds at the head of each round of the sum's loop: both arguments, the answer's place, the sum so far. -/
structure AddRel (w : World) (x y z : Int) (k : Nat) (wr : World) : Prop where
  ra : Row wr w.heap.size (q.dcells 4 x)
  rb : Row wr (w.heap.size + 1) (q.dcells 4 y)
  rz : Row wr (w.heap.size + 1 + 1) (q.dcells 4 0)
  rs : Row wr (w.heap.size + 1 + 1 + 1) (q.mix 4 k z 0)
  bel : Below w.heap.size w wr
  size : w.heap.size + 1 + 1 + 1 < wr.heap.size
theorem addRel_start (w : World) (x y z : Int) (t : TypeId) : AddRel w x y z 0 ((((w.alloc (.cells #[.int .u64 (q.dg x 0), .int .u64 (q.dg x 1), .int .u64 (q.dg x 2), .int .u64 (q.dg x 3)] t)).alloc (.cells #[.int .u64 (q.dg y 0), .int .u64 (q.dg y 1), .int .u64 (q.dg y 2), .int .u64 (q.dg y 3)] t)).alloc
    (.cells #[.int .u64 0, .int .u64 0, .int .u64 0, .int .u64 0] t)).alloc (.cells #[.int .u64 0, .int .u64 0, .int .u64 0, .int .u64 0] t)) := by
  have h0 := (((Row.new w (q.dcells 4 x) t).alloc (.cells (q.dcells 4 y).toArray t) (by simp <;> omega)).alloc (.cells (q.dcells 4 0).toArray t) (by simp <;> omega)).alloc (.cells (q.dcells 4 0).toArray t) (by simp <;> omega)
  have h1 := ((Row.new (w.alloc (.cells (q.dcells 4 x).toArray t)) (q.dcells 4 y) t).alloc (.cells (q.dcells 4 0).toArray t) (by simp <;> omega)).alloc (.cells (q.dcells 4 0).toArray t) (by simp <;> omega)
  have h2 := (Row.new ((w.alloc (.cells (q.dcells 4 x).toArray t)).alloc (.cells (q.dcells 4 y).toArray t)) (q.dcells 4 0) t).alloc (.cells (q.dcells 4 0).toArray t) (by simp <;> omega)
  have h3 := Row.new (((w.alloc (.cells (q.dcells 4 x).toArray t)).alloc (.cells (q.dcells 4 y).toArray t)).alloc (.cells (q.dcells 4 0).toArray t)) (q.dcells 4 0) t
  simp only [World.size_alloc] at h1 h2 h3
  rw [qcells_0, qcells x, qcells y] at h0 h1 h2 h3
  refine ⟨by rw [qcells]; exact h0, by rw [qcells]; exact h1, by rw [qcells_0]; exact h2, by rw [q.mix_zero, qcells_0]; exact h3, ?_, by simp⟩
  exact ((((Below.refl _ _).alloc (Nat.le_refl _) _).alloc (by simp <;> omega) _).alloc (by simp <;> omega) _).alloc (by simp <;> omega) _
theorem addRel_next {w wr : World} {x y z d : Int} {k : Nat} (h : AddRel w x y z k wr) (hk : k < 4) (e : d = q.dg z k) :
    AddRel w x y z (k + 1) ((wr.setCell ⟨w.heap.size + 1 + 1 + 1, k, none⟩ (.int .u64 d)).drew) := by
  refine ⟨(h.ra.other _ (by omega)).drew, (h.rb.other _ (by omega)).drew, (h.rz.other _ (by omega)).drew, ?_, (h.bel.setCell (by show _ ≤ w.heap.size + 1 + 1 + 1; omega) _).drew, by simpa using h.size⟩
  rw [e, ← q.mix_set]
  exact (h.rs.set k _ (by rw [q.mix_length]; exact hk)).drew

set_option maxHeartbeats 1000000 in
theorem qadd_any {a0 a1 a2 a3 b0 b1 b2 b3 : Int} (a b : Int) (ha : Wd a a0 a1 a2 a3) (hb : Wd b b0 b1 b2 b3) (w : World) :
    Calls Try.prog 10 #[.agg #[.int .u64 a0, .int .u64 a1, .int .u64 a2, .int .u64 a3], .agg #[.int .u64 b0, .int .u64 b1, .int .u64 b2, .int .u64 b3]] w fun e w' =>
      e = .returned (.agg #[.int .u64 (q.dg (a + b) 0), .int .u64 (q.dg (a + b) 1), .int .u64 (q.dg (a + b) 2), .int .u64 (q.dg (a + b) 3)]) ∧ Below w.heap.size w w' := by
  obtain ⟨rfl, rfl, rfl, rfl⟩ := ha
  obtain ⟨rfl, rfl, rfl, rfl⟩ := hb
  go_enter Try.func10, Try.ntmps10
  go_wp2
  go_loopw [6, 8] (fun c i wr => ∃ k : Nat, k ≤ 4 ∧ i = .int .i64 (k : Int) ∧ c = .int .u64 (q.carry a b k) ∧ AddRel w a b (a + b) k wr) (fun _ i _ => 4 - (intOf i).toNat)
  case atStart => exact ⟨0, by omega, rfl, by rw [q.carry_zero], addRel_start w a b _ _⟩
  case round =>
    obtain ⟨k, hk, rfl, rfl, hr⟩ := hrel
    by_cases hlt : k < 4
    · have c1 : wr.cell? ⟨w.heap.size, k, none⟩ = some (.int .u64 (q.dg a k)) := hr.ra.cell k _ (q.dcells_at _ _ _ hlt)
      have c2 : wr.cell? ⟨w.heap.size + 1, k, none⟩ = some (.int .u64 (q.dg b k)) := hr.rb.cell k _ (q.dcells_at _ _ _ hlt)
      have c3 : wr.cell? ⟨w.heap.size + 1 + 1 + 1, k, none⟩ = some (.int .u64 (q.dg 0 k)) := hr.rs.cell k _ (q.mix_at _ _ _ _ _ hlt (Nat.le_refl _))
      have c4 : wr.frozen? ⟨w.heap.size + 1 + 1 + 1, k, none⟩ = false := hr.rs.free k (by rw [q.mix_length]; exact hlt)
      have hl : (k : Int) < 4 := by omega
      obtain ⟨d0, d1⟩ := q.dg_range a k
      obtain ⟨e0, e1⟩ := q.dg_range b k
      obtain ⟨f0, f1⟩ := q.carry_range a b k
      have hn := fun d e => addRel_next (d := d) hr hlt e
      go_wp2
      go_region_held3 (fun w' => w'.cell? ⟨w.heap.size, k, none⟩ = some (.int .u64 (q.dg a k)) ∧ w'.cell? ⟨w.heap.size + 1, k, none⟩ = some (.int .u64 (q.dg b k))) (first | exact ⟨c1, c2⟩ | exact ⟨keep_other c1 (by omega), keep_other c2 (by omega)⟩)
        (simp only [add64 _ _ _ d0 e0 f0 f1])
      go_wp2
      go_roundw
      case rel => exact ⟨k + 1, by omega, by simp, by rw [q.carry_succ, Int.add_comm (q.dg a k + q.dg b k), ← Int.add_assoc], hn _ (by rw [← q.add_digit]; congr 1; omega)⟩
      case measure => simp [intOf]; omega
    · obtain rfl : k = 4 := by omega
      obtain ⟨ra, rb, rz, rs, bel, size⟩ := hr
      rw [q.mix_full, qcells] at rs
      rw [qcells_0] at rz
      obtain ⟨c0, c1, c2, c3, _, _, _, _⟩ := row4 rs
      obtain ⟨z0, z1, z2, z3, y0, y1, y2, y3⟩ := row4 rz
      clear ra rb rs rz
      go_wp2
      refine bodyPost_ret (v := .agg #[.int .u64 (q.dg (a + b) 0), .int .u64 (q.dg (a + b) 1), .int .u64 (q.dg (a + b) 2), .int .u64 (q.dg (a + b) 3)]) (by simp [results, Try.results10, go_sem, *]) rfl ⟨rfl, ?_⟩
      exact (((bel.setCell (by show _ ≤ w.heap.size + 1 + 1; omega) _).setCell (by show _ ≤ w.heap.size + 1 + 1; omega) _).setCell (by show _ ≤ w.heap.size + 1 + 1; omega) _).setCell (by show _ ≤ w.heap.size + 1 + 1; omega) _

set_option maxHeartbeats 1000000 in
theorem qsub_any {a0 a1 a2 a3 b0 b1 b2 b3 : Int} (a b : Int) (ha : Wd a a0 a1 a2 a3) (hb : Wd b b0 b1 b2 b3) (w : World) :
    Calls Try.prog 13 #[.agg #[.int .u64 a0, .int .u64 a1, .int .u64 a2, .int .u64 a3], .agg #[.int .u64 b0, .int .u64 b1, .int .u64 b2, .int .u64 b3]] w fun e w' =>
      e = .returned (.agg #[.int .u64 (q.dg (a - b) 0), .int .u64 (q.dg (a - b) 1), .int .u64 (q.dg (a - b) 2), .int .u64 (q.dg (a - b) 3)]) ∧ Below w.heap.size w w' := by
  obtain ⟨rfl, rfl, rfl, rfl⟩ := ha
  obtain ⟨rfl, rfl, rfl, rfl⟩ := hb
  go_enter Try.func13, Try.ntmps13
  go_wp2
  go_loopw [6, 8] (fun c i wr => ∃ k : Nat, k ≤ 4 ∧ i = .int .i64 (k : Int) ∧ c = .int .u64 (bw a b k) ∧ AddRel w a b (a - b) k wr) (fun _ i _ => 4 - (intOf i).toNat)
  case atStart => exact ⟨0, by omega, rfl, by rw [bw_zero], addRel_start w a b _ _⟩
  case round =>
    obtain ⟨k, hk, rfl, rfl, hr⟩ := hrel
    by_cases hlt : k < 4
    · have c1 : wr.cell? ⟨w.heap.size, k, none⟩ = some (.int .u64 (q.dg a k)) := hr.ra.cell k _ (q.dcells_at _ _ _ hlt)
      have c2 : wr.cell? ⟨w.heap.size + 1, k, none⟩ = some (.int .u64 (q.dg b k)) := hr.rb.cell k _ (q.dcells_at _ _ _ hlt)
      have c3 : wr.cell? ⟨w.heap.size + 1 + 1 + 1, k, none⟩ = some (.int .u64 (q.dg 0 k)) := hr.rs.cell k _ (q.mix_at _ _ _ _ _ hlt (Nat.le_refl _))
      have c4 : wr.frozen? ⟨w.heap.size + 1 + 1 + 1, k, none⟩ = false := hr.rs.free k (by rw [q.mix_length]; exact hlt)
      have hl : (k : Int) < 4 := by omega
      obtain ⟨d0, d1⟩ := q.dg_range a k
      obtain ⟨e0, e1⟩ := q.dg_range b k
      obtain ⟨f0, f1⟩ := bw_range a b k
      have hn := fun d e => addRel_next (d := d) hr hlt e
      go_wp2
      go_region_held3 (fun w' => w'.cell? ⟨w.heap.size, k, none⟩ = some (.int .u64 (q.dg a k)) ∧ w'.cell? ⟨w.heap.size + 1, k, none⟩ = some (.int .u64 (q.dg b k))) (first | exact ⟨c1, c2⟩ | exact ⟨keep_other c1 (by omega), keep_other c2 (by omega)⟩)
        (simp only [sub64 _ _ _ d0 e0 e1 f0 f1])
      go_wp2
      go_roundw
      case rel => exact ⟨k + 1, by omega, by simp, by rw [bw_succ], hn _ (sub_digit _ _ _)⟩
      case measure => simp [intOf]; omega
    · obtain rfl : k = 4 := by omega
      obtain ⟨ra, rb, rz, rs, bel, size⟩ := hr
      rw [q.mix_full, qcells] at rs
      rw [qcells_0] at rz
      obtain ⟨c0, c1, c2, c3, _, _, _, _⟩ := row4 rs
      obtain ⟨z0, z1, z2, z3, y0, y1, y2, y3⟩ := row4 rz
      clear ra rb rs rz
      go_wp2
      refine bodyPost_ret (v := .agg #[.int .u64 (q.dg (a - b) 0), .int .u64 (q.dg (a - b) 1), .int .u64 (q.dg (a - b) 2), .int .u64 (q.dg (a - b) 3)]) (by simp [results, Try.results13, go_sem, *]) rfl ⟨rfl, ?_⟩
      exact (((bel.setCell (by show _ ≤ w.heap.size + 1 + 1; omega) _).setCell (by show _ ≤ w.heap.size + 1 + 1; omega) _).setCell (by show _ ≤ w.heap.size + 1 + 1; omega) _).setCell (by show _ ≤ w.heap.size + 1 + 1; omega) _

theorem qneg_any {a0 a1 a2 a3 : Int} (a : Int) (ha : Wd a a0 a1 a2 a3) (w : World) :
    Calls Try.prog 15 #[.agg #[.int .u64 a0, .int .u64 a1, .int .u64 a2, .int .u64 a3]] w fun e w' =>
      e = .returned (.agg #[.int .u64 (q.dg (-a) 0), .int .u64 (q.dg (-a) 1), .int .u64 (q.dg (-a) 2), .int .u64 (q.dg (-a) 3)]) ∧ Below w.heap.size w w' := by
  obtain ⟨rfl, rfl, rfl, rfl⟩ := ha
  have E : (0 : Int) - a = -a := by omega
  go_enter Try.func15, Try.ntmps15
  go_wp2_with (go_at_call 13; refine (qsub_any 0 a wd_0 (wd_self a) _).mono ?_; rw [E]; rintro e w' ⟨rfl, hb⟩; obtain ⟨hc, hf⟩ := bcell hb)
  refine bodyPost_ret (v := .agg #[.int .u64 (q.dg (-a) 0), .int .u64 (q.dg (-a) 1), .int .u64 (q.dg (-a) 2), .int .u64 (q.dg (-a) 3)]) (by simp [results, Try.results15, go_sem, hc]) rfl ⟨rfl, ?_⟩
  exact (((((((Below.refl _ _).alloc (Nat.le_refl _) _).alloc (by simp) _).trans (hb.mono (by simp <;> omega))).setCell (by simp <;> omega) _).setCell (by simp <;> omega) _).setCell (by simp <;> omega) _).setCell (by simp <;> omega) _
end Go.Proofs.Ytjlndalcaepofaa
