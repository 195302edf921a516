/-
  What package quad's product of words without signs answers.
-/
import Derived.Test.YtjlndalcaepofaaQuadC
import Derived.Test.YtjlndalcaepofaaHeld
namespace Go.Proofs.Ytjlndalcaepofaa
open Go.RowKit
set_option linter.unusedVariables false

theorem keep_set {w : World} {b c i k : Nat} {u v : Value} (h : w.cell? ⟨b, k, none⟩ = some u) (hne : c ≠ b) : ((w.drew).setCell ⟨c, i, none⟩ v).cell? ⟨b, k, none⟩ = some u :=
  (World.cell?_setCell_other _ _ _ _ (by intro q; simp only [Addr.mk.injEq] at q; omega)).trans h
theorem two_cells (X : Int) : q.dcells 2 X = [.int .u64 (q.dg X 0), .int .u64 (q.dg X 1)] := by simp [q.dcells, List.range, List.range.loop]
theorem mul_rows (w : World) (o1 o2 : Obj) (xs ys : List Value) (t t2 : TypeId) :
    let W := ((((((w.alloc o1).alloc o2).alloc (.cells #[.int .u64 0, .int .u64 0, .int .u64 0, .int .u64 0] t)).alloc (.cells xs.toArray t2)).alloc (.cells ys.toArray t2)).drew).alloc (.cells #[.int .u64 0, .int .u64 0, .int .u64 0, .int .u64 0] t)
    Row W (w.heap.size + 1 + 1) (q.dcells 4 0) ∧ Row W (w.heap.size + 1 + 1 + 1) xs ∧ Row W (w.heap.size + 1 + 1 + 1 + 1) ys ∧ Row W (w.heap.size + 1 + 1 + 1 + 1 + 1) (q.dcells 4 0) ∧ Below w.heap.size w W ∧ w.heap.size + 1 + 1 + 1 + 1 + 1 < W.heap.size := by
  intro W
  have h2 := ((((Row.new ((w.alloc o1).alloc o2) (q.dcells 4 0) t).alloc (.cells xs.toArray t2) (by simp <;> omega)).alloc (.cells ys.toArray t2) (by simp <;> omega)).drew).alloc (.cells (q.dcells 4 0).toArray t) (by simp <;> omega)
  have h3 := (((Row.new (((w.alloc o1).alloc o2).alloc (.cells (q.dcells 4 0).toArray t)) xs t2).alloc (.cells ys.toArray t2) (by simp <;> omega)).drew).alloc (.cells (q.dcells 4 0).toArray t) (by simp <;> omega)
  have h4 := ((Row.new ((((w.alloc o1).alloc o2).alloc (.cells (q.dcells 4 0).toArray t)).alloc (.cells xs.toArray t2)) ys t2).drew).alloc (.cells (q.dcells 4 0).toArray t) (by simp <;> omega)
  have h5 := Row.new ((((((w.alloc o1).alloc o2).alloc (.cells (q.dcells 4 0).toArray t)).alloc (.cells xs.toArray t2)).alloc (.cells ys.toArray t2)).drew) (q.dcells 4 0) t
  simp only [World.size_alloc, World.size_drew] at h2 h3 h4 h5
  rw [qcells_0] at h2 h3 h4 h5
  refine ⟨by rw [qcells_0]; exact h2, h3, h4, by rw [qcells_0]; exact h5, ?_, by simp [W]⟩
  exact (((((((Below.refl _ _).alloc (Nat.le_refl _) _).alloc (by simp <;> omega) _).alloc (by simp <;> omega) _).alloc (by simp <;> omega) _).alloc (by simp <;> omega) _).drew).alloc (by simp <;> omega) _
theorem mw_x {l h : Int} {X : Int} (e0 : l = q.dg X 0) (e1 : h = q.dg X 1) : q.dcells 2 X = [.int .u64 l, .int .u64 h] := by rw [two_cells, e0, e1]

theorem MulRel.cells {w wr : World} {X Y : Int} {bx by' : Nat} {cs ds : List Value} (h : MulRel w X Y bx by' cs wr) (e : cs = ds) : MulRel w X Y bx by' ds wr := e ▸ h

set_option maxRecDepth 20000 in
set_option maxHeartbeats 4000000 in
theorem mulWords_any {ah al bh bl : Int} (a b : Int) (ha : ah = hi a) (hal : al = lo a) (hb : bh = hi b) (hbl : bl = lo b) (w : World) :
    Calls Try.prog 32 #[.agg #[.int .i64 ah, .int .u64 al], .agg #[.int .i64 bh, .int .u64 bl]] w fun e w' =>
      e = .returned (.agg #[.int .u64 (q.dg (a % 340282366920938463463374607431768211456 * (b % 340282366920938463463374607431768211456)) 0), .int .u64 (q.dg (a % 340282366920938463463374607431768211456 * (b % 340282366920938463463374607431768211456)) 1), .int .u64 (q.dg (a % 340282366920938463463374607431768211456 * (b % 340282366920938463463374607431768211456)) 2), .int .u64 (q.dg (a % 340282366920938463463374607431768211456 * (b % 340282366920938463463374607431768211456)) 3)]) ∧ Below w.heap.size w w' := by
  subst ha hal hb hbl
  obtain ⟨X, hX⟩ : ∃ X, a % 340282366920938463463374607431768211456 = X := ⟨_, rfl⟩
  obtain ⟨Y, hY⟩ : ∃ Y, b % 340282366920938463463374607431768211456 = Y := ⟨_, rfl⟩
  have x0 : 0 ≤ X := by omega
  have x1 : X < 340282366920938463463374607431768211456 := by omega
  have y0 : 0 ≤ Y := by omega
  have y1 : Y < 340282366920938463463374607431768211456 := by omega
  have eX0 : Hid (lo a = q.dg X 0) := by unfold Hid; rw [qdg0, ← hX]; unfold lo; omega
  have eX1 : Hid (IntKind.u64.wrap (hi a) = q.dg X 1) := by unfold Hid; rw [hi_q, qdg1, qdg1]; omega
  have eY0 : Hid (lo b = q.dg Y 0) := by unfold Hid; rw [qdg0, ← hY]; unfold lo; omega
  have eY1 : Hid (IntKind.u64.wrap (hi b) = q.dg Y 1) := by unfold Hid; rw [hi_q, qdg1, qdg1]; omega
  rw [hX, hY]
  clear hX hY
  go_enter Try.func32, Try.ntmps32
  go_wp2
  go_region_held3 (fun w' => w'.cell? ⟨w.heap.size, 0, none⟩ = some (.int .i64 (hi a)) ∧ w'.cell? ⟨w.heap.size, 1, none⟩ = some (.int .u64 (lo a)) ∧ w'.cell? ⟨w.heap.size + 1, 0, none⟩ = some (.int .i64 (hi b)) ∧ w'.cell? ⟨w.heap.size + 1, 1, none⟩ = some (.int .u64 (lo b))) (refine ⟨?_, ?_, ?_, ?_⟩ <;> simp [go_sem]) (fail)
  all_goals rename_i hHeld
  · clear hHeld
    have eO : X % (18446744073709551616 : Int) ^ 0 * Y = 0 := by simp [Int.emod_one]
    have HR : Hid _ := mul_rows w (.cells #[.int .i64 (hi a), .int .u64 (lo a)] 36) (.cells #[.int .i64 (hi b), .int .u64 (lo b)] 36) [.int .u64 (lo a), .int .u64 (IntKind.u64.wrap (hi a))] [.int .u64 (lo b), .int .u64 (IntKind.u64.wrap (hi b))] 24 61
    go_wp2
    go_loopw [23] (fun ii wr => ∃ i : Nat, i ≤ 2 ∧ ii = .int .i64 (i : Int) ∧ MulRel w X Y (w.heap.size + 1 + 1 + 1) (w.heap.size + 1 + 1 + 1 + 1) (q.dcells 4 (X % 18446744073709551616 ^ i * Y)) wr) (fun ii _ => 2 - (intOf ii).toNat)
    case atStart =>
      obtain ⟨r2, r3, r4, r5, bel, sz⟩ := HR.out
      have r3 := r3.cells (mw_x eX0.out eX1.out).symm
      have r4 := r4.cells (mw_x eY0.out eY1.out).symm
      exact ⟨0, by omega, rfl, r3, r4, r2, by rw [eO]; exact r5, bel, sz⟩
    case round =>
      clear HR eO
      obtain ⟨i, hi2, rfl, hr⟩ := hrel
      by_cases hlt : i < 2
      · obtain ⟨wo, rfl⟩ : ∃ wo : World, wo = wr := ⟨_, rfl⟩
        have hl : (i : Int) < 2 := by omega
        go_wp2
        go_loopw [9, 26] (fun c kk wr => ∃ k : Nat, k ≤ 2 ∧ kk = .int .i64 (k : Int) ∧ c = .int .u64 (q.cy (X % 18446744073709551616 ^ i * Y) (q.dg X i) Y i k) ∧ MulRel w X Y (w.heap.size + 1 + 1 + 1) (w.heap.size + 1 + 1 + 1 + 1) (q.mix 4 (i + k) (X % 18446744073709551616 ^ i * Y + q.dg X i * 18446744073709551616 ^ i * Y) (X % 18446744073709551616 ^ i * Y)) wr) (fun _ kk _ => 2 - (intOf kk).toNat)
        case atStart => exact ⟨0, by omega, rfl, by rw [q.cy_zero], hr.cells (q.mix_start 4 i _ _ _).symm⟩
        case round =>
          clear hr
          obtain ⟨k, hk, rfl, rfl, hr⟩ := hrel
          by_cases hlt2 : k < 2
          · have c1 : wr.cell? ⟨w.heap.size + 1 + 1 + 1, i, none⟩ = some (.int .u64 (q.dg X i)) := hr.rx.cell i _ (q.dcells_at _ _ _ hlt)
            have c2 : wr.cell? ⟨w.heap.size + 1 + 1 + 1 + 1, k, none⟩ = some (.int .u64 (q.dg Y k)) := hr.ry.cell k _ (q.dcells_at _ _ _ hlt2)
            have c3 : wr.cell? ⟨w.heap.size + 1 + 1 + 1 + 1 + 1, i + k, none⟩ = some (.int .u64 (q.dg (X % 18446744073709551616 ^ i * Y) (i + k))) := hr.rp.cell (i + k) _ (q.mix_at _ _ _ _ _ (by omega) (Nat.le_refl _))
            have c4 : wr.frozen? ⟨w.heap.size + 1 + 1 + 1 + 1 + 1, i + k, none⟩ = false := hr.rp.free (i + k) (by rw [q.mix_length]; omega)
            have hn := hr.set (by omega) (by omega) (i + k) (by rw [q.mix_length]; omega) (.int .u64 (q.dg (X % 18446744073709551616 ^ i * Y + q.dg X i * 18446744073709551616 ^ i * Y) (i + k)))
            rw [q.mix_set] at hn
            obtain ⟨O, hO⟩ : ∃ O, X % 18446744073709551616 ^ i * Y = O := ⟨_, rfl⟩
            rw [hO] at c3 hn ⊢
            obtain ⟨e0, e1⟩ := q.dg_range X i
            obtain ⟨d0, d1⟩ := q.dg_range Y k
            obtain ⟨g0, g1⟩ := q.dg_range O (i + k)
            obtain ⟨f0, f1'⟩ := q.cy_range O (q.dg X i) Y i k e0 e1
            have f1 : q.cy O (q.dg X i) Y i k < 18446744073709551616 := by omega
            have eD : (q.dg X i * q.dg Y k + q.dg O (i + k) + q.cy O (q.dg X i) Y i k) % 18446744073709551616 = q.dg (O + q.dg X i * 18446744073709551616 ^ i * Y) (i + k) := by rw [← q.mul_digit]; congr 1; omega
            have eC : (q.dg X i * q.dg Y k + q.dg O (i + k) + q.cy O (q.dg X i) Y i k) / 18446744073709551616 = q.cy O (q.dg X i) Y i (k + 1) := by rw [q.cy_succ]; congr 1; omega
            have HN : Hid _ := hn
            have HC : Hid _ := eC
            have HD : Hid _ := eD
            have hik : (i : Int) + (k : Int) < 4 := by omega
            have hik0 : (0 : Int) ≤ (i : Int) + (k : Int) := by omega
            have ht : ((i : Int) + (k : Int)).toNat = i + k := by omega
            have hk2 : (k : Int) < 2 := by omega
            have HO : Hid _ := hO
            clear hO hr hn eD eC f1'
            have hwr : IntKind.i64.wrap ((i : Int) + (k : Int)) = (i : Int) + (k : Int) := IntWalk.i64_in _ ⟨by omega, by omega⟩
            go_wp2
            refine wp_region_held_drew (S := (fun w' => w'.cell? ⟨w.heap.size + 1 + 1 + 1, i, none⟩ = some (.int .u64 (q.dg X i)) ∧ w'.cell? ⟨w.heap.size + 1 + 1 + 1 + 1, k, none⟩ = some (.int .u64 (q.dg Y k)))) (by kernel_rfl) ?_ (fun hHeld => ?_)
            · first | exact ⟨c1, c2⟩ | exact ⟨keep_other c1 (by omega), keep_other c2 (by omega)⟩ | exact ⟨keep_set c1 (by omega), keep_set c2 (by omega)⟩
            refine take_yes (i := 0) (v := ?vx0) rfl (by kernel_rfl) (by kernel_rfl) (by kernel_rfl) (fun _ _ _ h => h) (by rfl) (by assumption) ?hyx0 ?restx0
            case hyx0 => (intro w hSw; (try dsimp only at hSw); first | (go_simp; done) | (go_simp; with_reducible rfl))
            simp only [Act.put, List.setIfInBounds_toArray, List.set_cons_zero, List.set_cons_succ]
            refine take_yes (i := 1) (v := ?vx1) rfl (by kernel_rfl) (by kernel_rfl) (by kernel_rfl) (fun _ _ _ h => h) (by rfl) (by assumption) ?hyx1 ?restx1
            case hyx1 => (intro w hSw; (try dsimp only at hSw); first | (go_simp; done) | (go_simp; with_reducible rfl))
            simp only [Act.put, List.setIfInBounds_toArray, List.set_cons_zero, List.set_cons_succ]
            refine take_yes (i := 2) (v := ?vx2) rfl (by kernel_rfl) (by kernel_rfl) (by kernel_rfl) (fun _ _ _ h => h) (by rfl) (by assumption) ?hyx2 ?restx2
            case hyx2 => (intro w hSw; (try dsimp only at hSw); first | (go_simp; done) | (go_simp; with_reducible rfl))
            simp only [Act.put, List.setIfInBounds_toArray, List.set_cons_zero, List.set_cons_succ]
            refine take_yes (i := 3) (v := ?vx3) rfl (by kernel_rfl) (by kernel_rfl) (by kernel_rfl) (fun _ _ _ h => h) (by rfl) (by assumption) ?hyx3 ?restx3
            case hyx3 => (intro w hSw; (try dsimp only at hSw); first | (go_simp; done) | (go_simp; with_reducible rfl))
            simp only [Act.put, List.setIfInBounds_toArray, List.set_cons_zero, List.set_cons_succ]
            refine take_yes (i := 4) (v := ?vx4) rfl (by kernel_rfl) (by kernel_rfl) (by kernel_rfl) (fun _ _ _ h => h) (by rfl) (by assumption) ?hyx4 ?restx4
            case hyx4 => (intro w hSw; (try dsimp only at hSw); first | (go_simp; done) | (go_simp; with_reducible rfl))
            simp only [Act.put, List.setIfInBounds_toArray, List.set_cons_zero, List.set_cons_succ]
            refine take_yes (i := 5) (v := ?vx5) rfl (by kernel_rfl) (by kernel_rfl) (by kernel_rfl) (fun _ _ _ h => h) (by rfl) (by assumption) ?hyx5 ?restx5
            case hyx5 => (intro w hSw; (try dsimp only at hSw); first | (go_simp; done) | (go_simp; with_reducible rfl))
            simp only [Act.put, List.setIfInBounds_toArray, List.set_cons_zero, List.set_cons_succ]
            refine take_yes (i := 6) (v := ?vx6) rfl (by kernel_rfl) (by kernel_rfl) (by kernel_rfl) (fun _ _ _ h => h) (by rfl) (by assumption) ?hyx6 ?restx6
            case hyx6 => (intro w hSw; (try dsimp only at hSw); first | (go_simp; done) | (go_simp; with_reducible rfl))
            simp only [Act.put, List.setIfInBounds_toArray, List.set_cons_zero, List.set_cons_succ]
            refine take_yes (i := 7) (v := ?vx7) rfl (by kernel_rfl) (by kernel_rfl) (by kernel_rfl) (fun _ _ _ h => h) (by rfl) (by assumption) ?hyx7 ?restx7
            case hyx7 => (intro w hSw; (try dsimp only at hSw); first | (go_simp; done) | (go_simp; with_reducible rfl))
            simp only [Act.put, List.setIfInBounds_toArray, List.set_cons_zero, List.set_cons_succ]
            refine take_yes (i := 8) (v := ?vx8) rfl (by kernel_rfl) (by kernel_rfl) (by kernel_rfl) (fun _ _ _ h => h) (by rfl) (by assumption) ?hyx8 ?restx8
            case hyx8 => (intro w hSw; (try dsimp only at hSw); first | (go_simp; done) | (go_simp; with_reducible rfl))
            simp only [Act.put, List.setIfInBounds_toArray, List.set_cons_zero, List.set_cons_succ]
            refine take_yes (i := 9) (v := ?vx9) rfl (by kernel_rfl) (by kernel_rfl) (by kernel_rfl) (fun _ _ _ h => h) (by rfl) (by assumption) ?hyx9 ?restx9
            case hyx9 => (intro w hSw; (try dsimp only at hSw); first | (go_simp; done) | (go_simp; with_reducible rfl))
            simp only [Act.put, List.setIfInBounds_toArray, List.set_cons_zero, List.set_cons_succ]
            refine take_yes (i := 10) (v := ?vx10) rfl (by kernel_rfl) (by kernel_rfl) (by kernel_rfl) (fun _ _ _ h => h) (by rfl) (by assumption) ?hyx10 ?restx10
            case hyx10 => (intro w hSw; (try dsimp only at hSw); first | (go_simp; done) | (go_simp; with_reducible rfl))
            simp only [Act.put, List.setIfInBounds_toArray, List.set_cons_zero, List.set_cons_succ]
            refine take_yes (i := 11) (v := ?vx11) rfl (by kernel_rfl) (by kernel_rfl) (by kernel_rfl) (fun _ _ _ h => h) (by rfl) (by assumption) ?hyx11 ?restx11
            case hyx11 => (intro w hSw; (try dsimp only at hSw); first | (go_simp; done) | (go_simp; with_reducible rfl))
            simp only [Act.put, List.setIfInBounds_toArray, List.set_cons_zero, List.set_cons_succ]
            refine take_yes (i := 12) (v := ?vx12) rfl (by kernel_rfl) (by kernel_rfl) (by kernel_rfl) (fun _ _ _ h => h) (by rfl) (by assumption) ?hyx12 ?restx12
            case hyx12 => (intro w hSw; (try dsimp only at hSw); first | (go_simp; done) | (go_simp; with_reducible rfl))
            simp only [Act.put, List.setIfInBounds_toArray, List.set_cons_zero, List.set_cons_succ]
            refine take_yes (i := 14) (v := ?vx14) rfl (by kernel_rfl) (by kernel_rfl) (by kernel_rfl) (fun _ _ _ h => h) (by rfl) (by assumption) ?hyx14 ?restx14
            case hyx14 => (intro w hSw; (try dsimp only at hSw); first | (go_simp; done) | (go_simp; with_reducible rfl))
            simp only [Act.put, List.setIfInBounds_toArray, List.set_cons_zero, List.set_cons_succ]
            refine take_call (i := 13) rfl (by kernel_rfl) (fun K hK => ?_)
            go_simp
            refine hK.out _ _ ?_ (fun hHeld => ?_)
            · first | exact ⟨c1, c2⟩ | exact ⟨keep_other c1 (by omega), keep_other c2 (by omega)⟩ | exact ⟨keep_set c1 (by omega), keep_set c2 (by omega)⟩
            clear hK K
            refine take_call (i := 15) rfl (by kernel_rfl) (fun K hK => ?_)
            go_simp
            (go_at_call 39; refine (mulAdd_any _ _ _ _ e0 e1 d0 d1 g0 g1 f0 f1 _).mono ?_; rintro e w' ⟨rfl, hw⟩; have hw := hw.symm; subst hw)
            refine hK.out _ _ ?_ (fun hHeld => ?_)
            · first | exact ⟨c1, c2⟩ | exact ⟨keep_other c1 (by omega), keep_other c2 (by omega)⟩ | exact ⟨keep_set c1 (by omega), keep_set c2 (by omega)⟩
            clear hK K
            refine take_yes (i := 16) (v := ?vx16) rfl (by kernel_rfl) (by kernel_rfl) (by kernel_rfl) (fun _ _ _ h => h) (by rfl) (by assumption) ?hyx16 ?restx16
            case hyx16 => (intro w hSw; (try dsimp only at hSw); first | (go_simp; done) | (go_simp; with_reducible rfl))
            simp only [Act.put, List.setIfInBounds_toArray, List.set_cons_zero, List.set_cons_succ]
            refine take_yes (i := 17) (v := ?vx17) rfl (by kernel_rfl) (by kernel_rfl) (by kernel_rfl) (fun _ _ _ h => h) (by rfl) (by assumption) ?hyx17 ?restx17
            case hyx17 => (intro w hSw; (try dsimp only at hSw); first | (go_simp; done) | (go_simp; with_reducible rfl))
            simp only [Act.put, List.setIfInBounds_toArray, List.set_cons_zero, List.set_cons_succ]
            refine take_yes (i := 18) (v := ?vx18) rfl (by kernel_rfl) (by kernel_rfl) (by kernel_rfl) (fun _ _ _ h => h) (by rfl) (by assumption) ?hyx18 ?restx18
            case hyx18 => (intro w hSw; (try dsimp only at hSw); first | (go_simp; done) | (go_simp; with_reducible rfl))
            simp only [Act.put, List.setIfInBounds_toArray, List.set_cons_zero, List.set_cons_succ]
            refine take_yes (i := 19) (v := ?vx19) rfl (by kernel_rfl) (by kernel_rfl) (by kernel_rfl) (fun _ _ _ h => h) (by rfl) (by assumption) ?hyx19 ?restx19
            case hyx19 => (intro w hSw; (try dsimp only at hSw); first | (go_simp; done) | (go_simp; with_reducible rfl))
            simp only [Act.put, List.setIfInBounds_toArray, List.set_cons_zero, List.set_cons_succ]
            refine take_yes (i := 20) (v := ?vx20) rfl (by kernel_rfl) (by kernel_rfl) (by kernel_rfl) (fun _ _ _ h => h) (by rfl) (by assumption) ?hyx20 ?restx20
            case hyx20 => (intro w hSw; (try dsimp only at hSw); first | (go_simp; done) | (go_simp; with_reducible rfl))
            simp only [Act.put, List.setIfInBounds_toArray, List.set_cons_zero, List.set_cons_succ]
            refine take_call (i := 21) rfl (by kernel_rfl) (fun K hK => ?_)
            go_simp
            refine hK.out _ _ ?_ (fun hHeld => ?_)
            · first | exact ⟨c1, c2⟩ | exact ⟨keep_other c1 (by omega), keep_other c2 (by omega)⟩ | exact ⟨keep_set c1 (by omega), keep_set c2 (by omega)⟩
            clear hK K
            refine wpAnyH_done (by kernel_rfl) ?_ _
            all_goals
              go_wp2
              go_roundw
              case rel => exact ⟨k + 1, by omega, by simp, by rw [HC.out], by rw [← Nat.add_assoc, HD.out]; first | exact HN.out.drewN 1 | exact HN.out⟩
              case measure => simp [intOf]; omega
          · obtain rfl : k = 2 := by omega
            have hn := hr.set (by omega) (by omega) (i + 2) (by rw [q.mix_length]; omega) (.int .u64 (q.cy (X % 18446744073709551616 ^ i * Y) (q.dg X i) Y i 2))
            rw [mix_done i hlt y0 y1] at hn
            have c3 : wr.cell? ⟨w.heap.size + 1 + 1 + 1 + 1 + 1, i + 2, none⟩ = some (.int .u64 (q.dg (X % 18446744073709551616 ^ i * Y) (i + 2))) := hr.rp.cell (i + 2) _ (q.mix_at _ _ _ _ _ (by omega) (Nat.le_refl _))
            have c4 : wr.frozen? ⟨w.heap.size + 1 + 1 + 1 + 1 + 1, i + 2, none⟩ = false := hr.rp.free (i + 2) (by rw [q.mix_length]; omega)
            clear hr
            go_wp2
            go_roundw
            case rel => exact ⟨i + 1, by omega, by simp, hn⟩
            case measure => simp [intOf]; omega
      · obtain rfl : i = 2 := by omega
        have eXY : X % 18446744073709551616 ^ 2 * Y = X * Y := by rw [pw2, Int.emod_eq_of_lt x0 x1]
        obtain ⟨rx, ry, rz, rp, bel, size⟩ := hr
        rw [eXY, qcells] at rp
        rw [qcells_0] at rz
        obtain ⟨c0, c1, c2, c3, _, _, _, _⟩ := row4 rp
        obtain ⟨z0, z1, z2, z3, u0, u1, u2, u3⟩ := row4 rz
        clear rx ry rp rz eXY
        go_wp2
        refine bodyPost_ret (v := .agg #[.int .u64 (q.dg (X * Y) 0), .int .u64 (q.dg (X * Y) 1), .int .u64 (q.dg (X * Y) 2), .int .u64 (q.dg (X * Y) 3)]) (by simp [results, Try.results32, go_sem, *]) rfl ⟨rfl, ?_⟩
        exact (((bel.setCell (by show _ ≤ w.heap.size + 1 + 1; omega) _).setCell (by show _ ≤ w.heap.size + 1 + 1; omega) _).setCell (by show _ ≤ w.heap.size + 1 + 1; omega) _).setCell (by show _ ≤ w.heap.size + 1 + 1; omega) _
  · clear hHeld
    have eO : X % (18446744073709551616 : Int) ^ 0 * Y = 0 := by simp [Int.emod_one]
    have HR : Hid _ := mul_rows w (.cells #[.int .i64 (hi a), .int .u64 (lo a)] 36) (.cells #[.int .i64 (hi b), .int .u64 (lo b)] 36) [.int .u64 (lo b), .int .u64 (IntKind.u64.wrap (hi b))] [.int .u64 (lo a), .int .u64 (IntKind.u64.wrap (hi a))] 24 61
    go_wp2
    go_loopw [23] (fun ii wr => ∃ i : Nat, i ≤ 2 ∧ ii = .int .i64 (i : Int) ∧ MulRel w X Y (w.heap.size + 1 + 1 + 1 + 1) (w.heap.size + 1 + 1 + 1) (q.dcells 4 (X % 18446744073709551616 ^ i * Y)) wr) (fun ii _ => 2 - (intOf ii).toNat)
    case atStart =>
      obtain ⟨r2, r3, r4, r5, bel, sz⟩ := HR.out
      have r3 := r3.cells (mw_x eY0.out eY1.out).symm
      have r4 := r4.cells (mw_x eX0.out eX1.out).symm
      exact ⟨0, by omega, rfl, r4, r3, r2, by rw [eO]; exact r5, bel, sz⟩
    case round =>
      clear HR eO
      obtain ⟨i, hi2, rfl, hr⟩ := hrel
      by_cases hlt : i < 2
      · obtain ⟨wo, rfl⟩ : ∃ wo : World, wo = wr := ⟨_, rfl⟩
        have hl : (i : Int) < 2 := by omega
        go_wp2
        go_loopw [9, 26] (fun c kk wr => ∃ k : Nat, k ≤ 2 ∧ kk = .int .i64 (k : Int) ∧ c = .int .u64 (q.cy (X % 18446744073709551616 ^ i * Y) (q.dg X i) Y i k) ∧ MulRel w X Y (w.heap.size + 1 + 1 + 1 + 1) (w.heap.size + 1 + 1 + 1) (q.mix 4 (i + k) (X % 18446744073709551616 ^ i * Y + q.dg X i * 18446744073709551616 ^ i * Y) (X % 18446744073709551616 ^ i * Y)) wr) (fun _ kk _ => 2 - (intOf kk).toNat)
        case atStart => exact ⟨0, by omega, rfl, by rw [q.cy_zero], hr.cells (q.mix_start 4 i _ _ _).symm⟩
        case round =>
          clear hr
          obtain ⟨k, hk, rfl, rfl, hr⟩ := hrel
          by_cases hlt2 : k < 2
          · have c1 : wr.cell? ⟨w.heap.size + 1 + 1 + 1 + 1, i, none⟩ = some (.int .u64 (q.dg X i)) := hr.rx.cell i _ (q.dcells_at _ _ _ hlt)
            have c2 : wr.cell? ⟨w.heap.size + 1 + 1 + 1, k, none⟩ = some (.int .u64 (q.dg Y k)) := hr.ry.cell k _ (q.dcells_at _ _ _ hlt2)
            have c3 : wr.cell? ⟨w.heap.size + 1 + 1 + 1 + 1 + 1, i + k, none⟩ = some (.int .u64 (q.dg (X % 18446744073709551616 ^ i * Y) (i + k))) := hr.rp.cell (i + k) _ (q.mix_at _ _ _ _ _ (by omega) (Nat.le_refl _))
            have c4 : wr.frozen? ⟨w.heap.size + 1 + 1 + 1 + 1 + 1, i + k, none⟩ = false := hr.rp.free (i + k) (by rw [q.mix_length]; omega)
            have hn := hr.set (by omega) (by omega) (i + k) (by rw [q.mix_length]; omega) (.int .u64 (q.dg (X % 18446744073709551616 ^ i * Y + q.dg X i * 18446744073709551616 ^ i * Y) (i + k)))
            rw [q.mix_set] at hn
            obtain ⟨O, hO⟩ : ∃ O, X % 18446744073709551616 ^ i * Y = O := ⟨_, rfl⟩
            rw [hO] at c3 hn ⊢
            obtain ⟨e0, e1⟩ := q.dg_range X i
            obtain ⟨d0, d1⟩ := q.dg_range Y k
            obtain ⟨g0, g1⟩ := q.dg_range O (i + k)
            obtain ⟨f0, f1'⟩ := q.cy_range O (q.dg X i) Y i k e0 e1
            have f1 : q.cy O (q.dg X i) Y i k < 18446744073709551616 := by omega
            have eD : (q.dg X i * q.dg Y k + q.dg O (i + k) + q.cy O (q.dg X i) Y i k) % 18446744073709551616 = q.dg (O + q.dg X i * 18446744073709551616 ^ i * Y) (i + k) := by rw [← q.mul_digit]; congr 1; omega
            have eC : (q.dg X i * q.dg Y k + q.dg O (i + k) + q.cy O (q.dg X i) Y i k) / 18446744073709551616 = q.cy O (q.dg X i) Y i (k + 1) := by rw [q.cy_succ]; congr 1; omega
            have HN : Hid _ := hn
            have HC : Hid _ := eC
            have HD : Hid _ := eD
            have hik : (i : Int) + (k : Int) < 4 := by omega
            have hik0 : (0 : Int) ≤ (i : Int) + (k : Int) := by omega
            have ht : ((i : Int) + (k : Int)).toNat = i + k := by omega
            have hk2 : (k : Int) < 2 := by omega
            have HO : Hid _ := hO
            clear hO hr hn eD eC f1'
            have hwr : IntKind.i64.wrap ((i : Int) + (k : Int)) = (i : Int) + (k : Int) := IntWalk.i64_in _ ⟨by omega, by omega⟩
            go_wp2
            refine wp_region_held_drew (S := (fun w' => w'.cell? ⟨w.heap.size + 1 + 1 + 1 + 1, i, none⟩ = some (.int .u64 (q.dg X i)) ∧ w'.cell? ⟨w.heap.size + 1 + 1 + 1, k, none⟩ = some (.int .u64 (q.dg Y k)))) (by kernel_rfl) ?_ (fun hHeld => ?_)
            · first | exact ⟨c1, c2⟩ | exact ⟨keep_other c1 (by omega), keep_other c2 (by omega)⟩ | exact ⟨keep_set c1 (by omega), keep_set c2 (by omega)⟩
            refine take_yes (i := 0) (v := ?vy0) rfl (by kernel_rfl) (by kernel_rfl) (by kernel_rfl) (fun _ _ _ h => h) (by rfl) (by assumption) ?hyy0 ?resty0
            case hyy0 => (intro w hSw; (try dsimp only at hSw); first | (go_simp; done) | (go_simp; with_reducible rfl))
            simp only [Act.put, List.setIfInBounds_toArray, List.set_cons_zero, List.set_cons_succ]
            refine take_yes (i := 1) (v := ?vy1) rfl (by kernel_rfl) (by kernel_rfl) (by kernel_rfl) (fun _ _ _ h => h) (by rfl) (by assumption) ?hyy1 ?resty1
            case hyy1 => (intro w hSw; (try dsimp only at hSw); first | (go_simp; done) | (go_simp; with_reducible rfl))
            simp only [Act.put, List.setIfInBounds_toArray, List.set_cons_zero, List.set_cons_succ]
            refine take_yes (i := 2) (v := ?vy2) rfl (by kernel_rfl) (by kernel_rfl) (by kernel_rfl) (fun _ _ _ h => h) (by rfl) (by assumption) ?hyy2 ?resty2
            case hyy2 => (intro w hSw; (try dsimp only at hSw); first | (go_simp; done) | (go_simp; with_reducible rfl))
            simp only [Act.put, List.setIfInBounds_toArray, List.set_cons_zero, List.set_cons_succ]
            refine take_yes (i := 3) (v := ?vy3) rfl (by kernel_rfl) (by kernel_rfl) (by kernel_rfl) (fun _ _ _ h => h) (by rfl) (by assumption) ?hyy3 ?resty3
            case hyy3 => (intro w hSw; (try dsimp only at hSw); first | (go_simp; done) | (go_simp; with_reducible rfl))
            simp only [Act.put, List.setIfInBounds_toArray, List.set_cons_zero, List.set_cons_succ]
            refine take_yes (i := 4) (v := ?vy4) rfl (by kernel_rfl) (by kernel_rfl) (by kernel_rfl) (fun _ _ _ h => h) (by rfl) (by assumption) ?hyy4 ?resty4
            case hyy4 => (intro w hSw; (try dsimp only at hSw); first | (go_simp; done) | (go_simp; with_reducible rfl))
            simp only [Act.put, List.setIfInBounds_toArray, List.set_cons_zero, List.set_cons_succ]
            refine take_yes (i := 5) (v := ?vy5) rfl (by kernel_rfl) (by kernel_rfl) (by kernel_rfl) (fun _ _ _ h => h) (by rfl) (by assumption) ?hyy5 ?resty5
            case hyy5 => (intro w hSw; (try dsimp only at hSw); first | (go_simp; done) | (go_simp; with_reducible rfl))
            simp only [Act.put, List.setIfInBounds_toArray, List.set_cons_zero, List.set_cons_succ]
            refine take_yes (i := 6) (v := ?vy6) rfl (by kernel_rfl) (by kernel_rfl) (by kernel_rfl) (fun _ _ _ h => h) (by rfl) (by assumption) ?hyy6 ?resty6
            case hyy6 => (intro w hSw; (try dsimp only at hSw); first | (go_simp; done) | (go_simp; with_reducible rfl))
            simp only [Act.put, List.setIfInBounds_toArray, List.set_cons_zero, List.set_cons_succ]
            refine take_yes (i := 7) (v := ?vy7) rfl (by kernel_rfl) (by kernel_rfl) (by kernel_rfl) (fun _ _ _ h => h) (by rfl) (by assumption) ?hyy7 ?resty7
            case hyy7 => (intro w hSw; (try dsimp only at hSw); first | (go_simp; done) | (go_simp; with_reducible rfl))
            simp only [Act.put, List.setIfInBounds_toArray, List.set_cons_zero, List.set_cons_succ]
            refine take_yes (i := 8) (v := ?vy8) rfl (by kernel_rfl) (by kernel_rfl) (by kernel_rfl) (fun _ _ _ h => h) (by rfl) (by assumption) ?hyy8 ?resty8
            case hyy8 => (intro w hSw; (try dsimp only at hSw); first | (go_simp; done) | (go_simp; with_reducible rfl))
            simp only [Act.put, List.setIfInBounds_toArray, List.set_cons_zero, List.set_cons_succ]
            refine take_yes (i := 9) (v := ?vy9) rfl (by kernel_rfl) (by kernel_rfl) (by kernel_rfl) (fun _ _ _ h => h) (by rfl) (by assumption) ?hyy9 ?resty9
            case hyy9 => (intro w hSw; (try dsimp only at hSw); first | (go_simp; done) | (go_simp; with_reducible rfl))
            simp only [Act.put, List.setIfInBounds_toArray, List.set_cons_zero, List.set_cons_succ]
            refine take_yes (i := 10) (v := ?vy10) rfl (by kernel_rfl) (by kernel_rfl) (by kernel_rfl) (fun _ _ _ h => h) (by rfl) (by assumption) ?hyy10 ?resty10
            case hyy10 => (intro w hSw; (try dsimp only at hSw); first | (go_simp; done) | (go_simp; with_reducible rfl))
            simp only [Act.put, List.setIfInBounds_toArray, List.set_cons_zero, List.set_cons_succ]
            refine take_yes (i := 11) (v := ?vy11) rfl (by kernel_rfl) (by kernel_rfl) (by kernel_rfl) (fun _ _ _ h => h) (by rfl) (by assumption) ?hyy11 ?resty11
            case hyy11 => (intro w hSw; (try dsimp only at hSw); first | (go_simp; done) | (go_simp; with_reducible rfl))
            simp only [Act.put, List.setIfInBounds_toArray, List.set_cons_zero, List.set_cons_succ]
            refine take_yes (i := 12) (v := ?vy12) rfl (by kernel_rfl) (by kernel_rfl) (by kernel_rfl) (fun _ _ _ h => h) (by rfl) (by assumption) ?hyy12 ?resty12
            case hyy12 => (intro w hSw; (try dsimp only at hSw); first | (go_simp; done) | (go_simp; with_reducible rfl))
            simp only [Act.put, List.setIfInBounds_toArray, List.set_cons_zero, List.set_cons_succ]
            refine take_yes (i := 14) (v := ?vy14) rfl (by kernel_rfl) (by kernel_rfl) (by kernel_rfl) (fun _ _ _ h => h) (by rfl) (by assumption) ?hyy14 ?resty14
            case hyy14 => (intro w hSw; (try dsimp only at hSw); first | (go_simp; done) | (go_simp; with_reducible rfl))
            simp only [Act.put, List.setIfInBounds_toArray, List.set_cons_zero, List.set_cons_succ]
            refine take_call (i := 13) rfl (by kernel_rfl) (fun K hK => ?_)
            go_simp
            refine hK.out _ _ ?_ (fun hHeld => ?_)
            · first | exact ⟨c1, c2⟩ | exact ⟨keep_other c1 (by omega), keep_other c2 (by omega)⟩ | exact ⟨keep_set c1 (by omega), keep_set c2 (by omega)⟩
            clear hK K
            refine take_call (i := 15) rfl (by kernel_rfl) (fun K hK => ?_)
            go_simp
            (go_at_call 39; refine (mulAdd_any _ _ _ _ e0 e1 d0 d1 g0 g1 f0 f1 _).mono ?_; rintro e w' ⟨rfl, hw⟩; have hw := hw.symm; subst hw)
            refine hK.out _ _ ?_ (fun hHeld => ?_)
            · first | exact ⟨c1, c2⟩ | exact ⟨keep_other c1 (by omega), keep_other c2 (by omega)⟩ | exact ⟨keep_set c1 (by omega), keep_set c2 (by omega)⟩
            clear hK K
            refine take_yes (i := 16) (v := ?vy16) rfl (by kernel_rfl) (by kernel_rfl) (by kernel_rfl) (fun _ _ _ h => h) (by rfl) (by assumption) ?hyy16 ?resty16
            case hyy16 => (intro w hSw; (try dsimp only at hSw); first | (go_simp; done) | (go_simp; with_reducible rfl))
            simp only [Act.put, List.setIfInBounds_toArray, List.set_cons_zero, List.set_cons_succ]
            refine take_yes (i := 17) (v := ?vy17) rfl (by kernel_rfl) (by kernel_rfl) (by kernel_rfl) (fun _ _ _ h => h) (by rfl) (by assumption) ?hyy17 ?resty17
            case hyy17 => (intro w hSw; (try dsimp only at hSw); first | (go_simp; done) | (go_simp; with_reducible rfl))
            simp only [Act.put, List.setIfInBounds_toArray, List.set_cons_zero, List.set_cons_succ]
            refine take_yes (i := 18) (v := ?vy18) rfl (by kernel_rfl) (by kernel_rfl) (by kernel_rfl) (fun _ _ _ h => h) (by rfl) (by assumption) ?hyy18 ?resty18
            case hyy18 => (intro w hSw; (try dsimp only at hSw); first | (go_simp; done) | (go_simp; with_reducible rfl))
            simp only [Act.put, List.setIfInBounds_toArray, List.set_cons_zero, List.set_cons_succ]
            refine take_yes (i := 19) (v := ?vy19) rfl (by kernel_rfl) (by kernel_rfl) (by kernel_rfl) (fun _ _ _ h => h) (by rfl) (by assumption) ?hyy19 ?resty19
            case hyy19 => (intro w hSw; (try dsimp only at hSw); first | (go_simp; done) | (go_simp; with_reducible rfl))
            simp only [Act.put, List.setIfInBounds_toArray, List.set_cons_zero, List.set_cons_succ]
            refine take_yes (i := 20) (v := ?vy20) rfl (by kernel_rfl) (by kernel_rfl) (by kernel_rfl) (fun _ _ _ h => h) (by rfl) (by assumption) ?hyy20 ?resty20
            case hyy20 => (intro w hSw; (try dsimp only at hSw); first | (go_simp; done) | (go_simp; with_reducible rfl))
            simp only [Act.put, List.setIfInBounds_toArray, List.set_cons_zero, List.set_cons_succ]
            refine take_call (i := 21) rfl (by kernel_rfl) (fun K hK => ?_)
            go_simp
            refine hK.out _ _ ?_ (fun hHeld => ?_)
            · first | exact ⟨c1, c2⟩ | exact ⟨keep_other c1 (by omega), keep_other c2 (by omega)⟩ | exact ⟨keep_set c1 (by omega), keep_set c2 (by omega)⟩
            clear hK K
            refine wpAnyH_done (by kernel_rfl) ?_ _
            all_goals
              go_wp2
              go_roundw
              case rel => exact ⟨k + 1, by omega, by simp, by rw [HC.out], by rw [← Nat.add_assoc, HD.out]; first | exact HN.out.drewN 1 | exact HN.out⟩
              case measure => simp [intOf]; omega
          · obtain rfl : k = 2 := by omega
            have hn := hr.set (by omega) (by omega) (i + 2) (by rw [q.mix_length]; omega) (.int .u64 (q.cy (X % 18446744073709551616 ^ i * Y) (q.dg X i) Y i 2))
            rw [mix_done i hlt y0 y1] at hn
            have c3 : wr.cell? ⟨w.heap.size + 1 + 1 + 1 + 1 + 1, i + 2, none⟩ = some (.int .u64 (q.dg (X % 18446744073709551616 ^ i * Y) (i + 2))) := hr.rp.cell (i + 2) _ (q.mix_at _ _ _ _ _ (by omega) (Nat.le_refl _))
            have c4 : wr.frozen? ⟨w.heap.size + 1 + 1 + 1 + 1 + 1, i + 2, none⟩ = false := hr.rp.free (i + 2) (by rw [q.mix_length]; omega)
            clear hr
            go_wp2
            go_roundw
            case rel => exact ⟨i + 1, by omega, by simp, hn⟩
            case measure => simp [intOf]; omega
      · obtain rfl : i = 2 := by omega
        have eXY : X % 18446744073709551616 ^ 2 * Y = X * Y := by rw [pw2, Int.emod_eq_of_lt x0 x1]
        obtain ⟨rx, ry, rz, rp, bel, size⟩ := hr
        rw [eXY, qcells] at rp
        rw [qcells_0] at rz
        obtain ⟨c0, c1, c2, c3, _, _, _, _⟩ := row4 rp
        obtain ⟨z0, z1, z2, z3, u0, u1, u2, u3⟩ := row4 rz
        clear rx ry rp rz eXY
        go_wp2
        refine bodyPost_ret (v := .agg #[.int .u64 (q.dg (X * Y) 0), .int .u64 (q.dg (X * Y) 1), .int .u64 (q.dg (X * Y) 2), .int .u64 (q.dg (X * Y) 3)]) (by simp [results, Try.results32, go_sem, *]) rfl ⟨rfl, ?_⟩
        exact (((bel.setCell (by show _ ≤ w.heap.size + 1 + 1; omega) _).setCell (by show _ ≤ w.heap.size + 1 + 1; omega) _).setCell (by show _ ≤ w.heap.size + 1 + 1; omega) _).setCell (by show _ ≤ w.heap.size + 1 + 1; omega) _
end Go.Proofs.Ytjlndalcaepofaa
