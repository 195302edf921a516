/-
  Joined texts, part 3:
  What package quad's product of words without signs answers.
  What package quad's product answers, as words.
  When two arrays of four words are equal.
  What package quad's sign, order and narrowing answer.
-/
import Derived.Test.YtkmgndaholglhaaP2
import Derived.ChangeKeysEq
namespace Go.Proofs.Ytkmgndaholglhaa.lq
open Go.RowKit
set_option linter.unusedVariables false

theorem keep_set {w : World} {b c i k : Nat} {u v : Value} (h : w.cell? ⟨b, k, none⟩ = some u) (hne : c ≠ b) : ((w.drew).setCell ⟨c, i, none⟩ v).cell? ⟨b, k, none⟩ = some u :=
  (World.cell?_setCell_other _ _ _ _ (by intro q; simp only [Addr.mk.injEq] at q; omega)).trans h
theorem two_cells (X : Int) : q.dcells 2 X = [.int .u64 (q.dg X 0), .int .u64 (q.dg X 1)] := by simp [q.dcells, List.range, List.range.loop]
theorem mul_rows (w : World) (o1 o2 : Obj) (xs ys : List Value) (t t2 : TypeId) :
    let W := ((((((w.alloc o1).alloc o2).alloc (.cells #[.int .u64 0, .int .u64 0, .int .u64 0, .int .u64 0] t)).alloc (.cells xs.toArray t2)).alloc (.cells ys.toArray t2)).drew).alloc (.cells #[.int .u64 0, .int .u64 0, .int .u64 0, .int .u64 0] t)
    Row W (w.heap.size + 1 + 1) (q.dcells 4 0) ∧ Row W (w.heap.size + 1 + 1 + 1) xs ∧ Row W (w.heap.size + 1 + 1 + 1 + 1) ys ∧ Row W (w.heap.size + 1 + 1 + 1 + 1 + 1) (q.dcells 4 0) ∧ Below w.heap.size w W ∧ w.heap.size + 1 + 1 + 1 + 1 + 1 < W.heap.size := by
  intro W
  have h2 := ((((Row.new ((w.alloc o1).alloc o2) (q.dcells 4 0) t).alloc (.cells xs.toArray t2) (by simp <;> omega)).alloc (.cells ys.toArray t2) (by simp <;> omega)).drew).alloc (.cells (q.dcells 4 0).toArray t) (by simp <;> omega)
  have h3 := (((Row.new (((w.alloc o1).alloc o2).alloc (.cells (q.dcells 4 0).toArray t)) xs t2).alloc (.cells ys.toArray t2) (by simp <;> omega)).drew).alloc (.cells (q.dcells 4 0).toArray t) (by simp <;> omega)
  have h4 := ((Row.new ((((w.alloc o1).alloc o2).alloc (.cells (q.dcells 4 0).toArray t)).alloc (.cells xs.toArray t2)) ys t2).drew).alloc (.cells (q.dcells 4 0).toArray t) (by simp <;> omega)
  have h5 := Row.new ((((((w.alloc o1).alloc o2).alloc (.cells (q.dcells 4 0).toArray t)).alloc (.cells xs.toArray t2)).alloc (.cells ys.toArray t2)).drew) (q.dcells 4 0) t
  simp only [World.size_alloc, World.size_drew] at h2 h3 h4 h5
  rw [qcells_0] at h2 h3 h4 h5
  refine ⟨by rw [qcells_0]; exact h2, h3, h4, by rw [qcells_0]; exact h5, ?_, by simp [W]⟩
  exact (((((((Below.refl _ _).alloc (Nat.le_refl _) _).alloc (by simp <;> omega) _).alloc (by simp <;> omega) _).alloc (by simp <;> omega) _).alloc (by simp <;> omega) _).drew).alloc (by simp <;> omega) _
theorem mw_x {l h : Int} {X : Int} (e0 : l = q.dg X 0) (e1 : h = q.dg X 1) : q.dcells 2 X = [.int .u64 l, .int .u64 h] := by rw [two_cells, e0, e1]

theorem MulRel.cells {w wr : World} {X Y : Int} {bx by' : Nat} {cs ds : List Value} (h : MulRel w X Y bx by' cs wr) (e : cs = ds) : MulRel w X Y bx by' ds wr := e ▸ h

set_option maxRecDepth 20000 in
set_option maxHeartbeats 4000000 in
theorem mulWords_any {ah al bh bl : Int} (a b : Int) (ha : ah = hi a) (hal : al = lo a) (hb : bh = hi b) (hbl : bl = lo b) (w : World) :
    Calls Try.prog 62 #[.agg #[.int .i64 ah, .int .u64 al], .agg #[.int .i64 bh, .int .u64 bl]] w fun e w' =>
      e = .returned (.agg #[.int .u64 (q.dg (a % 340282366920938463463374607431768211456 * (b % 340282366920938463463374607431768211456)) 0), .int .u64 (q.dg (a % 340282366920938463463374607431768211456 * (b % 340282366920938463463374607431768211456)) 1), .int .u64 (q.dg (a % 340282366920938463463374607431768211456 * (b % 340282366920938463463374607431768211456)) 2), .int .u64 (q.dg (a % 340282366920938463463374607431768211456 * (b % 340282366920938463463374607431768211456)) 3)]) ∧ Below w.heap.size w w' := by
  subst ha hal hb hbl
  obtain ⟨X, hX⟩ : ∃ X, a % 340282366920938463463374607431768211456 = X := ⟨_, rfl⟩
  obtain ⟨Y, hY⟩ : ∃ Y, b % 340282366920938463463374607431768211456 = Y := ⟨_, rfl⟩
  have x0 : 0 ≤ X := by omega
  have x1 : X < 340282366920938463463374607431768211456 := by omega
  have y0 : 0 ≤ Y := by omega
  have y1 : Y < 340282366920938463463374607431768211456 := by omega
  have eX0 : Hid (lo a = q.dg X 0) := by unfold Hid; rw [qdg0, ← hX]; unfold lo; omega
  have eX1 : Hid (IntKind.u64.wrap (hi a) = q.dg X 1) := by unfold Hid; rw [hi_q, qdg1, qdg1]; omega
  have eY0 : Hid (lo b = q.dg Y 0) := by unfold Hid; rw [qdg0, ← hY]; unfold lo; omega
  have eY1 : Hid (IntKind.u64.wrap (hi b) = q.dg Y 1) := by unfold Hid; rw [hi_q, qdg1, qdg1]; omega
  rw [hX, hY]
  clear hX hY
  go_enter Try.func62, Try.ntmps62
  go_wp2
  go_region_held3 (fun w' => w'.cell? ⟨w.heap.size, 0, none⟩ = some (.int .i64 (hi a)) ∧ w'.cell? ⟨w.heap.size, 1, none⟩ = some (.int .u64 (lo a)) ∧ w'.cell? ⟨w.heap.size + 1, 0, none⟩ = some (.int .i64 (hi b)) ∧ w'.cell? ⟨w.heap.size + 1, 1, none⟩ = some (.int .u64 (lo b))) (refine ⟨?_, ?_, ?_, ?_⟩ <;> simp [go_sem]) (fail)
  all_goals rename_i hHeld
  · clear hHeld
    have eO : X % (18446744073709551616 : Int) ^ 0 * Y = 0 := by simp [Int.emod_one]
    have HR : Hid _ := mul_rows w (.cells #[.int .i64 (hi a), .int .u64 (lo a)] 49) (.cells #[.int .i64 (hi b), .int .u64 (lo b)] 49) [.int .u64 (lo a), .int .u64 (IntKind.u64.wrap (hi a))] [.int .u64 (lo b), .int .u64 (IntKind.u64.wrap (hi b))] 69 95
    go_wp2
    go_loopw [23] (fun ii wr => ∃ i : Nat, i ≤ 2 ∧ ii = .int .i64 (i : Int) ∧ MulRel w X Y (w.heap.size + 1 + 1 + 1) (w.heap.size + 1 + 1 + 1 + 1) (q.dcells 4 (X % 18446744073709551616 ^ i * Y)) wr) (fun ii _ => 2 - (intOf ii).toNat)
    case atStart =>
      obtain ⟨r2, r3, r4, r5, bel, sz⟩ := HR.out
      have r3 := r3.cells (mw_x eX0.out eX1.out).symm
      have r4 := r4.cells (mw_x eY0.out eY1.out).symm
      exact ⟨0, by omega, rfl, r3, r4, r2, by rw [eO]; exact r5, bel, sz⟩
    case round =>
      clear HR eO
      obtain ⟨i, hi2, rfl, hr⟩ := hrel
      by_cases hlt : i < 2
      · obtain ⟨wo, rfl⟩ : ∃ wo : World, wo = wr := ⟨_, rfl⟩
        have hl : (i : Int) < 2 := by omega
        go_wp2
        go_loopw [9, 26] (fun c kk wr => ∃ k : Nat, k ≤ 2 ∧ kk = .int .i64 (k : Int) ∧ c = .int .u64 (q.cy (X % 18446744073709551616 ^ i * Y) (q.dg X i) Y i k) ∧ MulRel w X Y (w.heap.size + 1 + 1 + 1) (w.heap.size + 1 + 1 + 1 + 1) (q.mix 4 (i + k) (X % 18446744073709551616 ^ i * Y + q.dg X i * 18446744073709551616 ^ i * Y) (X % 18446744073709551616 ^ i * Y)) wr) (fun _ kk _ => 2 - (intOf kk).toNat)
        case atStart => exact ⟨0, by omega, rfl, by rw [q.cy_zero], hr.cells (q.mix_start 4 i _ _ _).symm⟩
        case round =>
          clear hr
          obtain ⟨k, hk, rfl, rfl, hr⟩ := hrel
          by_cases hlt2 : k < 2
          · have c1 : wr.cell? ⟨w.heap.size + 1 + 1 + 1, i, none⟩ = some (.int .u64 (q.dg X i)) := hr.rx.cell i _ (q.dcells_at _ _ _ hlt)
            have c2 : wr.cell? ⟨w.heap.size + 1 + 1 + 1 + 1, k, none⟩ = some (.int .u64 (q.dg Y k)) := hr.ry.cell k _ (q.dcells_at _ _ _ hlt2)
            have c3 : wr.cell? ⟨w.heap.size + 1 + 1 + 1 + 1 + 1, i + k, none⟩ = some (.int .u64 (q.dg (X % 18446744073709551616 ^ i * Y) (i + k))) := hr.rp.cell (i + k) _ (q.mix_at _ _ _ _ _ (by omega) (Nat.le_refl _))
            have c4 : wr.frozen? ⟨w.heap.size + 1 + 1 + 1 + 1 + 1, i + k, none⟩ = false := hr.rp.free (i + k) (by rw [q.mix_length]; omega)
            have hn := hr.set (by omega) (by omega) (i + k) (by rw [q.mix_length]; omega) (.int .u64 (q.dg (X % 18446744073709551616 ^ i * Y + q.dg X i * 18446744073709551616 ^ i * Y) (i + k)))
            rw [q.mix_set] at hn
            obtain ⟨O, hO⟩ : ∃ O, X % 18446744073709551616 ^ i * Y = O := ⟨_, rfl⟩
            rw [hO] at c3 hn ⊢
            obtain ⟨e0, e1⟩ := q.dg_range X i
            obtain ⟨d0, d1⟩ := q.dg_range Y k
            obtain ⟨g0, g1⟩ := q.dg_range O (i + k)
            obtain ⟨f0, f1'⟩ := q.cy_range O (q.dg X i) Y i k e0 e1
            have f1 : q.cy O (q.dg X i) Y i k < 18446744073709551616 := by omega
            have eD : (q.dg X i * q.dg Y k + q.dg O (i + k) + q.cy O (q.dg X i) Y i k) % 18446744073709551616 = q.dg (O + q.dg X i * 18446744073709551616 ^ i * Y) (i + k) := by rw [← q.mul_digit]; congr 1; omega
            have eC : (q.dg X i * q.dg Y k + q.dg O (i + k) + q.cy O (q.dg X i) Y i k) / 18446744073709551616 = q.cy O (q.dg X i) Y i (k + 1) := by rw [q.cy_succ]; congr 1; omega
            have HN : Hid _ := hn
            have HC : Hid _ := eC
            have HD : Hid _ := eD
            have hik : (i : Int) + (k : Int) < 4 := by omega
            have hik0 : (0 : Int) ≤ (i : Int) + (k : Int) := by omega
            have ht : ((i : Int) + (k : Int)).toNat = i + k := by omega
            have hk2 : (k : Int) < 2 := by omega
            have HO : Hid _ := hO
            clear hO hr hn eD eC f1'
            have hwr : IntKind.i64.wrap ((i : Int) + (k : Int)) = (i : Int) + (k : Int) := IntWalk.i64_in _ ⟨by omega, by omega⟩
            go_wp2
            refine wp_region_held_drew (S := (fun w' => w'.cell? ⟨w.heap.size + 1 + 1 + 1, i, none⟩ = some (.int .u64 (q.dg X i)) ∧ w'.cell? ⟨w.heap.size + 1 + 1 + 1 + 1, k, none⟩ = some (.int .u64 (q.dg Y k)))) (by kernel_rfl) ?_ (fun hHeld => ?_)
            · first | exact ⟨c1, c2⟩ | exact ⟨keep_other c1 (by omega), keep_other c2 (by omega)⟩ | exact ⟨keep_set c1 (by omega), keep_set c2 (by omega)⟩
            refine ty (i := 0) (v := ?vx0) rfl ?hyx0 ?_
            case hyx0 => (intro w hSw; (try dsimp only at hSw); go_simp <;> with_reducible rfl)
            simp only [Act.put, ps1, ps2, ps3]
            refine ty (i := 1) (v := ?vx1) rfl ?hyx1 ?_
            case hyx1 => (intro w hSw; (try dsimp only at hSw); go_simp <;> with_reducible rfl)
            simp only [Act.put, ps1, ps2, ps3]
            refine ty (i := 2) (v := ?vx2) rfl ?hyx2 ?_
            case hyx2 => (intro w hSw; (try dsimp only at hSw); go_simp <;> with_reducible rfl)
            simp only [Act.put, ps1, ps2, ps3]
            refine ty (i := 3) (v := ?vx3) rfl ?hyx3 ?_
            case hyx3 => (intro w hSw; (try dsimp only at hSw); go_simp <;> with_reducible rfl)
            simp only [Act.put, ps1, ps2, ps3]
            refine ty (i := 4) (v := ?vx4) rfl ?hyx4 ?_
            case hyx4 => (intro w hSw; (try dsimp only at hSw); go_simp <;> with_reducible rfl)
            simp only [Act.put, ps1, ps2, ps3]
            refine ty (i := 5) (v := ?vx5) rfl ?hyx5 ?_
            case hyx5 => (intro w hSw; (try dsimp only at hSw); go_simp <;> with_reducible rfl)
            simp only [Act.put, ps1, ps2, ps3]
            refine ty (i := 6) (v := ?vx6) rfl ?hyx6 ?_
            case hyx6 => (intro w hSw; (try dsimp only at hSw); go_simp <;> with_reducible rfl)
            simp only [Act.put, ps1, ps2, ps3]
            refine ty (i := 7) (v := ?vx7) rfl ?hyx7 ?_
            case hyx7 => (intro w hSw; (try dsimp only at hSw); go_simp <;> with_reducible rfl)
            simp only [Act.put, ps1, ps2, ps3]
            refine ty (i := 8) (v := ?vx8) rfl ?hyx8 ?_
            case hyx8 => (intro w hSw; (try dsimp only at hSw); go_simp <;> with_reducible rfl)
            simp only [Act.put, ps1, ps2, ps3]
            refine ty (i := 9) (v := ?vx9) rfl ?hyx9 ?_
            case hyx9 => (intro w hSw; (try dsimp only at hSw); go_simp <;> with_reducible rfl)
            simp only [Act.put, ps1, ps2, ps3]
            refine ty (i := 10) (v := ?vx10) rfl ?hyx10 ?_
            case hyx10 => (intro w hSw; (try dsimp only at hSw); go_simp <;> with_reducible rfl)
            simp only [Act.put, ps1, ps2, ps3]
            refine ty (i := 11) (v := ?vx11) rfl ?hyx11 ?_
            case hyx11 => (intro w hSw; (try dsimp only at hSw); go_simp <;> with_reducible rfl)
            simp only [Act.put, ps1, ps2, ps3]
            refine ty (i := 12) (v := ?vx12) rfl ?hyx12 ?_
            case hyx12 => (intro w hSw; (try dsimp only at hSw); go_simp <;> with_reducible rfl)
            simp only [Act.put, ps1, ps2, ps3]
            refine ty (i := 14) (v := ?vx14) rfl ?hyx14 ?_
            case hyx14 => (intro w hSw; (try dsimp only at hSw); go_simp <;> with_reducible rfl)
            simp only [Act.put, ps1, ps2, ps3]
            refine take_call (i := 13) rfl (by kernel_rfl) (fun K hK => ?_)
            go_simp
            refine hK.out _ _ ?_ (fun hHeld => ?_)
            · first | exact ⟨c1, c2⟩ | exact ⟨keep_other c1 (by omega), keep_other c2 (by omega)⟩ | exact ⟨keep_set c1 (by omega), keep_set c2 (by omega)⟩
            clear hK K
            refine take_call (i := 15) rfl (by kernel_rfl) (fun K hK => ?_)
            go_simp
            (go_at_call 73; refine (mulAdd_any _ _ _ _ e0 e1 d0 d1 g0 g1 f0 f1 _).mono ?_; rintro e w' ⟨rfl, hw⟩; have hw := hw.symm; subst hw)
            refine hK.out _ _ ?_ (fun hHeld => ?_)
            · first | exact ⟨c1, c2⟩ | exact ⟨keep_other c1 (by omega), keep_other c2 (by omega)⟩ | exact ⟨keep_set c1 (by omega), keep_set c2 (by omega)⟩
            clear hK K
            refine ty (i := 16) (v := ?vx16) rfl ?hyx16 ?_
            case hyx16 => (intro w hSw; (try dsimp only at hSw); go_simp <;> with_reducible rfl)
            simp only [Act.put, ps1, ps2, ps3]
            refine ty (i := 17) (v := ?vx17) rfl ?hyx17 ?_
            case hyx17 => (intro w hSw; (try dsimp only at hSw); go_simp <;> with_reducible rfl)
            simp only [Act.put, ps1, ps2, ps3]
            refine ty (i := 18) (v := ?vx18) rfl ?hyx18 ?_
            case hyx18 => (intro w hSw; (try dsimp only at hSw); go_simp <;> with_reducible rfl)
            simp only [Act.put, ps1, ps2, ps3]
            refine ty (i := 19) (v := ?vx19) rfl ?hyx19 ?_
            case hyx19 => (intro w hSw; (try dsimp only at hSw); go_simp <;> with_reducible rfl)
            simp only [Act.put, ps1, ps2, ps3]
            refine ty (i := 20) (v := ?vx20) rfl ?hyx20 ?_
            case hyx20 => (intro w hSw; (try dsimp only at hSw); go_simp <;> with_reducible rfl)
            simp only [Act.put, ps1, ps2, ps3]
            refine take_call (i := 21) rfl (by kernel_rfl) (fun K hK => ?_)
            go_simp
            refine hK.out _ _ ?_ (fun hHeld => ?_)
            · first | exact ⟨c1, c2⟩ | exact ⟨keep_other c1 (by omega), keep_other c2 (by omega)⟩ | exact ⟨keep_set c1 (by omega), keep_set c2 (by omega)⟩
            clear hK K
            refine wpAnyH_done (by kernel_rfl) ?_ _
            all_goals
              go_wp2
              go_roundw
              case rel => exact ⟨k + 1, by omega, by simp, by rw [HC.out], by rw [← Nat.add_assoc, HD.out]; first | exact HN.out.drewN 1 | exact HN.out⟩
              case measure => simp [intOf]; omega
          · obtain rfl : k = 2 := by omega
            have hn := hr.set (by omega) (by omega) (i + 2) (by rw [q.mix_length]; omega) (.int .u64 (q.cy (X % 18446744073709551616 ^ i * Y) (q.dg X i) Y i 2))
            rw [mix_done i hlt y0 y1] at hn
            have c3 : wr.cell? ⟨w.heap.size + 1 + 1 + 1 + 1 + 1, i + 2, none⟩ = some (.int .u64 (q.dg (X % 18446744073709551616 ^ i * Y) (i + 2))) := hr.rp.cell (i + 2) _ (q.mix_at _ _ _ _ _ (by omega) (Nat.le_refl _))
            have c4 : wr.frozen? ⟨w.heap.size + 1 + 1 + 1 + 1 + 1, i + 2, none⟩ = false := hr.rp.free (i + 2) (by rw [q.mix_length]; omega)
            clear hr
            go_wp2
            go_roundw
            case rel => exact ⟨i + 1, by omega, by simp, hn⟩
            case measure => simp [intOf]; omega
      · obtain rfl : i = 2 := by omega
        have eXY : X % 18446744073709551616 ^ 2 * Y = X * Y := by rw [pw2, Int.emod_eq_of_lt x0 x1]
        obtain ⟨rx, ry, rz, rp, bel, size⟩ := hr
        rw [eXY, qcells] at rp
        rw [qcells_0] at rz
        obtain ⟨c0, c1, c2, c3, _, _, _, _⟩ := row4 rp
        obtain ⟨z0, z1, z2, z3, u0, u1, u2, u3⟩ := row4 rz
        clear rx ry rp rz eXY
        go_wp2
        refine bodyPost_ret (v := .agg #[.int .u64 (q.dg (X * Y) 0), .int .u64 (q.dg (X * Y) 1), .int .u64 (q.dg (X * Y) 2), .int .u64 (q.dg (X * Y) 3)]) (by simp [results, Try.results62, go_sem, *]) rfl ⟨rfl, ?_⟩
        exact (((bel.setCell (by show _ ≤ w.heap.size + 1 + 1; omega) _).setCell (by show _ ≤ w.heap.size + 1 + 1; omega) _).setCell (by show _ ≤ w.heap.size + 1 + 1; omega) _).setCell (by show _ ≤ w.heap.size + 1 + 1; omega) _
  · clear hHeld
    have eO : X % (18446744073709551616 : Int) ^ 0 * Y = 0 := by simp [Int.emod_one]
    have HR : Hid _ := mul_rows w (.cells #[.int .i64 (hi a), .int .u64 (lo a)] 49) (.cells #[.int .i64 (hi b), .int .u64 (lo b)] 49) [.int .u64 (lo b), .int .u64 (IntKind.u64.wrap (hi b))] [.int .u64 (lo a), .int .u64 (IntKind.u64.wrap (hi a))] 69 95
    go_wp2
    go_loopw [23] (fun ii wr => ∃ i : Nat, i ≤ 2 ∧ ii = .int .i64 (i : Int) ∧ MulRel w X Y (w.heap.size + 1 + 1 + 1 + 1) (w.heap.size + 1 + 1 + 1) (q.dcells 4 (X % 18446744073709551616 ^ i * Y)) wr) (fun ii _ => 2 - (intOf ii).toNat)
    case atStart =>
      obtain ⟨r2, r3, r4, r5, bel, sz⟩ := HR.out
      have r3 := r3.cells (mw_x eY0.out eY1.out).symm
      have r4 := r4.cells (mw_x eX0.out eX1.out).symm
      exact ⟨0, by omega, rfl, r4, r3, r2, by rw [eO]; exact r5, bel, sz⟩
    case round =>
      clear HR eO
      obtain ⟨i, hi2, rfl, hr⟩ := hrel
      by_cases hlt : i < 2
      · obtain ⟨wo, rfl⟩ : ∃ wo : World, wo = wr := ⟨_, rfl⟩
        have hl : (i : Int) < 2 := by omega
        go_wp2
        go_loopw [9, 26] (fun c kk wr => ∃ k : Nat, k ≤ 2 ∧ kk = .int .i64 (k : Int) ∧ c = .int .u64 (q.cy (X % 18446744073709551616 ^ i * Y) (q.dg X i) Y i k) ∧ MulRel w X Y (w.heap.size + 1 + 1 + 1 + 1) (w.heap.size + 1 + 1 + 1) (q.mix 4 (i + k) (X % 18446744073709551616 ^ i * Y + q.dg X i * 18446744073709551616 ^ i * Y) (X % 18446744073709551616 ^ i * Y)) wr) (fun _ kk _ => 2 - (intOf kk).toNat)
        case atStart => exact ⟨0, by omega, rfl, by rw [q.cy_zero], hr.cells (q.mix_start 4 i _ _ _).symm⟩
        case round =>
          clear hr
          obtain ⟨k, hk, rfl, rfl, hr⟩ := hrel
          by_cases hlt2 : k < 2
          · have c1 : wr.cell? ⟨w.heap.size + 1 + 1 + 1 + 1, i, none⟩ = some (.int .u64 (q.dg X i)) := hr.rx.cell i _ (q.dcells_at _ _ _ hlt)
            have c2 : wr.cell? ⟨w.heap.size + 1 + 1 + 1, k, none⟩ = some (.int .u64 (q.dg Y k)) := hr.ry.cell k _ (q.dcells_at _ _ _ hlt2)
            have c3 : wr.cell? ⟨w.heap.size + 1 + 1 + 1 + 1 + 1, i + k, none⟩ = some (.int .u64 (q.dg (X % 18446744073709551616 ^ i * Y) (i + k))) := hr.rp.cell (i + k) _ (q.mix_at _ _ _ _ _ (by omega) (Nat.le_refl _))
            have c4 : wr.frozen? ⟨w.heap.size + 1 + 1 + 1 + 1 + 1, i + k, none⟩ = false := hr.rp.free (i + k) (by rw [q.mix_length]; omega)
            have hn := hr.set (by omega) (by omega) (i + k) (by rw [q.mix_length]; omega) (.int .u64 (q.dg (X % 18446744073709551616 ^ i * Y + q.dg X i * 18446744073709551616 ^ i * Y) (i + k)))
            rw [q.mix_set] at hn
            obtain ⟨O, hO⟩ : ∃ O, X % 18446744073709551616 ^ i * Y = O := ⟨_, rfl⟩
            rw [hO] at c3 hn ⊢
            obtain ⟨e0, e1⟩ := q.dg_range X i
            obtain ⟨d0, d1⟩ := q.dg_range Y k
            obtain ⟨g0, g1⟩ := q.dg_range O (i + k)
            obtain ⟨f0, f1'⟩ := q.cy_range O (q.dg X i) Y i k e0 e1
            have f1 : q.cy O (q.dg X i) Y i k < 18446744073709551616 := by omega
            have eD : (q.dg X i * q.dg Y k + q.dg O (i + k) + q.cy O (q.dg X i) Y i k) % 18446744073709551616 = q.dg (O + q.dg X i * 18446744073709551616 ^ i * Y) (i + k) := by rw [← q.mul_digit]; congr 1; omega
            have eC : (q.dg X i * q.dg Y k + q.dg O (i + k) + q.cy O (q.dg X i) Y i k) / 18446744073709551616 = q.cy O (q.dg X i) Y i (k + 1) := by rw [q.cy_succ]; congr 1; omega
            have HN : Hid _ := hn
            have HC : Hid _ := eC
            have HD : Hid _ := eD
            have hik : (i : Int) + (k : Int) < 4 := by omega
            have hik0 : (0 : Int) ≤ (i : Int) + (k : Int) := by omega
            have ht : ((i : Int) + (k : Int)).toNat = i + k := by omega
            have hk2 : (k : Int) < 2 := by omega
            have HO : Hid _ := hO
            clear hO hr hn eD eC f1'
            have hwr : IntKind.i64.wrap ((i : Int) + (k : Int)) = (i : Int) + (k : Int) := IntWalk.i64_in _ ⟨by omega, by omega⟩
            go_wp2
            refine wp_region_held_drew (S := (fun w' => w'.cell? ⟨w.heap.size + 1 + 1 + 1 + 1, i, none⟩ = some (.int .u64 (q.dg X i)) ∧ w'.cell? ⟨w.heap.size + 1 + 1 + 1, k, none⟩ = some (.int .u64 (q.dg Y k)))) (by kernel_rfl) ?_ (fun hHeld => ?_)
            · first | exact ⟨c1, c2⟩ | exact ⟨keep_other c1 (by omega), keep_other c2 (by omega)⟩ | exact ⟨keep_set c1 (by omega), keep_set c2 (by omega)⟩
            refine ty (i := 0) (v := ?vy0) rfl ?hyy0 ?_
            case hyy0 => (intro w hSw; (try dsimp only at hSw); go_simp <;> with_reducible rfl)
            simp only [Act.put, ps1, ps2, ps3]
            refine ty (i := 1) (v := ?vy1) rfl ?hyy1 ?_
            case hyy1 => (intro w hSw; (try dsimp only at hSw); go_simp <;> with_reducible rfl)
            simp only [Act.put, ps1, ps2, ps3]
            refine ty (i := 2) (v := ?vy2) rfl ?hyy2 ?_
            case hyy2 => (intro w hSw; (try dsimp only at hSw); go_simp <;> with_reducible rfl)
            simp only [Act.put, ps1, ps2, ps3]
            refine ty (i := 3) (v := ?vy3) rfl ?hyy3 ?_
            case hyy3 => (intro w hSw; (try dsimp only at hSw); go_simp <;> with_reducible rfl)
            simp only [Act.put, ps1, ps2, ps3]
            refine ty (i := 4) (v := ?vy4) rfl ?hyy4 ?_
            case hyy4 => (intro w hSw; (try dsimp only at hSw); go_simp <;> with_reducible rfl)
            simp only [Act.put, ps1, ps2, ps3]
            refine ty (i := 5) (v := ?vy5) rfl ?hyy5 ?_
            case hyy5 => (intro w hSw; (try dsimp only at hSw); go_simp <;> with_reducible rfl)
            simp only [Act.put, ps1, ps2, ps3]
            refine ty (i := 6) (v := ?vy6) rfl ?hyy6 ?_
            case hyy6 => (intro w hSw; (try dsimp only at hSw); go_simp <;> with_reducible rfl)
            simp only [Act.put, ps1, ps2, ps3]
            refine ty (i := 7) (v := ?vy7) rfl ?hyy7 ?_
            case hyy7 => (intro w hSw; (try dsimp only at hSw); go_simp <;> with_reducible rfl)
            simp only [Act.put, ps1, ps2, ps3]
            refine ty (i := 8) (v := ?vy8) rfl ?hyy8 ?_
            case hyy8 => (intro w hSw; (try dsimp only at hSw); go_simp <;> with_reducible rfl)
            simp only [Act.put, ps1, ps2, ps3]
            refine ty (i := 9) (v := ?vy9) rfl ?hyy9 ?_
            case hyy9 => (intro w hSw; (try dsimp only at hSw); go_simp <;> with_reducible rfl)
            simp only [Act.put, ps1, ps2, ps3]
            refine ty (i := 10) (v := ?vy10) rfl ?hyy10 ?_
            case hyy10 => (intro w hSw; (try dsimp only at hSw); go_simp <;> with_reducible rfl)
            simp only [Act.put, ps1, ps2, ps3]
            refine ty (i := 11) (v := ?vy11) rfl ?hyy11 ?_
            case hyy11 => (intro w hSw; (try dsimp only at hSw); go_simp <;> with_reducible rfl)
            simp only [Act.put, ps1, ps2, ps3]
            refine ty (i := 12) (v := ?vy12) rfl ?hyy12 ?_
            case hyy12 => (intro w hSw; (try dsimp only at hSw); go_simp <;> with_reducible rfl)
            simp only [Act.put, ps1, ps2, ps3]
            refine ty (i := 14) (v := ?vy14) rfl ?hyy14 ?_
            case hyy14 => (intro w hSw; (try dsimp only at hSw); go_simp <;> with_reducible rfl)
            simp only [Act.put, ps1, ps2, ps3]
            refine take_call (i := 13) rfl (by kernel_rfl) (fun K hK => ?_)
            go_simp
            refine hK.out _ _ ?_ (fun hHeld => ?_)
            · first | exact ⟨c1, c2⟩ | exact ⟨keep_other c1 (by omega), keep_other c2 (by omega)⟩ | exact ⟨keep_set c1 (by omega), keep_set c2 (by omega)⟩
            clear hK K
            refine take_call (i := 15) rfl (by kernel_rfl) (fun K hK => ?_)
            go_simp
            (go_at_call 73; refine (mulAdd_any _ _ _ _ e0 e1 d0 d1 g0 g1 f0 f1 _).mono ?_; rintro e w' ⟨rfl, hw⟩; have hw := hw.symm; subst hw)
            refine hK.out _ _ ?_ (fun hHeld => ?_)
            · first | exact ⟨c1, c2⟩ | exact ⟨keep_other c1 (by omega), keep_other c2 (by omega)⟩ | exact ⟨keep_set c1 (by omega), keep_set c2 (by omega)⟩
            clear hK K
            refine ty (i := 16) (v := ?vy16) rfl ?hyy16 ?_
            case hyy16 => (intro w hSw; (try dsimp only at hSw); go_simp <;> with_reducible rfl)
            simp only [Act.put, ps1, ps2, ps3]
            refine ty (i := 17) (v := ?vy17) rfl ?hyy17 ?_
            case hyy17 => (intro w hSw; (try dsimp only at hSw); go_simp <;> with_reducible rfl)
            simp only [Act.put, ps1, ps2, ps3]
            refine ty (i := 18) (v := ?vy18) rfl ?hyy18 ?_
            case hyy18 => (intro w hSw; (try dsimp only at hSw); go_simp <;> with_reducible rfl)
            simp only [Act.put, ps1, ps2, ps3]
            refine ty (i := 19) (v := ?vy19) rfl ?hyy19 ?_
            case hyy19 => (intro w hSw; (try dsimp only at hSw); go_simp <;> with_reducible rfl)
            simp only [Act.put, ps1, ps2, ps3]
            refine ty (i := 20) (v := ?vy20) rfl ?hyy20 ?_
            case hyy20 => (intro w hSw; (try dsimp only at hSw); go_simp <;> with_reducible rfl)
            simp only [Act.put, ps1, ps2, ps3]
            refine take_call (i := 21) rfl (by kernel_rfl) (fun K hK => ?_)
            go_simp
            refine hK.out _ _ ?_ (fun hHeld => ?_)
            · first | exact ⟨c1, c2⟩ | exact ⟨keep_other c1 (by omega), keep_other c2 (by omega)⟩ | exact ⟨keep_set c1 (by omega), keep_set c2 (by omega)⟩
            clear hK K
            refine wpAnyH_done (by kernel_rfl) ?_ _
            all_goals
              go_wp2
              go_roundw
              case rel => exact ⟨k + 1, by omega, by simp, by rw [HC.out], by rw [← Nat.add_assoc, HD.out]; first | exact HN.out.drewN 1 | exact HN.out⟩
              case measure => simp [intOf]; omega
          · obtain rfl : k = 2 := by omega
            have hn := hr.set (by omega) (by omega) (i + 2) (by rw [q.mix_length]; omega) (.int .u64 (q.cy (X % 18446744073709551616 ^ i * Y) (q.dg X i) Y i 2))
            rw [mix_done i hlt y0 y1] at hn
            have c3 : wr.cell? ⟨w.heap.size + 1 + 1 + 1 + 1 + 1, i + 2, none⟩ = some (.int .u64 (q.dg (X % 18446744073709551616 ^ i * Y) (i + 2))) := hr.rp.cell (i + 2) _ (q.mix_at _ _ _ _ _ (by omega) (Nat.le_refl _))
            have c4 : wr.frozen? ⟨w.heap.size + 1 + 1 + 1 + 1 + 1, i + 2, none⟩ = false := hr.rp.free (i + 2) (by rw [q.mix_length]; omega)
            clear hr
            go_wp2
            go_roundw
            case rel => exact ⟨i + 1, by omega, by simp, hn⟩
            case measure => simp [intOf]; omega
      · obtain rfl : i = 2 := by omega
        have eXY : X % 18446744073709551616 ^ 2 * Y = X * Y := by rw [pw2, Int.emod_eq_of_lt x0 x1]
        obtain ⟨rx, ry, rz, rp, bel, size⟩ := hr
        rw [eXY, qcells] at rp
        rw [qcells_0] at rz
        obtain ⟨c0, c1, c2, c3, _, _, _, _⟩ := row4 rp
        obtain ⟨z0, z1, z2, z3, u0, u1, u2, u3⟩ := row4 rz
        clear rx ry rp rz eXY
        go_wp2
        refine bodyPost_ret (v := .agg #[.int .u64 (q.dg (X * Y) 0), .int .u64 (q.dg (X * Y) 1), .int .u64 (q.dg (X * Y) 2), .int .u64 (q.dg (X * Y) 3)]) (by simp [results, Try.results62, go_sem, *]) rfl ⟨rfl, ?_⟩
        exact (((bel.setCell (by show _ ≤ w.heap.size + 1 + 1; omega) _).setCell (by show _ ≤ w.heap.size + 1 + 1; omega) _).setCell (by show _ ≤ w.heap.size + 1 + 1; omega) _).setCell (by show _ ≤ w.heap.size + 1 + 1; omega) _
end Go.Proofs.Ytkmgndaholglhaa.lq

namespace Go.Proofs.Ytkmgndaholglhaa.lq
open Go.RowKit
set_option linter.unusedVariables false

/-- Two wides in their boxes, the answer's place, and a product in a block of its own. -/
structure MulSt (w : World) (a b P : Int) (p : Nat) (w' : World) : Prop where
  ra : Row w' w.heap.size [.int .i64 (hi a), .int .u64 (lo a)]
  rb : Row w' (w.heap.size + 1) [.int .i64 (hi b), .int .u64 (lo b)]
  rz : Row w' (w.heap.size + 1 + 1) [.int .u64 0, .int .u64 0, .int .u64 0, .int .u64 0]
  rp : Row w' p [.int .u64 (q.dg P 0), .int .u64 (q.dg P 1), .int .u64 (q.dg P 2), .int .u64 (q.dg P 3)]
  bel : Below w.heap.size w w'
  sp : w.heap.size + 1 + 1 < p
  size : p < w'.heap.size
theorem mulSt_start (w w1 : World) (a b P : Int) (t t' : TypeId) (hb : Below (((w.alloc (.cells #[.int .i64 (hi a), .int .u64 (lo a)] t)).alloc (.cells #[.int .i64 (hi b), .int .u64 (lo b)] t)).alloc (.cells #[.int .u64 0, .int .u64 0, .int .u64 0, .int .u64 0] t')).heap.size
    (((w.alloc (.cells #[.int .i64 (hi a), .int .u64 (lo a)] t)).alloc (.cells #[.int .i64 (hi b), .int .u64 (lo b)] t)).alloc (.cells #[.int .u64 0, .int .u64 0, .int .u64 0, .int .u64 0] t')) w1) :
    MulSt w a b P w1.heap.size (w1.alloc (.cells #[.int .u64 (q.dg P 0), .int .u64 (q.dg P 1), .int .u64 (q.dg P 2), .int .u64 (q.dg P 3)] t')) := by
  have hs := hb.size
  simp only [World.size_alloc] at hs
  have h0 := ((Row.new w [.int .i64 (hi a), .int .u64 (lo a)] t).alloc (.cells #[.int .i64 (hi b), .int .u64 (lo b)] t) (by simp <;> omega)).alloc (.cells #[.int .u64 0, .int .u64 0, .int .u64 0, .int .u64 0] t') (by simp <;> omega)
  have h1 := (Row.new (w.alloc (.cells #[.int .i64 (hi a), .int .u64 (lo a)] t)) [.int .i64 (hi b), .int .u64 (lo b)] t).alloc (.cells #[.int .u64 0, .int .u64 0, .int .u64 0, .int .u64 0] t') (by simp <;> omega)
  have h2 := Row.new ((w.alloc (.cells #[.int .i64 (hi a), .int .u64 (lo a)] t)).alloc (.cells #[.int .i64 (hi b), .int .u64 (lo b)] t)) [.int .u64 0, .int .u64 0, .int .u64 0, .int .u64 0] t'
  simp only [World.size_alloc] at h1 h2
  refine ⟨(h0.below hb (by simp <;> omega)).alloc _ (by omega), (h1.below hb (by simp <;> omega)).alloc _ (by omega), (h2.below hb (by simp <;> omega)).alloc _ (by omega), Row.new w1 [.int .u64 (q.dg P 0), .int .u64 (q.dg P 1), .int .u64 (q.dg P 2), .int .u64 (q.dg P 3)] t', ?_, by omega, by simp⟩
  exact (((((Below.refl _ _).alloc (Nat.le_refl _) _).alloc (by simp <;> omega) _).alloc (by simp <;> omega) _).trans (hb.mono (by simp <;> omega))).alloc (by omega) _
theorem MulSt.later {w w1 w2 : World} {a b P : Int} {p : Nat} (h : MulSt w a b P p w1) (hb : Below w1.heap.size w1 w2) : MulSt w a b P p w2 := by
  obtain ⟨ra, rb, rz, rp, bel, sp, size⟩ := h
  have := hb.size
  have := bel.size
  exact ⟨ra.below hb (by omega), rb.below hb (by omega), rz.below hb (by omega), rp.below hb (by omega), bel.trans (hb.mono (by omega)), sp, by omega⟩
theorem MulSt.set {w w1 : World} {a b P P' : Int} {p : Nat} (h : MulSt w a b P p w1) : MulSt w a b P' p ((((w1.setCell ⟨p, 0, none⟩ (.int .u64 (q.dg P' 0))).setCell ⟨p, 1, none⟩ (.int .u64 (q.dg P' 1))).setCell ⟨p, 2, none⟩ (.int .u64 (q.dg P' 2))).setCell ⟨p, 3, none⟩ (.int .u64 (q.dg P' 3))) := by
  obtain ⟨ra, rb, rz, rp, bel, sp, size⟩ := h
  refine ⟨(((ra.other _ (by omega)).other _ (by omega)).other _ (by omega)).other _ (by omega), (((rb.other _ (by omega)).other _ (by omega)).other _ (by omega)).other _ (by omega), (((rz.other _ (by omega)).other _ (by omega)).other _ (by omega)).other _ (by omega), ?_, ?_, sp, by simpa using size⟩
  · exact ((((rp.set 0 _ (by simp)).set 1 _ (by simp)).set 2 _ (by simp)).set 3 _ (by simp))
  · exact (((bel.setCell (by show _ ≤ p; omega) _).setCell (by show _ ≤ p; omega) _).setCell (by show _ ≤ p; omega) _).setCell (by show _ ≤ p; omega) _
theorem MulSt.drew {w w1 : World} {a b P : Int} {p : Nat} (h : MulSt w a b P p w1) : MulSt w a b P p w1.drew := ⟨h.ra, h.rb, h.rz, h.rp, h.bel.drew, h.sp, h.size⟩
theorem MulSt.is {w w1 : World} {a b P P' : Int} {p : Nat} (h : MulSt w a b P p w1) (e : q.dg P 0 = q.dg P' 0 ∧ q.dg P 1 = q.dg P' 1 ∧ q.dg P 2 = q.dg P' 2 ∧ q.dg P 3 = q.dg P' 3) : MulSt w a b P' p w1 := by
  obtain ⟨ra, rb, rz, rp, bel, sp, size⟩ := h
  rw [e.1, e.2.1, e.2.2.1, e.2.2.2] at rp
  exact ⟨ra, rb, rz, rp, bel, sp, size⟩
theorem row2 {w : World} {b : Nat} {v0 v1 : Value} (h : Row w b [v0, v1]) : w.cell? ⟨b, 0, none⟩ = some v0 ∧ w.cell? ⟨b, 1, none⟩ = some v1 := ⟨h.cell 0 _ rfl, h.cell 1 _ rfl⟩
/-- The same number, modulo 2^256: the same words. -/
theorem qcongr {u v : Int} (t : Int) (h : u = v + t * 115792089237316195423570985008687907853269984665640564039457584007913129639936) : q.dg u 0 = q.dg v 0 ∧ q.dg u 1 = q.dg v 1 ∧ q.dg u 2 = q.dg v 2 ∧ q.dg u 3 = q.dg v 3 := by
  have e : (115792089237316195423570985008687907853269984665640564039457584007913129639936 : Int) = 18446744073709551616 ^ 4 := by decide
  rw [e] at h
  exact ⟨q.dg_congr t h (by decide), q.dg_congr t h (by decide), q.dg_congr t h (by decide), q.dg_congr t h (by decide)⟩
theorem hi_neg (a : Int) (h0 : -170141183460469231731687303715884105728 ≤ a) (h1 : a < 0) : hi a < 0 := by unfold hi; omega
theorem hi_pos (a : Int) (h0 : 0 ≤ a) (h1 : a < 170141183460469231731687303715884105728) : ¬ hi a < 0 := by unfold hi; omega
theorem mod_neg (a : Int) (h0 : -170141183460469231731687303715884105728 ≤ a) (h1 : a < 0) : a % 340282366920938463463374607431768211456 = a + 340282366920938463463374607431768211456 := by omega
theorem mod_pos (a : Int) (h0 : 0 ≤ a) (h1 : a < 170141183460469231731687303715884105728) : a % 340282366920938463463374607431768211456 = a := by omega
theorem mul_nn (a b : Int) : (a + 340282366920938463463374607431768211456) * (b + 340282366920938463463374607431768211456) - b * 340282366920938463463374607431768211456 - a * 340282366920938463463374607431768211456 = a * b + 1 * 115792089237316195423570985008687907853269984665640564039457584007913129639936 := by
  rw [Int.add_mul, Int.mul_add, Int.mul_add]; omega
theorem mul_np (a b : Int) : (a + 340282366920938463463374607431768211456) * b - b * 340282366920938463463374607431768211456 = a * b := by
  rw [Int.add_mul]; omega
theorem mul_pn (a b : Int) : a * (b + 340282366920938463463374607431768211456) - a * 340282366920938463463374607431768211456 = a * b := by
  rw [Int.mul_add]; omega

set_option maxHeartbeats 4000000 in
theorem qmul_nn (a b : Int) (a0 : -170141183460469231731687303715884105728 ≤ a) (a1 : a < 170141183460469231731687303715884105728) (b0 : -170141183460469231731687303715884105728 ≤ b) (b1 : b < 170141183460469231731687303715884105728) (ha : a < 0) (hb : b < 0) (w : World) :
    Calls Try.prog 45 #[.agg #[.int .i64 (hi a), .int .u64 (lo a)], .agg #[.int .i64 (hi b), .int .u64 (lo b)]] w fun e w' => e = .returned (.agg #[.int .u64 (q.dg (a * b) 0), .int .u64 (q.dg (a * b) 1), .int .u64 (q.dg (a * b) 2), .int .u64 (q.dg (a * b) 3)]) ∧ Below w.heap.size w w' := by
  have sa := hi_neg a a0 ha
  have sb := hi_neg b b0 hb
  obtain ⟨P, hP⟩ : ∃ P, a % 340282366920938463463374607431768211456 * (b % 340282366920938463463374607431768211456) = P := ⟨_, rfl⟩
  have FIN : Hid (P - b * 340282366920938463463374607431768211456 - a * 340282366920938463463374607431768211456 = a * b + 1 * 115792089237316195423570985008687907853269984665640564039457584007913129639936) := by
    unfold Hid
    rw [← hP, mod_neg a a0 ha, mod_neg b b0 hb]
    exact mul_nn a b
  clear a0 a1 b0 b1 ha hb
  go_enter Try.func45, Try.ntmps45
  go_wp2_with (go_at_call 62; refine (mulWords_any a b rfl rfl rfl rfl _).mono ?_; rw [hP]; rintro e w1 ⟨rfl, hw1⟩; have HS := mulSt_start w w1 a b P _ _ hw1; have ⟨x0, x1⟩ := row2 HS.ra; have ⟨y0, y1⟩ := row2 HS.rb; have ⟨p0, p1, p2, p3, pf0, pf1, pf2, pf3⟩ := row4 HS.rp; have ⟨z0, z1, z2, z3, zf0, zf1, zf2, zf3⟩ := row4 HS.rz; skip)
  generalize w1.alloc (.cells #[.int .u64 (q.dg P 0), .int .u64 (q.dg P 1), .int .u64 (q.dg P 2), .int .u64 (q.dg P 3)] _) = W0 at *
  clear hw1
  generalize w1.heap.size = p at *
  go_region_with (first
    | (go_at_call 64; refine (upper_any b rfl rfl _).mono ?_; rintro e w2 ⟨rfl, hw2⟩; have HS := HS.drew.later hw2; have ⟨x0, x1⟩ := row2 HS.ra; have ⟨y0, y1⟩ := row2 HS.rb; have ⟨p0, p1, p2, p3, pf0, pf1, pf2, pf3⟩ := row4 HS.rp; have ⟨z0, z1, z2, z3, zf0, zf1, zf2, zf3⟩ := row4 HS.rz)
    | (go_at_call 63; refine (qsub_any (P) (b * 340282366920938463463374607431768211456) (wd_self _) (wd_self _) _).mono ?_; rintro e w3 ⟨rfl, hw3⟩; have HS := HS.later hw3; have ⟨x0, x1⟩ := row2 HS.ra; have ⟨y0, y1⟩ := row2 HS.rb; have ⟨p0, p1, p2, p3, pf0, pf1, pf2, pf3⟩ := row4 HS.rp; have ⟨z0, z1, z2, z3, zf0, zf1, zf2, zf3⟩ := row4 HS.rz))
  all_goals
    have HT := HS.set (P' := P - b * 340282366920938463463374607431768211456)
    generalize ((((w3.setCell ⟨p, 0, none⟩ (.int .u64 (q.dg (P - b * 340282366920938463463374607431768211456) 0))).setCell ⟨p, 1, none⟩ (.int .u64 (q.dg (P - b * 340282366920938463463374607431768211456) 1))).setCell ⟨p, 2, none⟩ (.int .u64 (q.dg (P - b * 340282366920938463463374607431768211456) 2))).setCell ⟨p, 3, none⟩ (.int .u64 (q.dg (P - b * 340282366920938463463374607431768211456) 3))) = W1 at *
    clear x0 x1 y0 y1 p0 p1 p2 p3 pf0 pf1 pf2 pf3 z0 z1 z2 z3 zf0 zf1 zf2 zf3
    clear HS
    have HS := HT
    clear HT
    have ⟨x0, x1⟩ := row2 HS.ra
    have ⟨y0, y1⟩ := row2 HS.rb
    have ⟨p0, p1, p2, p3, pf0, pf1, pf2, pf3⟩ := row4 HS.rp
    have ⟨z0, z1, z2, z3, zf0, zf1, zf2, zf3⟩ := row4 HS.rz
    go_wp2
    go_region_with (first
      | (go_at_call 64; refine (upper_any a rfl rfl _).mono ?_; rintro e w2 ⟨rfl, hw2⟩; have HS := HS.drew.later hw2; have ⟨x0, x1⟩ := row2 HS.ra; have ⟨y0, y1⟩ := row2 HS.rb; have ⟨p0, p1, p2, p3, pf0, pf1, pf2, pf3⟩ := row4 HS.rp; have ⟨z0, z1, z2, z3, zf0, zf1, zf2, zf3⟩ := row4 HS.rz)
      | (go_at_call 63; refine (qsub_any (P - b * 340282366920938463463374607431768211456) (a * 340282366920938463463374607431768211456) (wd_self _) (wd_self _) _).mono ?_; rintro e w3 ⟨rfl, hw3⟩; have HS := HS.later hw3; have ⟨x0, x1⟩ := row2 HS.ra; have ⟨y0, y1⟩ := row2 HS.rb; have ⟨p0, p1, p2, p3, pf0, pf1, pf2, pf3⟩ := row4 HS.rp; have ⟨z0, z1, z2, z3, zf0, zf1, zf2, zf3⟩ := row4 HS.rz))
    all_goals
      have HT := HS.set (P' := P - b * 340282366920938463463374607431768211456 - a * 340282366920938463463374607431768211456)
      have HT := HT.is (qcongr 1 FIN.out)
      generalize ((((w3.setCell ⟨p, 0, none⟩ (.int .u64 (q.dg (P - b * 340282366920938463463374607431768211456 - a * 340282366920938463463374607431768211456) 0))).setCell ⟨p, 1, none⟩ (.int .u64 (q.dg (P - b * 340282366920938463463374607431768211456 - a * 340282366920938463463374607431768211456) 1))).setCell ⟨p, 2, none⟩ (.int .u64 (q.dg (P - b * 340282366920938463463374607431768211456 - a * 340282366920938463463374607431768211456) 2))).setCell ⟨p, 3, none⟩ (.int .u64 (q.dg (P - b * 340282366920938463463374607431768211456 - a * 340282366920938463463374607431768211456) 3))) = W2 at *
      clear x0 x1 y0 y1 p0 p1 p2 p3 pf0 pf1 pf2 pf3 z0 z1 z2 z3 zf0 zf1 zf2 zf3
      clear HS
      have HS := HT
      clear HT
      have ⟨x0, x1⟩ := row2 HS.ra
      have ⟨y0, y1⟩ := row2 HS.rb
      have ⟨p0, p1, p2, p3, pf0, pf1, pf2, pf3⟩ := row4 HS.rp
      have ⟨z0, z1, z2, z3, zf0, zf1, zf2, zf3⟩ := row4 HS.rz
      go_wp2
      refine bodyPost_ret (v := .agg #[.int .u64 (q.dg (a * b) 0), .int .u64 (q.dg (a * b) 1), .int .u64 (q.dg (a * b) 2), .int .u64 (q.dg (a * b) 3)]) (by simp [results, Try.results45, go_sem, *]) rfl ⟨rfl, ?_⟩
      exact (((HS.bel.setCell (by show _ ≤ w.heap.size + 1 + 1; omega) _).setCell (by show _ ≤ w.heap.size + 1 + 1; omega) _).setCell (by show _ ≤ w.heap.size + 1 + 1; omega) _).setCell (by show _ ≤ w.heap.size + 1 + 1; omega) _
set_option maxHeartbeats 4000000 in
theorem qmul_np (a b : Int) (a0 : -170141183460469231731687303715884105728 ≤ a) (a1 : a < 170141183460469231731687303715884105728) (b0 : -170141183460469231731687303715884105728 ≤ b) (b1 : b < 170141183460469231731687303715884105728) (ha : a < 0) (hb : 0 ≤ b) (w : World) :
    Calls Try.prog 45 #[.agg #[.int .i64 (hi a), .int .u64 (lo a)], .agg #[.int .i64 (hi b), .int .u64 (lo b)]] w fun e w' => e = .returned (.agg #[.int .u64 (q.dg (a * b) 0), .int .u64 (q.dg (a * b) 1), .int .u64 (q.dg (a * b) 2), .int .u64 (q.dg (a * b) 3)]) ∧ Below w.heap.size w w' := by
  have sa := hi_neg a a0 ha
  have sb := hi_pos b hb b1
  obtain ⟨P, hP⟩ : ∃ P, a % 340282366920938463463374607431768211456 * (b % 340282366920938463463374607431768211456) = P := ⟨_, rfl⟩
  have FIN : Hid (P - b * 340282366920938463463374607431768211456 = a * b + 0 * 115792089237316195423570985008687907853269984665640564039457584007913129639936) := by
    unfold Hid
    rw [← hP, mod_neg a a0 ha, mod_pos b hb b1]
    rw [mul_np]; omega
  clear a0 a1 b0 b1 ha hb
  go_enter Try.func45, Try.ntmps45
  go_wp2_with (go_at_call 62; refine (mulWords_any a b rfl rfl rfl rfl _).mono ?_; rw [hP]; rintro e w1 ⟨rfl, hw1⟩; have HS := mulSt_start w w1 a b P _ _ hw1; have ⟨x0, x1⟩ := row2 HS.ra; have ⟨y0, y1⟩ := row2 HS.rb; have ⟨p0, p1, p2, p3, pf0, pf1, pf2, pf3⟩ := row4 HS.rp; have ⟨z0, z1, z2, z3, zf0, zf1, zf2, zf3⟩ := row4 HS.rz; skip)
  generalize w1.alloc (.cells #[.int .u64 (q.dg P 0), .int .u64 (q.dg P 1), .int .u64 (q.dg P 2), .int .u64 (q.dg P 3)] _) = W0 at *
  clear hw1
  generalize w1.heap.size = p at *
  go_region_with (first
    | (go_at_call 64; refine (upper_any b rfl rfl _).mono ?_; rintro e w2 ⟨rfl, hw2⟩; have HS := HS.drew.later hw2; have ⟨x0, x1⟩ := row2 HS.ra; have ⟨y0, y1⟩ := row2 HS.rb; have ⟨p0, p1, p2, p3, pf0, pf1, pf2, pf3⟩ := row4 HS.rp; have ⟨z0, z1, z2, z3, zf0, zf1, zf2, zf3⟩ := row4 HS.rz)
    | (go_at_call 63; refine (qsub_any (P) (b * 340282366920938463463374607431768211456) (wd_self _) (wd_self _) _).mono ?_; rintro e w3 ⟨rfl, hw3⟩; have HS := HS.later hw3; have ⟨x0, x1⟩ := row2 HS.ra; have ⟨y0, y1⟩ := row2 HS.rb; have ⟨p0, p1, p2, p3, pf0, pf1, pf2, pf3⟩ := row4 HS.rp; have ⟨z0, z1, z2, z3, zf0, zf1, zf2, zf3⟩ := row4 HS.rz))
  all_goals
    have HT := HS.set (P' := P - b * 340282366920938463463374607431768211456)
    have HT := HT.is (qcongr 0 FIN.out)
    generalize ((((w3.setCell ⟨p, 0, none⟩ (.int .u64 (q.dg (P - b * 340282366920938463463374607431768211456) 0))).setCell ⟨p, 1, none⟩ (.int .u64 (q.dg (P - b * 340282366920938463463374607431768211456) 1))).setCell ⟨p, 2, none⟩ (.int .u64 (q.dg (P - b * 340282366920938463463374607431768211456) 2))).setCell ⟨p, 3, none⟩ (.int .u64 (q.dg (P - b * 340282366920938463463374607431768211456) 3))) = W1 at *
    clear x0 x1 y0 y1 p0 p1 p2 p3 pf0 pf1 pf2 pf3 z0 z1 z2 z3 zf0 zf1 zf2 zf3
    clear HS
    have HS := HT
    clear HT
    have ⟨x0, x1⟩ := row2 HS.ra
    have ⟨y0, y1⟩ := row2 HS.rb
    have ⟨p0, p1, p2, p3, pf0, pf1, pf2, pf3⟩ := row4 HS.rp
    have ⟨z0, z1, z2, z3, zf0, zf1, zf2, zf3⟩ := row4 HS.rz
    go_wp2
    refine bodyPost_ret (v := .agg #[.int .u64 (q.dg (a * b) 0), .int .u64 (q.dg (a * b) 1), .int .u64 (q.dg (a * b) 2), .int .u64 (q.dg (a * b) 3)]) (by simp [results, Try.results45, go_sem, *]) rfl ⟨rfl, ?_⟩
    exact (((HS.bel.setCell (by show _ ≤ w.heap.size + 1 + 1; omega) _).setCell (by show _ ≤ w.heap.size + 1 + 1; omega) _).setCell (by show _ ≤ w.heap.size + 1 + 1; omega) _).setCell (by show _ ≤ w.heap.size + 1 + 1; omega) _
set_option maxHeartbeats 4000000 in
theorem qmul_pn (a b : Int) (a0 : -170141183460469231731687303715884105728 ≤ a) (a1 : a < 170141183460469231731687303715884105728) (b0 : -170141183460469231731687303715884105728 ≤ b) (b1 : b < 170141183460469231731687303715884105728) (ha : 0 ≤ a) (hb : b < 0) (w : World) :
    Calls Try.prog 45 #[.agg #[.int .i64 (hi a), .int .u64 (lo a)], .agg #[.int .i64 (hi b), .int .u64 (lo b)]] w fun e w' => e = .returned (.agg #[.int .u64 (q.dg (a * b) 0), .int .u64 (q.dg (a * b) 1), .int .u64 (q.dg (a * b) 2), .int .u64 (q.dg (a * b) 3)]) ∧ Below w.heap.size w w' := by
  have sa := hi_pos a ha a1
  have sb := hi_neg b b0 hb
  obtain ⟨P, hP⟩ : ∃ P, a % 340282366920938463463374607431768211456 * (b % 340282366920938463463374607431768211456) = P := ⟨_, rfl⟩
  have FIN : Hid (P - a * 340282366920938463463374607431768211456 = a * b + 0 * 115792089237316195423570985008687907853269984665640564039457584007913129639936) := by
    unfold Hid
    rw [← hP, mod_pos a ha a1, mod_neg b b0 hb]
    rw [mul_pn]; omega
  clear a0 a1 b0 b1 ha hb
  go_enter Try.func45, Try.ntmps45
  go_wp2_with (go_at_call 62; refine (mulWords_any a b rfl rfl rfl rfl _).mono ?_; rw [hP]; rintro e w1 ⟨rfl, hw1⟩; have HS := mulSt_start w w1 a b P _ _ hw1; have ⟨x0, x1⟩ := row2 HS.ra; have ⟨y0, y1⟩ := row2 HS.rb; have ⟨p0, p1, p2, p3, pf0, pf1, pf2, pf3⟩ := row4 HS.rp; have ⟨z0, z1, z2, z3, zf0, zf1, zf2, zf3⟩ := row4 HS.rz; skip)
  generalize w1.alloc (.cells #[.int .u64 (q.dg P 0), .int .u64 (q.dg P 1), .int .u64 (q.dg P 2), .int .u64 (q.dg P 3)] _) = W0 at *
  clear hw1
  generalize w1.heap.size = p at *
  go_region_with (first
    | (go_at_call 64; refine (upper_any a rfl rfl _).mono ?_; rintro e w2 ⟨rfl, hw2⟩; have HS := HS.drew.later hw2; have ⟨x0, x1⟩ := row2 HS.ra; have ⟨y0, y1⟩ := row2 HS.rb; have ⟨p0, p1, p2, p3, pf0, pf1, pf2, pf3⟩ := row4 HS.rp; have ⟨z0, z1, z2, z3, zf0, zf1, zf2, zf3⟩ := row4 HS.rz)
    | (go_at_call 63; refine (qsub_any (P) (a * 340282366920938463463374607431768211456) (wd_self _) (wd_self _) _).mono ?_; rintro e w3 ⟨rfl, hw3⟩; have HS := HS.later hw3; have ⟨x0, x1⟩ := row2 HS.ra; have ⟨y0, y1⟩ := row2 HS.rb; have ⟨p0, p1, p2, p3, pf0, pf1, pf2, pf3⟩ := row4 HS.rp; have ⟨z0, z1, z2, z3, zf0, zf1, zf2, zf3⟩ := row4 HS.rz))
  all_goals
    have HT := HS.set (P' := P - a * 340282366920938463463374607431768211456)
    have HT := HT.is (qcongr 0 FIN.out)
    generalize ((((w3.setCell ⟨p, 0, none⟩ (.int .u64 (q.dg (P - a * 340282366920938463463374607431768211456) 0))).setCell ⟨p, 1, none⟩ (.int .u64 (q.dg (P - a * 340282366920938463463374607431768211456) 1))).setCell ⟨p, 2, none⟩ (.int .u64 (q.dg (P - a * 340282366920938463463374607431768211456) 2))).setCell ⟨p, 3, none⟩ (.int .u64 (q.dg (P - a * 340282366920938463463374607431768211456) 3))) = W1 at *
    clear x0 x1 y0 y1 p0 p1 p2 p3 pf0 pf1 pf2 pf3 z0 z1 z2 z3 zf0 zf1 zf2 zf3
    clear HS
    have HS := HT
    clear HT
    have ⟨x0, x1⟩ := row2 HS.ra
    have ⟨y0, y1⟩ := row2 HS.rb
    have ⟨p0, p1, p2, p3, pf0, pf1, pf2, pf3⟩ := row4 HS.rp
    have ⟨z0, z1, z2, z3, zf0, zf1, zf2, zf3⟩ := row4 HS.rz
    go_wp2
    refine bodyPost_ret (v := .agg #[.int .u64 (q.dg (a * b) 0), .int .u64 (q.dg (a * b) 1), .int .u64 (q.dg (a * b) 2), .int .u64 (q.dg (a * b) 3)]) (by simp [results, Try.results45, go_sem, *]) rfl ⟨rfl, ?_⟩
    exact (((HS.bel.setCell (by show _ ≤ w.heap.size + 1 + 1; omega) _).setCell (by show _ ≤ w.heap.size + 1 + 1; omega) _).setCell (by show _ ≤ w.heap.size + 1 + 1; omega) _).setCell (by show _ ≤ w.heap.size + 1 + 1; omega) _
set_option maxHeartbeats 4000000 in
theorem qmul_pp (a b : Int) (a0 : -170141183460469231731687303715884105728 ≤ a) (a1 : a < 170141183460469231731687303715884105728) (b0 : -170141183460469231731687303715884105728 ≤ b) (b1 : b < 170141183460469231731687303715884105728) (ha : 0 ≤ a) (hb : 0 ≤ b) (w : World) :
    Calls Try.prog 45 #[.agg #[.int .i64 (hi a), .int .u64 (lo a)], .agg #[.int .i64 (hi b), .int .u64 (lo b)]] w fun e w' => e = .returned (.agg #[.int .u64 (q.dg (a * b) 0), .int .u64 (q.dg (a * b) 1), .int .u64 (q.dg (a * b) 2), .int .u64 (q.dg (a * b) 3)]) ∧ Below w.heap.size w w' := by
  have sa := hi_pos a ha a1
  have sb := hi_pos b hb b1
  obtain ⟨P, hP⟩ : ∃ P, a % 340282366920938463463374607431768211456 * (b % 340282366920938463463374607431768211456) = P := ⟨_, rfl⟩
  have FIN : Hid (P = a * b + 0 * 115792089237316195423570985008687907853269984665640564039457584007913129639936) := by
    unfold Hid
    rw [← hP, mod_pos a ha a1, mod_pos b hb b1]
    omega
  clear a0 a1 b0 b1 ha hb
  go_enter Try.func45, Try.ntmps45
  have E4 := qcongr 0 FIN.out
  have E5 := ret_quad E4.1 E4.2.1 E4.2.2.1 E4.2.2.2
  rw [← E5]
  clear E4 E5
  go_wp2_with (go_at_call 62; refine (mulWords_any a b rfl rfl rfl rfl _).mono ?_; rw [hP]; rintro e w1 ⟨rfl, hw1⟩; have HS := mulSt_start w w1 a b P _ _ hw1; have ⟨x0, x1⟩ := row2 HS.ra; have ⟨y0, y1⟩ := row2 HS.rb; have ⟨p0, p1, p2, p3, pf0, pf1, pf2, pf3⟩ := row4 HS.rp; have ⟨z0, z1, z2, z3, zf0, zf1, zf2, zf3⟩ := row4 HS.rz; skip)
  refine bodyPost_ret (v := .agg #[.int .u64 (q.dg (P) 0), .int .u64 (q.dg (P) 1), .int .u64 (q.dg (P) 2), .int .u64 (q.dg (P) 3)]) (by simp [results, Try.results45, go_sem, *]) rfl ⟨rfl, ?_⟩
  exact (((HS.bel.setCell (by show _ ≤ w.heap.size + 1 + 1; omega) _).setCell (by show _ ≤ w.heap.size + 1 + 1; omega) _).setCell (by show _ ≤ w.heap.size + 1 + 1; omega) _).setCell (by show _ ≤ w.heap.size + 1 + 1; omega) _
theorem qmul_any {ah al bh bl : Int} (a b : Int) (ha : ah = hi a) (hal : al = lo a) (hb : bh = hi b) (hbl : bl = lo b) (a0 : -170141183460469231731687303715884105728 ≤ a) (a1 : a < 170141183460469231731687303715884105728) (b0 : -170141183460469231731687303715884105728 ≤ b) (b1 : b < 170141183460469231731687303715884105728) (w : World) :
    Calls Try.prog 45 #[.agg #[.int .i64 ah, .int .u64 al], .agg #[.int .i64 bh, .int .u64 bl]] w fun e w' => e = .returned (.agg #[.int .u64 (q.dg (a * b) 0), .int .u64 (q.dg (a * b) 1), .int .u64 (q.dg (a * b) 2), .int .u64 (q.dg (a * b) 3)]) ∧ Below w.heap.size w w' := by
  subst ha hal hb hbl
  rcases Int.lt_or_le a 0 with ha | ha <;> rcases Int.lt_or_le b 0 with hb | hb
  · exact qmul_nn a b a0 a1 b0 b1 ha hb w
  · exact qmul_np a b a0 a1 b0 b1 ha hb w
  · exact qmul_pn a b a0 a1 b0 b1 ha hb w
  · exact qmul_pp a b a0 a1 b0 b1 ha hb w
end Go.Proofs.Ytkmgndaholglhaa.lq

namespace Go.Proofs.Ytkmgndaholglhaa.lq
open Go.RowKit
set_option linter.unusedVariables false

theorem quad_eq (a0 a1 a2 a3 b0 b1 b2 b3 : Int) (w : World) : (Op.equalIn 10000 69 (.agg #[.int .u64 a0, .int .u64 a1, .int .u64 a2, .int .u64 a3]) (.agg #[.int .u64 b0, .int .u64 b1, .int .u64 b2, .int .u64 b3])).run Try.prog w = .ok (a0 == b0 && (a1 == b1 && (a2 == b2 && a3 == b3))) w := by
  obtain ⟨i, hi⟩ := Option.isSome_iff_exists.1 (show (Try.prog.info? 47).isSome = true by kernel_rfl)
  have hc : Try.prog.cellsOf 47 = 1 := by kernel_rfl
  rw [run_equalIn_array w 9999 _ _ Try.underlying69 hi, hc]
  simp [Op.eqItems, List.range, List.range.loop, go_sem, Try.underlying47]
  by_cases e0 : a0 = b0 <;> by_cases e1 : a1 = b1 <;> by_cases e2 : a2 = b2 <;> by_cases e3 : a3 = b3 <;> simp [e0, e1, e2, e3]
end Go.Proofs.Ytkmgndaholglhaa.lq

namespace Go.Proofs.Ytkmgndaholglhaa.lq
open Go.RowKit
set_option linter.unusedVariables false

theorem top_neg (a : Int) (h0 : -57896044618658097711785492504343953926634992332820282019728792003956564819968 ≤ a) (h1 : a < 57896044618658097711785492504343953926634992332820282019728792003956564819968) : wrap64 (q.dg a 3) < 0 ↔ a < 0 := by
  rw [qdg3]; unfold wrap64; omega
theorem isBelow_any {a0 a1 a2 a3 : Int} (a : Int) (ha : Wd a a0 a1 a2 a3) (h0 : -57896044618658097711785492504343953926634992332820282019728792003956564819968 ≤ a) (h1 : a < 57896044618658097711785492504343953926634992332820282019728792003956564819968) (w : World) :
    Calls Try.prog 67 #[.agg #[.int .u64 a0, .int .u64 a1, .int .u64 a2, .int .u64 a3]] w fun e w' => e = .returned (.bool (decide (a < 0))) ∧ Below w.heap.size w w' := by
  obtain ⟨rfl, rfl, rfl, rfl⟩ := ha
  have e : decide (wrap64 (q.dg a 3) < 0) = decide (a < 0) := by rw [decide_eq_decide]; exact top_neg a h0 h1
  clear h0 h1
  go_enter Try.func67, Try.ntmps67
  go_wp2
  go_ret
  exact ⟨rfl, (Below.refl _ _).alloc (Nat.le_refl _) _⟩

theorem split4 (a : Int) : a = q.dg a 0 + q.dg a 1 * 18446744073709551616 + q.dg a 2 * 340282366920938463463374607431768211456 + q.dg a 3 * 6277101735386680763835789423207666416102355444464034512896 + a / 115792089237316195423570985008687907853269984665640564039457584007913129639936 * 115792089237316195423570985008687907853269984665640564039457584007913129639936 := by
  rw [qdg0, qdg1, qdg2, qdg3]; omega
theorem ret_int' {a b : Int} (h : a = b) : Ending.returned (.int .i64 a) = .returned (.int .i64 b) := by rw [h]
theorem qsign_any {a0 a1 a2 a3 : Int} (a : Int) (ha : Wd a a0 a1 a2 a3) (h0 : -57896044618658097711785492504343953926634992332820282019728792003956564819968 ≤ a) (h1 : a < 57896044618658097711785492504343953926634992332820282019728792003956564819968) (w : World) :
    Calls Try.prog 48 #[.agg #[.int .u64 a0, .int .u64 a1, .int .u64 a2, .int .u64 a3]] w fun e w' => e = .returned (.int .i64 (cmpI a 0)) ∧ Below w.heap.size w w' := by
  obtain ⟨rfl, rfl, rfl, rfl⟩ := ha
  have HB : Hid _ := fun w => isBelow_any a (wd_self a) h0 h1 w
  have Q4 := quad_eq
  rcases Int.lt_trichotomy a 0 with h | h | h
  · have C : Hid (cmpI a 0 = -1) := by unfold Hid cmpI; rw [if_pos h]
    have D : decide (a < 0) = true := by simpa using h
    clear h0 h1
    go_enter Try.func48, Try.ntmps48
    go_wp2_with (go_at_call 67; refine (HB.out _).mono ?_; rw [D]; rintro e w' ⟨rfl, hb⟩)
    go_ret
    exact ⟨ret_int' C.out.symm, ((Below.refl _ _).alloc (Nat.le_refl _) _).trans (hb.mono (by simp))⟩
  · subst h
    have C : Hid (cmpI 0 0 = 0) := by unfold Hid; decide
    have D : decide ((0 : Int) < 0) = false := by decide
    have Z0 := qdg_0
    clear h0 h1
    go_enter Try.func48, Try.ntmps48
    go_wp2_with (go_at_call 67; refine (HB.out _).mono ?_; rw [D]; rintro e w' ⟨rfl, hb⟩; obtain ⟨hc, hf⟩ := bcell hb)
    go_ret
    exact ⟨ret_int' C.out.symm, ((Below.refl _ _).alloc (Nat.le_refl _) _).trans (hb.mono (by simp))⟩
  · have C : Hid (cmpI a 0 = 1) := by unfold Hid cmpI; rw [if_neg (by omega), if_pos h]
    have D : decide (a < 0) = false := by simp; omega
    have N : (q.dg a 0 == 0 && (q.dg a 1 == 0 && (q.dg a 2 == 0 && q.dg a 3 == 0))) = false := by
      rw [Bool.eq_false_iff]
      intro h'
      simp at h'
      have := split4 a
      omega
    have Q5 := fun w => (Q4 (q.dg a 0) (q.dg a 1) (q.dg a 2) (q.dg a 3) 0 0 0 0 w).trans (by rw [N])
    clear h0 h1 N Q4
    go_enter Try.func48, Try.ntmps48
    go_wp2_with (go_at_call 67; refine (HB.out _).mono ?_; rw [D]; rintro e w' ⟨rfl, hb⟩; obtain ⟨hc, hf⟩ := bcell hb)
    go_ret
    exact ⟨ret_int' C.out.symm, ((Below.refl _ _).alloc (Nat.le_refl _) _).trans (hb.mono (by simp))⟩

end Go.Proofs.Ytkmgndaholglhaa.lq
