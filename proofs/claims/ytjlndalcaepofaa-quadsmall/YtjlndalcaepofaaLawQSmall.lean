/-
  Proved: zelligelaw02.QuadSmall answers true for every number of 256 bits and every two of 128 bits, and leaves its arguments as they were. No condition.
-/
import Derived.Test.YtjlndalcaepofaaRef2B
import Derived.Test.YtjlndalcaepofaaRef2C
import Derived.Test.YtjlndalcaepofaaQuadJ
import Derived.Test.YtjlndalcaepofaaQuadG
import Derived.Test.YtjlndalcaepofaaArr
import Derived.Test.YtjlndalcaepofaaHeld
import Derived.Test.YtjlndalcaepofaaDigE16
import Derived.Deep.RegionHeld3
import Derived.ProofKit
import Derived.OpenShut
import Derived.Lib.SmallJoins
namespace Go.Proofs.Ytjlndalcaepofaa.qsmall
open Go.RowKit Go.Proofs.Ytjlndalcaepofaa
open Go.ChangeShapes Go.WideShapes Go.ChangeAt Go.Joins
set_option linter.unusedVariables false

theorem below_of_drewN {w w' : World} (h : ∃ n, w' = w.drewN n) : Below w.heap.size w w' := by
  obtain ⟨n, rfl⟩ := h
  exact below_drewN (Below.refl _ _) n
theorem small_as (a ah al : Int) (h : hi a = ah) (h' : lo a = al) (h0 : -170141183460469231731687303715884105728 ≤ a) (h1 : a < 170141183460469231731687303715884105728) (w : World) :
    Calls Try.prog 27 #[.agg #[.int .u64 (q.dg (a) 0), .int .u64 (q.dg (a) 1), .int .u64 (q.dg (a) 2), .int .u64 (q.dg (a) 3)]] w fun e w' => e = .returned (.tuple #[.agg #[.int .i64 ah, .int .u64 al], .bool true]) ∧ Below w.heap.size w w' := by
  subst h h'
  exact qsmall_yes a (wd_self a) h0 h1 w
theorem keep8 {w0 w w' : World} {z ah al bh bl : Int} {b7 b9 : Nat} {u0 u1 : Value} (h : w.cell? ⟨w0.heap.size, 0, none⟩ = some (.int .u64 (q.dg z 0)) ∧ w.cell? ⟨w0.heap.size, 1, none⟩ = some (.int .u64 (q.dg z 1)) ∧ w.cell? ⟨w0.heap.size, 2, none⟩ = some (.int .u64 (q.dg z 2)) ∧ w.cell? ⟨w0.heap.size, 3, none⟩ = some (.int .u64 (q.dg z 3)) ∧ w.cell? ⟨w0.heap.size + 1, 0, none⟩ = some (.int .i64 ah) ∧ w.cell? ⟨w0.heap.size + 1, 1, none⟩ = some (.int .u64 al) ∧ w.cell? ⟨w0.heap.size + 1 + 1, 0, none⟩ = some (.int .i64 bh) ∧ w.cell? ⟨w0.heap.size + 1 + 1, 1, none⟩ = some (.int .u64 bl) ∧ Below w0.heap.size w0 w) (hb : Below w.heap.size w w') : w'.cell? ⟨w0.heap.size, 0, none⟩ = some (.int .u64 (q.dg z 0)) ∧ w'.cell? ⟨w0.heap.size, 1, none⟩ = some (.int .u64 (q.dg z 1)) ∧ w'.cell? ⟨w0.heap.size, 2, none⟩ = some (.int .u64 (q.dg z 2)) ∧ w'.cell? ⟨w0.heap.size, 3, none⟩ = some (.int .u64 (q.dg z 3)) ∧ w'.cell? ⟨w0.heap.size + 1, 0, none⟩ = some (.int .i64 ah) ∧ w'.cell? ⟨w0.heap.size + 1, 1, none⟩ = some (.int .u64 al) ∧ w'.cell? ⟨w0.heap.size + 1 + 1, 0, none⟩ = some (.int .i64 bh) ∧ w'.cell? ⟨w0.heap.size + 1 + 1, 1, none⟩ = some (.int .u64 bl) ∧ Below w0.heap.size w0 w' := by
  obtain ⟨h0, h1, h2, h3, h4, h5, h6, h7, hB⟩ := h
  exact ⟨cell_later hb h0, cell_later hb h1, cell_later hb h2, cell_later hb h3, cell_later hb h4, cell_later hb h5, cell_later hb h6, cell_later hb h7, hB.trans (hb.mono hB.size)⟩
theorem keep10 {w0 w w' : World} {z ah al bh bl : Int} {b7 b9 : Nat} {u0 u1 : Value} (h : w.cell? ⟨w0.heap.size, 0, none⟩ = some (.int .u64 (q.dg z 0)) ∧ w.cell? ⟨w0.heap.size, 1, none⟩ = some (.int .u64 (q.dg z 1)) ∧ w.cell? ⟨w0.heap.size, 2, none⟩ = some (.int .u64 (q.dg z 2)) ∧ w.cell? ⟨w0.heap.size, 3, none⟩ = some (.int .u64 (q.dg z 3)) ∧ w.cell? ⟨w0.heap.size + 1, 0, none⟩ = some (.int .i64 ah) ∧ w.cell? ⟨w0.heap.size + 1, 1, none⟩ = some (.int .u64 al) ∧ w.cell? ⟨w0.heap.size + 1 + 1, 0, none⟩ = some (.int .i64 bh) ∧ w.cell? ⟨w0.heap.size + 1 + 1, 1, none⟩ = some (.int .u64 bl) ∧ w.cell? ⟨b7, 0, none⟩ = some (u0) ∧ w.cell? ⟨b7, 1, none⟩ = some (u1) ∧ Below w0.heap.size w0 w) (hb : Below w.heap.size w w') : w'.cell? ⟨w0.heap.size, 0, none⟩ = some (.int .u64 (q.dg z 0)) ∧ w'.cell? ⟨w0.heap.size, 1, none⟩ = some (.int .u64 (q.dg z 1)) ∧ w'.cell? ⟨w0.heap.size, 2, none⟩ = some (.int .u64 (q.dg z 2)) ∧ w'.cell? ⟨w0.heap.size, 3, none⟩ = some (.int .u64 (q.dg z 3)) ∧ w'.cell? ⟨w0.heap.size + 1, 0, none⟩ = some (.int .i64 ah) ∧ w'.cell? ⟨w0.heap.size + 1, 1, none⟩ = some (.int .u64 al) ∧ w'.cell? ⟨w0.heap.size + 1 + 1, 0, none⟩ = some (.int .i64 bh) ∧ w'.cell? ⟨w0.heap.size + 1 + 1, 1, none⟩ = some (.int .u64 bl) ∧ w'.cell? ⟨b7, 0, none⟩ = some (u0) ∧ w'.cell? ⟨b7, 1, none⟩ = some (u1) ∧ Below w0.heap.size w0 w' := by
  obtain ⟨h0, h1, h2, h3, h4, h5, h6, h7, h8, h9, hB⟩ := h
  exact ⟨cell_later hb h0, cell_later hb h1, cell_later hb h2, cell_later hb h3, cell_later hb h4, cell_later hb h5, cell_later hb h6, cell_later hb h7, cell_later hb h8, cell_later hb h9, hB.trans (hb.mono hB.size)⟩
theorem keep12 {w0 w w' : World} {z ah al bh bl : Int} {b7 b9 : Nat} {u0 u1 : Value} (h : w.cell? ⟨w0.heap.size, 0, none⟩ = some (.int .u64 (q.dg z 0)) ∧ w.cell? ⟨w0.heap.size, 1, none⟩ = some (.int .u64 (q.dg z 1)) ∧ w.cell? ⟨w0.heap.size, 2, none⟩ = some (.int .u64 (q.dg z 2)) ∧ w.cell? ⟨w0.heap.size, 3, none⟩ = some (.int .u64 (q.dg z 3)) ∧ w.cell? ⟨w0.heap.size + 1, 0, none⟩ = some (.int .i64 ah) ∧ w.cell? ⟨w0.heap.size + 1, 1, none⟩ = some (.int .u64 al) ∧ w.cell? ⟨w0.heap.size + 1 + 1, 0, none⟩ = some (.int .i64 bh) ∧ w.cell? ⟨w0.heap.size + 1 + 1, 1, none⟩ = some (.int .u64 bl) ∧ w.cell? ⟨b7, 0, none⟩ = some (u0) ∧ w.cell? ⟨b7, 1, none⟩ = some (u1) ∧ w.cell? ⟨b9, 0, none⟩ = some (.int .i64 ah) ∧ w.cell? ⟨b9, 1, none⟩ = some (.int .u64 al) ∧ Below w0.heap.size w0 w) (hb : Below w.heap.size w w') : w'.cell? ⟨w0.heap.size, 0, none⟩ = some (.int .u64 (q.dg z 0)) ∧ w'.cell? ⟨w0.heap.size, 1, none⟩ = some (.int .u64 (q.dg z 1)) ∧ w'.cell? ⟨w0.heap.size, 2, none⟩ = some (.int .u64 (q.dg z 2)) ∧ w'.cell? ⟨w0.heap.size, 3, none⟩ = some (.int .u64 (q.dg z 3)) ∧ w'.cell? ⟨w0.heap.size + 1, 0, none⟩ = some (.int .i64 ah) ∧ w'.cell? ⟨w0.heap.size + 1, 1, none⟩ = some (.int .u64 al) ∧ w'.cell? ⟨w0.heap.size + 1 + 1, 0, none⟩ = some (.int .i64 bh) ∧ w'.cell? ⟨w0.heap.size + 1 + 1, 1, none⟩ = some (.int .u64 bl) ∧ w'.cell? ⟨b7, 0, none⟩ = some (u0) ∧ w'.cell? ⟨b7, 1, none⟩ = some (u1) ∧ w'.cell? ⟨b9, 0, none⟩ = some (.int .i64 ah) ∧ w'.cell? ⟨b9, 1, none⟩ = some (.int .u64 al) ∧ Below w0.heap.size w0 w' := by
  obtain ⟨h0, h1, h2, h3, h4, h5, h6, h7, h8, h9, h10, h11, hB⟩ := h
  exact ⟨cell_later hb h0, cell_later hb h1, cell_later hb h2, cell_later hb h3, cell_later hb h4, cell_later hb h5, cell_later hb h6, cell_later hb h7, cell_later hb h8, cell_later hb h9, cell_later hb h10, cell_later hb h11, hB.trans (hb.mono hB.size)⟩

set_option maxRecDepth 20000 in
set_option maxHeartbeats 8000000 in
theorem walk_yes (z : Int) (z0 : -57896044618658097711785492504343953926634992332820282019728792003956564819968 ≤ z) (z1 : z < 57896044618658097711785492504343953926634992332820282019728792003956564819968) (a : Int) (a0 : -170141183460469231731687303715884105728 ≤ a) (a1 : a < 170141183460469231731687303715884105728) (b : Int) (b0 : -170141183460469231731687303715884105728 ≤ b) (b1 : b < 170141183460469231731687303715884105728) (hz : -170141183460469231731687303715884105728 ≤ z ∧ z < 170141183460469231731687303715884105728) (w : World) :
    Calls Try.prog 7 #[.agg #[.int .u64 (q.dg (z) 0), .int .u64 (q.dg (z) 1), .int .u64 (q.dg (z) 2), .int .u64 (q.dg (z) 3)], .agg #[.int .i64 (hi a), .int .u64 (lo a)], .agg #[.int .i64 (hi b), .int .u64 (lo b)]] w fun e w' => e = .returned (.bool true) ∧ Below w.heap.size w w' := by
  generalize hah : hi a = ah
  generalize hal : lo a = al
  generalize hbh : hi b = bh
  generalize hbl : lo b = bl
  have HSz : Hid _ := fun w => qsmall_yes z (wd_self z) hz.1 hz.2 w
  have HLv : Hid _ := fun w => rlong_any (ah := hi z) (al := q.dg z 0) z rfl (lo_w z) hz.1 hz.2 w
  have HLw : Hid _ := fun w => rlong_any z rfl rfl hz.1 hz.2 w
  have Q4 := quad_eq
  have HSa : Hid _ := fun w => small_as a ah al hah hal a0 a1 w
  have HOa : Hid _ := fun w => qof_any a hah.symm hal.symm a0 a1 w
  have HOb : Hid _ := fun w => qof_any b hbh.symm hbl.symm b0 b1 w
  have HDa : Hid _ := fun w => d16.rof_any a hah.symm hal.symm w
  have HDb : Hid _ := fun w => d16.rof_any b hbh.symm hbl.symm w
  have HC : Hid _ := fun w => qcmp_any a b (wd_self a) (wd_self b) (by omega) (by omega) (by omega) (by omega) w
  have ew := hi_w z
  have ew2 : IntKind.i64.wrap (q.dg z 1) = hi z := (IntWalk.i64_left _).trans (hi_w z)
  clear hz z0 z1 hah hal hbh hbl
  have H0 : Hid ((((w.alloc (.cells #[.int .u64 (q.dg z 0), .int .u64 (q.dg z 1), .int .u64 (q.dg z 2), .int .u64 (q.dg z 3)] 24)).alloc (.cells #[.int .i64 ah, .int .u64 al] 36)).alloc (.cells #[.int .i64 bh, .int .u64 bl] 36)).cell? ⟨w.heap.size, 0, none⟩ = some (.int .u64 (q.dg z 0)) ∧ (((w.alloc (.cells #[.int .u64 (q.dg z 0), .int .u64 (q.dg z 1), .int .u64 (q.dg z 2), .int .u64 (q.dg z 3)] 24)).alloc (.cells #[.int .i64 ah, .int .u64 al] 36)).alloc (.cells #[.int .i64 bh, .int .u64 bl] 36)).cell? ⟨w.heap.size, 1, none⟩ = some (.int .u64 (q.dg z 1)) ∧ (((w.alloc (.cells #[.int .u64 (q.dg z 0), .int .u64 (q.dg z 1), .int .u64 (q.dg z 2), .int .u64 (q.dg z 3)] 24)).alloc (.cells #[.int .i64 ah, .int .u64 al] 36)).alloc (.cells #[.int .i64 bh, .int .u64 bl] 36)).cell? ⟨w.heap.size, 2, none⟩ = some (.int .u64 (q.dg z 2)) ∧ (((w.alloc (.cells #[.int .u64 (q.dg z 0), .int .u64 (q.dg z 1), .int .u64 (q.dg z 2), .int .u64 (q.dg z 3)] 24)).alloc (.cells #[.int .i64 ah, .int .u64 al] 36)).alloc (.cells #[.int .i64 bh, .int .u64 bl] 36)).cell? ⟨w.heap.size, 3, none⟩ = some (.int .u64 (q.dg z 3)) ∧ (((w.alloc (.cells #[.int .u64 (q.dg z 0), .int .u64 (q.dg z 1), .int .u64 (q.dg z 2), .int .u64 (q.dg z 3)] 24)).alloc (.cells #[.int .i64 ah, .int .u64 al] 36)).alloc (.cells #[.int .i64 bh, .int .u64 bl] 36)).cell? ⟨w.heap.size + 1, 0, none⟩ = some (.int .i64 ah) ∧ (((w.alloc (.cells #[.int .u64 (q.dg z 0), .int .u64 (q.dg z 1), .int .u64 (q.dg z 2), .int .u64 (q.dg z 3)] 24)).alloc (.cells #[.int .i64 ah, .int .u64 al] 36)).alloc (.cells #[.int .i64 bh, .int .u64 bl] 36)).cell? ⟨w.heap.size + 1, 1, none⟩ = some (.int .u64 al) ∧ (((w.alloc (.cells #[.int .u64 (q.dg z 0), .int .u64 (q.dg z 1), .int .u64 (q.dg z 2), .int .u64 (q.dg z 3)] 24)).alloc (.cells #[.int .i64 ah, .int .u64 al] 36)).alloc (.cells #[.int .i64 bh, .int .u64 bl] 36)).cell? ⟨w.heap.size + 1 + 1, 0, none⟩ = some (.int .i64 bh) ∧ (((w.alloc (.cells #[.int .u64 (q.dg z 0), .int .u64 (q.dg z 1), .int .u64 (q.dg z 2), .int .u64 (q.dg z 3)] 24)).alloc (.cells #[.int .i64 ah, .int .u64 al] 36)).alloc (.cells #[.int .i64 bh, .int .u64 bl] 36)).cell? ⟨w.heap.size + 1 + 1, 1, none⟩ = some (.int .u64 bl) ∧ Below w.heap.size w (((w.alloc (.cells #[.int .u64 (q.dg z 0), .int .u64 (q.dg z 1), .int .u64 (q.dg z 2), .int .u64 (q.dg z 3)] 24)).alloc (.cells #[.int .i64 ah, .int .u64 al] 36)).alloc (.cells #[.int .i64 bh, .int .u64 bl] 36))) := by
    unfold Hid
    refine ⟨?_, ?_, ?_, ?_, ?_, ?_, ?_, ?_, (((Below.refl _ _).alloc (Nat.le_refl _) _).alloc (by simp <;> omega) _).alloc (by simp <;> omega) _⟩ <;> simp [go_sem]
  go_enter Try.func7, Try.ntmps7
  go_wp2_with (first
    | (go_at_call_of 27 (Value.agg #[Value.int IntKind.u64 (q.dg z 0), Value.int IntKind.u64 (q.dg z 1), Value.int IntKind.u64 (q.dg z 2), Value.int IntKind.u64 (q.dg z 3)]); refine (HSz.out _).mono ?_; rintro e w1 ⟨rfl, hb1⟩; have hS := keep8 (b7 := 0) (b9 := 0) (u0 := undef) (u1 := undef) (keep8 (b7 := 0) (b9 := 0) (u0 := undef) (u1 := undef) H0.out hb1) ((Below.refl _ _).alloc (Nat.le_refl _) (.cells #[.int .i64 (hi z), .int .u64 (lo z)] 36)); have hG := hS; obtain ⟨c0, c1, c2, c3, c4, c5, c6, c7, cB⟩ := hG; have s7 : w1.heap.size < (w1.alloc (.cells #[.int .i64 (hi z), .int .u64 (lo z)] 36)).heap.size := (by simp); have d0 : (w1.alloc (.cells #[.int .i64 (hi z), .int .u64 (lo z)] 36)).cell? ⟨w1.heap.size, 0, none⟩ = some (.int .i64 (hi z)) := (by simp); have d1 : (w1.alloc (.cells #[.int .i64 (hi z), .int .u64 (lo z)] 36)).cell? ⟨w1.heap.size, 1, none⟩ = some (.int .u64 (lo z)) := (by simp))
    | (go_at_call 18; refine (HOa.out _).mono ?_; rintro e w2 ⟨rfl, hb2⟩; have hS := keep8 (b7 := 0) (b9 := 0) (u0 := undef) (u1 := undef) hS hb2; have d0 := cell_later hb2 d0; have d1 := cell_later hb2 d1)
    | (go_at_call 27; refine (HSa.out _).mono ?_; rintro e w3 ⟨rfl, hb3⟩; have hS := keep8 (b7 := 0) (b9 := 0) (u0 := undef) (u1 := undef) hS hb3; have d0 := cell_later hb3 d0; have d1 := cell_later hb3 d1))
  have hS := keep8 (b7 := 0) (b9 := 0) (u0 := undef) (u1 := undef) hS ((Below.refl _ _).alloc (Nat.le_refl _) (.cells #[.int .i64 ah, .int .u64 al] 36))
  have d0 := cell_later ((Below.refl _ _).alloc (Nat.le_refl _) (.cells #[.int .i64 ah, .int .u64 al] 36)) d0
  have d1 := cell_later ((Below.refl _ _).alloc (Nat.le_refl _) (.cells #[.int .i64 ah, .int .u64 al] 36)) d1
  have f0 : (w3.alloc (.cells #[.int .i64 ah, .int .u64 al] 36)).cell? ⟨w3.heap.size, 0, none⟩ = some (.int .i64 ah) := by simp
  have f1 : (w3.alloc (.cells #[.int .i64 ah, .int .u64 al] 36)).cell? ⟨w3.heap.size, 1, none⟩ = some (.int .u64 al) := by simp
  generalize w3.alloc (.cells #[.int .i64 ah, .int .u64 al] 36) = V at *
  generalize w3.heap.size = b9 at *
  clear hb3 hb2 s7
  generalize w1.heap.size = b7 at *
  obtain ⟨c0, c1, c2, c3, c4, c5, c6, c7, cB⟩ := hS
  have hS : V.cell? ⟨w.heap.size, 0, none⟩ = some (.int .u64 (q.dg z 0)) ∧ V.cell? ⟨w.heap.size, 1, none⟩ = some (.int .u64 (q.dg z 1)) ∧ V.cell? ⟨w.heap.size, 2, none⟩ = some (.int .u64 (q.dg z 2)) ∧ V.cell? ⟨w.heap.size, 3, none⟩ = some (.int .u64 (q.dg z 3)) ∧ V.cell? ⟨w.heap.size + 1, 0, none⟩ = some (.int .i64 ah) ∧ V.cell? ⟨w.heap.size + 1, 1, none⟩ = some (.int .u64 al) ∧ V.cell? ⟨w.heap.size + 1 + 1, 0, none⟩ = some (.int .i64 bh) ∧ V.cell? ⟨w.heap.size + 1 + 1, 1, none⟩ = some (.int .u64 bl) ∧ V.cell? ⟨b7, 0, none⟩ = some (.int .i64 (hi z)) ∧ V.cell? ⟨b7, 1, none⟩ = some (.int .u64 (lo z)) ∧ V.cell? ⟨b9, 0, none⟩ = some (.int .i64 ah) ∧ V.cell? ⟨b9, 1, none⟩ = some (.int .u64 al) ∧ Below w.heap.size w V := ⟨c0, c1, c2, c3, c4, c5, c6, c7, d0, d1, f0, f1, cB⟩
  clear c0 c1 c2 c3 c4 c5 c6 c7 d0 d1 f0 f1 cB
  go_region_held3 (fun w' => w'.cell? ⟨w.heap.size, 0, none⟩ = some (.int .u64 (q.dg z 0)) ∧ w'.cell? ⟨w.heap.size, 1, none⟩ = some (.int .u64 (q.dg z 1)) ∧ w'.cell? ⟨w.heap.size, 2, none⟩ = some (.int .u64 (q.dg z 2)) ∧ w'.cell? ⟨w.heap.size, 3, none⟩ = some (.int .u64 (q.dg z 3)) ∧ w'.cell? ⟨w.heap.size + 1, 0, none⟩ = some (.int .i64 ah) ∧ w'.cell? ⟨w.heap.size + 1, 1, none⟩ = some (.int .u64 al) ∧ w'.cell? ⟨w.heap.size + 1 + 1, 0, none⟩ = some (.int .i64 bh) ∧ w'.cell? ⟨w.heap.size + 1 + 1, 1, none⟩ = some (.int .u64 bl) ∧ w'.cell? ⟨b7, 0, none⟩ = some (.int .i64 (hi z)) ∧ w'.cell? ⟨b7, 1, none⟩ = some (.int .u64 (lo z)) ∧ w'.cell? ⟨b9, 0, none⟩ = some (.int .i64 ah) ∧ w'.cell? ⟨b9, 1, none⟩ = some (.int .u64 al) ∧ Below w.heap.size w w') (first | exact keep12 (by assumption) hb5 | exact keep12 (by assumption) hb4.below | exact keep12 hS (below_draws _ _ 1))
    (first
      | (go_at_call_of 17 (Value.int IntKind.i64 (hi z)); refine (HLv.out _).mono ?_; rintro e w4 ⟨bl4, cl4, rfl, hb4⟩)
      | (go_at_call 11; refine (rquad_any z bl4 _ hb4.row hb4.size).mono ?_; rintro e w5 ⟨rfl, hb5⟩))
  rename_i hH
  clear hS hb4 hb5
  have hS := hH
  clear hH
  go_wp2
  refine wp_region_held_drew (S := (fun w' => w'.cell? ⟨w.heap.size, 0, none⟩ = some (.int .u64 (q.dg z 0)) ∧ w'.cell? ⟨w.heap.size, 1, none⟩ = some (.int .u64 (q.dg z 1)) ∧ w'.cell? ⟨w.heap.size, 2, none⟩ = some (.int .u64 (q.dg z 2)) ∧ w'.cell? ⟨w.heap.size, 3, none⟩ = some (.int .u64 (q.dg z 3)) ∧ w'.cell? ⟨w.heap.size + 1, 0, none⟩ = some (.int .i64 ah) ∧ w'.cell? ⟨w.heap.size + 1, 1, none⟩ = some (.int .u64 al) ∧ w'.cell? ⟨w.heap.size + 1 + 1, 0, none⟩ = some (.int .i64 bh) ∧ w'.cell? ⟨w.heap.size + 1 + 1, 1, none⟩ = some (.int .u64 bl) ∧ w'.cell? ⟨b7, 0, none⟩ = some (.int .i64 (hi z)) ∧ w'.cell? ⟨b7, 1, none⟩ = some (.int .u64 (lo z)) ∧ w'.cell? ⟨b9, 0, none⟩ = some (.int .i64 ah) ∧ w'.cell? ⟨b9, 1, none⟩ = some (.int .u64 al) ∧ Below w.heap.size w w')) (by kernel_rfl) ?_ (fun hHeld => ?_)
  · first | exact keep12 (by assumption) hb | exact keep12 hS (below_draws _ _ 1)
  refine take_yes (i := 0) (v := ?vy0) rfl (by kernel_rfl) (by kernel_rfl) (by kernel_rfl) (fun _ _ _ h => h) (by rfl) (by assumption) ?hyy0 ?resty0
  case hyy0 => (intro w hSw; (try dsimp only at hSw); first | (go_simp; done) | (go_simp; with_reducible rfl))
  simp only [Act.put, List.setIfInBounds_toArray, List.set_cons_zero, List.set_cons_succ]
  refine take_yes (i := 1) (v := ?vy1) rfl (by kernel_rfl) (by kernel_rfl) (by kernel_rfl) (fun _ _ _ h => h) (by rfl) (by assumption) ?hyy1 ?resty1
  case hyy1 => (intro w hSw; (try dsimp only at hSw); first | (go_simp; done) | (go_simp; with_reducible rfl))
  simp only [Act.put, List.setIfInBounds_toArray, List.set_cons_zero, List.set_cons_succ]
  refine take_yes (i := 2) (v := ?vy2) rfl (by kernel_rfl) (by kernel_rfl) (by kernel_rfl) (fun _ _ _ h => h) (by rfl) (by assumption) ?hyy2 ?resty2
  case hyy2 => (intro w hSw; (try dsimp only at hSw); first | (go_simp; done) | (go_simp; with_reducible rfl))
  simp only [Act.put, List.setIfInBounds_toArray, List.set_cons_zero, List.set_cons_succ]
  refine take_yes (i := 3) (v := ?vy3) rfl (by kernel_rfl) (by kernel_rfl) (by kernel_rfl) (fun _ _ _ h => h) (by rfl) (by assumption) ?hyy3 ?resty3
  case hyy3 => (intro w hSw; (try dsimp only at hSw); first | (go_simp; done) | (go_simp; with_reducible rfl))
  simp only [Act.put, List.setIfInBounds_toArray, List.set_cons_zero, List.set_cons_succ]
  refine take_yes (i := 4) (v := ?vy4) rfl (by kernel_rfl) (by kernel_rfl) (by kernel_rfl) (fun _ _ _ h => h) (by rfl) (by assumption) ?hyy4 ?resty4
  case hyy4 => (intro w hSw; (try dsimp only at hSw); first | (go_simp; done) | (go_simp; with_reducible rfl))
  simp only [Act.put, List.setIfInBounds_toArray, List.set_cons_zero, List.set_cons_succ]
  refine take_yes (i := 5) (v := ?vy5) rfl (by kernel_rfl) (by kernel_rfl) (by kernel_rfl) (fun _ _ _ h => h) (by rfl) (by assumption) ?hyy5 ?resty5
  case hyy5 => (intro w hSw; (try dsimp only at hSw); first | (go_simp; done) | (go_simp; with_reducible rfl))
  simp only [Act.put, List.setIfInBounds_toArray, List.set_cons_zero, List.set_cons_succ]
  refine take_yes (i := 6) (v := ?vy6) rfl (by kernel_rfl) (by kernel_rfl) (by kernel_rfl) (fun _ _ _ h => h) (by rfl) (by assumption) ?hyy6 ?resty6
  case hyy6 => (intro w hSw; (try dsimp only at hSw); first | (go_simp; done) | (go_simp; with_reducible rfl))
  simp only [Act.put, List.setIfInBounds_toArray, List.set_cons_zero, List.set_cons_succ]
  refine take_yes (i := 9) (v := ?vy9) rfl (by kernel_rfl) (by kernel_rfl) (by kernel_rfl) (fun _ _ _ h => h) (by rfl) (by assumption) ?hyy9 ?resty9
  case hyy9 => (intro w hSw; (try dsimp only at hSw); first | (go_simp; done) | (go_simp; with_reducible rfl))
  simp only [Act.put, List.setIfInBounds_toArray, List.set_cons_zero, List.set_cons_succ]
  refine take_call (i := 7) rfl (by kernel_rfl) (fun K hK => ?_)
  go_simp
  (first
      | (go_at_call 17; refine (HLw.out _).mono ?_; rintro e w5 ⟨bl5, cl5, rfl, hm5⟩; have hb := hm5.below)
      | (go_at_call 11; refine (rquad_any z bl5 _ hm5.row hm5.size).mono ?_; rintro e w6 ⟨rfl, hb⟩)
      | (go_at_call_of 18 (Value.agg #[Value.int IntKind.i64 ah, Value.int IntKind.u64 al]); refine (HOa.out _).mono ?_; rintro e w7 ⟨rfl, hb⟩)
      | (go_at_call_of 18 (Value.agg #[Value.int IntKind.i64 bh, Value.int IntKind.u64 bl]); refine (HOb.out _).mono ?_; rintro e w8 ⟨rfl, hb⟩)
      | (go_at_call 21; refine (HC.out _).mono ?_; rintro e w9 ⟨rfl, hb⟩)
      | (go_at_call_of 28 (Value.agg #[Value.int IntKind.i64 ah, Value.int IntKind.u64 al]); refine (HDa.out _).mono ?_; rintro e w10 ⟨bx, rfl, hx⟩; have hb := hx.below)
      | (go_at_call_of 28 (Value.agg #[Value.int IntKind.i64 bh, Value.int IntKind.u64 bl]); refine (HDb.out _).mono ?_; rintro e w11 ⟨by', rfl, hy⟩; have hb := hy.below)
      | (go_at_call 22; refine ((d16.rcmp_any a b bx by' _ (hx.row.below hy.below hx.size) hy.row a0 a1 b0 b1).mono (fun e w' h => And.intro h.1 (below_of_drewN h.2))).mono ?_; rintro e w12 ⟨rfl, hb⟩)
      | (go_at_call 16; refine (lives_any _).mono ?_; rintro e w13 ⟨rfl, hb⟩))
  refine hK.out _ _ ?_ (fun hHeld => ?_)
  · first | exact keep12 (by assumption) hb | exact keep12 hS (below_draws _ _ 1)
  clear hK K
  refine take_call (i := 8) rfl (by kernel_rfl) (fun K hK => ?_)
  go_simp
  (first
      | (go_at_call 17; refine (HLw.out _).mono ?_; rintro e w5 ⟨bl5, cl5, rfl, hm5⟩; have hb := hm5.below)
      | (go_at_call 11; refine (rquad_any z bl5 _ hm5.row hm5.size).mono ?_; rintro e w6 ⟨rfl, hb⟩)
      | (go_at_call_of 18 (Value.agg #[Value.int IntKind.i64 ah, Value.int IntKind.u64 al]); refine (HOa.out _).mono ?_; rintro e w7 ⟨rfl, hb⟩)
      | (go_at_call_of 18 (Value.agg #[Value.int IntKind.i64 bh, Value.int IntKind.u64 bl]); refine (HOb.out _).mono ?_; rintro e w8 ⟨rfl, hb⟩)
      | (go_at_call 21; refine (HC.out _).mono ?_; rintro e w9 ⟨rfl, hb⟩)
      | (go_at_call_of 28 (Value.agg #[Value.int IntKind.i64 ah, Value.int IntKind.u64 al]); refine (HDa.out _).mono ?_; rintro e w10 ⟨bx, rfl, hx⟩; have hb := hx.below)
      | (go_at_call_of 28 (Value.agg #[Value.int IntKind.i64 bh, Value.int IntKind.u64 bl]); refine (HDb.out _).mono ?_; rintro e w11 ⟨by', rfl, hy⟩; have hb := hy.below)
      | (go_at_call 22; refine ((d16.rcmp_any a b bx by' _ (hx.row.below hy.below hx.size) hy.row a0 a1 b0 b1).mono (fun e w' h => And.intro h.1 (below_of_drewN h.2))).mono ?_; rintro e w12 ⟨rfl, hb⟩)
      | (go_at_call 16; refine (lives_any _).mono ?_; rintro e w13 ⟨rfl, hb⟩))
  refine hK.out _ _ ?_ (fun hHeld => ?_)
  · first | exact keep12 (by assumption) hb | exact keep12 hS (below_draws _ _ 1)
  clear hK K
  refine take_yes (i := 10) (v := ?vy10) rfl (by kernel_rfl) (by kernel_rfl) (by kernel_rfl) (fun _ _ _ h => h) (by rfl) (by assumption) ?hyy10 ?resty10
  case hyy10 => (intro w hSw; (try dsimp only at hSw); first | (go_simp; done) | (go_simp; with_reducible rfl))
  simp only [Act.put, List.setIfInBounds_toArray, List.set_cons_zero, List.set_cons_succ]
  refine take_yes (i := 11) (v := ?vy11) rfl (by kernel_rfl) (by kernel_rfl) (by kernel_rfl) (fun _ _ _ h => h) (by rfl) (by assumption) ?hyy11 ?resty11
  case hyy11 => (intro w hSw; (try dsimp only at hSw); first | (go_simp; done) | (go_simp; with_reducible rfl))
  simp only [Act.put, List.setIfInBounds_toArray, List.set_cons_zero, List.set_cons_succ]
  refine take_yes (i := 12) (v := ?vy12) rfl (by kernel_rfl) (by kernel_rfl) (by kernel_rfl) (fun _ _ _ h => h) (by rfl) (by assumption) ?hyy12 ?resty12
  case hyy12 => (intro w hSw; (try dsimp only at hSw); first | (go_simp; done) | (go_simp; with_reducible rfl))
  simp only [Act.put, List.setIfInBounds_toArray, List.set_cons_zero, List.set_cons_succ]
  refine take_no (i := 13) rfl (by kernel_rfl) (by kernel_rfl) (by kernel_rfl) (fun _ _ _ h => h) (by rfl) (by assumption) ?_
  simp only [Act.put, List.setIfInBounds_toArray, List.set_cons_zero, List.set_cons_succ]
  refine take_no (i := 14) rfl (by kernel_rfl) (by kernel_rfl) (by kernel_rfl) (fun _ _ _ h => h) (by rfl) (by assumption) ?_
  simp only [Act.put, List.setIfInBounds_toArray, List.set_cons_zero, List.set_cons_succ]
  refine take_no (i := 15) rfl (by kernel_rfl) (by kernel_rfl) (by kernel_rfl) (fun _ _ _ h => h) (by rfl) (by assumption) ?_
  simp only [Act.put, List.setIfInBounds_toArray, List.set_cons_zero, List.set_cons_succ]
  refine take_no (i := 16) rfl (by kernel_rfl) (by kernel_rfl) (by kernel_rfl) (fun _ _ _ h => h) (by rfl) (by assumption) ?_
  simp only [Act.put, List.setIfInBounds_toArray, List.set_cons_zero, List.set_cons_succ]
  refine take_no (i := 17) rfl (by kernel_rfl) (by kernel_rfl) (by kernel_rfl) (fun _ _ _ h => h) (by rfl) (by assumption) ?_
  simp only [Act.put, List.setIfInBounds_toArray, List.set_cons_zero, List.set_cons_succ]
  refine take_no (i := 18) rfl (by kernel_rfl) (by kernel_rfl) (by kernel_rfl) (fun _ _ _ h => h) (by rfl) (by assumption) ?_
  simp only [Act.put, List.setIfInBounds_toArray, List.set_cons_zero, List.set_cons_succ]
  refine take_no (i := 19) rfl (by kernel_rfl) (by kernel_rfl) (by kernel_rfl) (fun _ _ _ h => h) (by rfl) (by assumption) ?_
  simp only [Act.put, List.setIfInBounds_toArray, List.set_cons_zero, List.set_cons_succ]
  refine take_yes (i := 20) (v := ?vy20) rfl (by kernel_rfl) (by kernel_rfl) (by kernel_rfl) (fun _ _ _ h => h) (by rfl) (by assumption) ?hyy20 ?resty20
  case hyy20 => (intro w hSw; (try dsimp only at hSw); first | (go_simp; done) | (go_simp; with_reducible rfl))
  simp only [Act.put, List.setIfInBounds_toArray, List.set_cons_zero, List.set_cons_succ]
  refine take_yes (i := 21) (v := ?vy21) rfl (by kernel_rfl) (by kernel_rfl) (by kernel_rfl) (fun _ _ _ h => h) (by rfl) (by assumption) ?hyy21 ?resty21
  case hyy21 => (intro w hSw; (try dsimp only at hSw); first | (go_simp; done) | (go_simp; with_reducible rfl))
  simp only [Act.put, List.setIfInBounds_toArray, List.set_cons_zero, List.set_cons_succ]
  refine take_yes (i := 22) (v := ?vy22) rfl (by kernel_rfl) (by kernel_rfl) (by kernel_rfl) (fun _ _ _ h => h) (by rfl) (by assumption) ?hyy22 ?resty22
  case hyy22 => (intro w hSw; (try dsimp only at hSw); first | (go_simp; done) | (go_simp; with_reducible rfl))
  simp only [Act.put, List.setIfInBounds_toArray, List.set_cons_zero, List.set_cons_succ]
  refine take_yes (i := 23) (v := ?vy23) rfl (by kernel_rfl) (by kernel_rfl) (by kernel_rfl) (fun _ _ _ h => h) (by rfl) (by assumption) ?hyy23 ?resty23
  case hyy23 => (intro w hSw; (try dsimp only at hSw); first | (go_simp; done) | (go_simp; with_reducible rfl))
  simp only [Act.put, List.setIfInBounds_toArray, List.set_cons_zero, List.set_cons_succ]
  refine take_yes (i := 24) (v := ?vy24) rfl (by kernel_rfl) (by kernel_rfl) (by kernel_rfl) (fun _ _ _ h => h) (by rfl) (by assumption) ?hyy24 ?resty24
  case hyy24 => (intro w hSw; (try dsimp only at hSw); first | (go_simp; done) | (go_simp; with_reducible rfl))
  simp only [Act.put, List.setIfInBounds_toArray, List.set_cons_zero, List.set_cons_succ]
  refine take_yes (i := 25) (v := ?vy25) rfl (by kernel_rfl) (by kernel_rfl) (by kernel_rfl) (fun _ _ _ h => h) (by rfl) (by assumption) ?hyy25 ?resty25
  case hyy25 => (intro w hSw; (try dsimp only at hSw); first | (go_simp; done) | (go_simp; with_reducible rfl))
  simp only [Act.put, List.setIfInBounds_toArray, List.set_cons_zero, List.set_cons_succ]
  refine take_yes (i := 26) (v := ?vy26) rfl (by kernel_rfl) (by kernel_rfl) (by kernel_rfl) (fun _ _ _ h => h) (by rfl) (by assumption) ?hyy26 ?resty26
  case hyy26 => (intro w hSw; (try dsimp only at hSw); first | (go_simp; done) | (go_simp; with_reducible rfl))
  simp only [Act.put, List.setIfInBounds_toArray, List.set_cons_zero, List.set_cons_succ]
  refine take_yes (i := 27) (v := ?vy27) rfl (by kernel_rfl) (by kernel_rfl) (by kernel_rfl) (fun _ _ _ h => h) (by rfl) (by assumption) ?hyy27 ?resty27
  case hyy27 => (intro w hSw; (try dsimp only at hSw); first | (go_simp; done) | (go_simp; with_reducible rfl))
  simp only [Act.put, List.setIfInBounds_toArray, List.set_cons_zero, List.set_cons_succ]
  refine take_yes (i := 28) (v := ?vy28) rfl (by kernel_rfl) (by kernel_rfl) (by kernel_rfl) (fun _ _ _ h => h) (by rfl) (by assumption) ?hyy28 ?resty28
  case hyy28 => (intro w hSw; (try dsimp only at hSw); first | (go_simp; done) | (go_simp; with_reducible rfl))
  simp only [Act.put, List.setIfInBounds_toArray, List.set_cons_zero, List.set_cons_succ]
  refine take_yes (i := 29) (v := ?vy29) rfl (by kernel_rfl) (by kernel_rfl) (by kernel_rfl) (fun _ _ _ h => h) (by rfl) (by assumption) ?hyy29 ?resty29
  case hyy29 => (intro w hSw; (try dsimp only at hSw); first | (go_simp; done) | (go_simp; with_reducible rfl))
  simp only [Act.put, List.setIfInBounds_toArray, List.set_cons_zero, List.set_cons_succ]
  refine take_yes (i := 30) (v := ?vy30) rfl (by kernel_rfl) (by kernel_rfl) (by kernel_rfl) (fun _ _ _ h => h) (by rfl) (by assumption) ?hyy30 ?resty30
  case hyy30 => (intro w hSw; (try dsimp only at hSw); first | (go_simp; done) | (go_simp; with_reducible rfl))
  simp only [Act.put, List.setIfInBounds_toArray, List.set_cons_zero, List.set_cons_succ]
  refine take_yes (i := 31) (v := ?vy31) rfl (by kernel_rfl) (by kernel_rfl) (by kernel_rfl) (fun _ _ _ h => h) (by rfl) (by assumption) ?hyy31 ?resty31
  case hyy31 => (intro w hSw; (try dsimp only at hSw); first | (go_simp; done) | (go_simp; with_reducible rfl))
  simp only [Act.put, List.setIfInBounds_toArray, List.set_cons_zero, List.set_cons_succ]
  refine take_yes (i := 33) (v := ?vy33) rfl (by kernel_rfl) (by kernel_rfl) (by kernel_rfl) (fun _ _ _ h => h) (by rfl) (by assumption) ?hyy33 ?resty33
  case hyy33 => (intro w hSw; (try dsimp only at hSw); first | (go_simp; done) | (go_simp; with_reducible rfl))
  simp only [Act.put, List.setIfInBounds_toArray, List.set_cons_zero, List.set_cons_succ]
  refine take_yes (i := 36) (v := ?vy36) rfl (by kernel_rfl) (by kernel_rfl) (by kernel_rfl) (fun _ _ _ h => h) (by rfl) (by assumption) ?hyy36 ?resty36
  case hyy36 => (intro w hSw; (try dsimp only at hSw); first | (go_simp; done) | (go_simp; with_reducible rfl))
  simp only [Act.put, List.setIfInBounds_toArray, List.set_cons_zero, List.set_cons_succ]
  refine take_yes (i := 38) (v := ?vy38) rfl (by kernel_rfl) (by kernel_rfl) (by kernel_rfl) (fun _ _ _ h => h) (by rfl) (by assumption) ?hyy38 ?resty38
  case hyy38 => (intro w hSw; (try dsimp only at hSw); first | (go_simp; done) | (go_simp; with_reducible rfl))
  simp only [Act.put, List.setIfInBounds_toArray, List.set_cons_zero, List.set_cons_succ]
  refine take_call (i := 32) rfl (by kernel_rfl) (fun K hK => ?_)
  go_simp
  (first
      | (go_at_call 17; refine (HLw.out _).mono ?_; rintro e w5 ⟨bl5, cl5, rfl, hm5⟩; have hb := hm5.below)
      | (go_at_call 11; refine (rquad_any z bl5 _ hm5.row hm5.size).mono ?_; rintro e w6 ⟨rfl, hb⟩)
      | (go_at_call_of 18 (Value.agg #[Value.int IntKind.i64 ah, Value.int IntKind.u64 al]); refine (HOa.out _).mono ?_; rintro e w7 ⟨rfl, hb⟩)
      | (go_at_call_of 18 (Value.agg #[Value.int IntKind.i64 bh, Value.int IntKind.u64 bl]); refine (HOb.out _).mono ?_; rintro e w8 ⟨rfl, hb⟩)
      | (go_at_call 21; refine (HC.out _).mono ?_; rintro e w9 ⟨rfl, hb⟩)
      | (go_at_call_of 28 (Value.agg #[Value.int IntKind.i64 ah, Value.int IntKind.u64 al]); refine (HDa.out _).mono ?_; rintro e w10 ⟨bx, rfl, hx⟩; have hb := hx.below)
      | (go_at_call_of 28 (Value.agg #[Value.int IntKind.i64 bh, Value.int IntKind.u64 bl]); refine (HDb.out _).mono ?_; rintro e w11 ⟨by', rfl, hy⟩; have hb := hy.below)
      | (go_at_call 22; refine ((d16.rcmp_any a b bx by' _ (hx.row.below hy.below hx.size) hy.row a0 a1 b0 b1).mono (fun e w' h => And.intro h.1 (below_of_drewN h.2))).mono ?_; rintro e w12 ⟨rfl, hb⟩)
      | (go_at_call 16; refine (lives_any _).mono ?_; rintro e w13 ⟨rfl, hb⟩))
  refine hK.out _ _ ?_ (fun hHeld => ?_)
  · first | exact keep12 (by assumption) hb | exact keep12 hS (below_draws _ _ 1)
  clear hK K
  refine take_call (i := 34) rfl (by kernel_rfl) (fun K hK => ?_)
  go_simp
  (first
      | (go_at_call 17; refine (HLw.out _).mono ?_; rintro e w5 ⟨bl5, cl5, rfl, hm5⟩; have hb := hm5.below)
      | (go_at_call 11; refine (rquad_any z bl5 _ hm5.row hm5.size).mono ?_; rintro e w6 ⟨rfl, hb⟩)
      | (go_at_call_of 18 (Value.agg #[Value.int IntKind.i64 ah, Value.int IntKind.u64 al]); refine (HOa.out _).mono ?_; rintro e w7 ⟨rfl, hb⟩)
      | (go_at_call_of 18 (Value.agg #[Value.int IntKind.i64 bh, Value.int IntKind.u64 bl]); refine (HOb.out _).mono ?_; rintro e w8 ⟨rfl, hb⟩)
      | (go_at_call 21; refine (HC.out _).mono ?_; rintro e w9 ⟨rfl, hb⟩)
      | (go_at_call_of 28 (Value.agg #[Value.int IntKind.i64 ah, Value.int IntKind.u64 al]); refine (HDa.out _).mono ?_; rintro e w10 ⟨bx, rfl, hx⟩; have hb := hx.below)
      | (go_at_call_of 28 (Value.agg #[Value.int IntKind.i64 bh, Value.int IntKind.u64 bl]); refine (HDb.out _).mono ?_; rintro e w11 ⟨by', rfl, hy⟩; have hb := hy.below)
      | (go_at_call 22; refine ((d16.rcmp_any a b bx by' _ (hx.row.below hy.below hx.size) hy.row a0 a1 b0 b1).mono (fun e w' h => And.intro h.1 (below_of_drewN h.2))).mono ?_; rintro e w12 ⟨rfl, hb⟩)
      | (go_at_call 16; refine (lives_any _).mono ?_; rintro e w13 ⟨rfl, hb⟩))
  refine hK.out _ _ ?_ (fun hHeld => ?_)
  · first | exact keep12 (by assumption) hb | exact keep12 hS (below_draws _ _ 1)
  clear hK K
  refine take_call (i := 35) rfl (by kernel_rfl) (fun K hK => ?_)
  go_simp
  (first
      | (go_at_call 17; refine (HLw.out _).mono ?_; rintro e w5 ⟨bl5, cl5, rfl, hm5⟩; have hb := hm5.below)
      | (go_at_call 11; refine (rquad_any z bl5 _ hm5.row hm5.size).mono ?_; rintro e w6 ⟨rfl, hb⟩)
      | (go_at_call_of 18 (Value.agg #[Value.int IntKind.i64 ah, Value.int IntKind.u64 al]); refine (HOa.out _).mono ?_; rintro e w7 ⟨rfl, hb⟩)
      | (go_at_call_of 18 (Value.agg #[Value.int IntKind.i64 bh, Value.int IntKind.u64 bl]); refine (HOb.out _).mono ?_; rintro e w8 ⟨rfl, hb⟩)
      | (go_at_call 21; refine (HC.out _).mono ?_; rintro e w9 ⟨rfl, hb⟩)
      | (go_at_call_of 28 (Value.agg #[Value.int IntKind.i64 ah, Value.int IntKind.u64 al]); refine (HDa.out _).mono ?_; rintro e w10 ⟨bx, rfl, hx⟩; have hb := hx.below)
      | (go_at_call_of 28 (Value.agg #[Value.int IntKind.i64 bh, Value.int IntKind.u64 bl]); refine (HDb.out _).mono ?_; rintro e w11 ⟨by', rfl, hy⟩; have hb := hy.below)
      | (go_at_call 22; refine ((d16.rcmp_any a b bx by' _ (hx.row.below hy.below hx.size) hy.row a0 a1 b0 b1).mono (fun e w' h => And.intro h.1 (below_of_drewN h.2))).mono ?_; rintro e w12 ⟨rfl, hb⟩)
      | (go_at_call 16; refine (lives_any _).mono ?_; rintro e w13 ⟨rfl, hb⟩))
  refine hK.out _ _ ?_ (fun hHeld => ?_)
  · first | exact keep12 (by assumption) hb | exact keep12 hS (below_draws _ _ 1)
  clear hK K
  refine take_call (i := 37) rfl (by kernel_rfl) (fun K hK => ?_)
  go_simp
  (first
      | (go_at_call 17; refine (HLw.out _).mono ?_; rintro e w5 ⟨bl5, cl5, rfl, hm5⟩; have hb := hm5.below)
      | (go_at_call 11; refine (rquad_any z bl5 _ hm5.row hm5.size).mono ?_; rintro e w6 ⟨rfl, hb⟩)
      | (go_at_call_of 18 (Value.agg #[Value.int IntKind.i64 ah, Value.int IntKind.u64 al]); refine (HOa.out _).mono ?_; rintro e w7 ⟨rfl, hb⟩)
      | (go_at_call_of 18 (Value.agg #[Value.int IntKind.i64 bh, Value.int IntKind.u64 bl]); refine (HOb.out _).mono ?_; rintro e w8 ⟨rfl, hb⟩)
      | (go_at_call 21; refine (HC.out _).mono ?_; rintro e w9 ⟨rfl, hb⟩)
      | (go_at_call_of 28 (Value.agg #[Value.int IntKind.i64 ah, Value.int IntKind.u64 al]); refine (HDa.out _).mono ?_; rintro e w10 ⟨bx, rfl, hx⟩; have hb := hx.below)
      | (go_at_call_of 28 (Value.agg #[Value.int IntKind.i64 bh, Value.int IntKind.u64 bl]); refine (HDb.out _).mono ?_; rintro e w11 ⟨by', rfl, hy⟩; have hb := hy.below)
      | (go_at_call 22; refine ((d16.rcmp_any a b bx by' _ (hx.row.below hy.below hx.size) hy.row a0 a1 b0 b1).mono (fun e w' h => And.intro h.1 (below_of_drewN h.2))).mono ?_; rintro e w12 ⟨rfl, hb⟩)
      | (go_at_call 16; refine (lives_any _).mono ?_; rintro e w13 ⟨rfl, hb⟩))
  refine hK.out _ _ ?_ (fun hHeld => ?_)
  · first | exact keep12 (by assumption) hb | exact keep12 hS (below_draws _ _ 1)
  clear hK K
  refine take_call (i := 39) rfl (by kernel_rfl) (fun K hK => ?_)
  go_simp
  (first
      | (go_at_call 17; refine (HLw.out _).mono ?_; rintro e w5 ⟨bl5, cl5, rfl, hm5⟩; have hb := hm5.below)
      | (go_at_call 11; refine (rquad_any z bl5 _ hm5.row hm5.size).mono ?_; rintro e w6 ⟨rfl, hb⟩)
      | (go_at_call_of 18 (Value.agg #[Value.int IntKind.i64 ah, Value.int IntKind.u64 al]); refine (HOa.out _).mono ?_; rintro e w7 ⟨rfl, hb⟩)
      | (go_at_call_of 18 (Value.agg #[Value.int IntKind.i64 bh, Value.int IntKind.u64 bl]); refine (HOb.out _).mono ?_; rintro e w8 ⟨rfl, hb⟩)
      | (go_at_call 21; refine (HC.out _).mono ?_; rintro e w9 ⟨rfl, hb⟩)
      | (go_at_call_of 28 (Value.agg #[Value.int IntKind.i64 ah, Value.int IntKind.u64 al]); refine (HDa.out _).mono ?_; rintro e w10 ⟨bx, rfl, hx⟩; have hb := hx.below)
      | (go_at_call_of 28 (Value.agg #[Value.int IntKind.i64 bh, Value.int IntKind.u64 bl]); refine (HDb.out _).mono ?_; rintro e w11 ⟨by', rfl, hy⟩; have hb := hy.below)
      | (go_at_call 22; refine ((d16.rcmp_any a b bx by' _ (hx.row.below hy.below hx.size) hy.row a0 a1 b0 b1).mono (fun e w' h => And.intro h.1 (below_of_drewN h.2))).mono ?_; rintro e w12 ⟨rfl, hb⟩)
      | (go_at_call 16; refine (lives_any _).mono ?_; rintro e w13 ⟨rfl, hb⟩))
  refine hK.out _ _ ?_ (fun hHeld => ?_)
  · first | exact keep12 (by assumption) hb | exact keep12 hS (below_draws _ _ 1)
  clear hK K
  refine take_call (i := 40) rfl (by kernel_rfl) (fun K hK => ?_)
  go_simp
  (first
      | (go_at_call 17; refine (HLw.out _).mono ?_; rintro e w5 ⟨bl5, cl5, rfl, hm5⟩; have hb := hm5.below)
      | (go_at_call 11; refine (rquad_any z bl5 _ hm5.row hm5.size).mono ?_; rintro e w6 ⟨rfl, hb⟩)
      | (go_at_call_of 18 (Value.agg #[Value.int IntKind.i64 ah, Value.int IntKind.u64 al]); refine (HOa.out _).mono ?_; rintro e w7 ⟨rfl, hb⟩)
      | (go_at_call_of 18 (Value.agg #[Value.int IntKind.i64 bh, Value.int IntKind.u64 bl]); refine (HOb.out _).mono ?_; rintro e w8 ⟨rfl, hb⟩)
      | (go_at_call 21; refine (HC.out _).mono ?_; rintro e w9 ⟨rfl, hb⟩)
      | (go_at_call_of 28 (Value.agg #[Value.int IntKind.i64 ah, Value.int IntKind.u64 al]); refine (HDa.out _).mono ?_; rintro e w10 ⟨bx, rfl, hx⟩; have hb := hx.below)
      | (go_at_call_of 28 (Value.agg #[Value.int IntKind.i64 bh, Value.int IntKind.u64 bl]); refine (HDb.out _).mono ?_; rintro e w11 ⟨by', rfl, hy⟩; have hb := hy.below)
      | (go_at_call 22; refine ((d16.rcmp_any a b bx by' _ (hx.row.below hy.below hx.size) hy.row a0 a1 b0 b1).mono (fun e w' h => And.intro h.1 (below_of_drewN h.2))).mono ?_; rintro e w12 ⟨rfl, hb⟩)
      | (go_at_call 16; refine (lives_any _).mono ?_; rintro e w13 ⟨rfl, hb⟩))
  refine hK.out _ _ ?_ (fun hHeld => ?_)
  · first | exact keep12 (by assumption) hb | exact keep12 hS (below_draws _ _ 1)
  clear hK K
  refine take_yes (i := 41) (v := ?vy41) rfl (by kernel_rfl) (by kernel_rfl) (by kernel_rfl) (fun _ _ _ h => h) (by rfl) (by assumption) ?hyy41 ?resty41
  case hyy41 => (intro w hSw; (try dsimp only at hSw); first | (go_simp; done) | (go_simp; with_reducible rfl))
  simp only [Act.put, List.setIfInBounds_toArray, List.set_cons_zero, List.set_cons_succ]
  refine take_yes (i := 42) (v := ?vy42) rfl (by kernel_rfl) (by kernel_rfl) (by kernel_rfl) (fun _ _ _ h => h) (by rfl) (by assumption) ?hyy42 ?resty42
  case hyy42 => (intro w hSw; (try dsimp only at hSw); first | (go_simp; done) | (go_simp; with_reducible rfl))
  simp only [Act.put, List.setIfInBounds_toArray, List.set_cons_zero, List.set_cons_succ]
  refine take_yes (i := 43) (v := ?vy43) rfl (by kernel_rfl) (by kernel_rfl) (by kernel_rfl) (fun _ _ _ h => h) (by rfl) (by assumption) ?hyy43 ?resty43
  case hyy43 => (intro w hSw; (try dsimp only at hSw); first | (go_simp; done) | (go_simp; with_reducible rfl))
  simp only [Act.put, List.setIfInBounds_toArray, List.set_cons_zero, List.set_cons_succ]
  refine take_call (i := 44) rfl (by kernel_rfl) (fun K hK => ?_)
  go_simp
  (first
      | (go_at_call 17; refine (HLw.out _).mono ?_; rintro e w5 ⟨bl5, cl5, rfl, hm5⟩; have hb := hm5.below)
      | (go_at_call 11; refine (rquad_any z bl5 _ hm5.row hm5.size).mono ?_; rintro e w6 ⟨rfl, hb⟩)
      | (go_at_call_of 18 (Value.agg #[Value.int IntKind.i64 ah, Value.int IntKind.u64 al]); refine (HOa.out _).mono ?_; rintro e w7 ⟨rfl, hb⟩)
      | (go_at_call_of 18 (Value.agg #[Value.int IntKind.i64 bh, Value.int IntKind.u64 bl]); refine (HOb.out _).mono ?_; rintro e w8 ⟨rfl, hb⟩)
      | (go_at_call 21; refine (HC.out _).mono ?_; rintro e w9 ⟨rfl, hb⟩)
      | (go_at_call_of 28 (Value.agg #[Value.int IntKind.i64 ah, Value.int IntKind.u64 al]); refine (HDa.out _).mono ?_; rintro e w10 ⟨bx, rfl, hx⟩; have hb := hx.below)
      | (go_at_call_of 28 (Value.agg #[Value.int IntKind.i64 bh, Value.int IntKind.u64 bl]); refine (HDb.out _).mono ?_; rintro e w11 ⟨by', rfl, hy⟩; have hb := hy.below)
      | (go_at_call 22; refine ((d16.rcmp_any a b bx by' _ (hx.row.below hy.below hx.size) hy.row a0 a1 b0 b1).mono (fun e w' h => And.intro h.1 (below_of_drewN h.2))).mono ?_; rintro e w12 ⟨rfl, hb⟩)
      | (go_at_call 16; refine (lives_any _).mono ?_; rintro e w13 ⟨rfl, hb⟩))
  refine hK.out _ _ ?_ (fun hHeld => ?_)
  · first | exact keep12 (by assumption) hb | exact keep12 hS (below_draws _ _ 1)
  clear hK K
  refine take_yes (i := 45) (v := ?vy45) rfl (by kernel_rfl) (by kernel_rfl) (by kernel_rfl) (fun _ _ _ h => h) (by rfl) (by assumption) ?hyy45 ?resty45
  case hyy45 => (intro w hSw; (try dsimp only at hSw); first | (go_simp; done) | (go_simp; with_reducible rfl))
  simp only [Act.put, List.setIfInBounds_toArray, List.set_cons_zero, List.set_cons_succ]
  refine take_yes (i := 46) (v := ?vy46) rfl (by kernel_rfl) (by kernel_rfl) (by kernel_rfl) (fun _ _ _ h => h) (by rfl) (by assumption) ?hyy46 ?resty46
  case hyy46 => (intro w hSw; (try dsimp only at hSw); first | (go_simp; done) | (go_simp; with_reducible rfl))
  simp only [Act.put, List.setIfInBounds_toArray, List.set_cons_zero, List.set_cons_succ]
  refine wpAnyH_done (by kernel_rfl) ?_ _
  obtain ⟨_, _, _, _, _, _, _, _, _, _, _, _, cB⟩ := hHeld
  go_wp2
  go_ret
  exact ⟨rfl, cB⟩
set_option maxRecDepth 20000 in
set_option maxHeartbeats 8000000 in
theorem walk_no (z : Int) (z0 : -57896044618658097711785492504343953926634992332820282019728792003956564819968 ≤ z) (z1 : z < 57896044618658097711785492504343953926634992332820282019728792003956564819968) (a : Int) (a0 : -170141183460469231731687303715884105728 ≤ a) (a1 : a < 170141183460469231731687303715884105728) (b : Int) (b0 : -170141183460469231731687303715884105728 ≤ b) (b1 : b < 170141183460469231731687303715884105728) (hz : z < -170141183460469231731687303715884105728 ∨ 170141183460469231731687303715884105728 ≤ z) (w : World) :
    Calls Try.prog 7 #[.agg #[.int .u64 (q.dg (z) 0), .int .u64 (q.dg (z) 1), .int .u64 (q.dg (z) 2), .int .u64 (q.dg (z) 3)], .agg #[.int .i64 (hi a), .int .u64 (lo a)], .agg #[.int .i64 (hi b), .int .u64 (lo b)]] w fun e w' => e = .returned (.bool true) ∧ Below w.heap.size w w' := by
  generalize hah : hi a = ah
  generalize hal : lo a = al
  generalize hbh : hi b = bh
  generalize hbl : lo b = bl
  have HSz : Hid _ := fun w => qsmall_no z (wd_self z) z0 z1 hz w
  obtain ⟨v, v1, v2, v3, v4⟩ := narrow z
  have N : (q.dg v 0 == q.dg z 0 && (q.dg v 1 == q.dg z 1 && (q.dg v 2 == q.dg z 2 && q.dg v 3 == q.dg z 3))) = false := by
    rw [Bool.eq_false_iff]
    intro h'
    simp at h'
    have := quad_inj (by omega) (by omega) z0 z1 h'.1 h'.2.1 h'.2.2.1 h'.2.2.2
    omega
  have Q4 := fun w => (quad_eq (q.dg v 0) (q.dg v 1) (q.dg v 2) (q.dg v 3) (q.dg z 0) (q.dg z 1) (q.dg z 2) (q.dg z 3) w).trans (by rw [N])
  have HLv : Hid _ := fun w => rlong_any (ah := hi z) (al := q.dg z 0) v v1.symm ((lo_w z).trans v2.symm) v3 v4 w
  clear N v1 v2 v3 v4
  have HSa : Hid _ := fun w => small_as a ah al hah hal a0 a1 w
  have HOa : Hid _ := fun w => qof_any a hah.symm hal.symm a0 a1 w
  have HOb : Hid _ := fun w => qof_any b hbh.symm hbl.symm b0 b1 w
  have HDa : Hid _ := fun w => d16.rof_any a hah.symm hal.symm w
  have HDb : Hid _ := fun w => d16.rof_any b hbh.symm hbl.symm w
  have HC : Hid _ := fun w => qcmp_any a b (wd_self a) (wd_self b) (by omega) (by omega) (by omega) (by omega) w
  have ew := hi_w z
  have ew2 : IntKind.i64.wrap (q.dg z 1) = hi z := (IntWalk.i64_left _).trans (hi_w z)
  clear hz z0 z1 hah hal hbh hbl
  have H0 : Hid ((((w.alloc (.cells #[.int .u64 (q.dg z 0), .int .u64 (q.dg z 1), .int .u64 (q.dg z 2), .int .u64 (q.dg z 3)] 24)).alloc (.cells #[.int .i64 ah, .int .u64 al] 36)).alloc (.cells #[.int .i64 bh, .int .u64 bl] 36)).cell? ⟨w.heap.size, 0, none⟩ = some (.int .u64 (q.dg z 0)) ∧ (((w.alloc (.cells #[.int .u64 (q.dg z 0), .int .u64 (q.dg z 1), .int .u64 (q.dg z 2), .int .u64 (q.dg z 3)] 24)).alloc (.cells #[.int .i64 ah, .int .u64 al] 36)).alloc (.cells #[.int .i64 bh, .int .u64 bl] 36)).cell? ⟨w.heap.size, 1, none⟩ = some (.int .u64 (q.dg z 1)) ∧ (((w.alloc (.cells #[.int .u64 (q.dg z 0), .int .u64 (q.dg z 1), .int .u64 (q.dg z 2), .int .u64 (q.dg z 3)] 24)).alloc (.cells #[.int .i64 ah, .int .u64 al] 36)).alloc (.cells #[.int .i64 bh, .int .u64 bl] 36)).cell? ⟨w.heap.size, 2, none⟩ = some (.int .u64 (q.dg z 2)) ∧ (((w.alloc (.cells #[.int .u64 (q.dg z 0), .int .u64 (q.dg z 1), .int .u64 (q.dg z 2), .int .u64 (q.dg z 3)] 24)).alloc (.cells #[.int .i64 ah, .int .u64 al] 36)).alloc (.cells #[.int .i64 bh, .int .u64 bl] 36)).cell? ⟨w.heap.size, 3, none⟩ = some (.int .u64 (q.dg z 3)) ∧ (((w.alloc (.cells #[.int .u64 (q.dg z 0), .int .u64 (q.dg z 1), .int .u64 (q.dg z 2), .int .u64 (q.dg z 3)] 24)).alloc (.cells #[.int .i64 ah, .int .u64 al] 36)).alloc (.cells #[.int .i64 bh, .int .u64 bl] 36)).cell? ⟨w.heap.size + 1, 0, none⟩ = some (.int .i64 ah) ∧ (((w.alloc (.cells #[.int .u64 (q.dg z 0), .int .u64 (q.dg z 1), .int .u64 (q.dg z 2), .int .u64 (q.dg z 3)] 24)).alloc (.cells #[.int .i64 ah, .int .u64 al] 36)).alloc (.cells #[.int .i64 bh, .int .u64 bl] 36)).cell? ⟨w.heap.size + 1, 1, none⟩ = some (.int .u64 al) ∧ (((w.alloc (.cells #[.int .u64 (q.dg z 0), .int .u64 (q.dg z 1), .int .u64 (q.dg z 2), .int .u64 (q.dg z 3)] 24)).alloc (.cells #[.int .i64 ah, .int .u64 al] 36)).alloc (.cells #[.int .i64 bh, .int .u64 bl] 36)).cell? ⟨w.heap.size + 1 + 1, 0, none⟩ = some (.int .i64 bh) ∧ (((w.alloc (.cells #[.int .u64 (q.dg z 0), .int .u64 (q.dg z 1), .int .u64 (q.dg z 2), .int .u64 (q.dg z 3)] 24)).alloc (.cells #[.int .i64 ah, .int .u64 al] 36)).alloc (.cells #[.int .i64 bh, .int .u64 bl] 36)).cell? ⟨w.heap.size + 1 + 1, 1, none⟩ = some (.int .u64 bl) ∧ Below w.heap.size w (((w.alloc (.cells #[.int .u64 (q.dg z 0), .int .u64 (q.dg z 1), .int .u64 (q.dg z 2), .int .u64 (q.dg z 3)] 24)).alloc (.cells #[.int .i64 ah, .int .u64 al] 36)).alloc (.cells #[.int .i64 bh, .int .u64 bl] 36))) := by
    unfold Hid
    refine ⟨?_, ?_, ?_, ?_, ?_, ?_, ?_, ?_, (((Below.refl _ _).alloc (Nat.le_refl _) _).alloc (by simp <;> omega) _).alloc (by simp <;> omega) _⟩ <;> simp [go_sem]
  go_enter Try.func7, Try.ntmps7
  go_wp2_with (first
    | (go_at_call_of 27 (Value.agg #[Value.int IntKind.u64 (q.dg z 0), Value.int IntKind.u64 (q.dg z 1), Value.int IntKind.u64 (q.dg z 2), Value.int IntKind.u64 (q.dg z 3)]); refine (HSz.out _).mono ?_; rintro e w1 ⟨rfl, hb1⟩; have hS := keep8 (b7 := 0) (b9 := 0) (u0 := undef) (u1 := undef) (keep8 (b7 := 0) (b9 := 0) (u0 := undef) (u1 := undef) H0.out hb1) ((Below.refl _ _).alloc (Nat.le_refl _) (.cells #[.int .i64 0, .int .u64 0] 36)); have hG := hS; obtain ⟨c0, c1, c2, c3, c4, c5, c6, c7, cB⟩ := hG; have s7 : w1.heap.size < (w1.alloc (.cells #[.int .i64 0, .int .u64 0] 36)).heap.size := (by simp); have d0 : (w1.alloc (.cells #[.int .i64 0, .int .u64 0] 36)).cell? ⟨w1.heap.size, 0, none⟩ = some (.int .i64 0) := (by simp); have d1 : (w1.alloc (.cells #[.int .i64 0, .int .u64 0] 36)).cell? ⟨w1.heap.size, 1, none⟩ = some (.int .u64 0) := (by simp))
    | (go_at_call 18; refine (HOa.out _).mono ?_; rintro e w2 ⟨rfl, hb2⟩; have hS := keep8 (b7 := 0) (b9 := 0) (u0 := undef) (u1 := undef) hS hb2; have d0 := cell_later hb2 d0; have d1 := cell_later hb2 d1)
    | (go_at_call 27; refine (HSa.out _).mono ?_; rintro e w3 ⟨rfl, hb3⟩; have hS := keep8 (b7 := 0) (b9 := 0) (u0 := undef) (u1 := undef) hS hb3; have d0 := cell_later hb3 d0; have d1 := cell_later hb3 d1))
  have hS := keep8 (b7 := 0) (b9 := 0) (u0 := undef) (u1 := undef) hS ((Below.refl _ _).alloc (Nat.le_refl _) (.cells #[.int .i64 ah, .int .u64 al] 36))
  have d0 := cell_later ((Below.refl _ _).alloc (Nat.le_refl _) (.cells #[.int .i64 ah, .int .u64 al] 36)) d0
  have d1 := cell_later ((Below.refl _ _).alloc (Nat.le_refl _) (.cells #[.int .i64 ah, .int .u64 al] 36)) d1
  have f0 : (w3.alloc (.cells #[.int .i64 ah, .int .u64 al] 36)).cell? ⟨w3.heap.size, 0, none⟩ = some (.int .i64 ah) := by simp
  have f1 : (w3.alloc (.cells #[.int .i64 ah, .int .u64 al] 36)).cell? ⟨w3.heap.size, 1, none⟩ = some (.int .u64 al) := by simp
  generalize w3.alloc (.cells #[.int .i64 ah, .int .u64 al] 36) = V at *
  generalize w3.heap.size = b9 at *
  clear hb3 hb2 s7
  generalize w1.heap.size = b7 at *
  obtain ⟨c0, c1, c2, c3, c4, c5, c6, c7, cB⟩ := hS
  have hS : V.cell? ⟨w.heap.size, 0, none⟩ = some (.int .u64 (q.dg z 0)) ∧ V.cell? ⟨w.heap.size, 1, none⟩ = some (.int .u64 (q.dg z 1)) ∧ V.cell? ⟨w.heap.size, 2, none⟩ = some (.int .u64 (q.dg z 2)) ∧ V.cell? ⟨w.heap.size, 3, none⟩ = some (.int .u64 (q.dg z 3)) ∧ V.cell? ⟨w.heap.size + 1, 0, none⟩ = some (.int .i64 ah) ∧ V.cell? ⟨w.heap.size + 1, 1, none⟩ = some (.int .u64 al) ∧ V.cell? ⟨w.heap.size + 1 + 1, 0, none⟩ = some (.int .i64 bh) ∧ V.cell? ⟨w.heap.size + 1 + 1, 1, none⟩ = some (.int .u64 bl) ∧ V.cell? ⟨b7, 0, none⟩ = some (.int .i64 0) ∧ V.cell? ⟨b7, 1, none⟩ = some (.int .u64 0) ∧ V.cell? ⟨b9, 0, none⟩ = some (.int .i64 ah) ∧ V.cell? ⟨b9, 1, none⟩ = some (.int .u64 al) ∧ Below w.heap.size w V := ⟨c0, c1, c2, c3, c4, c5, c6, c7, d0, d1, f0, f1, cB⟩
  clear c0 c1 c2 c3 c4 c5 c6 c7 d0 d1 f0 f1 cB
  go_region_held3 (fun w' => w'.cell? ⟨w.heap.size, 0, none⟩ = some (.int .u64 (q.dg z 0)) ∧ w'.cell? ⟨w.heap.size, 1, none⟩ = some (.int .u64 (q.dg z 1)) ∧ w'.cell? ⟨w.heap.size, 2, none⟩ = some (.int .u64 (q.dg z 2)) ∧ w'.cell? ⟨w.heap.size, 3, none⟩ = some (.int .u64 (q.dg z 3)) ∧ w'.cell? ⟨w.heap.size + 1, 0, none⟩ = some (.int .i64 ah) ∧ w'.cell? ⟨w.heap.size + 1, 1, none⟩ = some (.int .u64 al) ∧ w'.cell? ⟨w.heap.size + 1 + 1, 0, none⟩ = some (.int .i64 bh) ∧ w'.cell? ⟨w.heap.size + 1 + 1, 1, none⟩ = some (.int .u64 bl) ∧ w'.cell? ⟨b7, 0, none⟩ = some (.int .i64 0) ∧ w'.cell? ⟨b7, 1, none⟩ = some (.int .u64 0) ∧ w'.cell? ⟨b9, 0, none⟩ = some (.int .i64 ah) ∧ w'.cell? ⟨b9, 1, none⟩ = some (.int .u64 al) ∧ Below w.heap.size w w') (first | exact keep12 (by assumption) hb5 | exact keep12 (by assumption) hb4.below | exact keep12 hS (below_draws _ _ 1))
    (first
      | (go_at_call_of 17 (Value.int IntKind.i64 (hi z)); refine (HLv.out _).mono ?_; rintro e w4 ⟨bl4, cl4, rfl, hb4⟩)
      | (go_at_call 11; refine (rquad_any v bl4 _ hb4.row hb4.size).mono ?_; rintro e w5 ⟨rfl, hb5⟩))
  rename_i hH
  clear hS hb4 hb5
  have hS := hH
  clear hH
  go_wp2
  refine wp_region_held_drew (S := (fun w' => w'.cell? ⟨w.heap.size, 0, none⟩ = some (.int .u64 (q.dg z 0)) ∧ w'.cell? ⟨w.heap.size, 1, none⟩ = some (.int .u64 (q.dg z 1)) ∧ w'.cell? ⟨w.heap.size, 2, none⟩ = some (.int .u64 (q.dg z 2)) ∧ w'.cell? ⟨w.heap.size, 3, none⟩ = some (.int .u64 (q.dg z 3)) ∧ w'.cell? ⟨w.heap.size + 1, 0, none⟩ = some (.int .i64 ah) ∧ w'.cell? ⟨w.heap.size + 1, 1, none⟩ = some (.int .u64 al) ∧ w'.cell? ⟨w.heap.size + 1 + 1, 0, none⟩ = some (.int .i64 bh) ∧ w'.cell? ⟨w.heap.size + 1 + 1, 1, none⟩ = some (.int .u64 bl) ∧ w'.cell? ⟨b7, 0, none⟩ = some (.int .i64 0) ∧ w'.cell? ⟨b7, 1, none⟩ = some (.int .u64 0) ∧ w'.cell? ⟨b9, 0, none⟩ = some (.int .i64 ah) ∧ w'.cell? ⟨b9, 1, none⟩ = some (.int .u64 al) ∧ Below w.heap.size w w')) (by kernel_rfl) ?_ (fun hHeld => ?_)
  · first | exact keep12 (by assumption) hb | exact keep12 hS (below_draws _ _ 1)
  refine take_yes (i := 0) (v := ?vn0) rfl (by kernel_rfl) (by kernel_rfl) (by kernel_rfl) (fun _ _ _ h => h) (by rfl) (by assumption) ?hyn0 ?restn0
  case hyn0 => (intro w hSw; (try dsimp only at hSw); first | (go_simp; done) | (go_simp; with_reducible rfl))
  simp only [Act.put, List.setIfInBounds_toArray, List.set_cons_zero, List.set_cons_succ]
  refine take_yes (i := 1) (v := ?vn1) rfl (by kernel_rfl) (by kernel_rfl) (by kernel_rfl) (fun _ _ _ h => h) (by rfl) (by assumption) ?hyn1 ?restn1
  case hyn1 => (intro w hSw; (try dsimp only at hSw); first | (go_simp; done) | (go_simp; with_reducible rfl))
  simp only [Act.put, List.setIfInBounds_toArray, List.set_cons_zero, List.set_cons_succ]
  refine take_yes (i := 2) (v := ?vn2) rfl (by kernel_rfl) (by kernel_rfl) (by kernel_rfl) (fun _ _ _ h => h) (by rfl) (by assumption) ?hyn2 ?restn2
  case hyn2 => (intro w hSw; (try dsimp only at hSw); first | (go_simp; done) | (go_simp; with_reducible rfl))
  simp only [Act.put, List.setIfInBounds_toArray, List.set_cons_zero, List.set_cons_succ]
  refine take_yes (i := 3) (v := ?vn3) rfl (by kernel_rfl) (by kernel_rfl) (by kernel_rfl) (fun _ _ _ h => h) (by rfl) (by assumption) ?hyn3 ?restn3
  case hyn3 => (intro w hSw; (try dsimp only at hSw); first | (go_simp; done) | (go_simp; with_reducible rfl))
  simp only [Act.put, List.setIfInBounds_toArray, List.set_cons_zero, List.set_cons_succ]
  refine take_yes (i := 4) (v := ?vn4) rfl (by kernel_rfl) (by kernel_rfl) (by kernel_rfl) (fun _ _ _ h => h) (by rfl) (by assumption) ?hyn4 ?restn4
  case hyn4 => (intro w hSw; (try dsimp only at hSw); first | (go_simp; done) | (go_simp; with_reducible rfl))
  simp only [Act.put, List.setIfInBounds_toArray, List.set_cons_zero, List.set_cons_succ]
  refine take_yes (i := 5) (v := ?vn5) rfl (by kernel_rfl) (by kernel_rfl) (by kernel_rfl) (fun _ _ _ h => h) (by rfl) (by assumption) ?hyn5 ?restn5
  case hyn5 => (intro w hSw; (try dsimp only at hSw); first | (go_simp; done) | (go_simp; with_reducible rfl))
  simp only [Act.put, List.setIfInBounds_toArray, List.set_cons_zero, List.set_cons_succ]
  refine take_no (i := 6) rfl (by kernel_rfl) (by kernel_rfl) (by kernel_rfl) (fun _ _ _ h => h) (by rfl) (by assumption) ?_
  simp only [Act.put, List.setIfInBounds_toArray, List.set_cons_zero, List.set_cons_succ]
  refine take_no (i := 7) rfl (by kernel_rfl) (by kernel_rfl) (by kernel_rfl) (fun _ _ _ h => h) (by rfl) (by assumption) ?_
  simp only [Act.put, List.setIfInBounds_toArray, List.set_cons_zero, List.set_cons_succ]
  refine take_no (i := 8) rfl (by kernel_rfl) (by kernel_rfl) (by kernel_rfl) (fun _ _ _ h => h) (by rfl) (by assumption) ?_
  simp only [Act.put, List.setIfInBounds_toArray, List.set_cons_zero, List.set_cons_succ]
  refine take_no (i := 9) rfl (by kernel_rfl) (by kernel_rfl) (by kernel_rfl) (fun _ _ _ h => h) (by rfl) (by assumption) ?_
  simp only [Act.put, List.setIfInBounds_toArray, List.set_cons_zero, List.set_cons_succ]
  refine take_no (i := 10) rfl (by kernel_rfl) (by kernel_rfl) (by kernel_rfl) (fun _ _ _ h => h) (by rfl) (by assumption) ?_
  simp only [Act.put, List.setIfInBounds_toArray, List.set_cons_zero, List.set_cons_succ]
  refine take_yes (i := 11) (v := ?vn11) rfl (by kernel_rfl) (by kernel_rfl) (by kernel_rfl) (fun _ _ _ h => h) (by rfl) (by assumption) ?hyn11 ?restn11
  case hyn11 => (intro w hSw; (try dsimp only at hSw); first | (go_simp; done) | (go_simp; with_reducible rfl))
  simp only [Act.put, List.setIfInBounds_toArray, List.set_cons_zero, List.set_cons_succ]
  refine take_yes (i := 12) (v := ?vn12) rfl (by kernel_rfl) (by kernel_rfl) (by kernel_rfl) (fun _ _ _ h => h) (by rfl) (by assumption) ?hyn12 ?restn12
  case hyn12 => (intro w hSw; (try dsimp only at hSw); first | (go_simp; done) | (go_simp; with_reducible rfl))
  simp only [Act.put, List.setIfInBounds_toArray, List.set_cons_zero, List.set_cons_succ]
  refine take_yes (i := 13) (v := ?vn13) rfl (by kernel_rfl) (by kernel_rfl) (by kernel_rfl) (fun _ _ _ h => h) (by rfl) (by assumption) ?hyn13 ?restn13
  case hyn13 => (intro w hSw; (try dsimp only at hSw); first | (go_simp; done) | (go_simp; with_reducible rfl))
  simp only [Act.put, List.setIfInBounds_toArray, List.set_cons_zero, List.set_cons_succ]
  refine take_yes (i := 14) (v := ?vn14) rfl (by kernel_rfl) (by kernel_rfl) (by kernel_rfl) (fun _ _ _ h => h) (by rfl) (by assumption) ?hyn14 ?restn14
  case hyn14 => (intro w hSw; (try dsimp only at hSw); first | (go_simp; done) | (go_simp; with_reducible rfl))
  simp only [Act.put, List.setIfInBounds_toArray, List.set_cons_zero, List.set_cons_succ]
  refine take_yes (i := 15) (v := ?vn15) rfl (by kernel_rfl) (by kernel_rfl) (by kernel_rfl) (fun _ _ _ h => h) (by rfl) (by assumption) ?hyn15 ?restn15
  case hyn15 => (intro w hSw; (try dsimp only at hSw); first | (go_simp; done) | (go_simp; with_reducible rfl))
  simp only [Act.put, List.setIfInBounds_toArray, List.set_cons_zero, List.set_cons_succ]
  refine take_yes (i := 16) (v := ?vn16) rfl (by kernel_rfl) (by kernel_rfl) (by kernel_rfl) (fun _ _ _ h => h) (by rfl) (by assumption) ?hyn16 ?restn16
  case hyn16 => (intro w hSw; (try dsimp only at hSw); first | (go_simp; done) | (go_simp; with_reducible rfl))
  simp only [Act.put, List.setIfInBounds_toArray, List.set_cons_zero, List.set_cons_succ]
  refine take_yes (i := 17) (v := ?vn17) rfl (by kernel_rfl) (by kernel_rfl) (by kernel_rfl) (fun _ _ _ h => h) (by rfl) (by assumption) ?hyn17 ?restn17
  case hyn17 => (intro w hSw; (try dsimp only at hSw); first | (go_simp; done) | (go_simp; with_reducible rfl))
  simp only [Act.put, List.setIfInBounds_toArray, List.set_cons_zero, List.set_cons_succ]
  refine take_yes (i := 18) (v := ?vn18) rfl (by kernel_rfl) (by kernel_rfl) (by kernel_rfl) (fun _ _ _ h => h) (by rfl) (by assumption) ?hyn18 ?restn18
  case hyn18 => (intro w hSw; (try dsimp only at hSw); first | (go_simp; done) | (go_simp; with_reducible rfl))
  simp only [Act.put, List.setIfInBounds_toArray, List.set_cons_zero, List.set_cons_succ]
  refine take_yes (i := 19) (v := ?vn19) rfl (by kernel_rfl) (by kernel_rfl) (by kernel_rfl) (fun _ _ _ h => h) (by rfl) (by assumption) ?hyn19 ?restn19
  case hyn19 => (intro w hSw; (try dsimp only at hSw); first | (go_simp; done) | (go_simp; with_reducible rfl))
  simp only [Act.put, List.setIfInBounds_toArray, List.set_cons_zero, List.set_cons_succ]
  refine take_yes (i := 20) (v := ?vn20) rfl (by kernel_rfl) (by kernel_rfl) (by kernel_rfl) (fun _ _ _ h => h) (by rfl) (by assumption) ?hyn20 ?restn20
  case hyn20 => (intro w hSw; (try dsimp only at hSw); first | (go_simp; done) | (go_simp; with_reducible rfl))
  simp only [Act.put, List.setIfInBounds_toArray, List.set_cons_zero, List.set_cons_succ]
  refine take_yes (i := 21) (v := ?vn21) rfl (by kernel_rfl) (by kernel_rfl) (by kernel_rfl) (fun _ _ _ h => h) (by rfl) (by assumption) ?hyn21 ?restn21
  case hyn21 => (intro w hSw; (try dsimp only at hSw); first | (go_simp; done) | (go_simp; with_reducible rfl))
  simp only [Act.put, List.setIfInBounds_toArray, List.set_cons_zero, List.set_cons_succ]
  refine take_yes (i := 22) (v := ?vn22) rfl (by kernel_rfl) (by kernel_rfl) (by kernel_rfl) (fun _ _ _ h => h) (by rfl) (by assumption) ?hyn22 ?restn22
  case hyn22 => (intro w hSw; (try dsimp only at hSw); first | (go_simp; done) | (go_simp; with_reducible rfl))
  simp only [Act.put, List.setIfInBounds_toArray, List.set_cons_zero, List.set_cons_succ]
  refine take_yes (i := 23) (v := ?vn23) rfl (by kernel_rfl) (by kernel_rfl) (by kernel_rfl) (fun _ _ _ h => h) (by rfl) (by assumption) ?hyn23 ?restn23
  case hyn23 => (intro w hSw; (try dsimp only at hSw); first | (go_simp; done) | (go_simp; with_reducible rfl))
  simp only [Act.put, List.setIfInBounds_toArray, List.set_cons_zero, List.set_cons_succ]
  refine take_yes (i := 24) (v := ?vn24) rfl (by kernel_rfl) (by kernel_rfl) (by kernel_rfl) (fun _ _ _ h => h) (by rfl) (by assumption) ?hyn24 ?restn24
  case hyn24 => (intro w hSw; (try dsimp only at hSw); first | (go_simp; done) | (go_simp; with_reducible rfl))
  simp only [Act.put, List.setIfInBounds_toArray, List.set_cons_zero, List.set_cons_succ]
  refine take_yes (i := 25) (v := ?vn25) rfl (by kernel_rfl) (by kernel_rfl) (by kernel_rfl) (fun _ _ _ h => h) (by rfl) (by assumption) ?hyn25 ?restn25
  case hyn25 => (intro w hSw; (try dsimp only at hSw); first | (go_simp; done) | (go_simp; with_reducible rfl))
  simp only [Act.put, List.setIfInBounds_toArray, List.set_cons_zero, List.set_cons_succ]
  refine take_yes (i := 26) (v := ?vn26) rfl (by kernel_rfl) (by kernel_rfl) (by kernel_rfl) (fun _ _ _ h => h) (by rfl) (by assumption) ?hyn26 ?restn26
  case hyn26 => (intro w hSw; (try dsimp only at hSw); first | (go_simp; done) | (go_simp; with_reducible rfl))
  simp only [Act.put, List.setIfInBounds_toArray, List.set_cons_zero, List.set_cons_succ]
  refine take_yes (i := 27) (v := ?vn27) rfl (by kernel_rfl) (by kernel_rfl) (by kernel_rfl) (fun _ _ _ h => h) (by rfl) (by assumption) ?hyn27 ?restn27
  case hyn27 => (intro w hSw; (try dsimp only at hSw); first | (go_simp; done) | (go_simp; with_reducible rfl))
  simp only [Act.put, List.setIfInBounds_toArray, List.set_cons_zero, List.set_cons_succ]
  refine take_yes (i := 28) (v := ?vn28) rfl (by kernel_rfl) (by kernel_rfl) (by kernel_rfl) (fun _ _ _ h => h) (by rfl) (by assumption) ?hyn28 ?restn28
  case hyn28 => (intro w hSw; (try dsimp only at hSw); first | (go_simp; done) | (go_simp; with_reducible rfl))
  simp only [Act.put, List.setIfInBounds_toArray, List.set_cons_zero, List.set_cons_succ]
  refine take_yes (i := 29) (v := ?vn29) rfl (by kernel_rfl) (by kernel_rfl) (by kernel_rfl) (fun _ _ _ h => h) (by rfl) (by assumption) ?hyn29 ?restn29
  case hyn29 => (intro w hSw; (try dsimp only at hSw); first | (go_simp; done) | (go_simp; with_reducible rfl))
  simp only [Act.put, List.setIfInBounds_toArray, List.set_cons_zero, List.set_cons_succ]
  refine take_yes (i := 30) (v := ?vn30) rfl (by kernel_rfl) (by kernel_rfl) (by kernel_rfl) (fun _ _ _ h => h) (by rfl) (by assumption) ?hyn30 ?restn30
  case hyn30 => (intro w hSw; (try dsimp only at hSw); first | (go_simp; done) | (go_simp; with_reducible rfl))
  simp only [Act.put, List.setIfInBounds_toArray, List.set_cons_zero, List.set_cons_succ]
  refine take_yes (i := 31) (v := ?vn31) rfl (by kernel_rfl) (by kernel_rfl) (by kernel_rfl) (fun _ _ _ h => h) (by rfl) (by assumption) ?hyn31 ?restn31
  case hyn31 => (intro w hSw; (try dsimp only at hSw); first | (go_simp; done) | (go_simp; with_reducible rfl))
  simp only [Act.put, List.setIfInBounds_toArray, List.set_cons_zero, List.set_cons_succ]
  refine take_yes (i := 33) (v := ?vn33) rfl (by kernel_rfl) (by kernel_rfl) (by kernel_rfl) (fun _ _ _ h => h) (by rfl) (by assumption) ?hyn33 ?restn33
  case hyn33 => (intro w hSw; (try dsimp only at hSw); first | (go_simp; done) | (go_simp; with_reducible rfl))
  simp only [Act.put, List.setIfInBounds_toArray, List.set_cons_zero, List.set_cons_succ]
  refine take_yes (i := 36) (v := ?vn36) rfl (by kernel_rfl) (by kernel_rfl) (by kernel_rfl) (fun _ _ _ h => h) (by rfl) (by assumption) ?hyn36 ?restn36
  case hyn36 => (intro w hSw; (try dsimp only at hSw); first | (go_simp; done) | (go_simp; with_reducible rfl))
  simp only [Act.put, List.setIfInBounds_toArray, List.set_cons_zero, List.set_cons_succ]
  refine take_yes (i := 38) (v := ?vn38) rfl (by kernel_rfl) (by kernel_rfl) (by kernel_rfl) (fun _ _ _ h => h) (by rfl) (by assumption) ?hyn38 ?restn38
  case hyn38 => (intro w hSw; (try dsimp only at hSw); first | (go_simp; done) | (go_simp; with_reducible rfl))
  simp only [Act.put, List.setIfInBounds_toArray, List.set_cons_zero, List.set_cons_succ]
  refine take_call (i := 32) rfl (by kernel_rfl) (fun K hK => ?_)
  go_simp
  (first
      | (go_at_call_of 18 (Value.agg #[Value.int IntKind.i64 ah, Value.int IntKind.u64 al]); refine (HOa.out _).mono ?_; rintro e w7 ⟨rfl, hb⟩)
      | (go_at_call_of 18 (Value.agg #[Value.int IntKind.i64 bh, Value.int IntKind.u64 bl]); refine (HOb.out _).mono ?_; rintro e w8 ⟨rfl, hb⟩)
      | (go_at_call 21; refine (HC.out _).mono ?_; rintro e w9 ⟨rfl, hb⟩)
      | (go_at_call_of 28 (Value.agg #[Value.int IntKind.i64 ah, Value.int IntKind.u64 al]); refine (HDa.out _).mono ?_; rintro e w10 ⟨bx, rfl, hx⟩; have hb := hx.below)
      | (go_at_call_of 28 (Value.agg #[Value.int IntKind.i64 bh, Value.int IntKind.u64 bl]); refine (HDb.out _).mono ?_; rintro e w11 ⟨by', rfl, hy⟩; have hb := hy.below)
      | (go_at_call 22; refine ((d16.rcmp_any a b bx by' _ (hx.row.below hy.below hx.size) hy.row a0 a1 b0 b1).mono (fun e w' h => And.intro h.1 (below_of_drewN h.2))).mono ?_; rintro e w12 ⟨rfl, hb⟩)
      | (go_at_call 16; refine (lives_any _).mono ?_; rintro e w13 ⟨rfl, hb⟩))
  refine hK.out _ _ ?_ (fun hHeld => ?_)
  · first | exact keep12 (by assumption) hb | exact keep12 hS (below_draws _ _ 1)
  clear hK K
  refine take_call (i := 34) rfl (by kernel_rfl) (fun K hK => ?_)
  go_simp
  (first
      | (go_at_call_of 18 (Value.agg #[Value.int IntKind.i64 ah, Value.int IntKind.u64 al]); refine (HOa.out _).mono ?_; rintro e w7 ⟨rfl, hb⟩)
      | (go_at_call_of 18 (Value.agg #[Value.int IntKind.i64 bh, Value.int IntKind.u64 bl]); refine (HOb.out _).mono ?_; rintro e w8 ⟨rfl, hb⟩)
      | (go_at_call 21; refine (HC.out _).mono ?_; rintro e w9 ⟨rfl, hb⟩)
      | (go_at_call_of 28 (Value.agg #[Value.int IntKind.i64 ah, Value.int IntKind.u64 al]); refine (HDa.out _).mono ?_; rintro e w10 ⟨bx, rfl, hx⟩; have hb := hx.below)
      | (go_at_call_of 28 (Value.agg #[Value.int IntKind.i64 bh, Value.int IntKind.u64 bl]); refine (HDb.out _).mono ?_; rintro e w11 ⟨by', rfl, hy⟩; have hb := hy.below)
      | (go_at_call 22; refine ((d16.rcmp_any a b bx by' _ (hx.row.below hy.below hx.size) hy.row a0 a1 b0 b1).mono (fun e w' h => And.intro h.1 (below_of_drewN h.2))).mono ?_; rintro e w12 ⟨rfl, hb⟩)
      | (go_at_call 16; refine (lives_any _).mono ?_; rintro e w13 ⟨rfl, hb⟩))
  refine hK.out _ _ ?_ (fun hHeld => ?_)
  · first | exact keep12 (by assumption) hb | exact keep12 hS (below_draws _ _ 1)
  clear hK K
  refine take_call (i := 35) rfl (by kernel_rfl) (fun K hK => ?_)
  go_simp
  (first
      | (go_at_call_of 18 (Value.agg #[Value.int IntKind.i64 ah, Value.int IntKind.u64 al]); refine (HOa.out _).mono ?_; rintro e w7 ⟨rfl, hb⟩)
      | (go_at_call_of 18 (Value.agg #[Value.int IntKind.i64 bh, Value.int IntKind.u64 bl]); refine (HOb.out _).mono ?_; rintro e w8 ⟨rfl, hb⟩)
      | (go_at_call 21; refine (HC.out _).mono ?_; rintro e w9 ⟨rfl, hb⟩)
      | (go_at_call_of 28 (Value.agg #[Value.int IntKind.i64 ah, Value.int IntKind.u64 al]); refine (HDa.out _).mono ?_; rintro e w10 ⟨bx, rfl, hx⟩; have hb := hx.below)
      | (go_at_call_of 28 (Value.agg #[Value.int IntKind.i64 bh, Value.int IntKind.u64 bl]); refine (HDb.out _).mono ?_; rintro e w11 ⟨by', rfl, hy⟩; have hb := hy.below)
      | (go_at_call 22; refine ((d16.rcmp_any a b bx by' _ (hx.row.below hy.below hx.size) hy.row a0 a1 b0 b1).mono (fun e w' h => And.intro h.1 (below_of_drewN h.2))).mono ?_; rintro e w12 ⟨rfl, hb⟩)
      | (go_at_call 16; refine (lives_any _).mono ?_; rintro e w13 ⟨rfl, hb⟩))
  refine hK.out _ _ ?_ (fun hHeld => ?_)
  · first | exact keep12 (by assumption) hb | exact keep12 hS (below_draws _ _ 1)
  clear hK K
  refine take_call (i := 37) rfl (by kernel_rfl) (fun K hK => ?_)
  go_simp
  (first
      | (go_at_call_of 18 (Value.agg #[Value.int IntKind.i64 ah, Value.int IntKind.u64 al]); refine (HOa.out _).mono ?_; rintro e w7 ⟨rfl, hb⟩)
      | (go_at_call_of 18 (Value.agg #[Value.int IntKind.i64 bh, Value.int IntKind.u64 bl]); refine (HOb.out _).mono ?_; rintro e w8 ⟨rfl, hb⟩)
      | (go_at_call 21; refine (HC.out _).mono ?_; rintro e w9 ⟨rfl, hb⟩)
      | (go_at_call_of 28 (Value.agg #[Value.int IntKind.i64 ah, Value.int IntKind.u64 al]); refine (HDa.out _).mono ?_; rintro e w10 ⟨bx, rfl, hx⟩; have hb := hx.below)
      | (go_at_call_of 28 (Value.agg #[Value.int IntKind.i64 bh, Value.int IntKind.u64 bl]); refine (HDb.out _).mono ?_; rintro e w11 ⟨by', rfl, hy⟩; have hb := hy.below)
      | (go_at_call 22; refine ((d16.rcmp_any a b bx by' _ (hx.row.below hy.below hx.size) hy.row a0 a1 b0 b1).mono (fun e w' h => And.intro h.1 (below_of_drewN h.2))).mono ?_; rintro e w12 ⟨rfl, hb⟩)
      | (go_at_call 16; refine (lives_any _).mono ?_; rintro e w13 ⟨rfl, hb⟩))
  refine hK.out _ _ ?_ (fun hHeld => ?_)
  · first | exact keep12 (by assumption) hb | exact keep12 hS (below_draws _ _ 1)
  clear hK K
  refine take_call (i := 39) rfl (by kernel_rfl) (fun K hK => ?_)
  go_simp
  (first
      | (go_at_call_of 18 (Value.agg #[Value.int IntKind.i64 ah, Value.int IntKind.u64 al]); refine (HOa.out _).mono ?_; rintro e w7 ⟨rfl, hb⟩)
      | (go_at_call_of 18 (Value.agg #[Value.int IntKind.i64 bh, Value.int IntKind.u64 bl]); refine (HOb.out _).mono ?_; rintro e w8 ⟨rfl, hb⟩)
      | (go_at_call 21; refine (HC.out _).mono ?_; rintro e w9 ⟨rfl, hb⟩)
      | (go_at_call_of 28 (Value.agg #[Value.int IntKind.i64 ah, Value.int IntKind.u64 al]); refine (HDa.out _).mono ?_; rintro e w10 ⟨bx, rfl, hx⟩; have hb := hx.below)
      | (go_at_call_of 28 (Value.agg #[Value.int IntKind.i64 bh, Value.int IntKind.u64 bl]); refine (HDb.out _).mono ?_; rintro e w11 ⟨by', rfl, hy⟩; have hb := hy.below)
      | (go_at_call 22; refine ((d16.rcmp_any a b bx by' _ (hx.row.below hy.below hx.size) hy.row a0 a1 b0 b1).mono (fun e w' h => And.intro h.1 (below_of_drewN h.2))).mono ?_; rintro e w12 ⟨rfl, hb⟩)
      | (go_at_call 16; refine (lives_any _).mono ?_; rintro e w13 ⟨rfl, hb⟩))
  refine hK.out _ _ ?_ (fun hHeld => ?_)
  · first | exact keep12 (by assumption) hb | exact keep12 hS (below_draws _ _ 1)
  clear hK K
  refine take_call (i := 40) rfl (by kernel_rfl) (fun K hK => ?_)
  go_simp
  (first
      | (go_at_call_of 18 (Value.agg #[Value.int IntKind.i64 ah, Value.int IntKind.u64 al]); refine (HOa.out _).mono ?_; rintro e w7 ⟨rfl, hb⟩)
      | (go_at_call_of 18 (Value.agg #[Value.int IntKind.i64 bh, Value.int IntKind.u64 bl]); refine (HOb.out _).mono ?_; rintro e w8 ⟨rfl, hb⟩)
      | (go_at_call 21; refine (HC.out _).mono ?_; rintro e w9 ⟨rfl, hb⟩)
      | (go_at_call_of 28 (Value.agg #[Value.int IntKind.i64 ah, Value.int IntKind.u64 al]); refine (HDa.out _).mono ?_; rintro e w10 ⟨bx, rfl, hx⟩; have hb := hx.below)
      | (go_at_call_of 28 (Value.agg #[Value.int IntKind.i64 bh, Value.int IntKind.u64 bl]); refine (HDb.out _).mono ?_; rintro e w11 ⟨by', rfl, hy⟩; have hb := hy.below)
      | (go_at_call 22; refine ((d16.rcmp_any a b bx by' _ (hx.row.below hy.below hx.size) hy.row a0 a1 b0 b1).mono (fun e w' h => And.intro h.1 (below_of_drewN h.2))).mono ?_; rintro e w12 ⟨rfl, hb⟩)
      | (go_at_call 16; refine (lives_any _).mono ?_; rintro e w13 ⟨rfl, hb⟩))
  refine hK.out _ _ ?_ (fun hHeld => ?_)
  · first | exact keep12 (by assumption) hb | exact keep12 hS (below_draws _ _ 1)
  clear hK K
  refine take_yes (i := 41) (v := ?vn41) rfl (by kernel_rfl) (by kernel_rfl) (by kernel_rfl) (fun _ _ _ h => h) (by rfl) (by assumption) ?hyn41 ?restn41
  case hyn41 => (intro w hSw; (try dsimp only at hSw); first | (go_simp; done) | (go_simp; with_reducible rfl))
  simp only [Act.put, List.setIfInBounds_toArray, List.set_cons_zero, List.set_cons_succ]
  refine take_yes (i := 42) (v := ?vn42) rfl (by kernel_rfl) (by kernel_rfl) (by kernel_rfl) (fun _ _ _ h => h) (by rfl) (by assumption) ?hyn42 ?restn42
  case hyn42 => (intro w hSw; (try dsimp only at hSw); first | (go_simp; done) | (go_simp; with_reducible rfl))
  simp only [Act.put, List.setIfInBounds_toArray, List.set_cons_zero, List.set_cons_succ]
  refine take_yes (i := 43) (v := ?vn43) rfl (by kernel_rfl) (by kernel_rfl) (by kernel_rfl) (fun _ _ _ h => h) (by rfl) (by assumption) ?hyn43 ?restn43
  case hyn43 => (intro w hSw; (try dsimp only at hSw); first | (go_simp; done) | (go_simp; with_reducible rfl))
  simp only [Act.put, List.setIfInBounds_toArray, List.set_cons_zero, List.set_cons_succ]
  refine take_call (i := 44) rfl (by kernel_rfl) (fun K hK => ?_)
  go_simp
  (first
      | (go_at_call_of 18 (Value.agg #[Value.int IntKind.i64 ah, Value.int IntKind.u64 al]); refine (HOa.out _).mono ?_; rintro e w7 ⟨rfl, hb⟩)
      | (go_at_call_of 18 (Value.agg #[Value.int IntKind.i64 bh, Value.int IntKind.u64 bl]); refine (HOb.out _).mono ?_; rintro e w8 ⟨rfl, hb⟩)
      | (go_at_call 21; refine (HC.out _).mono ?_; rintro e w9 ⟨rfl, hb⟩)
      | (go_at_call_of 28 (Value.agg #[Value.int IntKind.i64 ah, Value.int IntKind.u64 al]); refine (HDa.out _).mono ?_; rintro e w10 ⟨bx, rfl, hx⟩; have hb := hx.below)
      | (go_at_call_of 28 (Value.agg #[Value.int IntKind.i64 bh, Value.int IntKind.u64 bl]); refine (HDb.out _).mono ?_; rintro e w11 ⟨by', rfl, hy⟩; have hb := hy.below)
      | (go_at_call 22; refine ((d16.rcmp_any a b bx by' _ (hx.row.below hy.below hx.size) hy.row a0 a1 b0 b1).mono (fun e w' h => And.intro h.1 (below_of_drewN h.2))).mono ?_; rintro e w12 ⟨rfl, hb⟩)
      | (go_at_call 16; refine (lives_any _).mono ?_; rintro e w13 ⟨rfl, hb⟩))
  refine hK.out _ _ ?_ (fun hHeld => ?_)
  · first | exact keep12 (by assumption) hb | exact keep12 hS (below_draws _ _ 1)
  clear hK K
  refine take_yes (i := 45) (v := ?vn45) rfl (by kernel_rfl) (by kernel_rfl) (by kernel_rfl) (fun _ _ _ h => h) (by rfl) (by assumption) ?hyn45 ?restn45
  case hyn45 => (intro w hSw; (try dsimp only at hSw); first | (go_simp; done) | (go_simp; with_reducible rfl))
  simp only [Act.put, List.setIfInBounds_toArray, List.set_cons_zero, List.set_cons_succ]
  refine take_yes (i := 46) (v := ?vn46) rfl (by kernel_rfl) (by kernel_rfl) (by kernel_rfl) (fun _ _ _ h => h) (by rfl) (by assumption) ?hyn46 ?restn46
  case hyn46 => (intro w hSw; (try dsimp only at hSw); first | (go_simp; done) | (go_simp; with_reducible rfl))
  simp only [Act.put, List.setIfInBounds_toArray, List.set_cons_zero, List.set_cons_succ]
  refine wpAnyH_done (by kernel_rfl) ?_ _
  obtain ⟨_, _, _, _, _, _, _, _, _, _, _, _, cB⟩ := hHeld
  go_wp2
  go_ret
  exact ⟨rfl, cB⟩
theorem walk (z : Int) (z0 : -57896044618658097711785492504343953926634992332820282019728792003956564819968 ≤ z) (z1 : z < 57896044618658097711785492504343953926634992332820282019728792003956564819968) (a : Int) (a0 : -170141183460469231731687303715884105728 ≤ a) (a1 : a < 170141183460469231731687303715884105728) (b : Int) (b0 : -170141183460469231731687303715884105728 ≤ b) (b1 : b < 170141183460469231731687303715884105728) (w : World) :
    Calls Try.prog 7 #[.agg #[.int .u64 (q.dg (z) 0), .int .u64 (q.dg (z) 1), .int .u64 (q.dg (z) 2), .int .u64 (q.dg (z) 3)], .agg #[.int .i64 (hi a), .int .u64 (lo a)], .agg #[.int .i64 (hi b), .int .u64 (lo b)]] w fun e w' => e = .returned (.bool true) ∧ Below w.heap.size w w' := by
  by_cases h : -170141183460469231731687303715884105728 ≤ z ∧ z < 170141183460469231731687303715884105728
  · exact walk_yes z z0 z1 a a0 a1 b b0 b1 h w
  · exact walk_no z z0 z1 a a0 a1 b b0 b1 (by omega) w

theorem own : ownKnob Try.prog.godebug = none := by kernel_rfl
theorem cellsWide : Try.prog.cellsOf 36 = 2 := by kernel_rfl
theorem readsWide {H : Type} (enc : TypeId × Value → H) (W : World) (bs : Nat) (sp : Nat → Bool) (hd : Bool) {a b : Int} (wa : (Lit.int .i64 a).wf = true) (wb : (Lit.int .u64 b).wf = true) : DataW.Trod enc Try.prog W bs sp hd 36 (.agg #[.int .i64 a, .int .u64 b]) (.agg [.lit (.int .i64 a), .lit (.int .u64 b)]) [] :=
  shut_agg2 (y0 := (.lit (.int .i64 a), [])) (y1 := (.lit (.int .u64 b), [])) Try.underlying36 (by kernel_rfl) cellsWide ⟨1, by simp [DataW.trod, Try.underlying2, wa]⟩ ⟨1, by simp [DataW.trod, Try.underlying22, wb]⟩
set_option maxRecDepth 100000 in
theorem lifted (os : Os) (started : os.Started) (H : Type) (enc : TypeId × Value → H) :
    ReturnsInHanded {} Try.checked os 7 .any (Rows.quadSmallSpec.pre6 enc Try.prog Try.f7 Rows.quadSmallRow.domain false) (Rows.quadSmallSpec.post enc Try.prog Try.f7 false true false false) := by
  refine returnsInHanded_of_change (C := Try.checked) own started (by kernel_rfl) Try.func7
    (ChangeSpec.witness6 (enc := enc) (C := Try.checked) false ⟨#[], #[.agg #[.int .u64 0, .int .u64 0, .int .u64 0, .int .u64 0], .agg #[.int .i64 0, .int .u64 0], .agg #[.int .i64 0, .int .u64 0]], []⟩ 8 (by kernel_rfl) (by kernel_rfl) (by kernel_rfl) (by kernel_rfl)) ?_
  intro W base args ds gs before hval0 hW hcnd _
  have hval : ∀ (j : Nat) t v, Try.f7.params[j]? = some t → args[j]? = some v → Value.okWide Try.prog W .any base t v := hval0
  have hW' := hW
  obtain ⟨p, q, hA0, hV, rfl, hfz, hnd⟩ := hW
  have hA : DataW.TrodAll enc Try.prog W 0 (fun _ => true) true Try.f7.params.toList args.toList ds p := hA0
  rw [Try.params7] at hA hval
  obtain ⟨v0, vs0, d0, ds0, p0, q0, hargs, rfl, rfl, h0, r0⟩ := trodAll_cons hA
  obtain ⟨v1, vs1, d1, ds1, p1, q1, rfl, rfl, rfl, h1, r1⟩ := trodAll_cons r0
  obtain ⟨v2, vs2, d2, ds2, p2, q2, rfl, rfl, rfl, h2, r2⟩ := trodAll_cons r1
  obtain ⟨rfl, rfl, rfl⟩ := trodAll_nil r2
  obtain rfl : args = #[v0, v1, v2] := by cases args; simp_all
  obtain ⟨rfl, rfl⟩ := trodVars_none hV
  obtain ⟨a0, b0, c0, e0, rfl, rfl, rfl, wa0, wb0, wc0, we0⟩ := open_quad (hval 0 24 v0 rfl rfl) h0
  obtain ⟨x1, y1, g1, k1, m1, rfl, rfl, rfl, hx1, hy1⟩ := open_agg2 Try.underlying36 (by kernel_rfl) cellsWide (hval 1 36 v1 rfl rfl) h1
  obtain ⟨a1, ex1, rfl, wa1⟩ := DataW.trod_int Try.underlying2 hx1
  obtain ⟨b1, ey1, rfl, wb1⟩ := DataW.trod_int Try.underlying22 hy1
  simp at ex1 ey1
  subst ex1 ey1
  obtain ⟨x2, y2, g2, k2, m2, rfl, rfl, rfl, hx2, hy2⟩ := open_agg2 Try.underlying36 (by kernel_rfl) cellsWide (hval 2 36 v2 rfl rfl) h2
  obtain ⟨a2, ex2, rfl, wa2⟩ := DataW.trod_int Try.underlying2 hx2
  obtain ⟨b2, ey2, rfl, wb2⟩ := DataW.trod_int Try.underlying22 hy2
  simp at ex2 ey2
  subst ex2 ey2
  clear hA0 hval0
  have hwalk := walk (qn a0 b0 c0 e0) (quad_mk wa0 wb0 wc0 we0).2.2.2.2.1 (quad_mk wa0 wb0 wc0 we0).2.2.2.2.2 (a1 * 18446744073709551616 + b1) (wide_range a1 b1 (bd_i64 wa1).1 (bd_i64 wa1).2 (bd_u64 wb1).1 (bd_u64 wb1).2).1 (wide_range a1 b1 (bd_i64 wa1).1 (bd_i64 wa1).2 (bd_u64 wb1).1 (bd_u64 wb1).2).2 (a2 * 18446744073709551616 + b2) (wide_range a2 b2 (bd_i64 wa2).1 (bd_i64 wa2).2 (bd_u64 wb2).1 (bd_u64 wb2).2).1 (wide_range a2 b2 (bd_i64 wa2).1 (bd_i64 wa2).2 (bd_u64 wb2).1 (bd_u64 wb2).2).2 W
  rw [(quad_mk wa0 wb0 wc0 we0).1, (quad_mk wa0 wb0 wc0 we0).2.1, (quad_mk wa0 wb0 wc0 we0).2.2.1, (quad_mk wa0 wb0 wc0 we0).2.2.2.1, hi_mk a1 b1 (bd_i64 wa1).1 (bd_i64 wa1).2 (bd_u64 wb1).1 (bd_u64 wb1).2, lo_mk a1 b1 (bd_u64 wb1).1 (bd_u64 wb1).2, hi_mk a2 b2 (bd_i64 wa2).1 (bd_i64 wa2).2 (bd_u64 wb2).1 (bd_u64 wb2).2, lo_mk a2 b2 (bd_u64 wb2).1 (bd_u64 wb2).2] at hwalk
  refine hwalk.mono fun e W' ⟨he, bel⟩ => ?_
  subst he
  exact ⟨_, rfl, _, _, _, [], _, [], hW', trodAll_mk1 (shut_bool Try.underlying4 _), (trodAll_cons_mk (shut_quad wa0 wb0 wc0 we0) (trodAll_cons_mk (readsWide enc _ _ _ _ wa1 wb1) (trodAll_cons_mk (readsWide enc _ _ _ _ wa2 wb2) trodAll_mk0))), rfl, bel.frame _, fun h => by cases h⟩

/-- The statement. -/
theorem proved : Rows.QuadSmallSaid :=
  OpenClaim.holds_of_wide 7 Try.f7 rfl rfl rfl rfl rfl rfl rfl ⟨rfl, rfl, rfl, rfl, rfl⟩ rfl rfl rfl rfl rfl (by kernel_rfl) Try.func7 (by kernel_rfl)
    (of_decide_eq_true (by kernel_rfl)) (by unfold Func.isWrapper; first | (rw [if_pos (by decide +kernel)]; kernel_rfl) | (rw [if_neg (by decide +kernel)]; exact ⟨rfl, rfl⟩))
    (fun os started H enc _ => lifted os started H enc)
#print axioms proved
end Go.Proofs.Ytjlndalcaepofaa.qsmall
