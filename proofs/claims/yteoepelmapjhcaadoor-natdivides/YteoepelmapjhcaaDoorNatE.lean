/-
  What nat's addTimes and Mul answer.
-/
import Derived.Test.YteoepelmapjhcaaDoorNatD
namespace Go.Proofs.YteoepelmapjhcaaDoor
open Go.RowKit
set_option linter.unusedVariables false

/-- The carry into place k when x times y is added to O. -/
def tc (O x y : Int) (k : Nat) : Int := wd.cy O x y 0 k
theorem tc_zero (O x y : Int) : tc O x y 0 = 0 := wd.cy_zero _ _ _ _
theorem tc_succ (O x y : Int) (k : Nat) : tc O x y (k + 1) = (tc O x y k + wd.dg O k + x * wd.dg y k) / 4294967296 := by
  have := wd.cy_succ O x y 0 k
  rwa [Nat.zero_add] at this
theorem tc_digit (O x y : Int) (k : Nat) : (tc O x y k + wd.dg O k + x * wd.dg y k) % 4294967296 = wd.dg (O + x * y) k := by
  have := wd.mul_digit O x y 0 k
  rwa [Nat.zero_add, Int.pow_zero, Int.mul_one] at this
theorem tc_range (O x y : Int) (k : Nat) (h0 : 0 ≤ x) (h1 : x < 4294967296) : 0 ≤ tc O x y k ∧ tc O x y k ≤ 4294967295 := wd.cy_range _ _ _ _ _ h0 h1
theorem tc_last (O x y : Int) (k : Nat) (h0 : 0 ≤ O) (h1 : O < 4294967296 ^ k) (y0 : 0 ≤ y) (y1 : y < 4294967296 ^ k) : tc O x y k = (O + x * y) / 4294967296 ^ k := by
  unfold tc wd.cy wd.tk
  rw [Nat.zero_add, Int.pow_zero, Int.mul_one, Int.emod_eq_of_lt h0 h1, Int.emod_eq_of_lt y0 y1]
theorem xdg (x y : Int) (k : Nat) (h0 : 0 ≤ x) (h1 : x < 4294967296) : 0 ≤ x * wd.dg y k ∧ x * wd.dg y k ≤ 18446744065119617025 := by
  obtain ⟨b, b'⟩ := wd.dg_range y k
  refine ⟨Int.mul_nonneg h0 b, ?_⟩
  have := Int.mul_le_mul (show x ≤ 4294967295 by omega) (show wd.dg y k ≤ 4294967295 by omega) b (by decide)
  omega

/-- What holds at the head of each round. -/
def TimesRel (w : World) (O x y : Int) (b o m : Nat) (c i : Value) (wr : World) : Prop := ∃ k : Nat, k ≤ m ∧ i = .int .i64 (k : Int) ∧ c = .int .u64 (tc O x y k) ∧ Seg wr b o (wd.mix m k (O + x * y) O) ∧ Wr w wr b o (o + m)
theorem times_next (w wr : World) (O x y : Int) (b o m k : Nat) (hk : k < m) (hseg : Seg wr b o (wd.mix m k (O + x * y) O)) (hw : Wr w wr b o (o + m)) :
    TimesRel w O x y b o m (.int .u64 ((tc O x y k + (x * wd.dg y k + wd.dg O k)) / 4294967296)) (.int .i64 ((k : Int) + 1)) (wr.setCell ⟨b, o + k, none⟩ (.int .u32 ((tc O x y k + (x * wd.dg y k + wd.dg O k)) % 4294967296))) := by
  have e : tc O x y k + (x * wd.dg y k + wd.dg O k) = tc O x y k + wd.dg O k + x * wd.dg y k := by omega
  refine ⟨k + 1, by omega, by simp, by rw [tc_succ, e], ?_, hw.set _ (by omega) (by omega)⟩
  rw [e, tc_digit, ← wd.mix_set]
  exact hseg.set k _ (by rw [wd.mix_length]; exact hk)

set_option maxHeartbeats 1000000 in
theorem addTimes_any (b o m cs : Nat) (yb : Option Addr) (cy O Y : Nat) (x : Int) (w : World) (hseg : Seg w b o (wd.dcells m (O : Int))) (hO : O < 4294967296 ^ m) (hm : m ≤ cs) (hcs : cs ≤ 1000000000000) (hy : Sl w yb m cy (wd.dcells m (Y : Int))) (hY : Y < 4294967296 ^ m) (hne : ∀ o, yb ≠ some ⟨b, o, none⟩) (x0 : 0 ≤ x) (x1 : x < 4294967296) :
    Calls Tryd.prog 39 #[.slice (some ⟨b, o, none⟩) m cs, .slice yb m cy, .int .u32 x] w fun e w' => e = .returned (.int .u32 (((O : Int) + x * Y) / 4294967296 ^ m)) ∧ Seg w' b o (wd.dcells m ((O : Int) + x * Y)) ∧ Wr w w' b o (o + m) := by
  have HL : Hid _ := tc_last O x Y m (by omega) (by rw [← wd.pow_cast]; omega) (by omega) (by rw [← wd.pow_cast]; omega)
  clear hO hY
  go_enter Tryd.func39, Tryd.ntmps39
  go_wp2
  go_loopw [7, 12] (fun c i wr => TimesRel w O x Y b o m c i wr) (fun _ i _ => m - (intOf i).toNat)
  case atStart => exact ⟨0, by omega, rfl, by rw [tc_zero], by rw [wd.mix_zero]; exact hseg, Wr.refl _ _ _ _⟩
  case round =>
    clear hseg
    obtain ⟨k, hk, rfl, rfl, hseg, hwr⟩ := hrel
    obtain ⟨f0, f1⟩ := tc_range O x Y k x0 x1
    by_cases hlt : k < m
    · obtain ⟨by', oy, rfl, hby, hsy⟩ := hy.at (by omega)
      have hne' : by' ≠ b := fun e => hne oy (by rw [e])
      have c1 : wr.cell? ⟨by', oy + k, none⟩ = some (.int .u32 (wd.dg Y k)) := (hwr.seg hsy hby hne').cell k _ (wd.dcells_at _ _ _ hlt)
      have c3 : wr.cell? ⟨b, o + k, none⟩ = some (.int .u32 (wd.dg O k)) := hseg.cell k _ (wd.mix_at _ _ _ _ _ (by omega) (Nat.le_refl _))
      have c4 : wr.frozen? ⟨b, o + k, none⟩ = false := hseg.free k (by rw [wd.mix_length]; omega)
      obtain ⟨d0, d1⟩ := wd.dg_range O k
      obtain ⟨e0, e1⟩ := wd.dg_range Y k
      obtain ⟨g0, g1⟩ := xdg x Y k x0 x1
      have HN : Hid _ := times_next w wr O x Y b o m k hlt hseg hwr
      clear hseg
      go_wp2
      go_roundw
      case rel => exact HN.out
      case measure => simp [intOf]; omega
    · obtain rfl : k = m := by omega
      rw [wd.mix_full] at hseg
      go_wp2
      go_ret
      exact ⟨by rw [← HL.out]; rfl, hseg, hwr⟩

theorem seg_join {w : World} {b o k m : Nat} {V : Int} (h1 : Seg w b o (wd.dcells k V)) (h2 : Seg w b (o + k) (wd.dcells m (V / 4294967296 ^ k))) : Seg w b o (wd.dcells (k + m) V) := by
  have := h1.append (by rw [wd.dcells_length]; exact h2)
  rw [wd.dcells_join] at this
  have e : V % 4294967296 ^ k + V / 4294967296 ^ k * 4294967296 ^ k = V := by
    have := Int.mul_ediv_add_emod V (4294967296 ^ k)
    rw [Int.mul_comm] at this
    omega
  rwa [e] at this
theorem seg_part {w : World} {b o n : Nat} {V : Int} (h : Seg w b o (wd.dcells n V)) (k m : Nat) (hk : k + m ≤ n) : Seg w b (o + k) (wd.dcells m (V / 4294967296 ^ k)) := by
  have := (h.drop k).take m
  rwa [wd.dcells_drop, wd.dcells_take _ _ _ (by omega)] at this
theorem seg_head {w : World} {b o n : Nat} {V : Int} (h : Seg w b o (wd.dcells n V)) (m : Nat) (hk : m ≤ n) : Seg w b o (wd.dcells m V) := by
  have := h.take m
  rwa [wd.dcells_take _ _ _ hk] at this
theorem seg_one {w : World} {b o : Nat} {V v : Int} (h : w.cell? ⟨b, o, none⟩ = some (.int .u32 v)) (hf : w.frozen? ⟨b, o, none⟩ = false) (hv : v = V % 4294967296) : Seg w b o (wd.dcells 1 V) := by
  intro j u hu
  have hj := (List.getElem?_eq_some_iff.1 hu).1
  rw [wd.dcells_length] at hj
  obtain rfl : j = 0 := by omega
  rw [wd.dcells_at _ _ _ (by omega)] at hu
  simp only [Option.some.injEq, wd.dg, Int.pow_zero, Int.ediv_one] at hu
  subst hu hv
  exact ⟨h, hf⟩
theorem Cut.ne {a a' : Option Addr} {l cap m cap' : Nat} {w : World} {u : Int} (h : Cut a l cap a' m cap') (hs : Sl w a l cap (wd.dcells l u)) : ∀ o b, w.heap.size ≤ b → a' ≠ some ⟨b, o, none⟩ := by
  intro o b hb e
  rcases h with ⟨rfl, rfl, rfl⟩ | ⟨h1, h2, rfl, rfl⟩
  · cases e
  · obtain ⟨b', o', e', hlt, _⟩ := hs.at (by omega)
    rw [e'] at e
    cases e
    omega

/-- One word of x more. -/
theorem mul_step {w w1 : World} {base b k lb N : Nat} {T : TypeId} {P V : Nat} {x : Int} (hown : Own w base T (some ⟨b, 0, none⟩) N N (wd.dcells N (P : Int))) (hN : k + lb + 1 ≤ N) (hP : P < 4294967296 ^ (k + lb)) (hV : V < 4294967296 ^ lb) (x0 : 0 ≤ x) (x1 : x < 4294967296)
    (hseg : Seg w1 b k (wd.dcells lb (((P / 4294967296 ^ k : Nat) : Int) + x * V))) (hw : Wr w w1 b k (k + lb)) :
    Own (w1.setCell ⟨b, k + lb, none⟩ (.int .u32 ((((P / 4294967296 ^ k : Nat) : Int) + x * V) / 4294967296 ^ lb))) base T (some ⟨b, 0, none⟩) N N (wd.dcells N ((P : Int) + x * 4294967296 ^ k * V)) := by
  have hs0 := (seg_of_own hown).1
  have hpk := wd.p256 k
  have hpl := wd.p256 lb
  have hOc : (((P / 4294967296 ^ k : Nat)) : Int) = (P : Int) / 4294967296 ^ k := by rw [Int.natCast_ediv, wd.pow_cast]
  rw [hOc] at hseg ⊢
  have e1 : ((P : Int) + x * 4294967296 ^ k * V) / 4294967296 ^ k = (P : Int) / 4294967296 ^ k + x * V := by
    rw [show x * 4294967296 ^ k * (V : Int) = (x * V) * 4294967296 ^ k by rw [Int.mul_assoc, Int.mul_comm (4294967296 ^ k) (V : Int), ← Int.mul_assoc], Int.add_mul_ediv_right _ _ (Int.ne_of_gt hpk)]
  have hO1 : (P : Int) / 4294967296 ^ k < 4294967296 ^ lb := by
    refine Int.ediv_lt_of_lt_mul hpk ?_
    rw [← Int.pow_add, Nat.add_comm, ← wd.pow_cast]
    omega
  have hO0 : 0 ≤ (P : Int) / 4294967296 ^ k := Int.ediv_nonneg (by omega) (by omega)
  have hV' : (V : Int) < 4294967296 ^ lb := by rw [← wd.pow_cast]; omega
  have hxV : x * (V : Int) ≤ 4294967295 * (4294967296 ^ lb - 1) := Int.mul_le_mul (by omega) (by omega) (by omega) (by omega)
  have hx0 : 0 ≤ x * (V : Int) := Int.mul_nonneg x0 (by omega)
  have hq : ((P : Int) / 4294967296 ^ k + x * V) / 4294967296 ^ lb < 4294967296 := Int.ediv_lt_of_lt_mul hpl (by rw [Int.mul_sub] at hxV; omega)
  have hq0 : 0 ≤ ((P : Int) / 4294967296 ^ k + x * V) / 4294967296 ^ lb := Int.ediv_nonneg (by omega) (by omega)
  have wr2 := hw.mono (lo' := k) (hi' := k + lb + 1) (Nat.le_refl _) (by omega)
  have w2 := wr2.set (i := k + lb) (.int .u32 (((P : Int) / 4294967296 ^ k + x * V) / 4294967296 ^ lb)) (by omega) (by omega)
  have sN := hw.out (seg_part hs0 (k + lb) (N - (k + lb)) (by omega)) (by omega)
  rw [Nat.zero_add] at sN
  have hcell := World.cell?_setCell_same w1 ⟨b, k + lb, none⟩ (.int .u32 (((P : Int) / 4294967296 ^ k + x * V) / 4294967296 ^ lb)) (sN.cell 0 _ (wd.dcells_at _ _ _ (by omega)))
  have hfz : w1.frozen? ⟨b, k + lb, none⟩ = false := sN.free 0 (by rw [wd.dcells_length]; omega)
  refine w2.owned hown (wd.dcells_length _ _) ?_
  -- below k, then lb words, then the carry, then noughts
  have t1 : Seg (w1.setCell ⟨b, k + lb, none⟩ (.int .u32 (((P : Int) / 4294967296 ^ k + x * V) / 4294967296 ^ lb))) b 0 (wd.dcells k ((P : Int) + x * 4294967296 ^ k * V)) := by
    rw [wd.dcells_congr (u := (P : Int) + x * 4294967296 ^ k * V) (v := (P : Int)) (x * V) (by rw [Int.mul_assoc x, Int.mul_comm (4294967296 ^ k) (V : Int), ← Int.mul_assoc])]
    exact w2.out (seg_head hs0 k (by omega)) (by rw [wd.dcells_length]; omega)
  have t2 : Seg (w1.setCell ⟨b, k + lb, none⟩ (.int .u32 (((P : Int) / 4294967296 ^ k + x * V) / 4294967296 ^ lb))) b k (wd.dcells lb ((P : Int) / 4294967296 ^ k + x * V)) := by
    refine ((Wr.refl w1 b (k + lb) (k + lb + 1)).set _ (by omega) (by omega)).out hseg (by rw [wd.dcells_length]; omega)
  have e2 : (P : Int) / 4294967296 ^ (k + lb + 1) = 0 := Int.ediv_eq_zero_of_lt (by omega) (by rw [← wd.pow_cast]; have := Nat.pow_lt_pow_right (a := 4294967296) (by decide) (show k + lb < k + lb + 1 by omega); omega)
  have t4 : Seg (w1.setCell ⟨b, k + lb, none⟩ (.int .u32 (((P : Int) / 4294967296 ^ k + x * V) / 4294967296 ^ lb))) b (k + lb + 1) (wd.dcells (N - (k + lb + 1)) 0) := by
    have := w2.out (seg_part hs0 (k + lb + 1) (N - (k + lb + 1)) (by omega)) (by omega)
    rwa [Nat.zero_add, e2] at this
  have t3 := seg_one hcell (by rw [World.frozen?_setCell]; exact hfz) (V := ((P : Int) / 4294967296 ^ k + x * V) / 4294967296 ^ lb) (Int.emod_eq_of_lt hq0 hq).symm
  have s3 := seg_join t3 (m := N - (k + lb + 1)) (by
    have : ((P : Int) / 4294967296 ^ k + x * V) / 4294967296 ^ lb / 4294967296 ^ 1 = 0 := Int.ediv_eq_zero_of_lt hq0 (by simpa using hq)
    rw [this]; exact t4)
  have s2 := seg_join t2 (m := 1 + (N - (k + lb + 1))) s3
  have s1 := seg_join t1 (m := lb + (1 + (N - (k + lb + 1)))) (by rw [Nat.zero_add, e1]; exact s2)
  rwa [show k + (lb + (1 + (N - (k + lb + 1)))) = N by omega] at s1

/-- What holds at the head of each round of the product's loop. -/
def NMulRel (w : World) (u v la lb b : Nat) (i : Value) (wr : World) : Prop := ∃ k : Nat, k ≤ la ∧ i = .int .i64 (k : Int) ∧ Own wr w.heap.size 44 (some ⟨b, 0, none⟩) (la + lb) (la + lb) (wd.dcells (la + lb) ((u % 4294967296 ^ k * v : Nat) : Int)) ∧ Below w.heap.size w wr
theorem part_lt {u v k lb : Nat} (hv : v < 4294967296 ^ lb) : u % 4294967296 ^ k * v < 4294967296 ^ (k + lb) := by
  rw [Nat.pow_add]
  exact Nat.mul_lt_mul_of_lt_of_le (Nat.mod_lt _ (wd.pow_nat k)) (Nat.le_of_lt hv) (wd.pow_nat lb)
theorem part_next (u v k : Nat) : ((u % 4294967296 ^ k * v : Nat) : Int) + wd.dg u k * 4294967296 ^ k * v = ((u % 4294967296 ^ (k + 1) * v : Nat) : Int) := by
  rw [Int.natCast_mul, Int.natCast_mul, Int.natCast_emod, Int.natCast_emod, wd.pow_cast, wd.pow_cast]
  exact wd.mul_next u v k
theorem nmul_next {w wr w1 : World} {u v la lb b k : Nat} (hk : k < la) (hv : v < 4294967296 ^ lb) (hown : Own wr w.heap.size 44 (some ⟨b, 0, none⟩) (la + lb) (la + lb) (wd.dcells (la + lb) ((u % 4294967296 ^ k * v : Nat) : Int))) (hbel : Below w.heap.size w wr)
    (hseg : Seg w1 b k (wd.dcells lb (((u % 4294967296 ^ k * v / 4294967296 ^ k : Nat) : Int) + wd.dg u k * v))) (hw : Wr wr w1 b k (k + lb)) :
    NMulRel w u v la lb b (.int .i64 ((k : Int) + 1)) (w1.setCell ⟨b, k + lb, none⟩ (.int .u32 ((((u % 4294967296 ^ k * v / 4294967296 ^ k : Nat) : Int) + wd.dg u k * v) / 4294967296 ^ lb))) := by
  have hd := wd.dg_range u k
  have h := mul_step hown (k := k) (by omega) (part_lt hv) hv hd.1 hd.2 hseg hw
  rw [part_next] at h
  have hb := (seg_of_own hown).2.2
  exact ⟨k + 1, by omega, by simp, h, (hw.after hbel hb (Nat.le_refl _)).setCell hb _⟩

set_option maxHeartbeats 1000000 in
theorem mul_any (a b : Option Addr) (la lb ca cb u v : Nat) (w : World) (ha : Sl w a la ca (wd.dcells la (u : Int))) (hu : u < 4294967296 ^ la) (hla : la ≤ 1000000000) (hb : Sl w b lb cb (wd.dcells lb (v : Int))) (hv : v < 4294967296 ^ lb) (hlb : lb ≤ 1000000000) :
    Calls Tryd.prog 16 #[.slice a la ca, .slice b lb cb] w fun e w' => ∃ a' cap', e = .returned (.slice a' (wd.nlen (u * v)) cap') ∧ Own w' w.heap.size 44 a' (wd.nlen (u * v)) cap' (wd.dcells (wd.nlen (u * v)) ((u * v : Nat) : Int)) ∧ Below w.heap.size w w' := by
  have hlu := wd.nlen_le hu
  have hlv := wd.nlen_le hv
  obtain ⟨i0, hi0, hz0, hz1, hz2⟩ := info_parts infoWord
  have hz0' : wd.dcells (wd.nlen u + wd.nlen v) 0 = List.replicate (wd.nlen u + wd.nlen v) (.int .u32 0) := wd.dcells_zero _
  have hmax : wd.nlen u + wd.nlen v ≤ maxLen := by unfold maxLen; omega
  have hv2 := wd.nlen_lt v
  have HM : Hid (u % 4294967296 ^ wd.nlen u = u) := Nat.mod_eq_of_lt (wd.nlen_lt u)
  have HS : Hid (u * v < 4294967296 ^ (wd.nlen u + wd.nlen v)) := by have := part_lt (u := u) (k := wd.nlen u) hv2; rwa [HM.out] at this
  go_enter Tryd.func16, Tryd.ntmps16
  go_wp2_with (first
    | (go_at_call_of 34 [Value.slice a la ca]; refine (strip_any a la ca u _ ha hu).mono ?_; rintro e w' ⟨a1, ca1, rfl, hw, hcut1⟩; subst hw)
    | (go_at_call 34; refine (strip_any b lb cb v _ hb hv).mono ?_; rintro e w' ⟨b1, cb1, rfl, hw, hcut2⟩; subst hw)
    | (at_make; refine make_any _ rfl (.tmp 16) (.tmp 16) 23 rfl w.heap.size 44 i0 (.int .u32 0) Tryd.underlying23 hi0 hz0 hz1 rfl .i64 .i64 _ _ (wd.nlen u + wd.nlen v) rfl rfl (by simp) (by simp) (by rw [hz2]; omega) (by omega) (Nat.le_refl _) ?_; intro w1 hown hbel))
  rw [← hz0'] at hown
  go_loopw [20] (fun i wr => NMulRel w u v (wd.nlen u) (wd.nlen v) w.heap.size i wr) (fun i _ => wd.nlen u - (intOf i).toNat)
  case atStart => exact ⟨0, by omega, rfl, by rw [Nat.pow_zero, Nat.mod_one, Nat.zero_mul]; exact hown, hbel⟩
  case round =>
    clear hown hbel
    obtain ⟨k, hk, rfl, hown, hbel⟩ := hrel
    have hc1 := hcut1.sl ha
    have hc2 := hcut2.sl hb
    by_cases hlt : k < wd.nlen u
    · obtain ⟨ba, oa, rfl, hba, hseg⟩ := hc1.at (by omega)
      have c1 : wr.cell? ⟨ba, oa + k, none⟩ = some (.int .u32 (wd.dg u k)) := (hbel.cell (p := ⟨ba, oa + k, none⟩) hba).trans (hseg.cell k _ (wd.dcells_at _ _ _ hlt))
      obtain ⟨d0, d1⟩ := wd.dg_range u k
      have hs2 := hc2.below hbel
      have hsg := seg_part (seg_of_own hown).1 k (wd.nlen v) (by omega)
      rw [Nat.zero_add, show ((u % 4294967296 ^ k * v : Nat) : Int) / 4294967296 ^ k = ((u % 4294967296 ^ k * v / 4294967296 ^ k : Nat) : Int) by rw [Int.natCast_ediv, wd.pow_cast]] at hsg
      have hO : u % 4294967296 ^ k * v / 4294967296 ^ k < 4294967296 ^ wd.nlen v := by
        refine Nat.div_lt_of_lt_mul ?_
        rw [← Nat.pow_add]
        exact part_lt hv2
      have hne := fun o => hcut2.ne hb o w.heap.size (Nat.le_refl _)
      have HN : Hid _ := fun w1 => nmul_next (w1 := w1) hlt hv2 hown hbel
      have HC : Hid _ := fun (w1 : World) (hw : Wr wr w1 w.heap.size k (k + wd.nlen v)) => hw.out (xs := wd.dcells 1 (((u % 4294967296 ^ k * v : Nat) : Int) / 4294967296 ^ (k + wd.nlen v))) (seg_part (seg_of_own hown).1 (k + wd.nlen v) 1 (by omega)) (by omega)
      clear hown
      go_wp2_with (go_at_call 39; refine (addTimes_any w.heap.size k (wd.nlen v) (wd.nlen u + wd.nlen v - k) b1 cb1 (u % 4294967296 ^ k * v / 4294967296 ^ k) v (wd.dg u k) _ hsg hO (by omega) (by omega) hs2 hv2 hne d0 d1).mono ?_; rintro e w2 ⟨rfl, hsg2, hwr2⟩; have c3 := (HC.out w2 hwr2).cell 0 _ (wd.dcells_at _ _ _ (by omega)); have c4 := (HC.out w2 hwr2).free 0 (by rw [wd.dcells_length]; omega); simp only [Nat.zero_add, Nat.add_zero] at c3 c4)
      go_roundw
      case rel => exact HN.out w2 hsg2 hwr2
      case measure => simp [intOf]; omega
    · obtain rfl : k = wd.nlen u := by omega
      rw [HM.out] at hown
      go_wp2_with (go_at_call 34; refine (strip_any _ _ _ (u * v) _ hown.sl HS.out).mono ?_; rintro e w' ⟨a3, c3', rfl, hw, hcut3⟩; subst hw)
      go_ret
      exact ⟨a3, c3', rfl, hcut3.own hown, hbel⟩
end Go.Proofs.YteoepelmapjhcaaDoor
