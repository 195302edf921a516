/-
  Joined texts, part 5:
  What nat's between answers.
  The mathematics of foreseen divisions (Lehmer's, by Collins' condition): what the heads of two numbers tell of the numbers. It imports nothing of the program.
  What nat's foresee answers.
  What nat's between, nearer and Gcd answer.
  What nat's Gcd answers.
  Mathematics of fractions in lowest terms: there is one such form.
  Fractions in memory; what package rat's parts, lowest and down answer.
-/
import Derived.Test.YtaekgomplkkocaaGreatDoorP4
import Derived.Test.YtaekgomplkkocaaGreatDoorP1
import Derived.BigQuiet
import Derived.Deep.LoopGhost
namespace Go.Proofs.YtaekgomplkkocaaGreatDoor
open Go.RowKit
set_option linter.unusedVariables false

/-- What holds at the head of each round, where the first product is the greater. -/
def OverRel (w : World) (P u Q v : Int) (l b : Nat) (ua ub r i : Value) (wr : World) : Prop := ∃ k : Nat, k ≤ l ∧ i = .int .i64 (k : Int) ∧ ua = .int .u64 (sc P u k) ∧ ub = .int .u64 (sc Q v k) ∧ r = .int .u64 (wd.bw (P * u) (Q * v) k) ∧
  Own wr w.heap.size 69 (some ⟨b, 0, none⟩) l l (wd.mix l k (P * u - Q * v) 0) ∧ Below w.heap.size w wr
theorem over_next (w wr : World) (P u Q v za zb d : Int) (l b k : Nat) (hk : k < l) (hb : w.heap.size ≤ b) (hza : za = sc P u k + P * wd.dg u k) (hzb : zb = sc Q v k + Q * wd.dg v k) (hd : d = (za % 4294967296 - zb % 4294967296 - wd.bw (P * u) (Q * v) k) % 18446744073709551616)
    (hown : Own wr w.heap.size 69 (some ⟨b, 0, none⟩) l l (wd.mix l k (P * u - Q * v) 0)) (hbel : Below w.heap.size w wr) :
    OverRel w P u Q v l b (.int .u64 (za / 4294967296)) (.int .u64 (zb / 4294967296)) (.int .u64 (d / 9223372036854775808)) (.int .i64 ((k : Int) + 1)) (wr.setCell ⟨b, k, none⟩ (.int .u32 (d % 4294967296))) := by
  subst hza hzb
  rw [sc_digit, sc_digit] at hd
  obtain ⟨r0, r1⟩ := wd.bw_range (P * u) (Q * v) k
  obtain ⟨x0, x1⟩ := wd.dg_range (P * u) k
  obtain ⟨y0, y1⟩ := wd.dg_range (Q * v) k
  have e1 : d % 4294967296 = wd.dg (P * u - Q * v) k := by rw [← wd.sub_digit, hd]; omega
  have e2 : d / 9223372036854775808 = wd.bw (P * u) (Q * v) (k + 1) := by
    rw [← wd.bw_succ, hd]
    unfold wd.bor
    split <;> omega
  refine ⟨k + 1, by omega, by simp, by rw [sc_succ], by rw [sc_succ], by rw [e2], ?_, hbel.setCell hb _⟩
  rw [e1, ← wd.mix_set]
  exact Own.set hown _ hk

set_option maxRecDepth 100000 in
set_option maxHeartbeats 1000000 in
theorem between_over (a b : Option Addr) (la lb ca cb u v P Q : Nat) (w : World) (ha : Sl w a la ca (wd.dcells la (u : Int))) (hu : u < 4294967296 ^ la) (hla : la ≤ 1000000000) (hb : Sl w b lb cb (wd.dcells lb (v : Int))) (hv : v < 4294967296 ^ lb) (hP : P < 4294967296) (hQ : Q < 4294967296) (hle : Q * v ≤ P * u) (hlt : P * u - Q * v < 4294967296 ^ la) :
    Calls Tryz.prog 118 #[.slice a la ca, .slice b lb cb, .int .u64 (P : Int), .int .u64 (Q : Int), .bool true] w fun e w' => ∃ a' cap', e = .returned (.slice a' (wd.nlen (P * u - Q * v)) cap') ∧ Own w' w.heap.size 69 a' (wd.nlen (P * u - Q * v)) cap' (wd.dcells (wd.nlen (P * u - Q * v)) ((P * u - Q * v : Nat) : Int)) ∧ Below w.heap.size w w' := by
  obtain ⟨i0, hi0, hz0, hz1, hz2⟩ := info_parts infoWord
  have hz0' : wd.dcells la 0 = List.replicate la (.int .u32 0) := wd.dcells_zero _
  have hmax : la ≤ maxLen := by unfold maxLen; omega
  have HE : Hid ((P : Int) * u - (Q : Int) * v = ((P * u - Q * v : Nat) : Int)) := by unfold Hid; rw [Int.ofNat_sub hle, Int.natCast_mul, Int.natCast_mul]
  have HL : Hid _ := hlt
  clear hlt hle
  obtain ⟨Z, hZ⟩ : ∃ Z, Z = P * u - Q * v := ⟨_, rfl⟩
  rw [← hZ] at HE HL ⊢
  clear hZ
  have hcap := ha.big
  have hroom := ha.room
  unfold maxLen at hcap
  go_enter Tryz.func118, Tryz.ntmps118
  go_wp2_with (at_make; refine make_any _ rfl (.tmp 21) (.tmp 21) 23 rfl w.heap.size 69 i0 (.int .u32 0) Tryz.underlying23 hi0 hz0 hz1 rfl .i64 .i64 _ _ la rfl rfl (by simp) (by simp) (by rw [hz2]; omega) (by omega) (Nat.le_refl _) ?_; intro w1 hown hbel)
  rw [← hz0', ← wd.mix_zero la ((P : Int) * u - (Q : Int) * v)] at hown
  go_loopw [12, 13, 14, 25] (fun ua ub r i wr => OverRel w P u Q v la w.heap.size ua ub r i wr) (fun _ _ _ i _ => la - (intOf i).toNat)
  case atStart => exact ⟨0, by omega, rfl, by rw [sc_zero], by rw [sc_zero], by rw [wd.bw_zero], hown, hbel⟩
  case round =>
    clear hown hbel
    obtain ⟨k, hk, rfl, rfl, rfl, rfl, hown, hbel⟩ := hrel
    by_cases hlt : k < la
    · obtain ⟨ba, oa, rfl, hba, hseg⟩ := ha.at (by omega)
      have c1 : wr.cell? ⟨ba, oa + k, none⟩ = some (.int .u32 (wd.dg u k)) := (hbel.cell (p := ⟨ba, oa + k, none⟩) hba).trans (hseg.cell k _ (wd.dcells_at _ _ _ hlt))
      have c3 : wr.cell? ⟨w.heap.size, k, none⟩ = some (.int .u32 (wd.dg 0 k)) := Own.cell hown k _ (wd.mix_at _ _ _ _ _ (by omega) (Nat.le_refl _))
      have c4 : wr.frozen? ⟨w.heap.size, k, none⟩ = false := Own.free hown k (by omega)
      obtain ⟨d0, d1⟩ := wd.dg_range u k
      obtain ⟨e0, e1⟩ := wd.dg_range v k
      obtain ⟨f0, f1⟩ := sc_range P u k (by omega) (by omega)
      obtain ⟨g0, g1⟩ := sc_range Q v k (by omega) (by omega)
      obtain ⟨x0, x1⟩ := xdg P u k (by omega) (by omega)
      obtain ⟨y0, y1⟩ := xdg Q v k (by omega) (by omega)
      obtain ⟨r0, r1⟩ := wd.bw_range ((P : Int) * u) ((Q : Int) * v) k
      have HN : Hid _ := fun za zb d h1 h2 h3 => over_next w wr P u Q v za zb d la w.heap.size k hlt (Nat.le_refl _) h1 h2 h3 hown hbel
      obtain ⟨za, hza⟩ : ∃ z, z = sc (P : Int) u k + P * wd.dg u k := ⟨_, rfl⟩
      obtain ⟨zb, hzb⟩ : ∃ z, z = sc (Q : Int) v k + Q * wd.dg v k := ⟨_, rfl⟩
      have Ea : sc (P : Int) u k + P * wd.dg u k = za := hza.symm
      have Eb : sc (Q : Int) v k + Q * wd.dg v k = zb := hzb.symm
      have za0 : 0 ≤ za := by omega
      have za1 : za < 18446744073709551616 := by omega
      have zb0 : 0 ≤ zb := by omega
      have zb1 : zb < 18446744073709551616 := by omega
      have HN : Hid _ := fun d => HN.out za zb d hza hzb
      have hs2 := hb.below hbel
      clear hown hza hzb hseg
      go_wp2_with (go_at_call 84; refine (wordAt_any _ _ _ v k _ hs2 hv rfl).mono ?_; rintro e w' ⟨rfl, hw⟩; subst hw)
      go_roundw
      case rel => exact HN.out _ (by rw [IntKind.wrap_u64, IntKind.wrap_u64]; omega)
      case measure => simp [intOf]; omega
    · obtain rfl : k = la := by omega
      rw [wd.mix_full, HE.out] at hown
      go_wp2_with (go_at_call 82; refine (strip_any _ _ _ Z _ hown.sl HL.out).mono ?_; rintro e w' ⟨a3, c3', rfl, hw, hcut3⟩; subst hw)
      go_ret
      exact ⟨a3, c3', rfl, hcut3.own hown, hbel⟩
set_option maxRecDepth 100000 in
set_option maxHeartbeats 1000000 in
theorem between_under (a b : Option Addr) (la lb ca cb u v P Q : Nat) (w : World) (ha : Sl w a la ca (wd.dcells la (u : Int))) (hu : u < 4294967296 ^ la) (hla : la ≤ 1000000000) (hb : Sl w b lb cb (wd.dcells lb (v : Int))) (hv : v < 4294967296 ^ lb) (hP : P < 4294967296) (hQ : Q < 4294967296) (hle : P * u ≤ Q * v) (hlt : Q * v - P * u < 4294967296 ^ la) :
    Calls Tryz.prog 118 #[.slice a la ca, .slice b lb cb, .int .u64 (P : Int), .int .u64 (Q : Int), .bool false] w fun e w' => ∃ a' cap', e = .returned (.slice a' (wd.nlen (Q * v - P * u)) cap') ∧ Own w' w.heap.size 69 a' (wd.nlen (Q * v - P * u)) cap' (wd.dcells (wd.nlen (Q * v - P * u)) ((Q * v - P * u : Nat) : Int)) ∧ Below w.heap.size w w' := by
  obtain ⟨i0, hi0, hz0, hz1, hz2⟩ := info_parts infoWord
  have hz0' : wd.dcells la 0 = List.replicate la (.int .u32 0) := wd.dcells_zero _
  have hmax : la ≤ maxLen := by unfold maxLen; omega
  have HE : Hid ((Q : Int) * v - (P : Int) * u = ((Q * v - P * u : Nat) : Int)) := by unfold Hid; rw [Int.ofNat_sub hle, Int.natCast_mul, Int.natCast_mul]
  have HL : Hid _ := hlt
  clear hlt hle
  obtain ⟨Z, hZ⟩ : ∃ Z, Z = Q * v - P * u := ⟨_, rfl⟩
  rw [← hZ] at HE HL ⊢
  clear hZ
  have hcap := ha.big
  have hroom := ha.room
  unfold maxLen at hcap
  go_enter Tryz.func118, Tryz.ntmps118
  go_wp2_with (at_make; refine make_any _ rfl (.tmp 21) (.tmp 21) 23 rfl w.heap.size 69 i0 (.int .u32 0) Tryz.underlying23 hi0 hz0 hz1 rfl .i64 .i64 _ _ la rfl rfl (by simp) (by simp) (by rw [hz2]; omega) (by omega) (Nat.le_refl _) ?_; intro w1 hown hbel)
  rw [← hz0', ← wd.mix_zero la ((Q : Int) * v - (P : Int) * u)] at hown
  go_loopw [12, 13, 14, 25] (fun ua ub r i wr => OverRel w Q v P u la w.heap.size ub ua r i wr) (fun _ _ _ i _ => la - (intOf i).toNat)
  case atStart => exact ⟨0, by omega, rfl, by rw [sc_zero], by rw [sc_zero], by rw [wd.bw_zero], hown, hbel⟩
  case round =>
    clear hown hbel
    obtain ⟨k, hk, rfl, rfl, rfl, rfl, hown, hbel⟩ := hrel
    by_cases hlt : k < la
    · obtain ⟨ba, oa, rfl, hba, hseg⟩ := ha.at (by omega)
      have c1 : wr.cell? ⟨ba, oa + k, none⟩ = some (.int .u32 (wd.dg u k)) := (hbel.cell (p := ⟨ba, oa + k, none⟩) hba).trans (hseg.cell k _ (wd.dcells_at _ _ _ hlt))
      have c3 : wr.cell? ⟨w.heap.size, k, none⟩ = some (.int .u32 (wd.dg 0 k)) := Own.cell hown k _ (wd.mix_at _ _ _ _ _ (by omega) (Nat.le_refl _))
      have c4 : wr.frozen? ⟨w.heap.size, k, none⟩ = false := Own.free hown k (by omega)
      obtain ⟨d0, d1⟩ := wd.dg_range u k
      obtain ⟨e0, e1⟩ := wd.dg_range v k
      obtain ⟨f0, f1⟩ := sc_range P u k (by omega) (by omega)
      obtain ⟨g0, g1⟩ := sc_range Q v k (by omega) (by omega)
      obtain ⟨x0, x1⟩ := xdg P u k (by omega) (by omega)
      obtain ⟨y0, y1⟩ := xdg Q v k (by omega) (by omega)
      obtain ⟨r0, r1⟩ := wd.bw_range ((Q : Int) * v) ((P : Int) * u) k
      have HN : Hid _ := fun za zb d h1 h2 h3 => over_next w wr Q v P u zb za d la w.heap.size k hlt (Nat.le_refl _) h2 h1 h3 hown hbel
      obtain ⟨za, hza⟩ : ∃ z, z = sc (P : Int) u k + P * wd.dg u k := ⟨_, rfl⟩
      obtain ⟨zb, hzb⟩ : ∃ z, z = sc (Q : Int) v k + Q * wd.dg v k := ⟨_, rfl⟩
      have Ea : sc (P : Int) u k + P * wd.dg u k = za := hza.symm
      have Eb : sc (Q : Int) v k + Q * wd.dg v k = zb := hzb.symm
      have za0 : 0 ≤ za := by omega
      have za1 : za < 18446744073709551616 := by omega
      have zb0 : 0 ≤ zb := by omega
      have zb1 : zb < 18446744073709551616 := by omega
      have HN : Hid _ := fun d => HN.out za zb d hza hzb
      have hs2 := hb.below hbel
      clear hown hza hzb hseg
      go_wp2_with (go_at_call 84; refine (wordAt_any _ _ _ v k _ hs2 hv rfl).mono ?_; rintro e w' ⟨rfl, hw⟩; subst hw)
      go_roundw
      case rel => exact HN.out _ (by rw [IntKind.wrap_u64, IntKind.wrap_u64]; omega)
      case measure => simp [intOf]; omega
    · obtain rfl : k = la := by omega
      rw [wd.mix_full, HE.out] at hown
      go_wp2_with (go_at_call 82; refine (strip_any _ _ _ Z _ hown.sl HL.out).mono ?_; rintro e w' ⟨a3, c3', rfl, hw, hcut3⟩; subst hw)
      go_ret
      exact ⟨a3, c3', rfl, hcut3.own hown, hbel⟩
end Go.Proofs.YtaekgomplkkocaaGreatDoor

namespace Go.Proofs.YtaekgomplkkocaaGreatDoor
set_option linter.unusedVariables false

def sgv (ev : Bool) : Int := if ev then -1 else 1
theorem sgv_not (ev : Bool) : sgv (!ev) = - sgv ev := by cases ev <;> rfl
theorem sgv_sq (ev : Bool) : sgv ev * sgv ev = 1 := by cases ev <;> rfl
/-- What holds at the head of each round, of two numbers A = x F + α and B = y F + β: a and b are what is left of x and y; p and q the factors. -/
structure Fore (A B x y : Int) (a b p0 p1 pn q0 q1 qn : Int) (ev : Bool) : Prop where
  ha : a = sgv ev * (p1 * x - q1 * y)
  hb : b = - sgv ev * (pn * x - qn * y)
  det : p1 * qn - pn * q1 = sgv ev
  b0 : 0 ≤ b
  ab : b ≤ a
  hp0 : 0 ≤ p0
  hp1 : 0 ≤ p1
  hpn : 0 ≤ pn
  hq0 : 0 ≤ q0
  hq1 : 0 ≤ q1
  q1n : q1 ≤ qn
  hqn : 1 ≤ qn
  pqn : pn ≤ qn
  first : (q1 = 0 ∧ p1 = 1 ∧ pn = 0 ∧ qn = 1 ∧ ev = false ∧ q0 = 0) ∨ (1 ≤ q1 ∧ p1 ≤ q1)
  q1l : q1 < 4294967296
  q0l : q0 < 4294967296
  p0l : p0 < 4294967296
  p1l : p1 < 4294967296
  out : q0 ≠ 0 → 0 ≤ sgv ev * (p1 * A - q1 * B) ∧ sgv ev * (p1 * A - q1 * B) < - sgv ev * (p0 * A - q0 * B) ∧ - sgv ev * (p0 * A - q0 * B) ≤ B ∧ p0 * q1 - p1 * q0 = - sgv ev
  cur : q1 ≠ 0 → sgv ev * (p1 * A - q1 * B) ≤ B
theorem fore_start (A B x y : Int) (hy : 0 ≤ y) (hxy : y ≤ x) : Fore A B x y x y 0 1 0 0 0 1 false := by
  refine ⟨?_, ?_, ?_, hy, hxy, ?_, ?_, ?_, ?_, ?_, ?_, ?_, ?_, Or.inl ⟨rfl, rfl, rfl, rfl, rfl, rfl⟩, ?_, ?_, ?_, ?_, ?_, ?_⟩ <;> simp [sgv]
theorem fore_x {A B x y a b p0 p1 pn q0 q1 qn : Int} {ev : Bool} (h : Fore A B x y a b p0 p1 pn q0 q1 qn ev) : qn * a + q1 * b = x := by
  have h1 := h.ha
  have h2 := h.hb
  have h3 := h.det
  have h4 := sgv_sq ev
  clear h
  grind
theorem fore_y {A B x y a b p0 p1 pn q0 q1 qn : Int} {ev : Bool} (h : Fore A B x y a b p0 p1 pn q0 q1 qn ev) : pn * a + p1 * b = y := by
  have h1 := h.ha
  have h2 := h.hb
  have h3 := h.det
  have h4 := sgv_sq ev
  clear h
  grind
/-- Where the test is met there is room for the sum that it asks for, and for the next factors; and the factors that are next are short. -/
theorem fore_room {A B x y a b p0 p1 pn q0 q1 qn : Int} {ev : Bool} (h : Fore A B x y a b p0 p1 pn q0 q1 qn ev) (hx : x < 18446744073709551616) (hyx : y ≤ x) (hb : qn ≤ b) :
    q1 + qn < 18446744073709551616 ∧ q1 + a / b * qn < 18446744073709551616 ∧ p1 + a / b * pn < 18446744073709551616 ∧ qn < 4294967296 ∧ a < 18446744073709551616 ∧ a / b * qn < 18446744073709551616 ∧ a / b * pn < 18446744073709551616 ∧ 1 ≤ a / b := by
  have hX := fore_x h
  have hY := fore_y h
  have h1 := h.hqn
  have h2 := h.hq1
  have h3 := h.ab
  have h4 := h.hpn
  have h5 := h.hp1
  have hb0 : 0 < b := by omega
  have t1 : 1 ≤ a / b := Int.le_ediv_of_mul_le hb0 (by omega)
  have tb : a / b * b ≤ a := Int.ediv_mul_le a (by omega)
  generalize a / b = t at t1 tb
  have e1 : qn * qn ≤ qn * a := Int.mul_le_mul_of_nonneg_left (by omega) (by omega)
  have e2 : 0 ≤ q1 * b := Int.mul_nonneg h2 (by omega)
  have e3 : qn * (t * b) ≤ qn * a := Int.mul_le_mul_of_nonneg_left tb (by omega)
  have e4 : pn * (t * b) ≤ pn * a := Int.mul_le_mul_of_nonneg_left tb (by omega)
  have e5 : (q1 + t * qn) * 1 ≤ (q1 + t * qn) * b := Int.mul_le_mul_of_nonneg_left (by omega) (by have := Int.mul_nonneg (show 0 ≤ t by omega) (show 0 ≤ qn by omega); omega)
  have e6 : (p1 + t * pn) * 1 ≤ (p1 + t * pn) * b := Int.mul_le_mul_of_nonneg_left (by omega) (by have := Int.mul_nonneg (show 0 ≤ t by omega) h4; omega)
  have e7 : (q1 + t * qn) * b = q1 * b + qn * (t * b) := by grind
  have e8 : (p1 + t * pn) * b = p1 * b + pn * (t * b) := by grind
  have e9 : 1 * qn ≤ t * qn := Int.mul_le_mul_of_nonneg_right t1 (by omega)
  have e10 : 1 * a ≤ qn * a := Int.mul_le_mul_of_nonneg_right h1 (by omega)
  have e11 : qn < 4294967296 := by
    rcases Int.lt_or_le qn 4294967296 with g | g
    · exact g
    · have := Int.mul_le_mul g g (by decide) (by omega)
      omega
  have e12 := Int.mul_nonneg (show 0 ≤ t by omega) (show 0 ≤ qn by omega)
  have e13 := Int.mul_nonneg (show 0 ≤ t by omega) h4
  refine ⟨by omega, by omega, by omega, e11, by omega, by omega, by omega, t1⟩
theorem fore_next {A B x y a b p0 p1 pn q0 q1 qn F al be : Int} {ev : Bool} (h : Fore A B x y a b p0 p1 pn q0 q1 qn ev) (hx : x < 18446744073709551616) (hyx : y ≤ x) (hA : A = x * F + al) (hB : B = y * F + be) (ha0 : 0 ≤ al) (ha1 : al < F) (hb0 : 0 ≤ be) (hb1 : be < F)
    (t1 : qn ≤ b) (t2 : q1 + qn ≤ a - b) : Fore A B x y b (a % b) p1 pn (p1 + a / b * pn) q1 qn (q1 + a / b * qn) (!ev) := by
  obtain ⟨_, _, _, r1, _, _, _, r2⟩ := fore_room h hx hyx t1
  have hq := h.hqn
  have hbp : 0 < b := by omega
  have hm : a % b = a - a / b * b := by have := Int.mul_ediv_add_emod a b; rw [Int.mul_comm] at this; omega
  have hm0 := Int.emod_nonneg a (Int.ne_of_gt hbp)
  have hm1 := Int.emod_lt_of_pos a hbp
  generalize a / b = t at hm r2
  generalize a % b = m at hm hm0 hm1
  have g1 := h.ha
  have g2 := h.hb
  have g3 := h.det
  have g4 := h.hp1
  have g5 := h.hpn
  have g6 := h.hq1
  have g7 := h.pqn
  have g8 := sgv_sq ev
  have n1 := Int.mul_nonneg (show 0 ≤ t by omega) g5
  have n2 := Int.mul_nonneg (show 0 ≤ t by omega) (show 0 ≤ qn by omega)
  have n3 : 1 * qn ≤ t * qn := Int.mul_le_mul_of_nonneg_right r2 (by omega)
  have n4 : t * pn ≤ t * qn := Int.mul_le_mul_of_nonneg_left g7 (by omega)
  -- what is left of the numbers themselves
  have key : 0 ≤ - sgv ev * (pn * A - qn * B) ∧ (q1 ≠ 0 → - sgv ev * (pn * A - qn * B) < sgv ev * (p1 * A - q1 * B)) ∧ (q1 = 0 → - sgv ev * (pn * A - qn * B) = B) := by
    have k1 : qn * F ≤ b * F := Int.mul_le_mul_of_nonneg_right t1 (by omega)
    have k2 : (q1 + qn) * F ≤ (a - b) * F := Int.mul_le_mul_of_nonneg_right t2 (by omega)
    have k3 : pn * al ≤ qn * F := Int.le_trans (Int.mul_le_mul_of_nonneg_right g7 ha0) (Int.mul_le_mul_of_nonneg_left (by omega) (by omega))
    have k4 : qn * be ≤ qn * F := Int.mul_le_mul_of_nonneg_left (by omega) (by omega)
    have k5 : 0 ≤ pn * al := Int.mul_nonneg g5 ha0
    have k6 : 0 ≤ qn * be := Int.mul_nonneg (by omega) hb0
    have k7 : 0 ≤ p1 * al := Int.mul_nonneg g4 ha0
    have k8 : 0 ≤ q1 * be := Int.mul_nonneg g6 hb0
    have eR : - sgv ev * (pn * A - qn * B) = b * F - sgv ev * (pn * al - qn * be) := by rw [g2, hA, hB]; clear g1 g2 g3 hA hB; grind
    have eS : sgv ev * (p1 * A - q1 * B) = a * F + sgv ev * (p1 * al - q1 * be) := by rw [g1, hA, hB]; clear g1 g2 g3 hA hB; grind
    refine ⟨?_, ?_, ?_⟩
    · rw [eR]
      cases ev
      · simp only [sgv]; simp; omega
      · simp only [sgv]; simp; omega
    · intro hq1
      rcases h.first with ⟨z, _⟩ | ⟨o1, o2⟩
      · exact absurd z hq1
      · have k9 : (q1 + qn) * (be + 1) ≤ (q1 + qn) * F := Int.mul_le_mul_of_nonneg_left (by omega) (by omega)
        have k10 : (q1 + qn) * (al + 1) ≤ (q1 + qn) * F := Int.mul_le_mul_of_nonneg_left (by omega) (by omega)
        have k11 : (p1 + pn) * al ≤ (q1 + qn) * al := Int.mul_le_mul_of_nonneg_right (by omega) ha0
        rw [eR, eS]
        rw [Int.sub_mul] at k2
        rw [Int.mul_add, Int.mul_one, Int.add_mul q1 qn be, Int.add_mul] at k9
        rw [Int.mul_add, Int.mul_one, Int.add_mul q1 qn al, Int.add_mul] at k10
        rw [Int.add_mul, Int.add_mul] at k11
        rw [Int.add_mul] at k2
        cases ev
        · simp only [sgv]; simp; omega
        · simp only [sgv]; simp; omega
    · intro hq1
      rcases h.first with ⟨_, z1, z2, z3, z4, _⟩ | ⟨o1, o2⟩
      · subst z4; rw [z2, z3]; simp [sgv]
      · omega
  refine ⟨?_, ?_, ?_, hm0, by omega, g4, g5, by omega, g6, by omega, by omega, by omega, ?_, Or.inr ⟨by omega, g7⟩, r1, h.q1l, h.p1l, by omega, ?_, ?_⟩
  · rw [sgv_not]; exact g2
  · rw [sgv_not, hm]; clear h key hA hB; grind
  · rw [sgv_not]; clear h key hA hB; grind
  · rcases h.first with ⟨z0, z1, z2, z3, _⟩ | ⟨o1, o2⟩
    · subst z0 z1 z2 z3; omega
    · omega
  · intro hq1
    rw [sgv_not]
    obtain ⟨key1, key2, _⟩ := key
    have c := h.cur hq1
    have d := key2 hq1
    refine ⟨by simpa using key1, by simpa using d, by simpa using c, by simpa using g3⟩
  · intro _
    rw [sgv_not]
    obtain ⟨_, key2, key3⟩ := key
    by_cases hq1 : q1 = 0
    · have := key3 hq1; omega
    · have := key2 hq1
      have := h.cur hq1
      omega
/-- What is told at the end. -/
theorem fore_gcd (A B X Y p0 p1 q0 q1 : Nat) (ev : Bool) (hX : (X : Int) = - sgv ev * (p0 * A - q0 * B)) (hY : (Y : Int) = sgv ev * (p1 * A - q1 * B)) (det : (p0 : Int) * q1 - p1 * q0 = - sgv ev) : Nat.gcd X Y = Nat.gcd A B := by
  have s := sgv_sq ev
  have eA : (A : Int) = q1 * X + q0 * Y := by rw [hX, hY]; grind
  have eB : (B : Int) = p1 * X + p0 * Y := by rw [hX, hY]; grind
  have dv : ∀ d u v : Nat, ∀ z c1 c2 : Int, d ∣ u → d ∣ v → z = c1 * u + c2 * v → (d : Int) ∣ z := by
    intro d u v z c1 c2 h1 h2 h3
    rw [h3]
    exact Int.dvd_add (Int.dvd_trans (Int.natCast_dvd_natCast.2 h1) (Int.dvd_mul_left _ _)) (Int.dvd_trans (Int.natCast_dvd_natCast.2 h2) (Int.dvd_mul_left _ _))
  refine Nat.dvd_antisymm (Nat.dvd_gcd ?_ ?_) (Nat.dvd_gcd ?_ ?_)
  · exact Int.natCast_dvd_natCast.1 (dv _ X Y _ _ _ (Nat.gcd_dvd_left _ _) (Nat.gcd_dvd_right _ _) eA)
  · exact Int.natCast_dvd_natCast.1 (dv _ X Y _ _ _ (Nat.gcd_dvd_left _ _) (Nat.gcd_dvd_right _ _) eB)
  · exact Int.natCast_dvd_natCast.1 (dv _ A B _ (- sgv ev * p0) (sgv ev * q0) (Nat.gcd_dvd_left _ _) (Nat.gcd_dvd_right _ _) (by rw [hX]; grind))
  · exact Int.natCast_dvd_natCast.1 (dv _ A B _ (sgv ev * p1) (- sgv ev * q1) (Nat.gcd_dvd_left _ _) (Nat.gcd_dvd_right _ _) (by rw [hY]; grind))
end Go.Proofs.YtaekgomplkkocaaGreatDoor

namespace Go.Proofs.YtaekgomplkkocaaGreatDoor
open Go.RowKit
set_option linter.unusedVariables false

/-- What is told: short factors, and, where there is a factor for B, what they leave of A and B. -/
structure ForeOut (A B p0 p1 q0 q1 : Nat) (ev : Bool) : Prop where
  hp0 : p0 < 4294967296
  hp1 : p1 < 4294967296
  hq0 : q0 < 4294967296
  hq1 : q1 < 4294967296
  out : q0 ≠ 0 → 0 ≤ sgv ev * (p1 * A - q1 * B) ∧ sgv ev * (p1 * A - q1 * B) < - sgv ev * (p0 * A - q0 * B) ∧ - sgv ev * (p0 * A - q0 * B) ≤ B ∧ (p0 : Int) * q1 - p1 * q0 = - sgv ev
theorem Fore.told {A B p0 p1 q0 q1 : Nat} {x y a b pn qn : Int} {ev : Bool} (h : Fore A B x y a b p0 p1 pn q0 q1 qn ev) : ForeOut A B p0 p1 q0 q1 ev :=
  ⟨by have := h.p0l; omega, by have := h.p1l; omega, by have := h.q0l; omega, by have := h.q1l; omega, fun hq => h.out (by omega)⟩
def ForePost (w : World) (A B : Nat) (e : Ending) (w' : World) : Prop := ∃ (p0 p1 q0 q1 : Nat) (ev : Bool), e = .returned (.agg #[.int .u64 (p0 : Int), .int .u64 (p1 : Int), .int .u64 (q0 : Int), .int .u64 (q1 : Int), .bool ev]) ∧ ForeOut A B p0 p1 q0 q1 ev ∧ Below w.heap.size w w'
def foreCells (p0 p1 q0 q1 : Nat) (ev : Bool) : List Value := [.int .u64 (p0 : Int), .int .u64 (p1 : Int), .int .u64 (q0 : Int), .int .u64 (q1 : Int), .bool ev]
/-- What holds at the head of each round. -/
def ForeRel (w : World) (A B x y : Nat) (av bv nA nB : Value) (wr : World) : Prop := ∃ (a b p0 p1 pn q0 q1 qn : Nat) (ev : Bool), av = .int .u64 (a : Int) ∧ bv = .int .u64 (b : Int) ∧ nA = .int .u64 (pn : Int) ∧ nB = .int .u64 (qn : Int) ∧ Hid (Fore A B x y a b p0 p1 pn q0 q1 qn ev) ∧ a < 18446744073709551616 ∧ b ≤ a ∧
  Row wr (w.heap.size + 1) (foreCells p0 p1 q0 q1 ev) ∧ Row wr w.heap.size (foreCells 0 0 0 0 false) ∧ Below w.heap.size w wr
theorem fore_cells {wr : World} {b p0 p1 q0 q1 pn qn : Nat} {ev : Bool} (n : Nat) (h : Row wr b (foreCells p0 p1 q0 q1 ev)) :
    Row ((((((wr.drewN n).setCell ⟨b, 0, none⟩ (.int .u64 (p1 : Int))).setCell ⟨b, 1, none⟩ (.int .u64 (pn : Int))).setCell ⟨b, 2, none⟩ (.int .u64 (q1 : Int))).setCell ⟨b, 3, none⟩ (.int .u64 (qn : Int))).setCell ⟨b, 4, none⟩ (.bool (!ev))) b (foreCells p1 pn q1 qn (!ev)) :=
  (((((h.drewN n).set 0 _ (by simp [foreCells])).set 1 _ (by simp [foreCells])).set 2 _ (by simp [foreCells])).set 3 _ (by simp [foreCells])).set 4 _ (by simp [foreCells])
theorem below_drewN {B : Nat} {w wr : World} (h : Below B w wr) (n : Nat) : Below B w (wr.drewN n) := ⟨h.os, h.tape, h.output, h.size, h.block⟩
set_option maxRecDepth 100000 in
set_option maxHeartbeats 2000000 in
theorem foresee_any (A B x y F al be : Nat) (w : World) (hyx : y ≤ x) (hx : x < 18446744073709551616) (hA : A = x * F + al) (hB : B = y * F + be) (hal : al < F) (hbe : be < F) :
    Calls Tryz.prog 116 #[.int .u64 (x : Int), .int .u64 (y : Int)] w (ForePost w A B) := by
  have HA : Hid ((A : Int) = (x : Int) * F + al) := by unfold Hid; rw [hA]; simp
  have HB : Hid ((B : Int) = (y : Int) * F + be) := by unfold Hid; rw [hB]; simp
  have HS : Hid (Fore A B x y x y ((0 : Nat) : Int) ((1 : Nat) : Int) ((0 : Nat) : Int) ((0 : Nat) : Int) ((0 : Nat) : Int) ((1 : Nat) : Int) false) := fore_start A B x y (by omega) (by omega)
  clear hA hB
  go_enter Tryz.func116, Tryz.ntmps116
  go_wp2
  go_loopw [0, 1, 6, 7] (fun av bv nA nB wr => ForeRel w A B x y av bv nA nB wr) (fun _ bv _ _ _ => (intOf bv).toNat)
  case atStart =>
    refine ⟨x, y, 0, 1, 0, 0, 0, 1, false, rfl, rfl, rfl, rfl, HS.out, hx, hyx, ?_, ?_, ?_⟩
    · have := Row.new (w.alloc (.cells #[.int .u64 0, .int .u64 0, .int .u64 0, .int .u64 0, .bool false] 145)) (foreCells 0 1 0 0 false) 145
      simpa [foreCells] using this
    · have := (Row.new w (foreCells 0 0 0 0 false) 145).alloc (.cells (foreCells 0 1 0 0 false).toArray 145) (by simp)
      simpa [foreCells] using this
    · exact ((Below.refl _ _).alloc (Nat.le_refl _) _).alloc (by simp) _
  case round =>
    obtain ⟨a, b, p0, p1, pn, q0, q1, qn, ev, rfl, rfl, rfl, rfl, H, ha, hba, hrow, hrow0, hbel⟩ := hrel
    have c0 : wr.cell? ⟨w.heap.size + 1, 0, none⟩ = some (.int .u64 (p0 : Int)) := hrow.cell 0 _ rfl
    have c1 : wr.cell? ⟨w.heap.size + 1, 1, none⟩ = some (.int .u64 (p1 : Int)) := hrow.cell 1 _ rfl
    have c2 : wr.cell? ⟨w.heap.size + 1, 2, none⟩ = some (.int .u64 (q0 : Int)) := hrow.cell 2 _ rfl
    have c3 : wr.cell? ⟨w.heap.size + 1, 3, none⟩ = some (.int .u64 (q1 : Int)) := hrow.cell 3 _ rfl
    have c4 : wr.cell? ⟨w.heap.size + 1, 4, none⟩ = some (.bool ev) := hrow.cell 4 _ rfl
    have f0 : wr.frozen? ⟨w.heap.size + 1, 0, none⟩ = false := hrow.free 0 (by simp [foreCells])
    have f1 : wr.frozen? ⟨w.heap.size + 1, 1, none⟩ = false := hrow.free 1 (by simp [foreCells])
    have f2 : wr.frozen? ⟨w.heap.size + 1, 2, none⟩ = false := hrow.free 2 (by simp [foreCells])
    have f3 : wr.frozen? ⟨w.heap.size + 1, 3, none⟩ = false := hrow.free 3 (by simp [foreCells])
    have f4 : wr.frozen? ⟨w.heap.size + 1, 4, none⟩ = false := hrow.free 4 (by simp [foreCells])
    have z0 : wr.cell? ⟨w.heap.size, 0, none⟩ = some (.int .u64 0) := hrow0.cell 0 _ rfl
    have z1 : wr.cell? ⟨w.heap.size, 1, none⟩ = some (.int .u64 0) := hrow0.cell 1 _ rfl
    have z2 : wr.cell? ⟨w.heap.size, 2, none⟩ = some (.int .u64 0) := hrow0.cell 2 _ rfl
    have z3 : wr.cell? ⟨w.heap.size, 3, none⟩ = some (.int .u64 0) := hrow0.cell 3 _ rfl
    have z4 : wr.cell? ⟨w.heap.size, 4, none⟩ = some (.bool false) := hrow0.cell 4 _ rfl
    have y0 : wr.frozen? ⟨w.heap.size, 0, none⟩ = false := hrow0.free 0 (by simp [foreCells])
    have y1 : wr.frozen? ⟨w.heap.size, 1, none⟩ = false := hrow0.free 1 (by simp [foreCells])
    have y2 : wr.frozen? ⟨w.heap.size, 2, none⟩ = false := hrow0.free 2 (by simp [foreCells])
    have y3 : wr.frozen? ⟨w.heap.size, 3, none⟩ = false := hrow0.free 3 (by simp [foreCells])
    have y4 : wr.frozen? ⟨w.heap.size, 4, none⟩ = false := hrow0.free 4 (by simp [foreCells])
    by_cases t1 : qn ≤ b
    · obtain ⟨r1, r2, r3, r4, r5, r6, r7, r8⟩ := fore_room H.out (by omega) (by omega) (by omega)
      have hqn := H.out.hqn
      have hb0 : ¬ (b : Int) = 0 := by omega
      have t1' : decide ((b : Int) ≥ qn) = true := by simpa using t1
      by_cases t2 : q1 + qn ≤ a - b
      · have HN : Hid _ := fore_next H.out (by omega) (by omega) HA.out HB.out (by omega) (by omega) (by omega) (by omega) (by omega) (by omega)
        obtain ⟨T, hT⟩ : ∃ T, T = a / b := ⟨_, rfl⟩
        obtain ⟨m, hm⟩ : ∃ m, m = a % b := ⟨_, rfl⟩
        have E1 : (a : Int) / (b : Int) = (T : Int) := by rw [hT, Int.natCast_ediv]
        have E2 : (a : Int) % (b : Int) = (m : Int) := by rw [hm, Int.natCast_emod]
        have hmb : m < b := by rw [hm]; exact Nat.mod_lt _ (by omega)
        rw [E1] at r2 r3 r6 r7 r8
        rw [E1, E2] at HN
        have hTa : T < 18446744073709551616 := Nat.lt_of_le_of_lt (hT ▸ Nat.div_le_self a b) ha
        clear hT hm
        have s1 : (0 : Int) ≤ (T : Int) * (pn : Int) := by rw [← Int.natCast_mul]; omega
        have s2 : (0 : Int) ≤ (T : Int) * (qn : Int) := by rw [← Int.natCast_mul]; omega
        obtain ⟨X, hX⟩ : ∃ X, X = T * pn := ⟨_, rfl⟩
        obtain ⟨Y, hY⟩ : ∃ Y, Y = T * qn := ⟨_, rfl⟩
        have EX : (T : Int) * (pn : Int) = (X : Int) := by rw [hX, Int.natCast_mul]
        have EY : (T : Int) * (qn : Int) = (Y : Int) := by rw [hY, Int.natCast_mul]
        rw [EX] at r3 r7 HN
        rw [EY] at r2 r6 HN
        clear hX hY
        have t2' : (q1 : Int) + qn ≤ a - b := by omega
        go_wp2
        go_quiet (fail)
        go_wp2
        go_roundw
        case rel =>
          refine ⟨b, m, p1, pn, p1 + X, q1, qn, q1 + Y, !ev, rfl, by first | rfl | rw [E2], by simp, by simp, ?_, by omega, by omega, ?_, ?_, ?_⟩
          · have := HN.out
            unfold Hid
            simpa using this
          · exact fore_cells _ hrow
          · exact (((((hrow0.drewN _).other _ (by omega)).other _ (by omega)).other _ (by omega)).other _ (by omega)).other _ (by omega)
          · exact (((((below_drewN hbel _).setCell (by show _ ≤ w.heap.size + 1; omega) _).setCell (by show _ ≤ w.heap.size + 1; omega) _).setCell (by show _ ≤ w.heap.size + 1; omega) _).setCell (by show _ ≤ w.heap.size + 1; omega) _).setCell (by show _ ≤ w.heap.size + 1; omega) _
        case measure => simp [intOf]; omega
      · have t2' : ¬ ((q1 : Int) + qn ≤ a - b) := by omega
        go_wp2
        refine bodyPost_ret (v := .agg #[.int .u64 (p0 : Int), .int .u64 (p1 : Int), .int .u64 (q0 : Int), .int .u64 (q1 : Int), .bool ev]) (by simp [results, Tryz.results116, go_sem, *]) rfl ⟨p0, p1, q0, q1, ev, rfl, H.out.told, ?_⟩
        exact ((((hbel.setCell (by show _ ≤ w.heap.size; omega) _).setCell (by show _ ≤ w.heap.size; omega) _).setCell (by show _ ≤ w.heap.size; omega) _).setCell (by show _ ≤ w.heap.size; omega) _).setCell (by show _ ≤ w.heap.size; omega) _
    · have t1' : ¬ ((qn : Int) ≤ b) := by omega
      go_wp2
      refine bodyPost_ret (v := .agg #[.int .u64 (p0 : Int), .int .u64 (p1 : Int), .int .u64 (q0 : Int), .int .u64 (q1 : Int), .bool ev]) (by simp [results, Tryz.results116, go_sem, *]) rfl ⟨p0, p1, q0, q1, ev, rfl, H.out.told, ?_⟩
      exact ((((hbel.setCell (by show _ ≤ w.heap.size; omega) _).setCell (by show _ ≤ w.heap.size; omega) _).setCell (by show _ ≤ w.heap.size; omega) _).setCell (by show _ ≤ w.heap.size; omega) _).setCell (by show _ ≤ w.heap.size; omega) _
end Go.Proofs.YtaekgomplkkocaaGreatDoor

namespace Go.Proofs.YtaekgomplkkocaaGreatDoor
open Go.RowKit
set_option linter.unusedVariables false

theorem nRest (a b : Option Addr) (la lb ca cb u v : Nat) (w : World) (ha : NI w a la ca u) (hb : NI w b lb cb v) (h0 : 0 < v) : Calls Tryz.prog 101 #[.slice a la ca, .slice b lb cb] w (GotN w (u % v)) :=
  (restOf_any a b la lb ca cb u v w ha.sl ha.lt (by have := ha.few; omega) hb.sl hb.lt h0).mono fun _ _ h => gotN h
theorem nBetween (ov : Bool) (a b : Option Addr) (la lb ca cb u v P Q X : Nat) (w : World) (ha : NI w a la ca u) (hb : NI w b lb cb v) (hP : P < 4294967296) (hQ : Q < 4294967296) (hX : (X : Int) = - sgv ov * ((P : Int) * u - Q * v)) (hlt : X < 4294967296 ^ la) :
    Calls Tryz.prog 118 #[.slice a la ca, .slice b lb cb, .int .u64 (P : Int), .int .u64 (Q : Int), .bool ov] w (GotN w X) := by
  rw [← Int.natCast_mul, ← Int.natCast_mul] at hX
  cases ov
  · simp only [sgv] at hX
    have e : X = Q * v - P * u := by simp at hX; omega
    subst e
    exact (between_under a b la lb ca cb u v P Q w ha.sl ha.lt (by have := ha.few; omega) hb.sl hb.lt hP hQ (by simp at hX; omega) hlt).mono fun _ _ h => gotN h
  · simp only [sgv] at hX
    have e : X = P * u - Q * v := by simp at hX; omega
    subst e
    exact (between_over a b la lb ca cb u v P Q w ha.sl ha.lt (by have := ha.few; omega) hb.sl hb.lt hP hQ (by simp at hX; omega) hlt).mono fun _ _ h => gotN h
/-- Two lesser numbers of the same greatest divisor. -/
def Nearer (w : World) (u v : Nat) (e : Ending) (w' : World) : Prop := ∃ (a : Option Addr) (la ca : Nat) (b : Option Addr) (lb cb X Y : Nat), e = .returned (.tuple #[.slice a la ca, .slice b lb cb]) ∧ ND w' a la ca X ∧ ND w' b lb cb Y ∧ Y < v ∧ Y ≤ X ∧ X ≤ u ∧ Nat.gcd X Y = Nat.gcd u v ∧ Below w.heap.size w w'
theorem mono_bt {u v : Nat} (h : v ≤ u) : bt.nlen v ≤ bt.nlen u := bt.nlen_le (Nat.lt_of_le_of_lt h (bt.nlen_lt u))
theorem mono_wd {u v : Nat} (h : v ≤ u) : wd.nlen v ≤ wd.nlen u := wd.nlen_le (Nat.lt_of_le_of_lt h (wd.nlen_lt u))
theorem bt_wd {u l : Nat} (h : u < 4294967296 ^ l) : bt.nlen u ≤ 32 * l := bt.nlen_le (by rw [pow32] at h; exact h)
set_option maxRecDepth 100000 in
set_option maxHeartbeats 2000000 in
theorem nNearer (a b : Option Addr) (la lb ca cb u v : Nat) (w : World) (ha : ND w a la ca u) (hb : ND w b lb cb v) (hla : la ≤ 1000000) (hle : v ≤ u) (h64 : 64 < bt.nlen v) :
    Calls Tryz.prog 98 #[.slice a la ca, .slice b lb cb] w (Nearer w u v) := by
  have hlb : lb ≤ 1000000 := by rw [hb.len]; have := mono_wd hle; rw [← ha.len] at this; omega
  have na := ha.to hla
  have nb := hb.to hlb
  have hm := mono_bt hle
  have hk := bt_wd na.lt
  have hv0 : 0 < v := by
    rcases Nat.eq_zero_or_pos v with e | e
    · rw [e, bt.nlen_zero] at h64; omega
    · exact e
  obtain ⟨n, hn⟩ : ∃ n, n = bt.nlen u := ⟨_, rfl⟩
  have hun : u < 2 ^ n := by rw [hn]; exact bt.nlen_lt u
  rw [← hn] at hm hk
  obtain ⟨f, hf⟩ : ∃ f, n = f + 64 := ⟨n - 64, by omega⟩
  have HN : Hid _ := hn
  have E : (n : Int) - 64 = (f : Int) := by omega
  have hF : 0 < 2 ^ f := Nat.pow_pos (by decide)
  have hx : u / 2 ^ f < 18446744073709551616 := Nat.div_lt_of_lt_mul (by rw [hf, Nat.pow_add] at hun; exact hun)
  have hy : v / 2 ^ f ≤ u / 2 ^ f := Nat.div_le_div_right hle
  have hf' : f ≤ 100000000000 := by omega
  have HH1 := headAt_any a la ca u f w ha.sl na.lt hf'
  rw [Nat.mod_eq_of_lt hx] at HH1
  have HH2 : ∀ w', Sl w' b lb cb (wd.dcells lb (v : Int)) → _ := fun w' h => headAt_any b lb cb v f w' h nb.lt hf'
  rw [Nat.mod_eq_of_lt (Nat.lt_of_le_of_lt hy hx)] at HH2
  have HFo : ∀ w', _ := fun w' => foresee_any u v (u / 2 ^ f) (v / 2 ^ f) (2 ^ f) (u % 2 ^ f) (v % 2 ^ f) w' hy hx (by rw [Nat.mul_comm]; exact (Nat.div_add_mod _ _).symm) (by rw [Nat.mul_comm]; exact (Nat.div_add_mod _ _).symm) (Nat.mod_lt _ hF) (Nat.mod_lt _ hF)
  obtain ⟨x, hxe⟩ : ∃ x, x = u / 2 ^ f := ⟨_, rfl⟩
  obtain ⟨y, hye⟩ : ∃ y, y = v / 2 ^ f := ⟨_, rfl⟩
  rw [← hxe] at HH1 HFo
  rw [← hye] at HH2 HFo
  have K1 : Hid _ := HH1
  have K2 : Hid _ := HH2
  have K3 : Hid _ := HFo
  clear HH1 HH2 HFo hxe hye hx hy hF hun hn
  have hfn : f = n - 64 := by omega
  have HF : Hid _ := hf
  clear hf hfn
  go_enter Tryz.func98, Tryz.ntmps98
  go_wp2_with (go_at_call 77; refine (nBits a la ca u _ na HN.out).mono ?_; rintro e w' ⟨rfl, hw⟩; subst hw)
  refine (show Calls _ _ _ _ (fun e w' => e = .returned (.int .u64 (x : Int)) ∧ Below w.heap.size w w') from K1.out).mono ?_
  rintro e w1 ⟨rfl, hb1⟩
  have nb1 := nb.below hb1
  go_wp2_with (go_at_call 117; fail)
  refine (show Calls _ _ _ _ (fun e w' => e = .returned (.int .u64 (y : Int)) ∧ Below w1.heap.size w1 w') from K2.out w1 nb1.sl).mono ?_
  rintro e w2 ⟨rfl, hb2⟩
  go_wp2_with (go_at_call 116; fail)
  refine (show Calls _ _ _ _ (ForePost w2 u v) from K3.out w2).mono ?_
  rintro e w3 ⟨p0, p1, q0, q1, ev, rfl, hfo, hb3⟩
  have B3 : Below w.heap.size w w3 := hb1.trans ((hb2.trans (hb3.mono hb2.size)).mono hb1.size)
  have na3 := na.below B3
  have nb3 := nb.below B3
  clear K1 K2 K3 hb1 hb2 hb3 nb1
  obtain ⟨W, hW⟩ : ∃ W, W = w3.alloc (.cells #[.int .u64 (p0 : Int), .int .u64 (p1 : Int), .int .u64 (q0 : Int), .int .u64 (q1 : Int), .bool ev] 145) := ⟨_, rfl⟩
  have BW : Below w3.heap.size w3 W := by rw [hW]; exact (Below.refl _ _).alloc (Nat.le_refl _) _
  have RW : Row W w3.heap.size (foreCells p0 p1 q0 q1 ev) := by rw [hW]; exact Row.new w3 (foreCells p0 p1 q0 q1 ev) _
  have SW : w3.heap.size < W.heap.size := by rw [hW]; simp
  have B4 := B3.trans (BW.mono B3.size)
  have na4 := na3.below BW
  have nb4 := nb3.below BW
  by_cases hq : q0 = 0
  · subst hq
    go_wp2_with (go_at_call 101; fail)
    rw [show ((0 : Nat) : Int) = 0 from rfl] at hW
    rw [← hW]
    refine (nRest a b la lb ca cb u v W na4 nb4 hv0).mono ?_
    rintro e w5 ⟨ar, lr, cr, rfl, hr, hb5⟩
    go_wp2
    go_ret2
    refine ⟨b, lb, cb, ar, lr, cr, v, u % v, rfl, ⟨(nb4.below hb5).sl, hb.len⟩, hr, Nat.mod_lt _ hv0, Nat.le_of_lt (Nat.mod_lt _ hv0), hle, ?_, B4.trans (hb5.mono B4.size)⟩
    rw [Nat.gcd_comm v, ← Nat.gcd_rec, Nat.gcd_comm]
  · have hq' : ¬ (q0 : Int) = 0 := by omega
    obtain ⟨g1, g2, g3, g4⟩ := hfo.out hq
    obtain ⟨Y, hY⟩ := Int.eq_ofNat_of_zero_le g1
    obtain ⟨X, hX⟩ := Int.eq_ofNat_of_zero_le (Int.le_of_lt (Int.lt_of_le_of_lt g1 g2))
    rw [hX, hY] at g2
    rw [hX] at g3
    have hXv : X ≤ v := by omega
    have hYX : Y < X := by omega
    have HG : Hid (Nat.gcd X Y = Nat.gcd u v) := fore_gcd u v X Y p0 p1 q0 q1 ev hX.symm hY.symm g4
    have H1 : Hid _ := nBetween ev a b la lb ca cb u v p0 q0 X W na4 nb4 hfo.hp0 hfo.hq0 hX.symm (by have := na.lt; omega)
    have H2 : Hid (∀ w', NI w' a la ca u → NI w' b lb cb v → Calls Tryz.prog 118 #[.slice a la ca, .slice b lb cb, .int .u64 (p1 : Int), .int .u64 (q1 : Int), .bool (!ev)] w' (GotN w' Y)) := fun w' h1 h2 =>
      nBetween (!ev) a b la lb ca cb u v p1 q1 Y w' h1 h2 hfo.hp1 hfo.hq1 (by rw [sgv_not]; simpa using hY.symm) (by have := na.lt; omega)
    clear g1 g2 g3 g4 hX hY hfo
    go_wp2_with (go_at_call 118; fail)
    rw [← hW]
    refine (show Calls _ _ _ _ (GotN W X) from H1.out).mono ?_
    rintro e w5 ⟨ax, lx, cx, rfl, hx5, hb5⟩
    have R5 := RW.below hb5 SW
    have c1 : w5.cell? ⟨w3.heap.size, 1, none⟩ = some (.int .u64 (p1 : Int)) := R5.cell 1 _ rfl
    have c3 : w5.cell? ⟨w3.heap.size, 3, none⟩ = some (.int .u64 (q1 : Int)) := R5.cell 3 _ rfl
    have c4 : w5.cell? ⟨w3.heap.size, 4, none⟩ = some (.bool ev) := R5.cell 4 _ rfl
    have na5 := na4.below hb5
    have nb5 := nb4.below hb5
    go_wp2_with (go_at_call 118; fail)
    refine (show Calls _ _ _ _ (GotN w5 Y) from H2.out w5 na5 nb5).mono ?_
    rintro e w6 ⟨ay, ly, cy, rfl, hy6, hb6⟩
    go_wp2
    go_ret2
    exact ⟨ax, lx, cx, ay, ly, cy, X, Y, rfl, hx5.below hb6, hy6, by omega, by omega, by omega, HG.out, B4.trans ((hb5.trans (hb6.mono hb5.size)).mono B4.size)⟩

end Go.Proofs.YtaekgomplkkocaaGreatDoor

namespace Go.Proofs.YtaekgomplkkocaaGreatDoor
open Go.RowKit
set_option linter.unusedVariables false

/-- What holds at the head of each round of Gcd: two numbers of the same greatest divisor, the second not above the first; k is the second. -/
def GcdRel (w : World) (g k : Nat) (av bv : Value) (wr : World) : Prop := ∃ (a : Option Addr) (la ca : Nat) (b : Option Addr) (lb cb u : Nat), av = .slice a la ca ∧ bv = .slice b lb cb ∧ ND wr a la ca u ∧ ND wr b lb cb k ∧ k ≤ u ∧ la ≤ 1000000 ∧ Nat.gcd u k = g ∧ Below w.heap.size w wr
theorem bt_small {v : Nat} (h : bt.nlen v ≤ 64) : v < 18446744073709551616 := Nat.lt_of_lt_of_le (bt.nlen_lt v) (Nat.le_trans (Nat.pow_le_pow_right (by decide) h) (by decide))
theorem nSmall (a : Option Addr) (l c u : Nat) (w : World) (h : NI w a l c u) (h64 : u < 18446744073709551616) : Calls Tryz.prog 100 #[.slice a l c] w fun e w' => e = .returned (.int .u64 (u : Int)) ∧ Below w.heap.size w w' :=
  small_any a l c u w h.sl h.lt h64
set_option maxRecDepth 100000 in
set_option maxHeartbeats 2000000 in
theorem nGcd (a b : Option Addr) (la lb ca cb u v : Nat) (w : World) (ha : NI w a la ca u) (hb : NI w b lb cb v) :
    Calls Tryz.prog 67 #[.slice a la ca, .slice b lb cb] w (GotN w (Nat.gcd u v)) := by
  obtain ⟨g, hg⟩ : ∃ g, g = Nat.gcd u v := ⟨_, rfl⟩
  have HG : Hid _ := hg.symm
  rw [← hg]
  clear hg
  have hlu := wd.nlen_le ha.lt
  have hlv := wd.nlen_le hb.lt
  have hfa := ha.few
  have hfb := hb.few
  go_enter Tryz.func67, Tryz.ntmps67
  go_wp2_with (go_at_call 79; fail)
  refine (nTrim a la ca u w ha).mono ?_
  rintro e w1 ⟨a1, la1, ca1, rfl, ha1, hb1⟩
  go_wp2_with (go_at_call 79; fail)
  refine (nTrim b lb cb v w1 (hb.below hb1)).mono ?_
  rintro e w2 ⟨b2, lb2, cb2, rfl, hb2', hb2⟩
  have ha2 := ha1.below hb2
  have hla2 : la1 ≤ 1000000 := by rw [ha1.len]; omega
  have hlb2 : lb2 ≤ 1000000 := by rw [hb2'.len]; omega
  have B2 : Below w.heap.size w w2 := hb1.trans (hb2.mono hb1.size)
  clear ha hb ha1 hb1 hb2 hlu hlv hfa hfb
  obtain ⟨c, hc⟩ : ∃ c, c = cmpI (u : Int) v := ⟨_, rfl⟩
  go_wp2_with (go_at_call 54; fail)
  refine (nCmp a1 b2 la1 lb2 ca1 cb2 u v w2 (ha2.to hla2) (hb2'.to hlb2) hc).mono ?_
  rintro e w3 ⟨rfl, hb3⟩
  have ha3 := ha2.below hb3
  have hb3' := hb2'.below hb3
  have B3 : Below w.heap.size w w3 := B2.trans (hb3.mono B2.size)
  clear ha2 hb2' hb3 B2
  rcases Nat.lt_or_ge u v with huv | huv
  · have hc0 : c < 0 := by rw [hc]; unfold cmpI; rw [if_pos (by omega)]; decide
    have HST : Hid (GcdRel w g u (.slice b2 lb2 cb2) (.slice a1 la1 ca1) w3) := ⟨b2, lb2, cb2, a1, la1, ca1, v, rfl, rfl, hb3', ha3, by omega, hlb2, by rw [Nat.gcd_comm]; exact HG.out, B3⟩
    clear hc ha3 hb3' B3 HG huv
    go_wp2
    go_loopg [0, 1] u (fun k av bv wr => GcdRel w g k av bv wr)
    case atStart => exact HST.out
    case round =>
      clear HST
      obtain ⟨a, la, ca, b, lb, cb, U, rfl, rfl, ha, hb, hle, hla, hgcd, hbel⟩ := hrel
      have hlb : lb ≤ 1000000 := by rw [hb.len]; have := mono_wd hle; rw [← ha.len] at this; omega
      have na := ha.to hla
      have nb := hb.to hlb
      obtain ⟨n, hn⟩ : ∃ n, n = bt.nlen gk := ⟨_, rfl⟩
      have HN : Hid _ := hn
      have HGC : Hid _ := hgcd
      by_cases h64 : 64 < n
      · have h64' : (64 : Int) < n := by omega
        have HV : Hid (64 < bt.nlen gk) := by unfold Hid; rw [← hn]; exact h64
        clear hn hgcd
        go_wp2_with (go_at_call 77; refine (nBits b lb cb gk _ nb HN.out).mono ?_; rintro e w' ⟨rfl, hw⟩; subst hw)
        refine (nNearer a b la lb ca cb U gk wr ha hb hla hle HV.out).mono ?_
        rintro e w5 ⟨ax, lx, cx, ay, ly, cy, X, Y, rfl, hX, hY, g1, g2, g3, g4, hb5⟩
        go_wp2
        go_roundg Y
        case measure => exact g1
        case rel => exact ⟨ax, lx, cx, ay, ly, cy, X, rfl, rfl, hX, hY, g2, by rw [hX.len]; have := mono_wd g3; rw [← ha.len] at this; omega, by rw [g4]; exact HGC.out, hbel.trans (hb5.mono hbel.size)⟩
      · have h64' : ¬ (64 : Int) < n := by omega
        have hs : gk < 18446744073709551616 := bt_small (by rw [← hn]; omega)
        clear hn hgcd
        rcases Nat.eq_zero_or_pos gk with h0 | h0
        · subst h0
          have hl0 : lb = 0 := by rw [hb.len, wd.nlen_zero]
          subst hl0
          have hUg : U = g := by have := HGC.out; simpa using this
          subst hUg
          go_wp2_with (go_at_call 77; refine (nBits b 0 cb 0 _ nb HN.out).mono ?_; rintro e w' ⟨rfl, hw⟩; subst hw)
          go_ret
          exact ⟨a, la, ca, rfl, ha, hbel⟩
        · have hl0 : 0 < lb := by rw [hb.len]; exact wd.nlen_pos h0
          have hl1 : ¬ (lb : Int) = 0 := by omega
          obtain ⟨R, hR⟩ : ∃ R, R = U % gk := ⟨_, rfl⟩
          have hRl : R < gk := by rw [hR]; exact Nat.mod_lt _ h0
          have HRG : Hid (Nat.gcd gk R = g) := by unfold Hid; rw [hR, ← HGC.out, Nat.gcd_comm gk, ← Nat.gcd_rec, Nat.gcd_comm]
          have hgl : g ≤ gk := by have := Nat.gcd_le_right U h0; have e := HGC.out; omega
          have HRE : Hid _ := hR
          clear hR
          go_wp2_with (go_at_call 77; refine (nBits b lb cb gk _ nb HN.out).mono ?_; rintro e w' ⟨rfl, hw⟩; subst hw)
          refine (nSmall b lb cb gk wr nb hs).mono ?_
          rintro e w5 ⟨rfl, hb5⟩
          go_wp2_with (go_at_call 101; fail)
          have HRS := nRest a b la lb ca cb U gk w5 (na.below hb5) (nb.below hb5) h0
          rw [← HRE.out] at HRS
          refine HRS.mono ?_
          rintro e w6 ⟨ar, lr, cr, rfl, hr6, hb6⟩
          have nr6 : NI w6 ar lr cr R := hr6.to (by rw [hr6.len]; have := mono_wd (Nat.le_of_lt hRl); rw [← hb.len] at this; omega)
          go_wp2_with (go_at_call 100; fail)
          refine (nSmall ar lr cr R w6 nr6 (by omega)).mono ?_
          rintro e w7 ⟨rfl, hb7⟩
          go_wp2_with (go_at_call 99; fail)
          have HGS := gcdSmall_any gk R hs (by omega) w7
          rw [HRG.out] at HGS
          refine HGS.mono ?_
          rintro e w8 ⟨rfl, hb8⟩
          go_wp2_with (go_at_call 55; fail)
          refine (nOf g (by omega) rfl w8).mono ?_
          rintro e w9 ⟨a9, l9, c9, rfl, h9, hb9⟩
          go_wp2
          go_ret
          exact ⟨a9, l9, c9, rfl, h9, hbel.trans ((hb5.trans ((hb6.trans ((hb7.trans ((hb8.trans (hb9.mono hb8.size)).mono hb7.size)).mono hb6.size)).mono hb5.size)).mono hbel.size)⟩
  · have hc0 : ¬ c < 0 := by rw [hc]; unfold cmpI; rw [if_neg (by omega)]; split <;> decide
    have HST : Hid (GcdRel w g v (.slice a1 la1 ca1) (.slice b2 lb2 cb2) w3) := ⟨a1, la1, ca1, b2, lb2, cb2, u, rfl, rfl, ha3, hb3', huv, hla2, HG.out, B3⟩
    clear hc ha3 hb3' B3 HG huv
    go_wp2
    go_loopg [0, 1] v (fun k av bv wr => GcdRel w g k av bv wr)
    case atStart => exact HST.out
    case round =>
      clear HST
      obtain ⟨a, la, ca, b, lb, cb, U, rfl, rfl, ha, hb, hle, hla, hgcd, hbel⟩ := hrel
      have hlb : lb ≤ 1000000 := by rw [hb.len]; have := mono_wd hle; rw [← ha.len] at this; omega
      have na := ha.to hla
      have nb := hb.to hlb
      obtain ⟨n, hn⟩ : ∃ n, n = bt.nlen gk := ⟨_, rfl⟩
      have HN : Hid _ := hn
      have HGC : Hid _ := hgcd
      by_cases h64 : 64 < n
      · have h64' : (64 : Int) < n := by omega
        have HV : Hid (64 < bt.nlen gk) := by unfold Hid; rw [← hn]; exact h64
        clear hn hgcd
        go_wp2_with (go_at_call 77; refine (nBits b lb cb gk _ nb HN.out).mono ?_; rintro e w' ⟨rfl, hw⟩; subst hw)
        refine (nNearer a b la lb ca cb U gk wr ha hb hla hle HV.out).mono ?_
        rintro e w5 ⟨ax, lx, cx, ay, ly, cy, X, Y, rfl, hX, hY, g1, g2, g3, g4, hb5⟩
        go_wp2
        go_roundg Y
        case measure => exact g1
        case rel => exact ⟨ax, lx, cx, ay, ly, cy, X, rfl, rfl, hX, hY, g2, by rw [hX.len]; have := mono_wd g3; rw [← ha.len] at this; omega, by rw [g4]; exact HGC.out, hbel.trans (hb5.mono hbel.size)⟩
      · have h64' : ¬ (64 : Int) < n := by omega
        have hs : gk < 18446744073709551616 := bt_small (by rw [← hn]; omega)
        clear hn hgcd
        rcases Nat.eq_zero_or_pos gk with h0 | h0
        · subst h0
          have hl0 : lb = 0 := by rw [hb.len, wd.nlen_zero]
          subst hl0
          have hUg : U = g := by have := HGC.out; simpa using this
          subst hUg
          go_wp2_with (go_at_call 77; refine (nBits b 0 cb 0 _ nb HN.out).mono ?_; rintro e w' ⟨rfl, hw⟩; subst hw)
          go_ret
          exact ⟨a, la, ca, rfl, ha, hbel⟩
        · have hl0 : 0 < lb := by rw [hb.len]; exact wd.nlen_pos h0
          have hl1 : ¬ (lb : Int) = 0 := by omega
          obtain ⟨R, hR⟩ : ∃ R, R = U % gk := ⟨_, rfl⟩
          have hRl : R < gk := by rw [hR]; exact Nat.mod_lt _ h0
          have HRG : Hid (Nat.gcd gk R = g) := by unfold Hid; rw [hR, ← HGC.out, Nat.gcd_comm gk, ← Nat.gcd_rec, Nat.gcd_comm]
          have hgl : g ≤ gk := by have := Nat.gcd_le_right U h0; have e := HGC.out; omega
          have HRE : Hid _ := hR
          clear hR
          go_wp2_with (go_at_call 77; refine (nBits b lb cb gk _ nb HN.out).mono ?_; rintro e w' ⟨rfl, hw⟩; subst hw)
          refine (nSmall b lb cb gk wr nb hs).mono ?_
          rintro e w5 ⟨rfl, hb5⟩
          go_wp2_with (go_at_call 101; fail)
          have HRS := nRest a b la lb ca cb U gk w5 (na.below hb5) (nb.below hb5) h0
          rw [← HRE.out] at HRS
          refine HRS.mono ?_
          rintro e w6 ⟨ar, lr, cr, rfl, hr6, hb6⟩
          have nr6 : NI w6 ar lr cr R := hr6.to (by rw [hr6.len]; have := mono_wd (Nat.le_of_lt hRl); rw [← hb.len] at this; omega)
          go_wp2_with (go_at_call 100; fail)
          refine (nSmall ar lr cr R w6 nr6 (by omega)).mono ?_
          rintro e w7 ⟨rfl, hb7⟩
          go_wp2_with (go_at_call 99; fail)
          have HGS := gcdSmall_any gk R hs (by omega) w7
          rw [HRG.out] at HGS
          refine HGS.mono ?_
          rintro e w8 ⟨rfl, hb8⟩
          go_wp2_with (go_at_call 55; fail)
          refine (nOf g (by omega) rfl w8).mono ?_
          rintro e w9 ⟨a9, l9, c9, rfl, h9, hb9⟩
          go_wp2
          go_ret
          exact ⟨a9, l9, c9, rfl, h9, hbel.trans ((hb5.trans ((hb6.trans ((hb7.trans ((hb8.trans (hb9.mono hb8.size)).mono hb7.size)).mono hb6.size)).mono hb5.size)).mono hbel.size)⟩
end Go.Proofs.YtaekgomplkkocaaGreatDoor

namespace Go.Proofs.YtaekgomplkkocaaGreatDoor
set_option linter.unusedVariables false

theorem low_nat {a b c d : Nat} (h : a * d = c * b) (g : Nat.gcd a b = 1) (g' : Nat.gcd c d = 1) (hb : 0 < b) (hd : 0 < d) : a = c ∧ b = d := by
  have h1 : b ∣ d := by
    have : b ∣ a * d := ⟨c, by rw [h, Nat.mul_comm]⟩
    exact Nat.Coprime.dvd_of_dvd_mul_left (show Nat.Coprime b a by unfold Nat.Coprime; rwa [Nat.gcd_comm]) this
  have h2 : d ∣ b := by
    have : d ∣ c * b := ⟨a, by rw [← h, Nat.mul_comm]⟩
    exact Nat.Coprime.dvd_of_dvd_mul_left (show Nat.Coprime d c by unfold Nat.Coprime; rwa [Nat.gcd_comm]) this
  have e : b = d := Nat.dvd_antisymm h1 h2
  subst e
  exact ⟨Nat.eq_of_mul_eq_mul_right hb h, rfl⟩
theorem low_one {n m : Int} {b d : Nat} (h : n * d = m * b) (g : Nat.gcd n.natAbs b = 1) (g' : Nat.gcd m.natAbs d = 1) (hb : 0 < b) (hd : 0 < d) : n = m ∧ b = d := by
  have h1 : n.natAbs * d = m.natAbs * b := by
    have := congrArg Int.natAbs h
    simpa [Int.natAbs_mul] using this
  obtain ⟨e1, e2⟩ := low_nat h1 g g' hb hd
  subst e2
  exact ⟨Int.eq_of_mul_eq_mul_right (by omega) h, rfl⟩
/-- Both parts over what they share: the same fraction, in lowest terms. -/
theorem low_terms (n : Int) (d : Nat) (hd : 0 < d) : Nat.gcd (n.natAbs / Nat.gcd n.natAbs d) (d / Nat.gcd n.natAbs d) = 1 ∧ 0 < d / Nat.gcd n.natAbs d ∧ (n.sign * (n.natAbs / Nat.gcd n.natAbs d : Nat)) * d = n * (d / Nat.gcd n.natAbs d : Nat) := by
  have hg : 0 < Nat.gcd n.natAbs d := Nat.gcd_pos_of_pos_right _ hd
  refine ⟨by rw [Nat.gcd_div (Nat.gcd_dvd_left _ _) (Nat.gcd_dvd_right _ _)]; exact Nat.div_self hg, Nat.div_pos (Nat.le_of_dvd hd (Nat.gcd_dvd_right _ _)) hg, ?_⟩
  obtain ⟨p, hp⟩ := Nat.gcd_dvd_left n.natAbs d
  obtain ⟨q, hq⟩ := Nat.gcd_dvd_right n.natAbs d
  obtain ⟨G, hG⟩ : ∃ G, G = Nat.gcd n.natAbs d := ⟨_, rfl⟩
  rw [← hG] at hp hq hg ⊢
  have e1 : n.natAbs / G = p := by rw [hp, Nat.mul_div_cancel_left _ hg]
  have e2 : d / G = q := by rw [hq, Nat.mul_div_cancel_left _ hg]
  rw [e1, e2]
  have hn : n = n.sign * ((G * p : Nat) : Int) := by rw [← hp]; exact (Int.sign_mul_natAbs n).symm
  have hd' : (d : Int) = (G : Int) * q := by rw [hq]; simp
  rw [hd']
  conv => rhs; rw [hn]
  simp only [Int.natCast_mul]
  grind
end Go.Proofs.YtaekgomplkkocaaGreatDoor

namespace Go.Proofs.YtaekgomplkkocaaGreatDoor
open Go.RowKit
set_option linter.unusedVariables false

/-- The parts of a fraction, one whose lower part is nought being nought. -/
def pN (z : Int) (D : Nat) : Int := if D = 0 then 0 else z
def pD (D : Nat) : Nat := if D = 0 then 1 else D
theorem pD_pos (D : Nat) : 0 < pD D := by unfold pD; split <;> omega
/-- The parts of a fraction in lowest terms. -/
def lowN (z : Int) (D : Nat) : Int := z.sign * ((z.natAbs / Nat.gcd z.natAbs D : Nat) : Int)
def lowD (z : Int) (D : Nat) : Nat := D / Nat.gcd z.natAbs D
theorem lowN_abs (z : Int) (D : Nat) : (lowN z D).natAbs = z.natAbs / Nat.gcd z.natAbs D := by
  unfold lowN
  rw [Int.natAbs_mul]
  by_cases h : z = 0
  · subst h; simp
  · rw [Int.natAbs_sign_of_ne_zero h, Nat.one_mul, Int.natAbs_natCast]
theorem lowN_le (z : Int) (D : Nat) : (lowN z D).natAbs ≤ z.natAbs := by rw [lowN_abs]; exact Nat.div_le_self _ _
theorem lowD_le (z : Int) (D : Nat) : lowD z D ≤ D := Nat.div_le_self _ _
theorem lowD_pos {z : Int} {D : Nat} (h : 0 < D) : 0 < lowD z D := (low_terms z D h).2.1
theorem low_gcd {z : Int} {D : Nat} (h : 0 < D) : Nat.gcd (lowN z D).natAbs (lowD z D) = 1 := by rw [lowN_abs]; exact (low_terms z D h).1
theorem low_same {z : Int} {D : Nat} (h : 0 < D) : lowN z D * D = z * lowD z D := (low_terms z D h).2.2
theorem lowN_sg {w : World} {n : Bool} {a : Option Addr} {l c : Nat} {z : Int} (h : WI w n a l c z) (D : Nat) : lowN z D = sgz n (z.natAbs / Nat.gcd z.natAbs D) := by
  have h1 := h.neg
  have h2 := h.pos
  unfold lowN sgz
  rcases wsign_cases z with ⟨hz, e⟩ | ⟨hz, e⟩ | ⟨hz, e⟩
  · rw [e]; cases n
    · have := h2 rfl; omega
    · simp
  · subst hz; simp
  · rw [e]; cases n
    · simp
    · have := h1 rfl; omega
/-- A fraction as it comes. -/
structure QI (w : World) (K : Nat) (n : Bool) (a : Option Addr) (l c : Nat) (d : Option Addr) (m k : Nat) (z : Int) (D : Nat) : Prop where
  wi : WI w n a l c z
  ni : NI w d m k D
  zs : z.natAbs < 4294967296 ^ K
  ds : D < 4294967296 ^ K
  k1 : 1 ≤ K
  kk : K ≤ 10000
/-- A fraction, both of its parts in their one form. -/
structure QN (w : World) (n : Bool) (a : Option Addr) (l c : Nat) (d : Option Addr) (m k : Nat) (z : Int) (D : Nat) : Prop where
  wn : WN w n a l c z
  nd : ND w d m k D
theorem QI.below {w w' : World} {K : Nat} {n : Bool} {a : Option Addr} {l c : Nat} {d : Option Addr} {m k : Nat} {z : Int} {D : Nat} (h : QI w K n a l c d m k z D) (hb : Below w.heap.size w w') : QI w' K n a l c d m k z D := ⟨h.wi.below hb, h.ni.below hb, h.zs, h.ds, h.k1, h.kk⟩
theorem QN.below {w w' : World} {n : Bool} {a : Option Addr} {l c : Nat} {d : Option Addr} {m k : Nat} {z : Int} {D : Nat} (h : QN w n a l c d m k z D) (hb : Below w.heap.size w w') : QN w' n a l c d m k z D := ⟨h.wn.below hb, h.nd.below hb⟩
theorem QN.qi {w : World} {n : Bool} {a : Option Addr} {l c : Nat} {d : Option Addr} {m k : Nat} {z : Int} {D : Nat} (h : QN w n a l c d m k z D) (K : Nat) (k1 : 1 ≤ K) (kk : K ≤ 10000) (hz : z.natAbs < 4294967296 ^ K) (hD : D < 4294967296 ^ K) : QI w K n a l c d m k z D :=
  ⟨h.wn.wi K (by omega) hz, h.nd.ni K (by omega) hD, hz, hD, k1, kk⟩
def GotPts (w : World) (K : Nat) (z : Int) (D : Nat) (e : Ending) (w' : World) : Prop := ∃ (n : Bool) (a : Option Addr) (l c : Nat) (d : Option Addr) (m k : Nat), e = .returned (.tuple #[.agg #[.bool n, .slice a l c], .slice d m k]) ∧ QI w' K n a l c d m k (pN z D) (pD D) ∧ Below w.heap.size w w'
def GotQ (w : World) (z : Int) (D : Nat) (e : Ending) (w' : World) : Prop := ∃ (n : Bool) (a : Option Addr) (l c : Nat) (d : Option Addr) (m k : Nat), e = .returned (.agg #[.bool n, .slice a l c, .slice d m k]) ∧ QN w' n a l c d m k z D ∧ Far w.heap.size a l ∧ Far w.heap.size d m ∧ Below w.heap.size w w'
theorem NI.put2 {w : World} {a : Option Addr} {l c u b : Nat} (h : NI w a l c u) (hn : NA b a l) (x y : Value) : NI ((w.setCell ⟨b, 0, none⟩ x).setCell ⟨b, 1, none⟩ y) a l c u := (h.put hn 0 x).put hn 1 y
theorem wi_nul (w : World) : WI w false none 0 0 0 := ⟨⟨sl_nil w, by decide, by decide⟩, fun _ => Int.le_refl 0, fun _ => Int.le_refl 0⟩
theorem wi_nat {w : World} {d : Option Addr} {l c D : Nat} (h : NI w d l c D) : WI w false d l c (D : Int) := ⟨by simpa using h, by simp, by simp⟩
theorem endPts {w w2 : World} {K : Nat} {n : Bool} {a : Option Addr} {l c : Nat} {d : Option Addr} {m k : Nat} {z : Int} {D : Nat} (b : Nat) (hb : w.heap.size ≤ b) (B : Below w.heap.size w w2) (h : QI w2 K n a l c d m k (pN z D) (pD D)) (n1 : NA b a l) (n2 : NA b d m) (u v : Value) :
    GotPts w K z D (.returned (.tuple #[.agg #[.bool n, .slice a l c], .slice d m k])) ((w2.setCell ⟨b, 0, none⟩ u).setCell ⟨b, 1, none⟩ v) :=
  ⟨n, a, l, c, d, m, k, rfl, ⟨h.wi.put2 n1 u v, h.ni.put2 n2 u v, h.zs, h.ds, h.k1, h.kk⟩, below_put2 B hb u v⟩
theorem below_put3 {B b : Nat} {w w' : World} (h : Below B w w') (hb : B ≤ b) (u v t : Value) : Below B w (((w'.setCell ⟨b, 0, none⟩ u).setCell ⟨b, 1, none⟩ v).setCell ⟨b, 2, none⟩ t) := ((h.setCell hb _).setCell hb _).setCell hb _
theorem below_put4 {B b : Nat} {w w' : World} (h : Below B w w') (hb : B ≤ b) (u v t s : Value) : Below B w ((((w'.setCell ⟨b, 0, none⟩ u).setCell ⟨b, 1, none⟩ v).setCell ⟨b, 2, none⟩ t).setCell ⟨b, 3, none⟩ s) := (((h.setCell hb _).setCell hb _).setCell hb _).setCell hb _
theorem cell_put1 {w : World} {n k i j : Nat} {v : Value} (h : w.cell? ⟨n, i, none⟩ = some v) (hk : n ≠ k) (u : Value) : (w.setCell ⟨k, j, none⟩ u).cell? ⟨n, i, none⟩ = some v := by
  rw [World.cell?_setCell_other _ _ _ _ (by intro q; simp only [Addr.mk.injEq] at q; omega)]; exact h
theorem cell_put2 {w : World} {n k i : Nat} {x : Value} (h : w.cell? ⟨n, i, none⟩ = some x) (hk : n ≠ k) (u v : Value) : ((w.setCell ⟨k, 0, none⟩ u).setCell ⟨k, 1, none⟩ v).cell? ⟨n, i, none⟩ = some x := cell_put1 (cell_put1 h hk u) hk v
theorem cell_put3 {w : World} {n k i : Nat} {x : Value} (h : w.cell? ⟨n, i, none⟩ = some x) (hk : n ≠ k) (u v t : Value) : (((w.setCell ⟨k, 0, none⟩ u).setCell ⟨k, 1, none⟩ v).setCell ⟨k, 2, none⟩ t).cell? ⟨n, i, none⟩ = some x := cell_put1 (cell_put2 h hk u v) hk t
theorem cell_put4 {w : World} {n k i : Nat} {x : Value} (h : w.cell? ⟨n, i, none⟩ = some x) (hk : n ≠ k) (u v t s : Value) : ((((w.setCell ⟨k, 0, none⟩ u).setCell ⟨k, 1, none⟩ v).setCell ⟨k, 2, none⟩ t).setCell ⟨k, 3, none⟩ s).cell? ⟨n, i, none⟩ = some x := cell_put1 (cell_put3 h hk u v t) hk s
theorem ND.put3 {w : World} {a : Option Addr} {l c u b : Nat} (h : ND w a l c u) (hn : NA b a l) (x y z : Value) : ND (((w.setCell ⟨b, 0, none⟩ x).setCell ⟨b, 1, none⟩ y).setCell ⟨b, 2, none⟩ z) a l c u := ((h.put hn 0 x).put hn 1 y).put hn 2 z
theorem QN.put3 {w : World} {n : Bool} {a : Option Addr} {l c : Nat} {d : Option Addr} {m k : Nat} {z : Int} {D : Nat} {b : Nat} (h : QN w n a l c d m k z D) (n1 : NA b a l) (n2 : NA b d m) (u v t : Value) : QN (((w.setCell ⟨b, 0, none⟩ u).setCell ⟨b, 1, none⟩ v).setCell ⟨b, 2, none⟩ t) n a l c d m k z D :=
  ⟨⟨h.wn.nd.put3 n1 u v t, h.wn.sg⟩, h.nd.put3 n2 u v t⟩
theorem endQ {w w2 : World} {n : Bool} {a : Option Addr} {l c : Nat} {d : Option Addr} {m k : Nat} {z : Int} {D : Nat} (b : Nat) (hb : w.heap.size ≤ b) (B : Below w.heap.size w w2) (h : QN w2 n a l c d m k z D) (f1 : Far (b + 1) a l) (f2 : Far (b + 1) d m) (u v t : Value) :
    GotQ w z D (.returned (.agg #[.bool n, .slice a l c, .slice d m k])) (((w2.setCell ⟨b, 0, none⟩ u).setCell ⟨b, 1, none⟩ v).setCell ⟨b, 2, none⟩ t) :=
  ⟨n, a, l, c, d, m, k, rfl, h.put3 (f1 b (by omega)) (f2 b (by omega)) u v t, f1.mono (by omega), f2.mono (by omega), below_put3 B hb u v t⟩
theorem bs_32 (w : World) (x00 x01 x02 x10 x11 : Value) (t0 t1 : TypeId) : ∃ W, W = ((w.alloc (.cells #[x00, x01, x02] t0)).alloc (.cells #[x10, x11] t1)) ∧ Below w.heap.size w W ∧ B3 W (w.heap.size) x00 x01 x02 ∧ Bx W (w.heap.size + 1) x10 x11 ∧ w.heap.size + 1 < W.heap.size := by
  have e0 : Below w.heap.size w (w.alloc (.cells #[x00, x01, x02] t0)) := (Below.refl _ _).alloc (Nat.le_refl _) _
  have h0 := b3_new w x00 x01 x02 t0
  have e1 : Below (w.alloc (.cells #[x00, x01, x02] t0)).heap.size (w.alloc (.cells #[x00, x01, x02] t0)) ((w.alloc (.cells #[x00, x01, x02] t0)).alloc (.cells #[x10, x11] t1)) := (Below.refl _ _).alloc (Nat.le_refl _) _
  have h1 := bx_new (w.alloc (.cells #[x00, x01, x02] t0)) x10 x11 t1
  rw [World.size_alloc] at h1
  exact ⟨_, rfl, also (e0) e1, (h0.on e1), h1, by simp⟩
theorem bs_23 (w : World) (x00 x01 x10 x11 x12 : Value) (t0 t1 : TypeId) : ∃ W, W = ((w.alloc (.cells #[x00, x01] t0)).alloc (.cells #[x10, x11, x12] t1)) ∧ Below w.heap.size w W ∧ Bx W (w.heap.size) x00 x01 ∧ B3 W (w.heap.size + 1) x10 x11 x12 ∧ w.heap.size + 1 < W.heap.size := by
  have e0 : Below w.heap.size w (w.alloc (.cells #[x00, x01] t0)) := (Below.refl _ _).alloc (Nat.le_refl _) _
  have h0 := bx_new w x00 x01 t0
  have e1 : Below (w.alloc (.cells #[x00, x01] t0)).heap.size (w.alloc (.cells #[x00, x01] t0)) ((w.alloc (.cells #[x00, x01] t0)).alloc (.cells #[x10, x11, x12] t1)) := (Below.refl _ _).alloc (Nat.le_refl _) _
  have h1 := b3_new (w.alloc (.cells #[x00, x01] t0)) x10 x11 x12 t1
  rw [World.size_alloc] at h1
  exact ⟨_, rfl, also (e0) e1, (h0.on e1), h1, by simp⟩
theorem bs_22 (w : World) (x00 x01 x10 x11 : Value) (t0 t1 : TypeId) : ∃ W, W = ((w.alloc (.cells #[x00, x01] t0)).alloc (.cells #[x10, x11] t1)) ∧ Below w.heap.size w W ∧ Bx W (w.heap.size) x00 x01 ∧ Bx W (w.heap.size + 1) x10 x11 ∧ w.heap.size + 1 < W.heap.size := by
  have e0 : Below w.heap.size w (w.alloc (.cells #[x00, x01] t0)) := (Below.refl _ _).alloc (Nat.le_refl _) _
  have h0 := bx_new w x00 x01 t0
  have e1 : Below (w.alloc (.cells #[x00, x01] t0)).heap.size (w.alloc (.cells #[x00, x01] t0)) ((w.alloc (.cells #[x00, x01] t0)).alloc (.cells #[x10, x11] t1)) := (Below.refl _ _).alloc (Nat.le_refl _) _
  have h1 := bx_new (w.alloc (.cells #[x00, x01] t0)) x10 x11 t1
  rw [World.size_alloc] at h1
  exact ⟨_, rfl, also (e0) e1, (h0.on e1), h1, by simp⟩
theorem bs_33 (w : World) (x00 x01 x02 x10 x11 x12 : Value) (t0 t1 : TypeId) : ∃ W, W = ((w.alloc (.cells #[x00, x01, x02] t0)).alloc (.cells #[x10, x11, x12] t1)) ∧ Below w.heap.size w W ∧ B3 W (w.heap.size) x00 x01 x02 ∧ B3 W (w.heap.size + 1) x10 x11 x12 ∧ w.heap.size + 1 < W.heap.size := by
  have e0 : Below w.heap.size w (w.alloc (.cells #[x00, x01, x02] t0)) := (Below.refl _ _).alloc (Nat.le_refl _) _
  have h0 := b3_new w x00 x01 x02 t0
  have e1 : Below (w.alloc (.cells #[x00, x01, x02] t0)).heap.size (w.alloc (.cells #[x00, x01, x02] t0)) ((w.alloc (.cells #[x00, x01, x02] t0)).alloc (.cells #[x10, x11, x12] t1)) := (Below.refl _ _).alloc (Nat.le_refl _) _
  have h1 := b3_new (w.alloc (.cells #[x00, x01, x02] t0)) x10 x11 x12 t1
  rw [World.size_alloc] at h1
  exact ⟨_, rfl, also (e0) e1, (h0.on e1), h1, by simp⟩
theorem bs_333 (w : World) (x00 x01 x02 x10 x11 x12 x20 x21 x22 : Value) (t0 t1 t2 : TypeId) : ∃ W, W = (((w.alloc (.cells #[x00, x01, x02] t0)).alloc (.cells #[x10, x11, x12] t1)).alloc (.cells #[x20, x21, x22] t2)) ∧ Below w.heap.size w W ∧ B3 W (w.heap.size) x00 x01 x02 ∧ B3 W (w.heap.size + 1) x10 x11 x12 ∧ B3 W (w.heap.size + 1 + 1) x20 x21 x22 ∧ w.heap.size + 1 + 1 < W.heap.size := by
  have e0 : Below w.heap.size w (w.alloc (.cells #[x00, x01, x02] t0)) := (Below.refl _ _).alloc (Nat.le_refl _) _
  have h0 := b3_new w x00 x01 x02 t0
  have e1 : Below (w.alloc (.cells #[x00, x01, x02] t0)).heap.size (w.alloc (.cells #[x00, x01, x02] t0)) ((w.alloc (.cells #[x00, x01, x02] t0)).alloc (.cells #[x10, x11, x12] t1)) := (Below.refl _ _).alloc (Nat.le_refl _) _
  have h1 := b3_new (w.alloc (.cells #[x00, x01, x02] t0)) x10 x11 x12 t1
  rw [World.size_alloc] at h1
  have e2 : Below ((w.alloc (.cells #[x00, x01, x02] t0)).alloc (.cells #[x10, x11, x12] t1)).heap.size ((w.alloc (.cells #[x00, x01, x02] t0)).alloc (.cells #[x10, x11, x12] t1)) (((w.alloc (.cells #[x00, x01, x02] t0)).alloc (.cells #[x10, x11, x12] t1)).alloc (.cells #[x20, x21, x22] t2)) := (Below.refl _ _).alloc (Nat.le_refl _) _
  have h2 := b3_new ((w.alloc (.cells #[x00, x01, x02] t0)).alloc (.cells #[x10, x11, x12] t1)) x20 x21 x22 t2
  rw [World.size_alloc, World.size_alloc] at h2
  exact ⟨_, rfl, also (also (e0) e1) e2, ((h0.on e1).on e2), (h1.on e2), h2, by simp⟩
theorem bs_3322 (w : World) (x00 x01 x02 x10 x11 x12 x20 x21 x30 x31 : Value) (t0 t1 t2 t3 : TypeId) : ∃ W, W = ((((w.alloc (.cells #[x00, x01, x02] t0)).alloc (.cells #[x10, x11, x12] t1)).alloc (.cells #[x20, x21] t2)).alloc (.cells #[x30, x31] t3)) ∧ Below w.heap.size w W ∧ B3 W (w.heap.size) x00 x01 x02 ∧ B3 W (w.heap.size + 1) x10 x11 x12 ∧ Bx W (w.heap.size + 1 + 1) x20 x21 ∧ Bx W (w.heap.size + 1 + 1 + 1) x30 x31 ∧ w.heap.size + 1 + 1 + 1 < W.heap.size := by
  have e0 : Below w.heap.size w (w.alloc (.cells #[x00, x01, x02] t0)) := (Below.refl _ _).alloc (Nat.le_refl _) _
  have h0 := b3_new w x00 x01 x02 t0
  have e1 : Below (w.alloc (.cells #[x00, x01, x02] t0)).heap.size (w.alloc (.cells #[x00, x01, x02] t0)) ((w.alloc (.cells #[x00, x01, x02] t0)).alloc (.cells #[x10, x11, x12] t1)) := (Below.refl _ _).alloc (Nat.le_refl _) _
  have h1 := b3_new (w.alloc (.cells #[x00, x01, x02] t0)) x10 x11 x12 t1
  rw [World.size_alloc] at h1
  have e2 : Below ((w.alloc (.cells #[x00, x01, x02] t0)).alloc (.cells #[x10, x11, x12] t1)).heap.size ((w.alloc (.cells #[x00, x01, x02] t0)).alloc (.cells #[x10, x11, x12] t1)) (((w.alloc (.cells #[x00, x01, x02] t0)).alloc (.cells #[x10, x11, x12] t1)).alloc (.cells #[x20, x21] t2)) := (Below.refl _ _).alloc (Nat.le_refl _) _
  have h2 := bx_new ((w.alloc (.cells #[x00, x01, x02] t0)).alloc (.cells #[x10, x11, x12] t1)) x20 x21 t2
  rw [World.size_alloc, World.size_alloc] at h2
  have e3 : Below (((w.alloc (.cells #[x00, x01, x02] t0)).alloc (.cells #[x10, x11, x12] t1)).alloc (.cells #[x20, x21] t2)).heap.size (((w.alloc (.cells #[x00, x01, x02] t0)).alloc (.cells #[x10, x11, x12] t1)).alloc (.cells #[x20, x21] t2)) ((((w.alloc (.cells #[x00, x01, x02] t0)).alloc (.cells #[x10, x11, x12] t1)).alloc (.cells #[x20, x21] t2)).alloc (.cells #[x30, x31] t3)) := (Below.refl _ _).alloc (Nat.le_refl _) _
  have h3 := bx_new (((w.alloc (.cells #[x00, x01, x02] t0)).alloc (.cells #[x10, x11, x12] t1)).alloc (.cells #[x20, x21] t2)) x30 x31 t3
  rw [World.size_alloc, World.size_alloc, World.size_alloc] at h3
  exact ⟨_, rfl, also (also (also (e0) e1) e2) e3, (((h0.on e1).on e2).on e3), ((h1.on e2).on e3), (h2.on e3), h3, by simp⟩
theorem bs_223 (w : World) (x00 x01 x10 x11 x20 x21 x22 : Value) (t0 t1 t2 : TypeId) : ∃ W, W = (((w.alloc (.cells #[x00, x01] t0)).alloc (.cells #[x10, x11] t1)).alloc (.cells #[x20, x21, x22] t2)) ∧ Below w.heap.size w W ∧ Bx W (w.heap.size) x00 x01 ∧ Bx W (w.heap.size + 1) x10 x11 ∧ B3 W (w.heap.size + 1 + 1) x20 x21 x22 ∧ w.heap.size + 1 + 1 < W.heap.size := by
  have e0 : Below w.heap.size w (w.alloc (.cells #[x00, x01] t0)) := (Below.refl _ _).alloc (Nat.le_refl _) _
  have h0 := bx_new w x00 x01 t0
  have e1 : Below (w.alloc (.cells #[x00, x01] t0)).heap.size (w.alloc (.cells #[x00, x01] t0)) ((w.alloc (.cells #[x00, x01] t0)).alloc (.cells #[x10, x11] t1)) := (Below.refl _ _).alloc (Nat.le_refl _) _
  have h1 := bx_new (w.alloc (.cells #[x00, x01] t0)) x10 x11 t1
  rw [World.size_alloc] at h1
  have e2 : Below ((w.alloc (.cells #[x00, x01] t0)).alloc (.cells #[x10, x11] t1)).heap.size ((w.alloc (.cells #[x00, x01] t0)).alloc (.cells #[x10, x11] t1)) (((w.alloc (.cells #[x00, x01] t0)).alloc (.cells #[x10, x11] t1)).alloc (.cells #[x20, x21, x22] t2)) := (Below.refl _ _).alloc (Nat.le_refl _) _
  have h2 := b3_new ((w.alloc (.cells #[x00, x01] t0)).alloc (.cells #[x10, x11] t1)) x20 x21 x22 t2
  rw [World.size_alloc, World.size_alloc] at h2
  exact ⟨_, rfl, also (also (e0) e1) e2, ((h0.on e1).on e2), (h1.on e2), h2, by simp⟩
theorem bs_2 (w : World) (x00 x01 : Value) (t0 : TypeId) : ∃ W, W = (w.alloc (.cells #[x00, x01] t0)) ∧ Below w.heap.size w W ∧ Bx W (w.heap.size) x00 x01 ∧ w.heap.size < W.heap.size := by
  have e0 : Below w.heap.size w (w.alloc (.cells #[x00, x01] t0)) := (Below.refl _ _).alloc (Nat.le_refl _) _
  have h0 := bx_new w x00 x01 t0
  exact ⟨_, rfl, e0, h0, by simp⟩
theorem bs_3 (w : World) (x00 x01 x02 : Value) (t0 : TypeId) : ∃ W, W = (w.alloc (.cells #[x00, x01, x02] t0)) ∧ Below w.heap.size w W ∧ B3 W (w.heap.size) x00 x01 x02 ∧ w.heap.size < W.heap.size := by
  have e0 : Below w.heap.size w (w.alloc (.cells #[x00, x01, x02] t0)) := (Below.refl _ _).alloc (Nat.le_refl _) _
  have h0 := b3_new w x00 x01 x02 t0
  exact ⟨_, rfl, e0, h0, by simp⟩
theorem bs_4 (w : World) (x00 x01 x02 x03 : Value) (t0 : TypeId) : ∃ W, W = (w.alloc (.cells #[x00, x01, x02, x03] t0)) ∧ Below w.heap.size w W ∧ B4 W (w.heap.size) x00 x01 x02 x03 ∧ w.heap.size < W.heap.size := by
  have e0 : Below w.heap.size w (w.alloc (.cells #[x00, x01, x02, x03] t0)) := (Below.refl _ _).alloc (Nat.le_refl _) _
  have h0 := b4_new w x00 x01 x02 x03 t0
  exact ⟨_, rfl, e0, h0, by simp⟩
theorem bs_34 (w : World) (x00 x01 x02 x10 x11 x12 x13 : Value) (t0 t1 : TypeId) : ∃ W, W = ((w.alloc (.cells #[x00, x01, x02] t0)).alloc (.cells #[x10, x11, x12, x13] t1)) ∧ Below w.heap.size w W ∧ B3 W (w.heap.size) x00 x01 x02 ∧ B4 W (w.heap.size + 1) x10 x11 x12 x13 ∧ w.heap.size + 1 < W.heap.size := by
  have e0 : Below w.heap.size w (w.alloc (.cells #[x00, x01, x02] t0)) := (Below.refl _ _).alloc (Nat.le_refl _) _
  have h0 := b3_new w x00 x01 x02 t0
  have e1 : Below (w.alloc (.cells #[x00, x01, x02] t0)).heap.size (w.alloc (.cells #[x00, x01, x02] t0)) ((w.alloc (.cells #[x00, x01, x02] t0)).alloc (.cells #[x10, x11, x12, x13] t1)) := (Below.refl _ _).alloc (Nat.le_refl _) _
  have h1 := b4_new (w.alloc (.cells #[x00, x01, x02] t0)) x10 x11 x12 x13 t1
  rw [World.size_alloc] at h1
  exact ⟨_, rfl, also (e0) e1, (h0.on e1), h1, by simp⟩
theorem bs_44 (w : World) (x00 x01 x02 x03 x10 x11 x12 x13 : Value) (t0 t1 : TypeId) : ∃ W, W = ((w.alloc (.cells #[x00, x01, x02, x03] t0)).alloc (.cells #[x10, x11, x12, x13] t1)) ∧ Below w.heap.size w W ∧ B4 W (w.heap.size) x00 x01 x02 x03 ∧ B4 W (w.heap.size + 1) x10 x11 x12 x13 ∧ w.heap.size + 1 < W.heap.size := by
  have e0 : Below w.heap.size w (w.alloc (.cells #[x00, x01, x02, x03] t0)) := (Below.refl _ _).alloc (Nat.le_refl _) _
  have h0 := b4_new w x00 x01 x02 x03 t0
  have e1 : Below (w.alloc (.cells #[x00, x01, x02, x03] t0)).heap.size (w.alloc (.cells #[x00, x01, x02, x03] t0)) ((w.alloc (.cells #[x00, x01, x02, x03] t0)).alloc (.cells #[x10, x11, x12, x13] t1)) := (Below.refl _ _).alloc (Nat.le_refl _) _
  have h1 := b4_new (w.alloc (.cells #[x00, x01, x02, x03] t0)) x10 x11 x12 x13 t1
  rw [World.size_alloc] at h1
  exact ⟨_, rfl, also (e0) e1, (h0.on e1), h1, by simp⟩
theorem bs_444 (w : World) (x00 x01 x02 x03 x10 x11 x12 x13 x20 x21 x22 x23 : Value) (t0 t1 t2 : TypeId) : ∃ W, W = (((w.alloc (.cells #[x00, x01, x02, x03] t0)).alloc (.cells #[x10, x11, x12, x13] t1)).alloc (.cells #[x20, x21, x22, x23] t2)) ∧ Below w.heap.size w W ∧ B4 W (w.heap.size) x00 x01 x02 x03 ∧ B4 W (w.heap.size + 1) x10 x11 x12 x13 ∧ B4 W (w.heap.size + 1 + 1) x20 x21 x22 x23 ∧ w.heap.size + 1 + 1 < W.heap.size := by
  have e0 : Below w.heap.size w (w.alloc (.cells #[x00, x01, x02, x03] t0)) := (Below.refl _ _).alloc (Nat.le_refl _) _
  have h0 := b4_new w x00 x01 x02 x03 t0
  have e1 : Below (w.alloc (.cells #[x00, x01, x02, x03] t0)).heap.size (w.alloc (.cells #[x00, x01, x02, x03] t0)) ((w.alloc (.cells #[x00, x01, x02, x03] t0)).alloc (.cells #[x10, x11, x12, x13] t1)) := (Below.refl _ _).alloc (Nat.le_refl _) _
  have h1 := b4_new (w.alloc (.cells #[x00, x01, x02, x03] t0)) x10 x11 x12 x13 t1
  rw [World.size_alloc] at h1
  have e2 : Below ((w.alloc (.cells #[x00, x01, x02, x03] t0)).alloc (.cells #[x10, x11, x12, x13] t1)).heap.size ((w.alloc (.cells #[x00, x01, x02, x03] t0)).alloc (.cells #[x10, x11, x12, x13] t1)) (((w.alloc (.cells #[x00, x01, x02, x03] t0)).alloc (.cells #[x10, x11, x12, x13] t1)).alloc (.cells #[x20, x21, x22, x23] t2)) := (Below.refl _ _).alloc (Nat.le_refl _) _
  have h2 := b4_new ((w.alloc (.cells #[x00, x01, x02, x03] t0)).alloc (.cells #[x10, x11, x12, x13] t1)) x20 x21 x22 x23 t2
  rw [World.size_alloc, World.size_alloc] at h2
  exact ⟨_, rfl, also (also (e0) e1) e2, ((h0.on e1).on e2), (h1.on e2), h2, by simp⟩
theorem bs_224 (w : World) (x00 x01 x10 x11 x20 x21 x22 x23 : Value) (t0 t1 t2 : TypeId) : ∃ W, W = (((w.alloc (.cells #[x00, x01] t0)).alloc (.cells #[x10, x11] t1)).alloc (.cells #[x20, x21, x22, x23] t2)) ∧ Below w.heap.size w W ∧ Bx W (w.heap.size) x00 x01 ∧ Bx W (w.heap.size + 1) x10 x11 ∧ B4 W (w.heap.size + 1 + 1) x20 x21 x22 x23 ∧ w.heap.size + 1 + 1 < W.heap.size := by
  have e0 : Below w.heap.size w (w.alloc (.cells #[x00, x01] t0)) := (Below.refl _ _).alloc (Nat.le_refl _) _
  have h0 := bx_new w x00 x01 t0
  have e1 : Below (w.alloc (.cells #[x00, x01] t0)).heap.size (w.alloc (.cells #[x00, x01] t0)) ((w.alloc (.cells #[x00, x01] t0)).alloc (.cells #[x10, x11] t1)) := (Below.refl _ _).alloc (Nat.le_refl _) _
  have h1 := bx_new (w.alloc (.cells #[x00, x01] t0)) x10 x11 t1
  rw [World.size_alloc] at h1
  have e2 : Below ((w.alloc (.cells #[x00, x01] t0)).alloc (.cells #[x10, x11] t1)).heap.size ((w.alloc (.cells #[x00, x01] t0)).alloc (.cells #[x10, x11] t1)) (((w.alloc (.cells #[x00, x01] t0)).alloc (.cells #[x10, x11] t1)).alloc (.cells #[x20, x21, x22, x23] t2)) := (Below.refl _ _).alloc (Nat.le_refl _) _
  have h2 := b4_new ((w.alloc (.cells #[x00, x01] t0)).alloc (.cells #[x10, x11] t1)) x20 x21 x22 x23 t2
  rw [World.size_alloc, World.size_alloc] at h2
  exact ⟨_, rfl, also (also (e0) e1) e2, ((h0.on e1).on e2), (h1.on e2), h2, by simp⟩
theorem bs_42 (w : World) (x00 x01 x02 x03 x10 x11 : Value) (t0 t1 : TypeId) : ∃ W, W = ((w.alloc (.cells #[x00, x01, x02, x03] t0)).alloc (.cells #[x10, x11] t1)) ∧ Below w.heap.size w W ∧ B4 W (w.heap.size) x00 x01 x02 x03 ∧ Bx W (w.heap.size + 1) x10 x11 ∧ w.heap.size + 1 < W.heap.size := by
  have e0 : Below w.heap.size w (w.alloc (.cells #[x00, x01, x02, x03] t0)) := (Below.refl _ _).alloc (Nat.le_refl _) _
  have h0 := b4_new w x00 x01 x02 x03 t0
  have e1 : Below (w.alloc (.cells #[x00, x01, x02, x03] t0)).heap.size (w.alloc (.cells #[x00, x01, x02, x03] t0)) ((w.alloc (.cells #[x00, x01, x02, x03] t0)).alloc (.cells #[x10, x11] t1)) := (Below.refl _ _).alloc (Nat.le_refl _) _
  have h1 := bx_new (w.alloc (.cells #[x00, x01, x02, x03] t0)) x10 x11 t1
  rw [World.size_alloc] at h1
  exact ⟨_, rfl, also (e0) e1, (h0.on e1), h1, by simp⟩
theorem bs_43 (w : World) (x00 x01 x02 x03 x10 x11 x12 : Value) (t0 t1 : TypeId) : ∃ W, W = ((w.alloc (.cells #[x00, x01, x02, x03] t0)).alloc (.cells #[x10, x11, x12] t1)) ∧ Below w.heap.size w W ∧ B4 W (w.heap.size) x00 x01 x02 x03 ∧ B3 W (w.heap.size + 1) x10 x11 x12 ∧ w.heap.size + 1 < W.heap.size := by
  have e0 : Below w.heap.size w (w.alloc (.cells #[x00, x01, x02, x03] t0)) := (Below.refl _ _).alloc (Nat.le_refl _) _
  have h0 := b4_new w x00 x01 x02 x03 t0
  have e1 : Below (w.alloc (.cells #[x00, x01, x02, x03] t0)).heap.size (w.alloc (.cells #[x00, x01, x02, x03] t0)) ((w.alloc (.cells #[x00, x01, x02, x03] t0)).alloc (.cells #[x10, x11, x12] t1)) := (Below.refl _ _).alloc (Nat.le_refl _) _
  have h1 := b3_new (w.alloc (.cells #[x00, x01, x02, x03] t0)) x10 x11 x12 t1
  rw [World.size_alloc] at h1
  exact ⟨_, rfl, also (e0) e1, (h0.on e1), h1, by simp⟩
theorem bs_222 (w : World) (x00 x01 x10 x11 x20 x21 : Value) (t0 t1 t2 : TypeId) : ∃ W, W = (((w.alloc (.cells #[x00, x01] t0)).alloc (.cells #[x10, x11] t1)).alloc (.cells #[x20, x21] t2)) ∧ Below w.heap.size w W ∧ Bx W (w.heap.size) x00 x01 ∧ Bx W (w.heap.size + 1) x10 x11 ∧ Bx W (w.heap.size + 1 + 1) x20 x21 ∧ w.heap.size + 1 + 1 < W.heap.size := by
  have e0 : Below w.heap.size w (w.alloc (.cells #[x00, x01] t0)) := (Below.refl _ _).alloc (Nat.le_refl _) _
  have h0 := bx_new w x00 x01 t0
  have e1 : Below (w.alloc (.cells #[x00, x01] t0)).heap.size (w.alloc (.cells #[x00, x01] t0)) ((w.alloc (.cells #[x00, x01] t0)).alloc (.cells #[x10, x11] t1)) := (Below.refl _ _).alloc (Nat.le_refl _) _
  have h1 := bx_new (w.alloc (.cells #[x00, x01] t0)) x10 x11 t1
  rw [World.size_alloc] at h1
  have e2 : Below ((w.alloc (.cells #[x00, x01] t0)).alloc (.cells #[x10, x11] t1)).heap.size ((w.alloc (.cells #[x00, x01] t0)).alloc (.cells #[x10, x11] t1)) (((w.alloc (.cells #[x00, x01] t0)).alloc (.cells #[x10, x11] t1)).alloc (.cells #[x20, x21] t2)) := (Below.refl _ _).alloc (Nat.le_refl _) _
  have h2 := bx_new ((w.alloc (.cells #[x00, x01] t0)).alloc (.cells #[x10, x11] t1)) x20 x21 t2
  rw [World.size_alloc, World.size_alloc] at h2
  exact ⟨_, rfl, also (also (e0) e1) e2, ((h0.on e1).on e2), (h1.on e2), h2, by simp⟩
theorem bs_332 (w : World) (x00 x01 x02 x10 x11 x12 x20 x21 : Value) (t0 t1 t2 : TypeId) : ∃ W, W = (((w.alloc (.cells #[x00, x01, x02] t0)).alloc (.cells #[x10, x11, x12] t1)).alloc (.cells #[x20, x21] t2)) ∧ Below w.heap.size w W ∧ B3 W (w.heap.size) x00 x01 x02 ∧ B3 W (w.heap.size + 1) x10 x11 x12 ∧ Bx W (w.heap.size + 1 + 1) x20 x21 ∧ w.heap.size + 1 + 1 < W.heap.size := by
  have e0 : Below w.heap.size w (w.alloc (.cells #[x00, x01, x02] t0)) := (Below.refl _ _).alloc (Nat.le_refl _) _
  have h0 := b3_new w x00 x01 x02 t0
  have e1 : Below (w.alloc (.cells #[x00, x01, x02] t0)).heap.size (w.alloc (.cells #[x00, x01, x02] t0)) ((w.alloc (.cells #[x00, x01, x02] t0)).alloc (.cells #[x10, x11, x12] t1)) := (Below.refl _ _).alloc (Nat.le_refl _) _
  have h1 := b3_new (w.alloc (.cells #[x00, x01, x02] t0)) x10 x11 x12 t1
  rw [World.size_alloc] at h1
  have e2 : Below ((w.alloc (.cells #[x00, x01, x02] t0)).alloc (.cells #[x10, x11, x12] t1)).heap.size ((w.alloc (.cells #[x00, x01, x02] t0)).alloc (.cells #[x10, x11, x12] t1)) (((w.alloc (.cells #[x00, x01, x02] t0)).alloc (.cells #[x10, x11, x12] t1)).alloc (.cells #[x20, x21] t2)) := (Below.refl _ _).alloc (Nat.le_refl _) _
  have h2 := bx_new ((w.alloc (.cells #[x00, x01, x02] t0)).alloc (.cells #[x10, x11, x12] t1)) x20 x21 t2
  rw [World.size_alloc, World.size_alloc] at h2
  exact ⟨_, rfl, also (also (e0) e1) e2, ((h0.on e1).on e2), (h1.on e2), h2, by simp⟩
set_option maxRecDepth 100000 in
set_option maxHeartbeats 1000000 in
theorem qParts (n : Bool) (a : Option Addr) (la ca : Nat) (d : Option Addr) (ld cd : Nat) (z : Int) (D K : Nat) (w : World) (h : QI w K n a la ca d ld cd z D) :
    Calls Tryz.prog 44 #[.agg #[.bool n, .slice a la ca, .slice d ld cd]] w (GotPts w K z D) := by
  obtain ⟨k, hk⟩ : ∃ k, k = bt.nlen D := ⟨_, rfl⟩
  have HK : Hid _ := hk
  have hna : NA (w.heap.size + 1) a la := h.wi.ni.sl.na (by omega)
  have hnd : NA (w.heap.size + 1) d ld := h.ni.sl.na (by omega)
  by_cases h0 : D = 0
  · obtain rfl : k = 0 := by rw [hk]; exact bt_zero.2 h0
    subst h0
    clear hk
    obtain ⟨W, hW, bW, x_a, x_z, sW⟩ := bs_32 w (.bool n) (.slice a la ca) (.slice d ld cd) (.bool false) (.slice none 0 0) 27 25
    have zbW := bW.size
    replace h := h.below bW
    have BB := bW
    go_enter Tryz.func44, Tryz.ntmps44
    go_wp2_with (go_at_call 77; fail)
    rw [← hW]
    clear hW
    refine (nBits d ld cd _ W h.ni HK.out).mono ?_
    rintro e w1 ⟨rfl, hw⟩
    subst hw
    go_wp2_with (go_at_call 55; fail)
    refine (fOf 1 (by decide) rfl W).mono ?_
    rintro e w2 ⟨a2, l2, c2, rfl, h2, f2, bw2⟩
    have zbw2 := bw2.size
    replace h := h.below bw2
    replace BB := also BB bw2
    replace x_a := x_a.on bw2
    replace x_z := x_z.on bw2
    have ⟨x_z_0, x_z_1, x_z_2, x_z_3⟩ := x_z
    go_wp2
    have hp : (1 : Nat) < 4294967296 ^ K := Nat.lt_of_lt_of_le (show 1 < 4294967296 ^ 1 by decide) (Nat.pow_le_pow_right (by decide) h.k1)
    exact bodyPost_ret (v := .tuple #[.agg #[.bool false, .slice none 0 0], .slice a2 l2 c2]) (by simp [results, Tryz.results44, go_sem, *]) rfl (endPts _ (by omega) BB ⟨wi_nul _, h2.ni 1 (by decide) (by decide), by simp only [pN, if_pos]; omega, hp, h.k1, h.kk⟩ (Or.inl rfl) (f2 _ sW) _ _)
  · have hk1 : ¬ (k : Int) = 0 := by have := bt_zero (u := D); omega
    have ez : pN z D = z := if_neg h0
    have eD : pD D = D := if_neg h0
    clear hk
    obtain ⟨W, hW, bW, x_a, x_z, sW⟩ := bs_32 w (.bool n) (.slice a la ca) (.slice d ld cd) (.bool false) (.slice none 0 0) 27 25
    have zbW := bW.size
    replace h := h.below bW
    have BB := bW
    go_enter Tryz.func44, Tryz.ntmps44
    go_wp2_with (go_at_call 77; fail)
    rw [← hW]
    clear hW
    refine (nBits d ld cd _ W h.ni HK.out).mono ?_
    rintro e w1 ⟨rfl, hw⟩
    subst hw
    have ⟨x_a_0, x_a_1, x_a_2, x_a_3, x_a_4, x_a_5⟩ := x_a
    go_wp2
    have dd1 : Below W.heap.size W W.drew := (Below.refl _ _).drew
    clear x_a_0 x_a_1 x_a_2 x_a_3 x_a_4 x_a_5
    have zdd1 := dd1.size
    replace h := h.below dd1
    replace BB := also BB dd1
    replace x_a := x_a.on dd1
    replace x_z := x_z.on dd1
    refine wp_region_held_drew (S := (fun w' => w'.cell? ⟨w.heap.size, 0, none⟩ = some (.bool n) ∧ w'.cell? ⟨w.heap.size, 1, none⟩ = some (.slice a la ca) ∧ w'.cell? ⟨w.heap.size, 2, none⟩ = some (.slice d ld cd) ∧ Below w.heap.size w w')) (by kernel_rfl) ?_ (fun hHeld => ?_)
    · first | exact ⟨x_a.c0, x_a.c1, x_a.c2, BB⟩ | exact ⟨cell_put2 hHeld.1 (by omega) _ _, cell_put2 hHeld.2.1 (by omega) _ _, cell_put2 hHeld.2.2.1 (by omega) _ _, below_put2 hHeld.2.2.2 (by omega) _ _⟩
    refine take_yes (i := 0) (v := ?vp0) rfl (by kernel_rfl) (by kernel_rfl) (by kernel_rfl) (fun _ _ _ h => h) (by rfl) (by assumption) ?hyp0 ?restp0
    case hyp0 => (intro w hSw; (try dsimp only at hSw); first | (go_simp; done) | (go_simp; with_reducible rfl))
    simp only [Act.put, List.setIfInBounds_toArray, List.set_cons_zero, List.set_cons_succ]
    refine take_yes (i := 1) (v := ?vp1) rfl (by kernel_rfl) (by kernel_rfl) (by kernel_rfl) (fun _ _ _ h => h) (by rfl) (by assumption) ?hyp1 ?restp1
    case hyp1 => (intro w hSw; (try dsimp only at hSw); first | (go_simp; done) | (go_simp; with_reducible rfl))
    simp only [Act.put, List.setIfInBounds_toArray, List.set_cons_zero, List.set_cons_succ]
    refine take_yes (i := 2) (v := ?vp2) rfl (by kernel_rfl) (by kernel_rfl) (by kernel_rfl) (fun _ _ _ h => h) (by rfl) (by assumption) ?hyp2 ?restp2
    case hyp2 => (intro w hSw; (try dsimp only at hSw); first | (go_simp; done) | (go_simp; with_reducible rfl))
    simp only [Act.put, List.setIfInBounds_toArray, List.set_cons_zero, List.set_cons_succ]
    refine take_yes (i := 3) (v := ?vp3) rfl (by kernel_rfl) (by kernel_rfl) (by kernel_rfl) (fun _ _ _ h => h) (by rfl) (by assumption) ?hyp3 ?restp3
    case hyp3 => (intro w hSw; (try dsimp only at hSw); first | (go_simp; done) | (go_simp; with_reducible rfl))
    simp only [Act.put, List.setIfInBounds_toArray, List.set_cons_zero, List.set_cons_succ]
    have x_z_0 : W.cell? ⟨w.heap.size + 1, 0, none⟩ = some (.bool false) := x_z.c0
    have x_z_1 : W.cell? ⟨w.heap.size + 1, 1, none⟩ = some (.slice none 0 0) := x_z.c1
    have x_z_2 : W.frozen? ⟨w.heap.size + 1, 0, none⟩ = false := x_z.f0
    have x_z_3 : W.frozen? ⟨w.heap.size + 1, 1, none⟩ = false := x_z.f1
    refine take_call (i := 4) rfl (by kernel_rfl) (fun Kc hK => ?_)
    go_simp
    refine hK.out _ _ ?_ (fun hHeld => ?_)
    · first | exact ⟨x_a.c0, x_a.c1, x_a.c2, BB⟩ | exact ⟨cell_put2 hHeld.1 (by omega) _ _, cell_put2 hHeld.2.1 (by omega) _ _, cell_put2 hHeld.2.2.1 (by omega) _ _, below_put2 hHeld.2.2.2 (by omega) _ _⟩
    clear hK Kc
    refine take_yes (i := 5) (v := ?vp5) rfl (by kernel_rfl) (by kernel_rfl) (by kernel_rfl) (fun _ _ _ h => h) (by rfl) (by assumption) ?hyp5 ?restp5
    case hyp5 => (intro w hSw; (try dsimp only at hSw); first | (go_simp; done) | (go_simp; with_reducible rfl))
    simp only [Act.put, List.setIfInBounds_toArray, List.set_cons_zero, List.set_cons_succ]
    refine wpAnyH_done (by kernel_rfl) ?_ _
    go_wp2
    exact bodyPost_ret (v := .tuple #[.agg #[.bool n, .slice a la ca], .slice d ld cd]) (by simp [results, Tryz.results44, go_sem, *]) rfl (endPts _ (by omega) BB (by rw [ez, eD]; exact h) hna hnd _ _)
set_option maxRecDepth 100000 in
set_option maxHeartbeats 1000000 in
theorem qLow (n : Bool) (a : Option Addr) (la ca : Nat) (z : Int) (d : Option Addr) (ld cd D : Nat) (w : World) (ha : WI w n a la ca z) (hd : NI w d ld cd D) (h0 : 0 < D) (N : Int) (E : Nat) (hN : N = lowN z D) (hE : E = lowD z D) :
    Calls Tryz.prog 38 #[.agg #[.bool n, .slice a la ca], .slice d ld cd] w (GotQ w N E) := by
  have HN : Hid (N = sgz n (z.natAbs / Nat.gcd z.natAbs D)) := by unfold Hid; rw [hN, lowN_sg ha]
  have HE : Hid (E = D / Nat.gcd z.natAbs D) := hE
  obtain ⟨G, hG⟩ : ∃ G, G = Nat.gcd z.natAbs D := ⟨_, rfl⟩
  have g0 : 0 < G := by rw [hG]; exact Nat.gcd_pos_of_pos_right _ h0
  have gl : G < 4294967296 ^ ld := by rw [hG]; exact Nat.lt_of_le_of_lt (Nat.le_of_dvd h0 (Nat.gcd_dvd_right _ _)) hd.lt
  rw [← hG] at HN HE
  clear hN hE
  obtain ⟨W, hW, bW, x_a, x_z, sW⟩ := bs_23 w (.bool n) (.slice a la ca) (.bool false) (.slice none 0 0) (.slice none 0 0) 25 27
  have zbW := bW.size
  replace ha := ha.below bW
  replace hd := hd.below bW
  have BB := bW
  go_enter Tryz.func38, Tryz.ntmps38
  go_wp2_with (go_at_call 67; fail)
  rw [← hW]
  clear hW
  refine (nGcd a d la ld ca cd _ _ W ha.ni hd).mono ?_
  rw [← hG]
  rintro e w1 ⟨a1, l1, c1, rfl, h1, bw1⟩
  have zbw1 := bw1.size
  replace ha := ha.below bw1
  replace hd := hd.below bw1
  replace BB := also BB bw1
  replace x_a := x_a.on bw1
  replace x_z := x_z.on bw1
  replace h1 := h1.ni ld hd.few gl
  have ⟨x_a_0, x_a_1, x_a_2, x_a_3⟩ := x_a
  go_wp2_with (go_at_call 68; fail)
  refine (fDiv a a1 la l1 ca c1 _ G w1 ha.ni h1 g0).mono ?_
  rintro e w2 ⟨a2, l2, c2, ar, lr, cr, rfl, h2, hr2, f2, fr2, bw2⟩
  clear x_a_0 x_a_1 x_a_2 x_a_3
  have zbw2 := bw2.size
  replace ha := ha.below bw2
  replace hd := hd.below bw2
  replace BB := also BB bw2
  replace x_a := x_a.on bw2
  replace x_z := x_z.on bw2
  replace h1 := h1.below bw2
  go_wp2_with (go_at_call 68; fail)
  refine (fDiv d a1 ld l1 cd c1 _ G w2 hd h1 g0).mono ?_
  rintro e w3 ⟨a3, l3, c3, br, mr, dr, rfl, h3, hr3, f3, fr3, bw3⟩
  have zbw3 := bw3.size
  replace ha := ha.below bw3
  replace hd := hd.below bw3
  replace BB := also BB bw3
  replace x_a := x_a.on bw3
  replace x_z := x_z.on bw3
  replace h1 := h1.below bw3
  replace h2 := h2.below bw3
  have ⟨x_a_0, x_a_1, x_a_2, x_a_3⟩ := x_a
  go_wp2_with (go_at_call 69; fail)
  refine (wNorm n a2 l2 c2 (sgz n (z.natAbs / G)) w3 (wi_of (h2.ni la ha.ni.few (Nat.lt_of_le_of_lt (Nat.div_le_self _ _) ha.ni.lt))) N HN.out).mono ?_
  rintro e w4 ⟨n4, a4, l4, c4, rfl, h4, f4, bw4⟩
  clear x_a_0 x_a_1 x_a_2 x_a_3
  have zbw4 := bw4.size
  replace ha := ha.below bw4
  replace hd := hd.below bw4
  replace BB := also BB bw4
  replace x_a := x_a.on bw4
  replace x_z := x_z.on bw4
  replace h1 := h1.below bw4
  replace h2 := h2.below bw4
  replace h3 := h3.below bw4
  have ⟨x_z_0, x_z_1, x_z_2, x_z_3, x_z_4, x_z_5⟩ := x_z
  go_wp2
  exact bodyPost_ret (v := .agg #[.bool n4, .slice a4 l4 c4, .slice a3 l3 c3]) (by simp [results, Tryz.results38, go_sem, *]) rfl (endQ _ (by omega) BB ⟨h4, by rw [HE.out]; exact h3⟩ (f4.mono (by omega)) (f3.mono (by omega)) _ _ _)
set_option maxRecDepth 100000 in
set_option maxHeartbeats 1000000 in
theorem qDown (n : Bool) (a : Option Addr) (la ca : Nat) (z : Int) (d : Option Addr) (ld cd D : Nat) (w : World) (ha : WI w n a la ca z) (hd : NI w d ld cd D) (h0 : 0 < D) (Q : Int) (hQ : Q = flQ z D) :
    Calls Tryz.prog 50 #[.agg #[.bool n, .slice a la ca], .slice d ld cd] w (GotW w Q) := by
  have HQ : Hid _ := hQ
  clear hQ
  obtain ⟨W, hW, bW, x_a, x_z, sW⟩ := bs_22 w (.bool n) (.slice a la ca) (.bool false) (.slice none 0 0) 25 25
  have zbW := bW.size
  replace ha := ha.below bW
  replace hd := hd.below bW
  have BB := bW
  go_enter Tryz.func50, Tryz.ntmps50
  go_wp2_with (go_at_call 81; fail)
  rw [← hW]
  clear hW
  refine (wFloor n false a d la ld ca cd z D W ha (wi_nat hd) (by omega) Q (flR z D) HQ.out rfl).mono ?_
  rintro e w1 ⟨n1, a1, l1, c1, n2, a2, l2, c2, rfl, h1, h2, f1, f2, bw1⟩
  have zbw1 := bw1.size
  replace ha := ha.below bw1
  replace hd := hd.below bw1
  replace BB := also BB bw1
  replace x_a := x_a.on bw1
  replace x_z := x_z.on bw1
  obtain ⟨V, hV, bV, x_q, x_r, sV⟩ := bs_22 w1 (.bool n1) (.slice a1 l1 c1) (.bool n2) (.slice a2 l2 c2) 25 25
  have zbV := bV.size
  replace ha := ha.below bV
  replace hd := hd.below bV
  replace BB := also BB bV
  replace x_a := x_a.on bV
  replace x_z := x_z.on bV
  replace h1 := h1.below bV
  replace h2 := h2.below bV
  subst hV
  have ⟨x_q_0, x_q_1, x_q_2, x_q_3⟩ := x_q
  have ⟨x_z_0, x_z_1, x_z_2, x_z_3⟩ := x_z
  go_wp2
  exact bodyPost_ret (v := .agg #[.bool n1, .slice a1 l1 c1]) (by simp [results, Tryz.results50, go_sem, *]) rfl (endW (W := W) _ (by omega) sW BB h1 f1 _ _)
end Go.Proofs.YtaekgomplkkocaaGreatDoor
