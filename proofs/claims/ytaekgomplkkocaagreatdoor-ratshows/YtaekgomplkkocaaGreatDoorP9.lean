/-
  Joined texts, part 9:
  What zelligeref03's Gcd answers: the greatest common divisor, by halves and differences.
  What zelligeref05's functions answer: fractions as two whole numbers, the lower above nought.
  Fractions behind a store into a block that they do not lie in; the laws' cut of two fractions.
  What package rat's Of, Make, Div, Floor, Round, Sign and Cmp answer.
  What package rat's Show answers.
  The laws' own look of layer 5: a fraction is made and rounded.
-/
import Derived.Test.YtaekgomplkkocaaGreatDoorP8
import Derived.Test.YtaekgomplkkocaaGreatDoorP7
import Derived.Deep.LoopGhost
import Derived.Test.YtaekgomplkkocaaGreatDoorP5
import Derived.Test.YtaekgomplkkocaaGreatDoorP6
import Derived.Test.YtaekgomplkkocaaGreatDoorP4
namespace Go.Proofs.YtaekgomplkkocaaGreatDoor
open Go.RowKit
set_option linter.unusedVariables false

theorem gcd_half {X Y G : Nat} (h : Nat.gcd X Y = G) (hG : G % 2 = 1) (hX : X % 2 = 0) : Nat.gcd (X / 2) Y = G := by
  have hX2 : X = 2 * (X / 2) := by omega
  have hc : Nat.Coprime G 2 := by
    unfold Nat.Coprime
    rw [Nat.gcd_comm, Nat.gcd_rec, hG]
    decide
  have h1 : G ∣ X / 2 := by
    have : G ∣ 2 * (X / 2) := by rw [← hX2, ← h]; exact Nat.gcd_dvd_left X Y
    exact hc.dvd_of_dvd_mul_left this
  have h2 : G ∣ Y := by rw [← h]; exact Nat.gcd_dvd_right X Y
  refine Nat.dvd_antisymm ?_ (Nat.dvd_gcd h1 h2)
  rw [← h]
  exact Nat.dvd_gcd (Nat.dvd_trans (Nat.gcd_dvd_left _ _) ⟨2, by omega⟩) (Nat.gcd_dvd_right _ _)
theorem gcd_both {X Y : Nat} (hX : X % 2 = 0) (hY : Y % 2 = 0) : Nat.gcd X Y = Nat.gcd (X / 2) (Y / 2) * 2 := by
  have h1 : X = 2 * (X / 2) := by omega
  have h2 : Y = 2 * (Y / 2) := by omega
  conv => lhs; rw [h1, h2]
  rw [Nat.gcd_mul_left, Nat.mul_comm]
theorem gcd_odd {X Y : Nat} (h : ¬ (X % 2 = 0 ∧ Y % 2 = 0)) : Nat.gcd X Y % 2 = 1 := by
  rcases Nat.mod_two_eq_zero_or_one (Nat.gcd X Y) with e | e
  · exfalso
    have h2 : 2 ∣ Nat.gcd X Y := Nat.dvd_of_mod_eq_zero e
    exact h ⟨Nat.mod_eq_zero_of_dvd (Nat.dvd_trans h2 (Nat.gcd_dvd_left _ _)), Nat.mod_eq_zero_of_dvd (Nat.dvd_trans h2 (Nat.gcd_dvd_right _ _))⟩
  · exact e
theorem gcd_less {X Y : Nat} (h : Y ≤ X) : Nat.gcd (X - Y) Y = Nat.gcd X Y := by
  have e : X = X - Y + Y := by omega
  conv => rhs; rw [e]
  rw [Nat.gcd_add_self_left]
theorem mono_hf {u v : Nat} (h : u ≤ v) : hf.nlen u ≤ hf.nlen v := hf.nlen_le (Nat.lt_of_le_of_lt h (hf.nlen_lt v))
/-- The lowest digit tells whether a number is even. -/
theorem low_even (X : Nat) : hf.dg (X : Int) 0 % 2 = ((X % 2 : Nat) : Int) := by
  rw [hf.dg_nat, Nat.pow_zero, Nat.div_one]
  omega
/-- A number that isn't nought has a first digit. -/
theorem HD.first {w : World} {a : Option Addr} {l c u : Nat} (h : HD w a l c u) (hu : 0 < u) : 0 < l ∧ ∃ b o, a = some ⟨b, o, none⟩ ∧ w.cell? ⟨b, o, none⟩ = some (.int .i64 (hf.dg (u : Int) 0)) ∧ l ≤ 9223372036854775807 := by
  have hl : 0 < l := by rw [h.len]; exact hf.nlen_pos hu
  obtain ⟨b, o, e, hb, hs⟩ := h.sl.at hl
  have := h.sl.big
  have := h.sl.room
  unfold maxLen at *
  exact ⟨hl, b, o, e, by have := hs.cell 0 _ (hf.dcells_at _ _ _ hl); simpa using this, by omega⟩

/-- Both are halved: k is the first number. -/
def G1 (w : World) (u v : Nat) (k : Nat) (x y t : Value) (wr : World) : Prop := ∃ (a : Option Addr) (la ca : Nat) (b : Option Addr) (lb cb Y T : Nat), x = .slice a la ca ∧ y = .slice b lb cb ∧ t = .int .i64 (T : Int) ∧ HD wr a la ca k ∧ HD wr b lb cb Y ∧ 0 < k ∧ 0 < Y ∧ k * 2 ^ T ≤ u ∧ Y ≤ v ∧ Nat.gcd k Y * 2 ^ T = Nat.gcd u v ∧ Below w.heap.size w wr
/-- One is taken off the other. -/
def G2 (w : World) (u v G : Nat) (k : Nat) (x y : Value) (wr : World) : Prop := ∃ (a : Option Addr) (la ca : Nat) (b : Option Addr) (lb cb X Y : Nat), x = .slice a la ca ∧ y = .slice b lb cb ∧ HD wr a la ca X ∧ HD wr b lb cb Y ∧ X + Y = k ∧ 0 < Y ∧ k ≤ u + v ∧ Nat.gcd X Y = G ∧ Below w.heap.size w wr
/-- One is halved. -/
def G3 (w : World) (Y G M : Nat) (k : Nat) (x : Value) (wr : World) : Prop := ∃ (a : Option Addr) (la ca : Nat), x = .slice a la ca ∧ HD wr a la ca k ∧ 0 < k ∧ k ≤ M ∧ Nat.gcd k Y = G ∧ Below w.heap.size w wr
/-- Two is doubled. -/
def G5 (w : World) (T k : Nat) (one i : Value) (wr : World) : Prop := ∃ (a : Option Addr) (la ca I : Nat), one = .slice a la ca ∧ i = .int .i64 (I : Int) ∧ HD wr a la ca (2 ^ I) ∧ I + k = T ∧ Below w.heap.size w wr

set_option maxRecDepth 100000 in
set_option maxHeartbeats 4000000 in
theorem hGcd (a b : Option Addr) (la lb ca cb u v : Nat) (w : World) (ha : HD w a la ca u) (hb : HD w b lb cb v) (fu : hf.nlen (u + v) ≤ 1000000) :
    Calls Tryz.prog 64 #[.slice a la ca, .slice b lb cb] w (GotH w (Nat.gcd u v)) := by
  obtain ⟨g, hg⟩ : ∃ g, g = Nat.gcd u v := ⟨_, rfl⟩
  have hb0 : Below w.heap.size w (w.alloc (.cells #[.int .i64 1] 3)) := (Below.refl _ _).alloc (Nat.le_refl _) _
  have h1 : HD (w.alloc (.cells #[.int .i64 1] 3)) (some ⟨w.heap.size, 0, none⟩) 1 1 (2 ^ 0) := by
    have e : hf.dcells 1 ((2 ^ 0 : Nat) : Int) = [.int .i64 1] := by simp [hf.dcells, hf.dg]
    refine ⟨?_, (hf.nlen_eq ⟨by decide, Or.inr (by decide)⟩).symm⟩
    rw [e]
    exact Own.sl (World.ownsRow_lit w #[.int .i64 1] 1 (Nat.le_refl _) (by decide) rfl)
  have ha0 := ha.below hb0
  have hb0' := hb.below hb0
  obtain ⟨w0, hw0⟩ : ∃ w0, w0 = w.alloc (.cells #[.int .i64 1] 3) := ⟨_, rfl⟩
  rw [← hw0] at hb0 h1 ha0 hb0'
  have HG : Hid _ := hg.symm
  rw [← hg]
  clear hg ha hb
  rcases Nat.eq_zero_or_pos u with hu | hu
  · subst hu
    obtain rfl : la = 0 := by rw [ha0.len, hf.nlen_zero]
    obtain rfl : v = g := by have := HG.out; simpa using this
    go_enter Tryz.func64, Tryz.ntmps64
    go_wp2
    go_ret
    exact ⟨b, lb, cb, rfl, hw0 ▸ hb0', hw0 ▸ hb0⟩
  rcases Nat.eq_zero_or_pos v with hv | hv
  · subst hv
    obtain rfl : lb = 0 := by rw [hb0'.len, hf.nlen_zero]
    obtain rfl : u = g := by have := HG.out; simpa using this
    obtain ⟨hl, _⟩ := ha0.first hu
    have hl' : ¬ (la : Int) = 0 := by omega
    go_enter Tryz.func64, Tryz.ntmps64
    go_wp2
    go_ret
    exact ⟨a, la, ca, rfl, hw0 ▸ ha0, hw0 ▸ hb0⟩
  have hla : ¬ (la : Int) = 0 := by have := (ha0.first hu).1; omega
  have hlb : ¬ (lb : Int) = 0 := by have := (hb0'.first hv).1; omega
  have HST : Hid (G1 w0 u v u (.slice a la ca) (.slice b lb cb) (.int .i64 0) w0) := ⟨a, la, ca, b, lb, cb, v, 0, rfl, rfl, rfl, ha0, hb0', hu, hv, by simp, Nat.le_refl _, by simp, Below.refl _ _⟩
  clear ha0 hb0'
  have fu1 : ∀ x, x ≤ u + v → hf.nlen x ≤ 1000000 := fun x hx => Nat.le_trans (mono_hf hx) fu
  have FU : Hid _ := fu1
  obtain ⟨K, hK, hKu⟩ : ∃ K, K ≤ 16000000 ∧ u < 2 ^ K := by
    have h2 := hf.nlen_lt (u + v)
    rw [show (65536 : Nat) = 2 ^ 16 from rfl, ← Nat.pow_mul] at h2
    exact ⟨16 * hf.nlen (u + v), by omega, by omega⟩
  have HUB : Hid _ := hKu
  have H1 : Hid _ := h1
  clear hKu fu fu1 h1
  go_enter Tryz.func64, Tryz.ntmps64
  go_wp2
  rw [← hw0]
  simp only [show ((la : Int) == 0) = false by simpa using hla, show ((lb : Int) == 0) = false by simpa using hlb]
  clear hw0
  go_loopg [6, 7, 8] u (fun k x y t wr => G1 w0 u v k x y t wr)
  case atStart => exact HST.out
  case round =>
    clear HST hla hlb
    obtain ⟨a, la, ca, b, lb, cb, Y, T, rfl, rfl, rfl, ha, hb, hX0, hY0, hXu, hYv, hgg, hbel⟩ := hrel
    have hT : T < K := by
      refine Nat.lt_of_not_le fun h => ?_
      have h2 := Nat.pow_le_pow_right (n := 2) (by decide) h
      have h3 : 1 * 2 ^ T ≤ gk * 2 ^ T := Nat.mul_le_mul_right _ hX0
      have := HUB.out
      omega
    have hXu' : gk ≤ u := Nat.le_trans (Nat.le_mul_of_pos_right _ (Nat.pow_pos (by decide))) hXu
    have hPu : 2 ^ T ≤ u := Nat.le_trans (Nat.le_mul_of_pos_left _ hX0) hXu
    obtain ⟨hl, ba, oa, rfl, c0, hlm⟩ := ha.first hX0
    obtain ⟨hl2, bb, ob, rfl, c1, hlm2⟩ := hb.first hY0
    have hl' : (0 : Int) < la := by omega
    have hl2' : (0 : Int) < lb := by omega
    obtain ⟨p, hp⟩ : ∃ p, p = hf.dg (gk : Int) 0 := ⟨_, rfl⟩
    obtain ⟨q, hq⟩ : ∃ q, q = hf.dg (Y : Int) 0 := ⟨_, rfl⟩
    have ep := low_even gk
    have eq := low_even Y
    have rp := hf.dg_range (gk : Int) 0
    have rq := hf.dg_range (Y : Int) 0
    rw [← hp] at c0 ep rp
    rw [← hq] at c1 eq rq
    obtain ⟨rp0, rp1⟩ := rp
    obtain ⟨rq0, rq1⟩ := rq
    have HGG : Hid _ := hgg
    have HXU : Hid _ := hXu
    have HPU : Hid _ := hPu
    clear hp hq hgg hXu hPu
    by_cases hx : gk % 2 = 0
    · rw [hx] at ep
      replace ep : p % 2 = 0 := ep
      by_cases hy : Y % 2 = 0
      · rw [hy] at eq
        replace eq : q % 2 = 0 := eq
        clear hlm hlm2
        go_wp2_with (go_at_call 97; fail)
        refine (hHalf _ la ca gk wr ha (FU.out _ (by omega))).mono ?_
        rintro e w3 ⟨a3, la3, ca3, rfl, ha3, hb3⟩
        go_wp2_with (go_at_call 97; fail)
        refine (hHalf _ lb cb Y w3 (hb.below hb3) (FU.out _ (by omega))).mono ?_
        rintro e w4 ⟨a4, la4, ca4, rfl, ha4, hb4⟩
        go_wp2
        go_roundg (gk / 2)
        case measure => omega
        case rel =>
          refine ⟨a3, la3, ca3, a4, la4, ca4, Y / 2, T + 1, rfl, rfl, by simp, ha3.below hb4, ha4, by omega, by omega, ?_, by omega, ?_, hbel.trans ((hb3.trans (hb4.mono hb3.size)).mono hbel.size)⟩
          · have := HXU.out
            rw [Nat.pow_succ, Nat.mul_comm (2 ^ T), ← Nat.mul_assoc, show gk / 2 * 2 = gk by omega]
            exact this
          · rw [Nat.pow_succ, Nat.mul_comm (2 ^ T), ← Nat.mul_assoc, ← gcd_both hx hy]
            exact HGG.out
      · replace eq : q % 2 = 1 := by rw [eq]; omega
        have hne : ¬ (gk % 2 = 0 ∧ Y % 2 = 0) := by omega
        have hodd := gcd_odd hne
        obtain ⟨G, hG⟩ : ∃ G, G = Nat.gcd gk Y := ⟨_, rfl⟩
        rw [← hG] at hodd
        have HO : Hid _ := hodd
        have HT : Hid (G * 2 ^ T = g) := by unfold Hid; rw [hG, HGG.out]; exact HG.out
        have HST : Hid (G2 w0 u v G (gk + Y) (.slice (some ⟨ba, oa, none⟩) la ca) (.slice (some ⟨bb, ob, none⟩) lb cb) wr) := ⟨_, la, ca, _, lb, cb, gk, Y, rfl, rfl, ha, hb, rfl, hY0, by omega, hG.symm, hbel⟩
        clear hG hodd hne HGG HXU hlm hlm2
        go_wp2
        clear c0 c1 ha hb hbel hl hl2 hl' hl2' ep eq rp0 rp1 rq0 rq1
        go_loopg [6, 7] (gk + Y) (fun k x y wr => G2 w0 u v G k x y wr)
        case atStart => exact HST.out
        case round =>
          clear HST hX0 hY0 hXu' hYv
          obtain ⟨a, la, ca, b, lb, cb, X, Y, rfl, rfl, ha, hb, hk, hY0, hku, hgc, hbel⟩ := hrel
          subst hk

          rcases Nat.eq_zero_or_pos X with hX0 | hX0
          · subst hX0
            obtain rfl : la = 0 := by rw [ha.len, hf.nlen_zero]
            obtain rfl : Y = G := by simpa using hgc
            have h1 := H1.out.below hbel
            have HST : Hid (G5 wr T T (.slice (some ⟨w.heap.size, 0, none⟩) 1 1) (.int .i64 0) wr) := ⟨_, 1, 1, 0, rfl, rfl, h1, by omega, Below.refl _ _⟩
            clear h1 hgc
            go_wp2
            go_loopg [5, 9] T (fun k one i wr' => G5 wr T k one i wr')
            case atStart => exact HST.out
            case round =>
              clear HST
              obtain ⟨a5, l5, c5, I, rfl, rfl, h5, hI, hb5⟩ := hrel
              rcases Nat.eq_zero_or_pos gk with h0 | h0
              · subst h0
                obtain rfl : I = T := by omega
                have HP : Hid _ := h5
                obtain ⟨P, hP⟩ : ∃ P, P = 2 ^ I := ⟨_, rfl⟩
                have h5 : HD _ a5 l5 c5 P := hP ▸ h5
                have hPu : P ≤ u := hP ▸ HPU.out
                have HT' : Hid (Y * P = g) := by rw [hP]; exact HT.out
                clear hP HP HPU HT
                go_wp2_with (go_at_call 76; fail)
                have H := hMul b a5 lb l5 cb c5 Y P _ (hb.below hb5) h5 (FU.out _ (by omega)) (FU.out _ (by omega))
                rw [HT'.out] at H
                refine H.mono ?_
                rintro e w9 ⟨a9, l9, c9, rfl, h9, hb9⟩
                go_wp2
                go_ret
                have B1 := hb0.trans (hbel.mono hb0.size)
                have B2 := B1.trans (hb5.mono B1.size)
                exact ⟨a9, l9, c9, rfl, h9, B2.trans (hb9.mono B2.size)⟩
              · have hlt : (I : Int) < T := by omega
                have hIT : 2 ^ I ≤ u := Nat.le_trans (Nat.pow_le_pow_right (by decide) (by omega)) HPU.out
                obtain ⟨P, hP⟩ : ∃ P, P = 2 ^ I := ⟨_, rfl⟩
                rw [← hP] at h5 hIT
                have HP : Hid (P + P = 2 ^ (I + 1)) := by unfold Hid; rw [hP, Nat.pow_succ]; omega
                clear hP
                go_wp2_with (go_at_call 72; fail)
                refine (hAdd a5 a5 l5 l5 c5 c5 P P _ h5 h5 (FU.out _ (by omega)) (FU.out _ (by omega))).mono ?_
                rw [HP.out]
                rintro e w9 ⟨a9, l9, c9, rfl, h9, hb9⟩
                go_wp2
                go_roundg (gk - 1)
                case measure => omega
                case rel => exact ⟨a9, l9, c9, I + 1, rfl, by simp, h9, by omega, hb5.trans (hb9.mono hb5.size)⟩
          · have hl : 0 < la := (ha.first hX0).1
            have hl' : (0 : Int) < la := by omega
            have HST : Hid (G3 wr Y G X X (.slice a la ca) wr) := ⟨a, la, ca, rfl, ha, hX0, Nat.le_refl _, hgc, Below.refl _ _⟩
            clear ha hgc
            go_wp2
            go_loopg [6] X (fun k x wr' => G3 wr Y G X k x wr')
            case atStart => exact HST.out
            case round =>
              clear HST hl hl'
              obtain ⟨a, la, ca, rfl, ha, hk0, hkX, hgc, hb3⟩ := hrel
              have k3e : True := trivial
              obtain ⟨hl, ba, oa, rfl, c0, hlm⟩ := ha.first hk0
              have hl' : (0 : Int) < la := by omega
              obtain ⟨p, hp⟩ : ∃ p, p = hf.dg (gk : Int) 0 := ⟨_, rfl⟩
              have ep := low_even gk
              have rp := hf.dg_range (gk : Int) 0
              rw [← hp] at c0 ep rp
              obtain ⟨rp0, rp1⟩ := rp
              clear hp hlm
              by_cases hx : gk % 2 = 0
              · rw [hx] at ep
                replace ep : p % 2 = 0 := ep
                have HGC : Hid _ := gcd_half hgc HO.out hx
                clear hgc
                go_wp2_with (go_at_call 97; fail)
                refine (hHalf _ la ca gk _ ha (FU.out _ (by omega))).mono ?_
                rintro e w4 ⟨a4, la4, ca4, rfl, ha4, hb4⟩
                go_wp2
                go_roundg (gk / 2)
                case measure => omega
                case rel => exact ⟨a4, la4, ca4, rfl, ha4, by omega, by omega, HGC.out, hb3.trans (hb4.mono hb3.size)⟩
              · replace ep : p % 2 = 1 := by rw [ep]; omega
                have hb3' := hb.below hb3
                have hl2 : 0 < lb := (hb.first hY0).1
                have hl2' : (0 : Int) < lb := by omega
                obtain ⟨X3, hX3⟩ : ∃ X3, X3 = gk := ⟨_, rfl⟩
                rw [← hX3] at ha hk0 hkX hgc
                have HST : Hid (G3 wr X3 G Y Y (.slice b lb cb) wr) := ⟨b, lb, cb, rfl, hb3', hY0, Nat.le_refl _, by rw [Nat.gcd_comm]; exact hgc, Below.refl _ _⟩
                clear hgc hb hb3' hl2 hX3
                go_wp2
                clear c0 hl hl' ep rp0 rp1 hl2'
                go_loopg [7] Y (fun k y wr' => G3 wr X3 G Y k y wr')
                case atStart => exact HST.out
                case round =>
                  clear HST
                  obtain ⟨b, lb, cb, rfl, hb, hj0, hjY, hgc, hb4⟩ := hrel
                  obtain ⟨hl, bb, ob, rfl, c0, hlm⟩ := hb.first hj0
                  have hl' : (0 : Int) < lb := by omega
                  obtain ⟨q, hq⟩ : ∃ q, q = hf.dg (gk : Int) 0 := ⟨_, rfl⟩
                  have eq := low_even gk
                  have rq := hf.dg_range (gk : Int) 0
                  rw [← hq] at c0 eq rq
                  obtain ⟨rq0, rq1⟩ := rq
                  clear hq hlm
                  by_cases hy : gk % 2 = 0
                  · rw [hy] at eq
                    replace eq : q % 2 = 0 := eq
                    have HGC : Hid _ := gcd_half hgc HO.out hy
                    clear hgc
                    go_wp2_with (go_at_call 97; fail)
                    refine (hHalf _ lb cb gk _ hb (FU.out _ (by omega))).mono ?_
                    rintro e w5 ⟨a5, la5, ca5, rfl, ha5, hb5⟩
                    go_wp2
                    go_roundg (gk / 2)
                    case measure => omega
                    case rel => exact ⟨a5, la5, ca5, rfl, ha5, by omega, by omega, HGC.out, hb4.trans (hb5.mono hb4.size)⟩
                  · replace eq : q % 2 = 1 := by rw [eq]; omega
                    have ha4 := ha.below hb4
                    have B1 := hbel.trans (hb3.mono hbel.size)
                    have B2 := B1.trans (hb4.mono B1.size)
                    obtain ⟨c, hc⟩ : ∃ c, c = cmpI (X3 : Int) gk := ⟨_, rfl⟩
                    have HC : Hid _ := hc
                    have HGC : Hid _ := hgc
                    rcases Nat.lt_or_ge X3 gk with hlt | hge
                    · have hc0 : c < 0 := by rw [hc]; unfold cmpI; rw [if_pos (by omega)]; decide
                      clear hc hgc
                      go_wp2_with (go_at_call 73; fail)
                      refine (hCmp _ _ la lb ca cb X3 gk _ ha4 hb HC.out).mono ?_
                      rintro e w5 ⟨rfl, hb5⟩
                      go_wp2_with (go_at_call 75; fail)
                      refine (hSub _ _ lb la cb ca gk X3 _ (hb.below hb5) (ha4.below hb5) (FU.out _ (by omega)) (FU.out _ (by omega)) (by omega)).mono ?_
                      rintro e w6 ⟨a6, l6, c6, rfl, h6, hb6⟩
                      go_wp2
                      go_roundg gk
                      case measure => omega
                      case rel => exact ⟨a6, l6, c6, _, la, ca, gk - X3, X3, rfl, rfl, h6, (ha4.below hb5).below hb6, by omega, hk0, by omega, by rw [gcd_less (by omega)]; exact HGC.out, B2.trans ((hb5.trans (hb6.mono hb5.size)).mono B2.size)⟩
                    · have hc0 : ¬ c < 0 := by rw [hc]; unfold cmpI; rw [if_neg (by omega)]; split <;> decide
                      clear hc hgc
                      go_wp2_with (go_at_call 73; fail)
                      refine (hCmp _ _ la lb ca cb X3 gk _ ha4 hb HC.out).mono ?_
                      rintro e w5 ⟨rfl, hb5⟩
                      go_wp2_with (go_at_call 75; fail)
                      refine (hSub _ _ la lb ca cb X3 gk _ (ha4.below hb5) (hb.below hb5) (FU.out _ (by omega)) (FU.out _ (by omega)) (by omega)).mono ?_
                      rintro e w6 ⟨a6, l6, c6, rfl, h6, hb6⟩
                      go_wp2
                      go_roundg X3
                      case measure => omega
                      case rel => exact ⟨a6, l6, c6, _, lb, cb, X3 - gk, gk, rfl, rfl, h6, (hb.below hb5).below hb6, by omega, hj0, by omega, by rw [gcd_less (by omega), Nat.gcd_comm]; exact HGC.out, B2.trans ((hb5.trans (hb6.mono hb5.size)).mono B2.size)⟩
    · replace ep : p % 2 = 1 := by rw [ep]; omega
      have hne : ¬ (gk % 2 = 0 ∧ Y % 2 = 0) := by omega
      have hodd := gcd_odd hne
      obtain ⟨G, hG⟩ : ∃ G, G = Nat.gcd gk Y := ⟨_, rfl⟩
      rw [← hG] at hodd
      have HO : Hid _ := hodd
      have HT : Hid (G * 2 ^ T = g) := by unfold Hid; rw [hG, HGG.out]; exact HG.out
      have HST : Hid (G2 w0 u v G (gk + Y) (.slice (some ⟨ba, oa, none⟩) la ca) (.slice (some ⟨bb, ob, none⟩) lb cb) wr) := ⟨_, la, ca, _, lb, cb, gk, Y, rfl, rfl, ha, hb, rfl, hY0, by omega, hG.symm, hbel⟩
      clear hG hodd hne HGG HXU hlm hlm2
      go_wp2
      clear c0 c1 ha hb hbel hl hl2 hl' hl2' ep eq rp0 rp1 rq0 rq1
      go_loopg [6, 7] (gk + Y) (fun k x y wr => G2 w0 u v G k x y wr)
      case atStart => exact HST.out
      case round =>
        clear HST hX0 hY0 hXu' hYv
        obtain ⟨a, la, ca, b, lb, cb, X, Y, rfl, rfl, ha, hb, hk, hY0, hku, hgc, hbel⟩ := hrel
        subst hk

        rcases Nat.eq_zero_or_pos X with hX0 | hX0
        · subst hX0
          obtain rfl : la = 0 := by rw [ha.len, hf.nlen_zero]
          obtain rfl : Y = G := by simpa using hgc
          have h1 := H1.out.below hbel
          have HST : Hid (G5 wr T T (.slice (some ⟨w.heap.size, 0, none⟩) 1 1) (.int .i64 0) wr) := ⟨_, 1, 1, 0, rfl, rfl, h1, by omega, Below.refl _ _⟩
          clear h1 hgc
          go_wp2
          go_loopg [5, 9] T (fun k one i wr' => G5 wr T k one i wr')
          case atStart => exact HST.out
          case round =>
            clear HST
            obtain ⟨a5, l5, c5, I, rfl, rfl, h5, hI, hb5⟩ := hrel
            rcases Nat.eq_zero_or_pos gk with h0 | h0
            · subst h0
              obtain rfl : I = T := by omega
              have HP : Hid _ := h5
              obtain ⟨P, hP⟩ : ∃ P, P = 2 ^ I := ⟨_, rfl⟩
              have h5 : HD _ a5 l5 c5 P := hP ▸ h5
              have hPu : P ≤ u := hP ▸ HPU.out
              have HT' : Hid (Y * P = g) := by rw [hP]; exact HT.out
              clear hP HP HPU HT
              go_wp2_with (go_at_call 76; fail)
              have H := hMul b a5 lb l5 cb c5 Y P _ (hb.below hb5) h5 (FU.out _ (by omega)) (FU.out _ (by omega))
              rw [HT'.out] at H
              refine H.mono ?_
              rintro e w9 ⟨a9, l9, c9, rfl, h9, hb9⟩
              go_wp2
              go_ret
              have B1 := hb0.trans (hbel.mono hb0.size)
              have B2 := B1.trans (hb5.mono B1.size)
              exact ⟨a9, l9, c9, rfl, h9, B2.trans (hb9.mono B2.size)⟩
            · have hlt : (I : Int) < T := by omega
              have hIT : 2 ^ I ≤ u := Nat.le_trans (Nat.pow_le_pow_right (by decide) (by omega)) HPU.out
              obtain ⟨P, hP⟩ : ∃ P, P = 2 ^ I := ⟨_, rfl⟩
              rw [← hP] at h5 hIT
              have HP : Hid (P + P = 2 ^ (I + 1)) := by unfold Hid; rw [hP, Nat.pow_succ]; omega
              clear hP
              go_wp2_with (go_at_call 72; fail)
              refine (hAdd a5 a5 l5 l5 c5 c5 P P _ h5 h5 (FU.out _ (by omega)) (FU.out _ (by omega))).mono ?_
              rw [HP.out]
              rintro e w9 ⟨a9, l9, c9, rfl, h9, hb9⟩
              go_wp2
              go_roundg (gk - 1)
              case measure => omega
              case rel => exact ⟨a9, l9, c9, I + 1, rfl, by simp, h9, by omega, hb5.trans (hb9.mono hb5.size)⟩
        · have hl : 0 < la := (ha.first hX0).1
          have hl' : (0 : Int) < la := by omega
          have HST : Hid (G3 wr Y G X X (.slice a la ca) wr) := ⟨a, la, ca, rfl, ha, hX0, Nat.le_refl _, hgc, Below.refl _ _⟩
          clear ha hgc
          go_wp2
          go_loopg [6] X (fun k x wr' => G3 wr Y G X k x wr')
          case atStart => exact HST.out
          case round =>
            clear HST hl hl'
            obtain ⟨a, la, ca, rfl, ha, hk0, hkX, hgc, hb3⟩ := hrel
            have k3e : True := trivial
            obtain ⟨hl, ba, oa, rfl, c0, hlm⟩ := ha.first hk0
            have hl' : (0 : Int) < la := by omega
            obtain ⟨p, hp⟩ : ∃ p, p = hf.dg (gk : Int) 0 := ⟨_, rfl⟩
            have ep := low_even gk
            have rp := hf.dg_range (gk : Int) 0
            rw [← hp] at c0 ep rp
            obtain ⟨rp0, rp1⟩ := rp
            clear hp hlm
            by_cases hx : gk % 2 = 0
            · rw [hx] at ep
              replace ep : p % 2 = 0 := ep
              have HGC : Hid _ := gcd_half hgc HO.out hx
              clear hgc
              go_wp2_with (go_at_call 97; fail)
              refine (hHalf _ la ca gk _ ha (FU.out _ (by omega))).mono ?_
              rintro e w4 ⟨a4, la4, ca4, rfl, ha4, hb4⟩
              go_wp2
              go_roundg (gk / 2)
              case measure => omega
              case rel => exact ⟨a4, la4, ca4, rfl, ha4, by omega, by omega, HGC.out, hb3.trans (hb4.mono hb3.size)⟩
            · replace ep : p % 2 = 1 := by rw [ep]; omega
              have hb3' := hb.below hb3
              have hl2 : 0 < lb := (hb.first hY0).1
              have hl2' : (0 : Int) < lb := by omega
              obtain ⟨X3, hX3⟩ : ∃ X3, X3 = gk := ⟨_, rfl⟩
              rw [← hX3] at ha hk0 hkX hgc
              have HST : Hid (G3 wr X3 G Y Y (.slice b lb cb) wr) := ⟨b, lb, cb, rfl, hb3', hY0, Nat.le_refl _, by rw [Nat.gcd_comm]; exact hgc, Below.refl _ _⟩
              clear hgc hb hb3' hl2 hX3
              go_wp2
              clear c0 hl hl' ep rp0 rp1 hl2'
              go_loopg [7] Y (fun k y wr' => G3 wr X3 G Y k y wr')
              case atStart => exact HST.out
              case round =>
                clear HST
                obtain ⟨b, lb, cb, rfl, hb, hj0, hjY, hgc, hb4⟩ := hrel
                obtain ⟨hl, bb, ob, rfl, c0, hlm⟩ := hb.first hj0
                have hl' : (0 : Int) < lb := by omega
                obtain ⟨q, hq⟩ : ∃ q, q = hf.dg (gk : Int) 0 := ⟨_, rfl⟩
                have eq := low_even gk
                have rq := hf.dg_range (gk : Int) 0
                rw [← hq] at c0 eq rq
                obtain ⟨rq0, rq1⟩ := rq
                clear hq hlm
                by_cases hy : gk % 2 = 0
                · rw [hy] at eq
                  replace eq : q % 2 = 0 := eq
                  have HGC : Hid _ := gcd_half hgc HO.out hy
                  clear hgc
                  go_wp2_with (go_at_call 97; fail)
                  refine (hHalf _ lb cb gk _ hb (FU.out _ (by omega))).mono ?_
                  rintro e w5 ⟨a5, la5, ca5, rfl, ha5, hb5⟩
                  go_wp2
                  go_roundg (gk / 2)
                  case measure => omega
                  case rel => exact ⟨a5, la5, ca5, rfl, ha5, by omega, by omega, HGC.out, hb4.trans (hb5.mono hb4.size)⟩
                · replace eq : q % 2 = 1 := by rw [eq]; omega
                  have ha4 := ha.below hb4
                  have B1 := hbel.trans (hb3.mono hbel.size)
                  have B2 := B1.trans (hb4.mono B1.size)
                  obtain ⟨c, hc⟩ : ∃ c, c = cmpI (X3 : Int) gk := ⟨_, rfl⟩
                  have HC : Hid _ := hc
                  have HGC : Hid _ := hgc
                  rcases Nat.lt_or_ge X3 gk with hlt | hge
                  · have hc0 : c < 0 := by rw [hc]; unfold cmpI; rw [if_pos (by omega)]; decide
                    clear hc hgc
                    go_wp2_with (go_at_call 73; fail)
                    refine (hCmp _ _ la lb ca cb X3 gk _ ha4 hb HC.out).mono ?_
                    rintro e w5 ⟨rfl, hb5⟩
                    go_wp2_with (go_at_call 75; fail)
                    refine (hSub _ _ lb la cb ca gk X3 _ (hb.below hb5) (ha4.below hb5) (FU.out _ (by omega)) (FU.out _ (by omega)) (by omega)).mono ?_
                    rintro e w6 ⟨a6, l6, c6, rfl, h6, hb6⟩
                    go_wp2
                    go_roundg gk
                    case measure => omega
                    case rel => exact ⟨a6, l6, c6, _, la, ca, gk - X3, X3, rfl, rfl, h6, (ha4.below hb5).below hb6, by omega, hk0, by omega, by rw [gcd_less (by omega)]; exact HGC.out, B2.trans ((hb5.trans (hb6.mono hb5.size)).mono B2.size)⟩
                  · have hc0 : ¬ c < 0 := by rw [hc]; unfold cmpI; rw [if_neg (by omega)]; split <;> decide
                    clear hc hgc
                    go_wp2_with (go_at_call 73; fail)
                    refine (hCmp _ _ la lb ca cb X3 gk _ ha4 hb HC.out).mono ?_
                    rintro e w5 ⟨rfl, hb5⟩
                    go_wp2_with (go_at_call 75; fail)
                    refine (hSub _ _ la lb ca cb X3 gk _ (ha4.below hb5) (hb.below hb5) (FU.out _ (by omega)) (FU.out _ (by omega)) (by omega)).mono ?_
                    rintro e w6 ⟨a6, l6, c6, rfl, h6, hb6⟩
                    go_wp2
                    go_roundg X3
                    case measure => omega
                    case rel => exact ⟨a6, l6, c6, _, lb, cb, X3 - gk, gk, rfl, rfl, h6, (hb.below hb5).below hb6, by omega, hj0, by omega, by rw [gcd_less (by omega), Nat.gcd_comm]; exact HGC.out, B2.trans ((hb5.trans (hb6.mono hb5.size)).mono B2.size)⟩
end Go.Proofs.YtaekgomplkkocaaGreatDoor

namespace Go.Proofs.YtaekgomplkkocaaGreatDoor
open Go.RowKit
set_option linter.unusedVariables false

/-- The reference's fraction. -/
structure RQ (w : World) (K : Nat) (s : Int) (d : Option Addr) (l c : Nat) (t : Int) (g : Option Addr) (h k : Nat) (N : Int) (D : Nat) : Prop where
  rn : RN w s d l c N
  rd : RN w t g h k (D : Int)
  dp : 0 < D
  ns : N.natAbs < 4294967296 ^ K
  ds : D < 4294967296 ^ K
  kk : K ≤ 10000
theorem RQ.below {w w' : World} {K : Nat} {s : Int} {d : Option Addr} {l c : Nat} {t : Int} {g : Option Addr} {h k : Nat} {N : Int} {D : Nat} (q : RQ w K s d l c t g h k N D) (hb : Below w.heap.size w w') : RQ w' K s d l c t g h k N D := ⟨q.rn.below hb, q.rd.below hb, q.dp, q.ns, q.ds, q.kk⟩
theorem RQ.more {w : World} {K L : Nat} {s : Int} {d : Option Addr} {l c : Nat} {t : Int} {g : Option Addr} {h k : Nat} {N : Int} {D : Nat} (q : RQ w K s d l c t g h k N D) (hL : K ≤ L) (kk : L ≤ 10000) : RQ w L s d l c t g h k N D :=
  ⟨q.rn, q.rd, q.dp, Nat.lt_of_lt_of_le q.ns (Nat.pow_le_pow_right (by decide) hL), Nat.lt_of_lt_of_le q.ds (Nat.pow_le_pow_right (by decide) hL), kk⟩
theorem RQ.fn {w : World} {K : Nat} {s : Int} {d : Option Addr} {l c : Nat} {t : Int} {g : Option Addr} {h k : Nat} {N : Int} {D : Nat} (q : RQ w K s d l c t g h k N D) : hf.nlen N.natAbs ≤ 1000000 := hfew q.ns (by have := q.kk; omega)
theorem RQ.fd {w : World} {K : Nat} {s : Int} {d : Option Addr} {l c : Nat} {t : Int} {g : Option Addr} {h k : Nat} {N : Int} {D : Nat} (q : RQ w K s d l c t g h k N D) : hf.nlen ((D : Nat) : Int).natAbs ≤ 1000000 := by rw [Int.natAbs_natCast]; exact hfew q.ds (by have := q.kk; omega)
theorem RN.put4 {w : World} {s : Int} {d : Option Addr} {l c b : Nat} {z : Int} (h : RN w s d l c z) (hn : NA b d l) (x y u v : Value) : RN ((((w.setCell ⟨b, 0, none⟩ x).setCell ⟨b, 1, none⟩ y).setCell ⟨b, 2, none⟩ u).setCell ⟨b, 3, none⟩ v) s d l c z := ((((h.put hn 0 x).put hn 1 y).put hn 2 u).put hn 3 v)
def GotRQ (w : World) (P : Nat → Prop) (K : Nat) (N : Int) (D : Nat) (e : Ending) (w' : World) : Prop := ∃ (s : Int) (d : Option Addr) (l c : Nat) (t : Int) (g : Option Addr) (h k : Nat), e = .returned (.agg #[.int .i64 s, .slice d l c, .int .i64 t, .slice g h k]) ∧ RQ w' K s d l c t g h k N D ∧ (∀ j, j < w.heap.size → P j → NA j d l ∧ NA j g h) ∧ Below w.heap.size w w'
theorem endRQ {w w2 : World} {P : Nat → Prop} {K : Nat} {s : Int} {d : Option Addr} {l c : Nat} {t : Int} {g : Option Addr} {h k : Nat} {N : Int} {D : Nat} (b : Nat) (hb : w.heap.size ≤ b) (B : Below w.heap.size w w2) (q : RQ w2 K s d l c t g h k N D) (n1 : NA b d l) (n2 : NA b g h) (hf : ∀ j, j < w.heap.size → P j → NA j d l ∧ NA j g h) (x y u v : Value) :
    GotRQ w P K N D (.returned (.agg #[.int .i64 s, .slice d l c, .int .i64 t, .slice g h k])) ((((w2.setCell ⟨b, 0, none⟩ x).setCell ⟨b, 1, none⟩ y).setCell ⟨b, 2, none⟩ u).setCell ⟨b, 3, none⟩ v) :=
  ⟨s, d, l, c, t, g, h, k, rfl, ⟨q.rn.put4 n1 x y u v, q.rd.put4 n2 x y u v, q.dp, q.ns, q.ds, q.kk⟩, hf, below_put4 B hb x y u v⟩
theorem rn_nat {w : World} {d : Option Addr} {l c u : Nat} (h : HD w d l c u) (h0 : 0 < u) : RN w 1 d l c (u : Int) := ⟨by rw [Int.natAbs_natCast]; exact h, (sign_pos (by omega)).symm⟩
theorem flQ_pos (x : Int) (D : Nat) (hD : 0 < D) : flQ x D * D ≤ x ∧ x < flQ x D * D + D := by
  have e := Nat.div_add_mod x.natAbs D
  have hr := Nat.mod_lt x.natAbs hD
  unfold flQ
  rw [Int.natAbs_natCast, Int.sign_natCast_of_ne_zero (by omega), Int.mul_one]
  generalize hq : x.natAbs / D = q at e ⊢
  generalize hm : x.natAbs % D = r at e hr ⊢
  have e2 : (x.natAbs : Int) = (q : Int) * D + r := by rw [← e, Nat.mul_comm]; simp
  clear hq hm e
  generalize hp : (q : Int) * D = p at e2
  rcases wsign_cases x with ⟨h, s⟩ | ⟨h, s⟩ | ⟨h, s⟩ <;> rw [s]
  · by_cases h0 : r = 0
    · rw [if_neg (by omega), Int.sub_zero, Int.neg_mul, Int.one_mul, Int.neg_mul, hp]; omega
    · rw [if_pos (by omega), Int.sub_mul, Int.one_mul, Int.neg_mul, Int.one_mul, Int.neg_mul, hp]; omega
  · rw [if_neg (by omega), Int.sub_zero, Int.zero_mul, Int.zero_mul]; omega
  · rw [if_neg (by omega), Int.sub_zero, Int.one_mul, hp]; omega
theorem flQ_abs (x : Int) (D K : Nat) (hD : 0 < D) (hx : x.natAbs < 4294967296 ^ K) (hd : D < 4294967296 ^ K) : (flQ x D).natAbs < 4294967296 ^ (K + 1) ∧ (flQ x D * D).natAbs < 4294967296 ^ (K + 1) := by
  obtain ⟨h1, h2⟩ := flQ_pos x D hD
  have h3 : (flQ x D * D).natAbs < 4294967296 ^ (K + 1) := by rw [Nat.pow_succ]; omega
  refine ⟨Nat.lt_of_le_of_lt ?_ h3, h3⟩
  rw [Int.natAbs_mul, Int.natAbs_natCast]
  exact Nat.le_mul_of_pos_right _ hD
theorem quo_abs (x : Int) (D : Nat) : (x.sign * ((D : Nat) : Int).sign * ((x.natAbs / ((D : Nat) : Int).natAbs : Nat) : Int)).natAbs ≤ x.natAbs := by
  rw [sg_mul, Int.natAbs_mul, Int.natAbs_natCast]
  have : (x * (D : Int)).sign.natAbs ≤ 1 := by rcases wsign_cases (x * (D : Int)) with ⟨_, s⟩ | ⟨_, s⟩ | ⟨_, s⟩ <;> rw [s] <;> decide
  exact Nat.le_trans (Nat.mul_le_mul this (Nat.div_le_self _ _)) (by rw [Nat.one_mul]; exact Nat.le_refl _)
set_option maxRecDepth 100000 in
set_option maxHeartbeats 1000000 in
theorem rqOf (n : Bool) (a : Option Addr) (la ca : Nat) (d : Option Addr) (ld cd : Nat) (za : Int) (Da K : Nat) (w : World) (ha : QI w K n a la ca d ld cd za Da) :
    Calls Tryz.prog 8 #[.agg #[.bool n, .slice a la ca, .slice d ld cd]] w (GotRQ w (fun _ => True) K (pN za Da) (pD Da)) := by
  have hpn := ha.pn
  have hpd := ha.pd
  have hk := ha.kk
  obtain ⟨W, hW, bW, x_a, x_z, sW⟩ := bs_34 w (.bool n) (.slice a la ca) (.slice d ld cd) (.int .i64 0) (.slice none 0 0) (.int .i64 0) (.slice none 0 0) 27 34
  have zbW := bW.size
  replace ha := ha.below bW
  have BB := bW
  go_enter Tryz.func8, Tryz.ntmps8
  go_wp2_with (go_at_call 34; fail)
  rw [← hW]
  clear hW
  refine (hfOf d ld cd _ W ha.ni).mono ?_
  rintro e w1 ⟨d1, l1, c1, rfl, h1, f1, bw1⟩
  have zbw1 := bw1.size
  replace ha := ha.below bw1
  replace BB := also BB bw1
  replace x_a := x_a.on bw1
  replace x_z := x_z.on bw1
  by_cases h0 : Da = 0
  · obtain rfl : l1 = 0 := h1.pos.2 h0
    subst h0
    go_wp2_with (go_at_call 25; fail)
    refine (rwLong 1 w1 (by decide) (by decide)).mono ?_
    rintro e w2 ⟨s2, d2, l2, c2, rfl, h2, f2, bw2⟩
    have zbw2 := bw2.size
    replace ha := ha.below bw2
    replace BB := also BB bw2
    replace x_a := x_a.on bw2
    replace x_z := x_z.on bw2
    replace h1 := h1.below bw2
    have ⟨x_z_0, x_z_1, x_z_2, x_z_3, x_z_4, x_z_5, x_z_6, x_z_7⟩ := x_z
    go_wp2
    exact bodyPost_ret (v := .agg #[.int .i64 0, .slice none 0 0, .int .i64 s2, .slice d2 l2 c2]) (by simp [results, Tryz.results8, go_sem, *]) rfl (endRQ _ (by omega) BB ⟨rn_zero _ 0, h2, by decide, hpn, hpd, hk⟩ (Or.inl rfl) (f2 _ (by omega) trivial) (fun j hj _ => ⟨Or.inl rfl, f2 j (by omega) trivial⟩) _ _ _ _)
  · have hl : ¬ (l1 : Int) = 0 := by have := h1.pos; omega
    have ez : pN za Da = za := if_neg h0
    have eD : pD Da = Da := if_neg h0
    rw [ez] at hpn
    rw [eD] at hpd
    have hl1 := f1
    have ⟨x_a_0, x_a_1, x_a_2, x_a_3, x_a_4, x_a_5⟩ := x_a
    go_wp2_with (go_at_call 26; fail)
    refine (rwOf n a la ca za w1 ha.wi).mono ?_
    rintro e w2 ⟨s2, d2, l2, c2, rfl, h2, f2, bw2⟩
    clear x_a_0 x_a_1 x_a_2 x_a_3 x_a_4 x_a_5
    have zbw2 := bw2.size
    replace ha := ha.below bw2
    replace BB := also BB bw2
    replace x_a := x_a.on bw2
    replace x_z := x_z.on bw2
    replace h1 := h1.below bw2
    have ⟨x_z_0, x_z_1, x_z_2, x_z_3, x_z_4, x_z_5, x_z_6, x_z_7⟩ := x_z
    go_wp2
    exact bodyPost_ret (v := .agg #[.int .i64 s2, .slice d2 l2 c2, .int .i64 1, .slice d1 l1 c1]) (by simp [results, Tryz.results8, go_sem, *]) rfl (by rw [ez, eD]; exact endRQ _ (by omega) BB ⟨h2, rn_nat h1 (by omega), by omega, hpn, hpd, hk⟩ (f2 _ (by omega) trivial) (f1 _ (by omega)) (fun j hj _ => ⟨f2 j (by omega) trivial, f1 j (by omega)⟩) _ _ _ _)
set_option maxRecDepth 100000 in
set_option maxHeartbeats 1000000 in
theorem rqLong (x : Int) (w : World) (h1 : -9223372036854775808 ≤ x) (h2 : x ≤ 9223372036854775807) : Calls Tryz.prog 19 #[.int .i64 x] w (GotRQ w (fun _ => True) 2 x 1) := by
  have HX1 : Hid _ := h1
  have HX2 : Hid _ := h2
  have HX3 : Hid (x.natAbs < 4294967296 ^ 2) := by unfold Hid; omega
  clear h1 h2
  obtain ⟨W, hW, bW, x_z, sW⟩ := bs_4 w (.int .i64 0) (.slice none 0 0) (.int .i64 0) (.slice none 0 0) 34
  have zbW := bW.size
  have BB := bW
  go_enter Tryz.func19, Tryz.ntmps19
  go_wp2_with (go_at_call 25; fail)
  rw [← hW]
  clear hW
  refine (rwLong x W HX1.out HX2.out).mono ?_
  rintro e w1 ⟨s1, d1, l1, c1, rfl, h1, f1, bw1⟩
  have zbw1 := bw1.size
  replace BB := also BB bw1
  replace x_z := x_z.on bw1
  go_wp2_with (go_at_call 25; fail)
  refine (rwLong 1 w1 (by decide) (by decide)).mono ?_
  rintro e w2 ⟨s2, d2, l2, c2, rfl, h2, f2, bw2⟩
  have zbw2 := bw2.size
  replace BB := also BB bw2
  replace x_z := x_z.on bw2
  replace h1 := h1.below bw2
  have ⟨x_z_0, x_z_1, x_z_2, x_z_3, x_z_4, x_z_5, x_z_6, x_z_7⟩ := x_z
  go_wp2
  exact bodyPost_ret (v := .agg #[.int .i64 s1, .slice d1 l1 c1, .int .i64 s2, .slice d2 l2 c2]) (by simp [results, Tryz.results19, go_sem, *]) rfl (endRQ _ (by omega) BB ⟨h1, h2, by decide, HX3.out, by decide, by decide⟩ (f1 _ (by omega) trivial) (f2 _ (by omega) trivial) (fun j hj _ => ⟨f1 j (by omega) trivial, f2 j (by omega) trivial⟩) _ _ _ _)
set_option maxRecDepth 100000 in
set_option maxHeartbeats 1000000 in
theorem rqNeg (s1 : Int) (d1 : Option Addr) (l1 c1 : Nat) (t1 : Int) (g1 : Option Addr) (h1 k1 : Nat) (N1 : Int) (D1 : Nat) (K : Nat) (w : World) (x : RQ w K s1 d1 l1 c1 t1 g1 h1 k1 N1 D1) (N : Int) (hN : N = -N1) :
    Calls Tryz.prog 15 #[.agg #[.int .i64 s1, .slice d1 l1 c1, .int .i64 t1, .slice g1 h1 k1]] w (GotRQ w (fun j => NA j d1 l1 ∧ NA j g1 h1) K N D1) := by
  have HN : Hid _ := hN
  have n1 : NA (w.heap.size + 1) d1 l1 := x.rn.hd.sl.na (by omega)
  have n2 : NA (w.heap.size + 1) g1 h1 := x.rd.hd.sl.na (by omega)
  have HS : Hid (N.natAbs < 4294967296 ^ K) := by unfold Hid; rw [hN, Int.natAbs_neg]; exact x.ns
  clear hN
  obtain ⟨W, hW, bW, x_a, x_z, sW⟩ := bs_44 w (.int .i64 s1) (.slice d1 l1 c1) (.int .i64 t1) (.slice g1 h1 k1) (.int .i64 0) (.slice none 0 0) (.int .i64 0) (.slice none 0 0) 34 34
  have zbW := bW.size
  replace x := x.below bW
  have BB := bW
  go_enter Tryz.func15, Tryz.ntmps15
  go_wp2
  rw [← hW]
  clear hW
  have dd1 : Below W.heap.size W W.drew := (Below.refl _ _).drew
  have zdd1 := dd1.size
  replace x := x.below dd1
  replace BB := also BB dd1
  replace x_a := x_a.on dd1
  replace x_z := x_z.on dd1
  refine wp_region_held_drew (S := (fun w' => w'.cell? ⟨w.heap.size, 0, none⟩ = some (.int .i64 s1) ∧ w'.cell? ⟨w.heap.size, 1, none⟩ = some (.slice d1 l1 c1) ∧ w'.cell? ⟨w.heap.size, 2, none⟩ = some (.int .i64 t1) ∧ w'.cell? ⟨w.heap.size, 3, none⟩ = some (.slice g1 h1 k1) ∧ Below w.heap.size w w')) (by kernel_rfl) ?_ (fun hHeld => ?_)
  · first | exact ⟨x_a.c0, x_a.c1, x_a.c2, x_a.c3, BB⟩ | exact ⟨cell_on bw3 hHeld.1, cell_on bw3 hHeld.2.1, cell_on bw3 hHeld.2.2.1, cell_on bw3 hHeld.2.2.2.1, also hHeld.2.2.2.2 bw3⟩ | exact ⟨cell_put4 hHeld.1 (by omega) _ _ _ _, cell_put4 hHeld.2.1 (by omega) _ _ _ _, cell_put4 hHeld.2.2.1 (by omega) _ _ _ _, cell_put4 hHeld.2.2.2.1 (by omega) _ _ _ _, below_put4 hHeld.2.2.2.2 (by omega) _ _ _ _⟩
  refine take_yes (i := 0) (v := ?vr0) rfl (by kernel_rfl) (by kernel_rfl) (by kernel_rfl) (fun _ _ _ h => h) (by rfl) (by assumption) ?hyr0 ?restr0
  case hyr0 => (intro w hSw; (try dsimp only at hSw); first | (go_simp; done) | (go_simp; with_reducible rfl))
  simp only [Act.put, List.setIfInBounds_toArray, List.set_cons_zero, List.set_cons_succ]
  refine take_yes (i := 1) (v := ?vr1) rfl (by kernel_rfl) (by kernel_rfl) (by kernel_rfl) (fun _ _ _ h => h) (by rfl) (by assumption) ?hyr1 ?restr1
  case hyr1 => (intro w hSw; (try dsimp only at hSw); first | (go_simp; done) | (go_simp; with_reducible rfl))
  simp only [Act.put, List.setIfInBounds_toArray, List.set_cons_zero, List.set_cons_succ]
  refine take_yes (i := 3) (v := ?vr3) rfl (by kernel_rfl) (by kernel_rfl) (by kernel_rfl) (fun _ _ _ h => h) (by rfl) (by assumption) ?hyr3 ?restr3
  case hyr3 => (intro w hSw; (try dsimp only at hSw); first | (go_simp; done) | (go_simp; with_reducible rfl))
  simp only [Act.put, List.setIfInBounds_toArray, List.set_cons_zero, List.set_cons_succ]
  refine take_yes (i := 4) (v := ?vr4) rfl (by kernel_rfl) (by kernel_rfl) (by kernel_rfl) (fun _ _ _ h => h) (by rfl) (by assumption) ?hyr4 ?restr4
  case hyr4 => (intro w hSw; (try dsimp only at hSw); first | (go_simp; done) | (go_simp; with_reducible rfl))
  simp only [Act.put, List.setIfInBounds_toArray, List.set_cons_zero, List.set_cons_succ]
  refine take_call (i := 2) rfl (by kernel_rfl) (fun Kc hK => ?_)
  go_simp
  (go_at_call 46; refine (rwNeg s1 d1 l1 c1 N1 N _ x.rn HN.out).mono ?_; rintro e w3 ⟨s3, d3, l3, c3, rfl, h3, f3, bw3⟩)
  refine hK.out _ _ ?_ (fun hHeld => ?_)
  · first | exact ⟨x_a.c0, x_a.c1, x_a.c2, x_a.c3, BB⟩ | exact ⟨cell_on bw3 hHeld.1, cell_on bw3 hHeld.2.1, cell_on bw3 hHeld.2.2.1, cell_on bw3 hHeld.2.2.2.1, also hHeld.2.2.2.2 bw3⟩ | exact ⟨cell_put4 hHeld.1 (by omega) _ _ _ _, cell_put4 hHeld.2.1 (by omega) _ _ _ _, cell_put4 hHeld.2.2.1 (by omega) _ _ _ _, cell_put4 hHeld.2.2.2.1 (by omega) _ _ _ _, below_put4 hHeld.2.2.2.2 (by omega) _ _ _ _⟩
  clear hK Kc
  have zbw3 := bw3.size
  replace x := x.below bw3
  replace BB := also BB bw3
  replace x_a := x_a.on bw3
  replace x_z := x_z.on bw3
  refine take_yes (i := 5) (v := ?vr5) rfl (by kernel_rfl) (by kernel_rfl) (by kernel_rfl) (fun _ _ _ h => h) (by rfl) (by assumption) ?hyr5 ?restr5
  case hyr5 => (intro w hSw; (try dsimp only at hSw); first | (go_simp; done) | (go_simp; with_reducible rfl))
  simp only [Act.put, List.setIfInBounds_toArray, List.set_cons_zero, List.set_cons_succ]
  have ⟨x_z_0, x_z_1, x_z_2, x_z_3, x_z_4, x_z_5, x_z_6, x_z_7⟩ := x_z
  refine take_call (i := 6) rfl (by kernel_rfl) (fun Kc hK => ?_)
  go_simp
  refine hK.out _ _ ?_ (fun hHeld => ?_)
  · first | exact ⟨x_a.c0, x_a.c1, x_a.c2, x_a.c3, BB⟩ | exact ⟨cell_on bw3 hHeld.1, cell_on bw3 hHeld.2.1, cell_on bw3 hHeld.2.2.1, cell_on bw3 hHeld.2.2.2.1, also hHeld.2.2.2.2 bw3⟩ | exact ⟨cell_put4 hHeld.1 (by omega) _ _ _ _, cell_put4 hHeld.2.1 (by omega) _ _ _ _, cell_put4 hHeld.2.2.1 (by omega) _ _ _ _, cell_put4 hHeld.2.2.2.1 (by omega) _ _ _ _, below_put4 hHeld.2.2.2.2 (by omega) _ _ _ _⟩
  clear hK Kc
  refine wpAnyH_done (by kernel_rfl) ?_ _
  go_wp2
  exact bodyPost_ret (v := .agg #[.int .i64 s3, .slice d3 l3 c3, .int .i64 t1, .slice g1 h1 k1]) (by simp [results, Tryz.results15, go_sem, *]) rfl (endRQ _ (by omega) BB ⟨h3, x.rd, x.dp, HS.out, x.ds, x.kk⟩ (f3 _ (by omega) n1) n2 (fun j hj q => ⟨f3 j (by omega) q.1, q.2⟩) _ _ _ _)
end Go.Proofs.YtaekgomplkkocaaGreatDoor

namespace Go.Proofs.YtaekgomplkkocaaGreatDoor
open Go.RowKit
set_option linter.unusedVariables false

theorem QI.put {w : World} {K : Nat} {n : Bool} {a : Option Addr} {l c : Nat} {d : Option Addr} {m k : Nat} {z : Int} {D b : Nat} (h : QI w K n a l c d m k z D) (n1 : NA b a l) (n2 : NA b d m) (i : Nat) (v : Value) : QI (w.setCell ⟨b, i, none⟩ v) K n a l c d m k z D := ⟨h.wi.put n1 i v, h.ni.put n2 i v, h.zs, h.ds, h.k1, h.kk⟩
theorem QN.put {w : World} {n : Bool} {a : Option Addr} {l c : Nat} {d : Option Addr} {m k : Nat} {z : Int} {D b : Nat} (h : QN w n a l c d m k z D) (n1 : NA b a l) (n2 : NA b d m) (i : Nat) (v : Value) : QN (w.setCell ⟨b, i, none⟩ v) n a l c d m k z D := ⟨h.wn.put n1 i v, h.nd.put n2 i v⟩
theorem RQ.put {w : World} {K : Nat} {s : Int} {d : Option Addr} {l c : Nat} {t : Int} {g : Option Addr} {h k : Nat} {N : Int} {D b : Nat} (q : RQ w K s d l c t g h k N D) (n1 : NA b d l) (n2 : NA b g h) (i : Nat) (v : Value) : RQ (w.setCell ⟨b, i, none⟩ v) K s d l c t g h k N D := ⟨q.rn.put n1 i v, q.rd.put n2 i v, q.dp, q.ns, q.ds, q.kk⟩
theorem QI.set3 {w w' : World} {K : Nat} {n : Bool} {a : Option Addr} {l c : Nat} {d : Option Addr} {m k : Nat} {z : Int} {D : Nat} {b : Nat} {u v t : Value} (h : QI w K n a l c d m k z D) (e : w' = ((w.setCell ⟨b, 0, none⟩ u).setCell ⟨b, 1, none⟩ v).setCell ⟨b, 2, none⟩ t) (n1 : NA b a l) (n2 : NA b d m) : QI w' K n a l c d m k z D := by
  rw [e]; exact ((h.put n1 n2 0 u).put n1 n2 1 v).put n1 n2 2 t
end Go.Proofs.YtaekgomplkkocaaGreatDoor

namespace Go.Proofs.YtaekgomplkkocaaGreatDoor
open Go.RowKit
set_option linter.unusedVariables false

/-- A fraction and an error. -/
def GotMk (w : World) (z : Int) (D : Nat) (E : Int) (e : Ending) (w' : World) : Prop := ∃ (n : Bool) (a : Option Addr) (l c : Nat) (d : Option Addr) (m k : Nat), e = .returned (.tuple #[.agg #[.bool n, .slice a l c, .slice d m k], .int .i64 E]) ∧ QN w' n a l c d m k z D ∧ Far w.heap.size a l ∧ Far w.heap.size d m ∧ Below w.heap.size w w'
theorem endMk {w w2 : World} {n : Bool} {a : Option Addr} {l c : Nat} {d : Option Addr} {m k : Nat} {z : Int} {D : Nat} {E : Int} (b : Nat) (hb : w.heap.size ≤ b) (B : Below w.heap.size w w2) (h : QN w2 n a l c d m k z D) (f1 : Far (b + 1) a l) (f2 : Far (b + 1) d m) (u v t : Value) :
    GotMk w z D E (.returned (.tuple #[.agg #[.bool n, .slice a l c, .slice d m k], .int .i64 E])) (((w2.setCell ⟨b, 0, none⟩ u).setCell ⟨b, 1, none⟩ v).setCell ⟨b, 2, none⟩ t) :=
  ⟨n, a, l, c, d, m, k, rfl, h.put3 (f1 b (by omega)) (f2 b (by omega)) u v t, f1.mono (by omega), f2.mono (by omega), below_put3 B hb u v t⟩
theorem ne_not {n m : Bool} (h : ¬ n = m) : m = !n := by cases n <;> cases m <;> first | rfl | exact absurd rfl h
theorem bne_self (m : Bool) : (m != m) = false := by cases m <;> rfl
theorem bne_not (n : Bool) : (n != !n) = true := by cases n <;> rfl
theorem wi_over {w : World} {n m : Bool} {a b : Option Addr} {la ca lb cb : Nat} {x y : Int} (ha : WI w n a la ca x) (hb : WI w m b lb cb y) (h0 : y ≠ 0) : WI w (n != m) a la ca (x * y.sign) := by
  have h1 := ha.neg
  have h2 := ha.pos
  have h3 := hb.neg
  have h4 := hb.pos
  rcases wsign_cases y with ⟨hy, e⟩ | ⟨hy, e⟩ | ⟨hy, e⟩
  · rw [e]
    obtain rfl : m = true := by cases m; (have := h4 rfl; omega); rfl
    refine ⟨by rw [show (x * -1).natAbs = x.natAbs by omega]; exact ha.ni, ?_, ?_⟩ <;> cases n <;> simp <;> first | (have := h1 rfl; omega) | (have := h2 rfl; omega)
  · exact absurd hy h0
  · rw [e]
    obtain rfl : m = false := by cases m; rfl; (have := h3 rfl; omega)
    refine ⟨by rw [Int.mul_one]; exact ha.ni, ?_, ?_⟩ <;> cases n <;> simp <;> first | (have := h1 rfl; omega) | (have := h2 rfl; omega)
set_option maxRecDepth 100000 in
set_option maxHeartbeats 1000000 in
theorem qOf (x : Int) (w : World) (h1 : -9223372036854775808 ≤ x) (h2 : x ≤ 9223372036854775807) : Calls Tryz.prog 60 #[.int .i64 x] w (GotQ w x 1) := by
  have HX1 : Hid _ := h1
  have HX2 : Hid _ := h2
  clear h1 h2
  obtain ⟨W, hW, bW, x_z, sW⟩ := bs_3 w (.bool false) (.slice none 0 0) (.slice none 0 0) 27
  have zbW := bW.size
  have BB := bW
  go_enter Tryz.func60, Tryz.ntmps60
  go_wp2_with (go_at_call 93; fail)
  rw [← hW]
  clear hW
  refine (wOf x W HX1.out HX2.out).mono ?_
  rintro e w1 ⟨n1, a1, l1, c1, rfl, h1, f1, bw1⟩
  have zbw1 := bw1.size
  replace BB := also BB bw1
  replace x_z := x_z.on bw1
  go_wp2_with (go_at_call 55; fail)
  refine (fOf 1 (by decide) rfl w1).mono ?_
  rintro e w2 ⟨a2, l2, c2, rfl, h2, f2, bw2⟩
  have zbw2 := bw2.size
  replace BB := also BB bw2
  replace x_z := x_z.on bw2
  replace h1 := h1.below bw2
  have ⟨x_z_0, x_z_1, x_z_2, x_z_3, x_z_4, x_z_5⟩ := x_z
  go_wp2
  exact bodyPost_ret (v := .agg #[.bool n1, .slice a1 l1 c1, .slice a2 l2 c2]) (by simp [results, Tryz.results60, go_sem, *]) rfl (endQ _ (by omega) BB ⟨h1, h2⟩ (f1.mono (by omega)) (f2.mono (by omega)) _ _ _)
set_option maxRecDepth 100000 in
set_option maxHeartbeats 1000000 in
theorem qMake0 (n m : Bool) (a b : Option Addr) (la lb ca cb : Nat) (x y : Int) (w : World) (ha : WI w n a la ca x) (hb : WI w m b lb cb y) (h0 : y = 0) :
    Calls Tryz.prog 47 #[.agg #[.bool n, .slice a la ca], .agg #[.bool m, .slice b lb cb]] w (GotMk w 0 1 3) := by
  have HS : Hid ((0 : Int) = y.sign) := by unfold Hid; rw [h0]; rfl
  clear h0
  obtain ⟨W, hW, bW, x_a, x_b, x_z, sW⟩ := bs_223 w (.bool n) (.slice a la ca) (.bool m) (.slice b lb cb) (.bool false) (.slice none 0 0) (.slice none 0 0) 25 25 27
  have zbW := bW.size
  replace ha := ha.below bW
  replace hb := hb.below bW
  have BB := bW
  go_enter Tryz.func47, Tryz.ntmps47
  go_wp2_with (go_at_call 80; fail)
  rw [← hW]
  clear hW
  refine (wSign m b lb cb y W hb HS.out).mono ?_
  rintro e w1 ⟨rfl, bw1⟩
  have zbw1 := bw1.size
  replace ha := ha.below bw1
  replace hb := hb.below bw1
  replace BB := also BB bw1
  replace x_a := x_a.on bw1
  replace x_b := x_b.on bw1
  replace x_z := x_z.on bw1
  go_wp2_with (go_at_call 60; fail)
  refine (qOf 0 w1 (by decide) (by decide)).mono ?_
  rintro e w3 ⟨n3, a3, l3, c3, d3, m3, k3, rfl, h3, f3, g3, bw3⟩
  have zbw3 := bw3.size
  replace ha := ha.below bw3
  replace hb := hb.below bw3
  replace BB := also BB bw3
  replace x_a := x_a.on bw3
  replace x_b := x_b.on bw3
  replace x_z := x_z.on bw3
  have ⟨x_z_0, x_z_1, x_z_2, x_z_3, x_z_4, x_z_5⟩ := x_z
  go_wp2
  exact bodyPost_ret (v := .tuple #[.agg #[.bool n3, .slice a3 l3 c3, .slice d3 m3 k3], .int .i64 3]) (by simp [results, Tryz.results47, go_sem, *]) rfl (endMk _ (by omega) BB h3 (f3.mono (by omega)) (g3.mono (by omega)) _ _ _)
set_option maxRecDepth 100000 in
set_option maxHeartbeats 1000000 in
theorem qMake (n m : Bool) (a b : Option Addr) (la lb ca cb : Nat) (x y : Int) (w : World) (ha : WI w n a la ca x) (hb : WI w m b lb cb y) (h0 : y ≠ 0) (N : Int) (E : Nat) (hN : N = lowN (x * y.sign) y.natAbs) (hE : E = lowD (x * y.sign) y.natAbs) :
    Calls Tryz.prog 47 #[.agg #[.bool n, .slice a la ca], .agg #[.bool m, .slice b lb cb]] w (GotMk w N E 0) := by
  have HN : Hid _ := hN
  have HE : Hid _ := hE
  have hq := wi_over ha hb h0
  obtain ⟨s, hs⟩ : ∃ s, s = y.sign := ⟨_, rfl⟩
  have HS : Hid _ := hs
  have hs0 : ¬ s = 0 := by rw [hs]; exact fun e => h0 (Int.sign_eq_zero_iff_zero.1 e)
  have hy : 0 < y.natAbs := by omega
  clear hN hE hs h0
  obtain ⟨r, hr⟩ : ∃ r, r = (n != m) := ⟨_, rfl⟩
  have HR : Hid _ := hr
  have hr2 : (n != m) = r := hr.symm
  rw [hr2] at hq
  clear hr
  by_cases hnm : n = m
  · obtain rfl : r = false := by rw [← hr2, hnm]; exact bne_self m
    subst hnm
    clear hr2 HR
    obtain ⟨W, hW, bW, x_a, x_b, x_z, sW⟩ := bs_223 w (.bool n) (.slice a la ca) (.bool n) (.slice b lb cb) (.bool false) (.slice none 0 0) (.slice none 0 0) 25 25 27
    have zbW := bW.size
    replace ha := ha.below bW
    replace hb := hb.below bW
    replace hq := hq.below bW
    have BB := bW
    go_enter Tryz.func47, Tryz.ntmps47
    go_wp2_with (go_at_call 80; fail)
    rw [← hW]
    clear hW
    refine (wSign n b lb cb y W hb HS.out).mono ?_
    rintro e w1 ⟨rfl, bw1⟩
    have zbw1 := bw1.size
    replace ha := ha.below bw1
    replace hb := hb.below bw1
    replace hq := hq.below bw1
    replace BB := also BB bw1
    replace x_a := x_a.on bw1
    replace x_b := x_b.on bw1
    replace x_z := x_z.on bw1
    have ⟨x_a_0, x_a_1, x_a_2, x_a_3⟩ := x_a
    have ⟨x_b_0, x_b_1, x_b_2, x_b_3⟩ := x_b
    go_wp2_with (go_at_call 38; fail)
    refine (qLow false a la ca _ b lb cb _ w1 hq hb.ni hy N E HN.out HE.out).mono ?_
    rintro e w3 ⟨n3, a3, l3, c3, d3, m3, k3, rfl, h3, f3, g3, bw3⟩
    clear x_a_0 x_a_1 x_a_2 x_a_3 x_b_0 x_b_1 x_b_2 x_b_3
    have zbw3 := bw3.size
    replace ha := ha.below bw3
    replace hb := hb.below bw3
    replace hq := hq.below bw3
    replace BB := also BB bw3
    replace x_a := x_a.on bw3
    replace x_b := x_b.on bw3
    replace x_z := x_z.on bw3
    have ⟨x_z_0, x_z_1, x_z_2, x_z_3, x_z_4, x_z_5⟩ := x_z
    go_wp2
    exact bodyPost_ret (v := .tuple #[.agg #[.bool n3, .slice a3 l3 c3, .slice d3 m3 k3], .int .i64 0]) (by simp [results, Tryz.results47, go_sem, *]) rfl (endMk _ (by omega) BB h3 (f3.mono (by omega)) (g3.mono (by omega)) _ _ _)
  · obtain rfl : r = true := by rw [← hr2, ne_not hnm]; exact bne_not n
    obtain rfl : m = !n := ne_not hnm
    clear hr2 HR hnm
    obtain ⟨W, hW, bW, x_a, x_b, x_z, sW⟩ := bs_223 w (.bool n) (.slice a la ca) (.bool (!n)) (.slice b lb cb) (.bool false) (.slice none 0 0) (.slice none 0 0) 25 25 27
    have zbW := bW.size
    replace ha := ha.below bW
    replace hb := hb.below bW
    replace hq := hq.below bW
    have BB := bW
    go_enter Tryz.func47, Tryz.ntmps47
    go_wp2_with (go_at_call 80; fail)
    rw [← hW]
    clear hW
    refine (wSign (!n) b lb cb y W hb HS.out).mono ?_
    rintro e w1 ⟨rfl, bw1⟩
    have zbw1 := bw1.size
    replace ha := ha.below bw1
    replace hb := hb.below bw1
    replace hq := hq.below bw1
    replace BB := also BB bw1
    replace x_a := x_a.on bw1
    replace x_b := x_b.on bw1
    replace x_z := x_z.on bw1
    have ⟨x_a_0, x_a_1, x_a_2, x_a_3⟩ := x_a
    have ⟨x_b_0, x_b_1, x_b_2, x_b_3⟩ := x_b
    go_wp2_with (go_at_call 38; fail)
    refine (qLow true a la ca _ b lb cb _ w1 hq hb.ni hy N E HN.out HE.out).mono ?_
    rintro e w3 ⟨n3, a3, l3, c3, d3, m3, k3, rfl, h3, f3, g3, bw3⟩
    clear x_a_0 x_a_1 x_a_2 x_a_3 x_b_0 x_b_1 x_b_2 x_b_3
    have zbw3 := bw3.size
    replace ha := ha.below bw3
    replace hb := hb.below bw3
    replace hq := hq.below bw3
    replace BB := also BB bw3
    replace x_a := x_a.on bw3
    replace x_b := x_b.on bw3
    replace x_z := x_z.on bw3
    have ⟨x_z_0, x_z_1, x_z_2, x_z_3, x_z_4, x_z_5⟩ := x_z
    go_wp2
    exact bodyPost_ret (v := .tuple #[.agg #[.bool n3, .slice a3 l3 c3, .slice d3 m3 k3], .int .i64 0]) (by simp [results, Tryz.results47, go_sem, *]) rfl (endMk _ (by omega) BB h3 (f3.mono (by omega)) (g3.mono (by omega)) _ _ _)
set_option maxRecDepth 100000 in
set_option maxHeartbeats 1000000 in
theorem qDiv0 (n : Bool) (a : Option Addr) (la ca : Nat) (d : Option Addr) (ld cd : Nat) (za : Int) (Da : Nat) (m : Bool) (b : Option Addr) (lb cb : Nat) (g : Option Addr) (lg cg : Nat) (zb : Int) (Db : Nat) (K : Nat) (w : World) (ha : QI w K n a la ca d ld cd za Da) (hb : QI w K m b lb cb g lg cg zb Db) (h0 : pN zb Db = 0) :
    Calls Tryz.prog 18 #[.agg #[.bool n, .slice a la ca, .slice d ld cd], .agg #[.bool m, .slice b lb cb, .slice g lg cg]] w (GotMk w 0 1 3) := by
  have hr : (pN zb Db * (pD Da : Int)) = 0 := by rw [h0, Int.zero_mul]
  have kk := ha.kk
  have HR : Hid _ := hr
  clear hr h0
  obtain ⟨W, hW, bW, x_a, x_b, x_z, sW⟩ := bs_333 w (.bool n) (.slice a la ca) (.slice d ld cd) (.bool m) (.slice b lb cb) (.slice g lg cg) (.bool false) (.slice none 0 0) (.slice none 0 0) 27 27 27
  have zbW := bW.size
  replace ha := ha.below bW
  replace hb := hb.below bW
  have BB := bW
  go_enter Tryz.func18, Tryz.ntmps18
  go_wp2_with (go_at_call 37; fail)
  rw [← hW]
  clear hW
  refine (qAlike n a la ca d ld cd za Da m b lb cb g lg cg zb Db K W ha hb).mono ?_
  rintro e w1 ⟨n1, a1, l1, c1, n2, a2, l2, c2, rfl, h1, h2, bw1⟩
  have zbw1 := bw1.size
  replace ha := ha.below bw1
  replace hb := hb.below bw1
  replace BB := also BB bw1
  replace x_a := x_a.on bw1
  replace x_b := x_b.on bw1
  replace x_z := x_z.on bw1
  replace h1 := h1.wi (K + K) (by omega) (abs_mul' ha.pn (by simpa using hb.pd))
  replace h2 := h2.wi (K + K) (by omega) (abs_mul' hb.pn (by simpa using ha.pd))
  obtain ⟨V2, hV2, bV2, x_r, x_s, sV2⟩ := bs_22 w1 (.bool n1) (.slice a1 l1 c1) (.bool n2) (.slice a2 l2 c2) 25 25
  have zbV2 := bV2.size
  replace ha := ha.below bV2
  replace hb := hb.below bV2
  replace BB := also BB bV2
  replace x_a := x_a.on bV2
  replace x_b := x_b.on bV2
  replace x_z := x_z.on bV2
  replace h1 := h1.below bV2
  replace h2 := h2.below bV2
  have st_a_0 : ((w1.alloc (.cells #[.bool n1, .slice a1 l1 c1] 25)).alloc (.cells #[.bool n2, .slice a2 l2 c2] 25)).cell? ⟨w.heap.size, 0, none⟩ = some (.bool n) := by rw [← hV2]; exact x_a.c0
  have st_a_1 : ((w1.alloc (.cells #[.bool n1, .slice a1 l1 c1] 25)).alloc (.cells #[.bool n2, .slice a2 l2 c2] 25)).cell? ⟨w.heap.size, 1, none⟩ = some (.slice a la ca) := by rw [← hV2]; exact x_a.c1
  have st_a_2 : ((w1.alloc (.cells #[.bool n1, .slice a1 l1 c1] 25)).alloc (.cells #[.bool n2, .slice a2 l2 c2] 25)).cell? ⟨w.heap.size, 2, none⟩ = some (.slice d ld cd) := by rw [← hV2]; exact x_a.c2
  have sf_a_0 : ((w1.alloc (.cells #[.bool n1, .slice a1 l1 c1] 25)).alloc (.cells #[.bool n2, .slice a2 l2 c2] 25)).frozen? ⟨w.heap.size, 0, none⟩ = false := by rw [← hV2]; exact x_a.f0
  have sf_a_1 : ((w1.alloc (.cells #[.bool n1, .slice a1 l1 c1] 25)).alloc (.cells #[.bool n2, .slice a2 l2 c2] 25)).frozen? ⟨w.heap.size, 1, none⟩ = false := by rw [← hV2]; exact x_a.f1
  have sf_a_2 : ((w1.alloc (.cells #[.bool n1, .slice a1 l1 c1] 25)).alloc (.cells #[.bool n2, .slice a2 l2 c2] 25)).frozen? ⟨w.heap.size, 2, none⟩ = false := by rw [← hV2]; exact x_a.f2
  go_wp2_with (go_at_call 47; fail)
  rw [← hV2]
  clear hV2 st_a_0 st_a_1 st_a_2 sf_a_0 sf_a_1 sf_a_2
  refine (qMake0 n1 n2 a1 a2 l1 l2 c1 c2 _ _ V2 h1 h2 HR.out).mono ?_
  rintro e w3 ⟨n3, a3, l3, c3, d3, m3, k3, rfl, h3, f3, g3, bw3⟩
  have zbw3 := bw3.size
  replace ha := ha.below bw3
  replace hb := hb.below bw3
  replace BB := also BB bw3
  replace x_a := x_a.on bw3
  replace x_b := x_b.on bw3
  replace x_z := x_z.on bw3
  replace h1 := h1.below bw3
  replace h2 := h2.below bw3
  replace x_r := x_r.on bw3
  replace x_s := x_s.on bw3
  have ⟨x_z_0, x_z_1, x_z_2, x_z_3, x_z_4, x_z_5⟩ := x_z
  go_wp2
  exact bodyPost_ret (v := .tuple #[.agg #[.bool n3, .slice a3 l3 c3, .slice d3 m3 k3], .int .i64 3]) (by simp [results, Tryz.results18, go_sem, *]) rfl (endMk _ (by omega) BB h3 (f3.mono (by omega)) (g3.mono (by omega)) _ _ _)
set_option maxRecDepth 100000 in
set_option maxHeartbeats 1000000 in
theorem qDiv (n : Bool) (a : Option Addr) (la ca : Nat) (d : Option Addr) (ld cd : Nat) (za : Int) (Da : Nat) (m : Bool) (b : Option Addr) (lb cb : Nat) (g : Option Addr) (lg cg : Nat) (zb : Int) (Db : Nat) (K : Nat) (w : World) (ha : QI w K n a la ca d ld cd za Da) (hb : QI w K m b lb cb g lg cg zb Db) (h0 : pN zb Db ≠ 0) (N : Int) (E : Nat) (hN : N = lowN ((pN za Da * (pD Db : Int)) * (pN zb Db * (pD Da : Int)).sign) (pN zb Db * (pD Da : Int)).natAbs) (hE : E = lowD ((pN za Da * (pD Db : Int)) * (pN zb Db * (pD Da : Int)).sign) (pN zb Db * (pD Da : Int)).natAbs) :
    Calls Tryz.prog 18 #[.agg #[.bool n, .slice a la ca, .slice d ld cd], .agg #[.bool m, .slice b lb cb, .slice g lg cg]] w (GotMk w N E 0) := by
  have HN : Hid _ := hN
  have HE : Hid _ := hE
  have hr : (pN zb Db * (pD Da : Int)) ≠ 0 := Int.mul_ne_zero h0 (by have := pD_pos Da; omega)
  clear hN hE
  have kk := ha.kk
  have HR : Hid _ := hr
  clear hr h0
  obtain ⟨W, hW, bW, x_a, x_b, x_z, sW⟩ := bs_333 w (.bool n) (.slice a la ca) (.slice d ld cd) (.bool m) (.slice b lb cb) (.slice g lg cg) (.bool false) (.slice none 0 0) (.slice none 0 0) 27 27 27
  have zbW := bW.size
  replace ha := ha.below bW
  replace hb := hb.below bW
  have BB := bW
  go_enter Tryz.func18, Tryz.ntmps18
  go_wp2_with (go_at_call 37; fail)
  rw [← hW]
  clear hW
  refine (qAlike n a la ca d ld cd za Da m b lb cb g lg cg zb Db K W ha hb).mono ?_
  rintro e w1 ⟨n1, a1, l1, c1, n2, a2, l2, c2, rfl, h1, h2, bw1⟩
  have zbw1 := bw1.size
  replace ha := ha.below bw1
  replace hb := hb.below bw1
  replace BB := also BB bw1
  replace x_a := x_a.on bw1
  replace x_b := x_b.on bw1
  replace x_z := x_z.on bw1
  replace h1 := h1.wi (K + K) (by omega) (abs_mul' ha.pn (by simpa using hb.pd))
  replace h2 := h2.wi (K + K) (by omega) (abs_mul' hb.pn (by simpa using ha.pd))
  obtain ⟨V2, hV2, bV2, x_r, x_s, sV2⟩ := bs_22 w1 (.bool n1) (.slice a1 l1 c1) (.bool n2) (.slice a2 l2 c2) 25 25
  have zbV2 := bV2.size
  replace ha := ha.below bV2
  replace hb := hb.below bV2
  replace BB := also BB bV2
  replace x_a := x_a.on bV2
  replace x_b := x_b.on bV2
  replace x_z := x_z.on bV2
  replace h1 := h1.below bV2
  replace h2 := h2.below bV2
  have st_a_0 : ((w1.alloc (.cells #[.bool n1, .slice a1 l1 c1] 25)).alloc (.cells #[.bool n2, .slice a2 l2 c2] 25)).cell? ⟨w.heap.size, 0, none⟩ = some (.bool n) := by rw [← hV2]; exact x_a.c0
  have st_a_1 : ((w1.alloc (.cells #[.bool n1, .slice a1 l1 c1] 25)).alloc (.cells #[.bool n2, .slice a2 l2 c2] 25)).cell? ⟨w.heap.size, 1, none⟩ = some (.slice a la ca) := by rw [← hV2]; exact x_a.c1
  have st_a_2 : ((w1.alloc (.cells #[.bool n1, .slice a1 l1 c1] 25)).alloc (.cells #[.bool n2, .slice a2 l2 c2] 25)).cell? ⟨w.heap.size, 2, none⟩ = some (.slice d ld cd) := by rw [← hV2]; exact x_a.c2
  have sf_a_0 : ((w1.alloc (.cells #[.bool n1, .slice a1 l1 c1] 25)).alloc (.cells #[.bool n2, .slice a2 l2 c2] 25)).frozen? ⟨w.heap.size, 0, none⟩ = false := by rw [← hV2]; exact x_a.f0
  have sf_a_1 : ((w1.alloc (.cells #[.bool n1, .slice a1 l1 c1] 25)).alloc (.cells #[.bool n2, .slice a2 l2 c2] 25)).frozen? ⟨w.heap.size, 1, none⟩ = false := by rw [← hV2]; exact x_a.f1
  have sf_a_2 : ((w1.alloc (.cells #[.bool n1, .slice a1 l1 c1] 25)).alloc (.cells #[.bool n2, .slice a2 l2 c2] 25)).frozen? ⟨w.heap.size, 2, none⟩ = false := by rw [← hV2]; exact x_a.f2
  go_wp2_with (go_at_call 47; fail)
  rw [← hV2]
  clear hV2 st_a_0 st_a_1 st_a_2 sf_a_0 sf_a_1 sf_a_2
  refine (qMake n1 n2 a1 a2 l1 l2 c1 c2 _ _ V2 h1 h2 HR.out N E HN.out HE.out).mono ?_
  rintro e w3 ⟨n3, a3, l3, c3, d3, m3, k3, rfl, h3, f3, g3, bw3⟩
  have zbw3 := bw3.size
  replace ha := ha.below bw3
  replace hb := hb.below bw3
  replace BB := also BB bw3
  replace x_a := x_a.on bw3
  replace x_b := x_b.on bw3
  replace x_z := x_z.on bw3
  replace h1 := h1.below bw3
  replace h2 := h2.below bw3
  replace x_r := x_r.on bw3
  replace x_s := x_s.on bw3
  have ⟨x_z_0, x_z_1, x_z_2, x_z_3, x_z_4, x_z_5⟩ := x_z
  go_wp2
  exact bodyPost_ret (v := .tuple #[.agg #[.bool n3, .slice a3 l3 c3, .slice d3 m3 k3], .int .i64 0]) (by simp [results, Tryz.results18, go_sem, *]) rfl (endMk _ (by omega) BB h3 (f3.mono (by omega)) (g3.mono (by omega)) _ _ _)
set_option maxRecDepth 100000 in
set_option maxHeartbeats 1000000 in
theorem qFloor (n : Bool) (a : Option Addr) (la ca : Nat) (d : Option Addr) (ld cd : Nat) (za : Int) (Da : Nat) (K : Nat) (w : World) (ha : QI w K n a la ca d ld cd za Da) (Q : Int) (hQ : Q = flQ (pN za Da) (pD Da)) :
    Calls Tryz.prog 23 #[.agg #[.bool n, .slice a la ca, .slice d ld cd]] w (GotW w Q) := by
  have HQ : Hid _ := hQ
  clear hQ
  obtain ⟨W, hW, bW, x_a, x_z, sW⟩ := bs_32 w (.bool n) (.slice a la ca) (.slice d ld cd) (.bool false) (.slice none 0 0) 27 25
  have zbW := bW.size
  replace ha := ha.below bW
  have BB := bW
  go_enter Tryz.func23, Tryz.ntmps23
  go_wp2_with (go_at_call 44; fail)
  rw [← hW]
  clear hW
  refine (qParts n a la ca d ld cd za Da K W ha).mono ?_
  rintro e w1 ⟨n1, a1, l1, c1, d1, m1, k1, rfl, h1, bw1⟩
  have zbw1 := bw1.size
  replace ha := ha.below bw1
  replace BB := also BB bw1
  replace x_a := x_a.on bw1
  replace x_z := x_z.on bw1
  obtain ⟨V1, hV1, bV1, x_r, sV1⟩ := bs_2 w1 (.bool n1) (.slice a1 l1 c1) 25
  have zbV1 := bV1.size
  replace ha := ha.below bV1
  replace BB := also BB bV1
  replace x_a := x_a.on bV1
  replace x_z := x_z.on bV1
  replace h1 := h1.below bV1
  have st_a_0 : (w1.alloc (.cells #[.bool n1, .slice a1 l1 c1] 25)).cell? ⟨w.heap.size, 0, none⟩ = some (.bool n) := by rw [← hV1]; exact x_a.c0
  have st_a_1 : (w1.alloc (.cells #[.bool n1, .slice a1 l1 c1] 25)).cell? ⟨w.heap.size, 1, none⟩ = some (.slice a la ca) := by rw [← hV1]; exact x_a.c1
  have st_a_2 : (w1.alloc (.cells #[.bool n1, .slice a1 l1 c1] 25)).cell? ⟨w.heap.size, 2, none⟩ = some (.slice d ld cd) := by rw [← hV1]; exact x_a.c2
  have sf_a_0 : (w1.alloc (.cells #[.bool n1, .slice a1 l1 c1] 25)).frozen? ⟨w.heap.size, 0, none⟩ = false := by rw [← hV1]; exact x_a.f0
  have sf_a_1 : (w1.alloc (.cells #[.bool n1, .slice a1 l1 c1] 25)).frozen? ⟨w.heap.size, 1, none⟩ = false := by rw [← hV1]; exact x_a.f1
  have sf_a_2 : (w1.alloc (.cells #[.bool n1, .slice a1 l1 c1] 25)).frozen? ⟨w.heap.size, 2, none⟩ = false := by rw [← hV1]; exact x_a.f2
  go_wp2_with (go_at_call 50; fail)
  rw [← hV1]
  clear hV1 st_a_0 st_a_1 st_a_2 sf_a_0 sf_a_1 sf_a_2
  refine (qDown n1 a1 l1 c1 _ d1 m1 k1 _ V1 h1.wi h1.ni (pD_pos _) Q HQ.out).mono ?_
  rintro e w3 ⟨n3, a3, l3, c3, rfl, h3, f3, bw3⟩
  have zbw3 := bw3.size
  replace ha := ha.below bw3
  replace BB := also BB bw3
  replace x_a := x_a.on bw3
  replace x_z := x_z.on bw3
  replace h1 := h1.below bw3
  replace x_r := x_r.on bw3
  have ⟨x_z_0, x_z_1, x_z_2, x_z_3⟩ := x_z
  go_wp2
  exact bodyPost_ret (v := .agg #[.bool n3, .slice a3 l3 c3]) (by simp [results, Tryz.results23, go_sem, *]) rfl (endW (W := V1) _ (by omega) (by omega) BB h3 f3 _ _)
set_option maxRecDepth 100000 in
set_option maxHeartbeats 1000000 in
theorem qRound (n : Bool) (a : Option Addr) (la ca : Nat) (d : Option Addr) (ld cd : Nat) (za : Int) (Da : Nat) (K : Nat) (w : World) (ha : QI w K n a la ca d ld cd za Da) (Q : Int) (hQ : Q = flQ (pN za Da + pN za Da + (pD Da : Int)) ((pD Da + pD Da : Nat) : Int)) :
    Calls Tryz.prog 24 #[.agg #[.bool n, .slice a la ca, .slice d ld cd]] w (GotW w Q) := by
  have HQ : Hid _ := hQ
  have kk := ha.kk
  clear hQ
  obtain ⟨W, hW, bW, x_a, x_z, sW⟩ := bs_32 w (.bool n) (.slice a la ca) (.slice d ld cd) (.bool false) (.slice none 0 0) 27 25
  have zbW := bW.size
  replace ha := ha.below bW
  have BB := bW
  go_enter Tryz.func24, Tryz.ntmps24
  go_wp2_with (go_at_call 44; fail)
  rw [← hW]
  clear hW
  refine (qParts n a la ca d ld cd za Da K W ha).mono ?_
  rintro e w1 ⟨n1, a1, l1, c1, d1, m1, k1, rfl, h1, bw1⟩
  have zbw1 := bw1.size
  replace ha := ha.below bw1
  replace BB := also BB bw1
  replace x_a := x_a.on bw1
  replace x_z := x_z.on bw1
  obtain ⟨V1, hV1, bV1, x_r, sV1⟩ := bs_2 w1 (.bool n1) (.slice a1 l1 c1) 25
  have zbV1 := bV1.size
  replace ha := ha.below bV1
  replace BB := also BB bV1
  replace x_a := x_a.on bV1
  replace x_z := x_z.on bV1
  replace h1 := h1.below bV1
  have st_a_0 : (w1.alloc (.cells #[.bool n1, .slice a1 l1 c1] 25)).cell? ⟨w.heap.size, 0, none⟩ = some (.bool n) := by rw [← hV1]; exact x_a.c0
  have st_a_1 : (w1.alloc (.cells #[.bool n1, .slice a1 l1 c1] 25)).cell? ⟨w.heap.size, 1, none⟩ = some (.slice a la ca) := by rw [← hV1]; exact x_a.c1
  have st_a_2 : (w1.alloc (.cells #[.bool n1, .slice a1 l1 c1] 25)).cell? ⟨w.heap.size, 2, none⟩ = some (.slice d ld cd) := by rw [← hV1]; exact x_a.c2
  have sf_a_0 : (w1.alloc (.cells #[.bool n1, .slice a1 l1 c1] 25)).frozen? ⟨w.heap.size, 0, none⟩ = false := by rw [← hV1]; exact x_a.f0
  have sf_a_1 : (w1.alloc (.cells #[.bool n1, .slice a1 l1 c1] 25)).frozen? ⟨w.heap.size, 1, none⟩ = false := by rw [← hV1]; exact x_a.f1
  have sf_a_2 : (w1.alloc (.cells #[.bool n1, .slice a1 l1 c1] 25)).frozen? ⟨w.heap.size, 2, none⟩ = false := by rw [← hV1]; exact x_a.f2
  go_wp2_with (go_at_call 39; fail)
  rw [← hV1]
  clear hV1 st_a_0 st_a_1 st_a_2 sf_a_0 sf_a_1 sf_a_2
  refine (wAdd n1 n1 a1 a1 l1 l1 c1 c1 _ _ V1 h1.wi h1.wi (pN za Da + pN za Da) rfl).mono ?_
  rintro e w2 ⟨n2, a2, l2, c2, rfl, h2, f2, bw2⟩
  have zbw2 := bw2.size
  replace ha := ha.below bw2
  replace BB := also BB bw2
  replace x_a := x_a.on bw2
  replace x_z := x_z.on bw2
  replace h1 := h1.below bw2
  replace x_r := x_r.on bw2
  replace h2 := h2.wi (K + 1) (by omega) (abs_add' h1.zs h1.zs)
  obtain ⟨V2, hV2, bV2, x_s, sV2⟩ := bs_2 w2 (.bool n2) (.slice a2 l2 c2) 25
  have zbV2 := bV2.size
  replace ha := ha.below bV2
  replace BB := also BB bV2
  replace x_a := x_a.on bV2
  replace x_z := x_z.on bV2
  replace h1 := h1.below bV2
  replace x_r := x_r.on bV2
  replace h2 := h2.below bV2
  have st_a_0 : (w2.alloc (.cells #[.bool n2, .slice a2 l2 c2] 25)).cell? ⟨w.heap.size, 0, none⟩ = some (.bool n) := by rw [← hV2]; exact x_a.c0
  have st_a_1 : (w2.alloc (.cells #[.bool n2, .slice a2 l2 c2] 25)).cell? ⟨w.heap.size, 1, none⟩ = some (.slice a la ca) := by rw [← hV2]; exact x_a.c1
  have st_a_2 : (w2.alloc (.cells #[.bool n2, .slice a2 l2 c2] 25)).cell? ⟨w.heap.size, 2, none⟩ = some (.slice d ld cd) := by rw [← hV2]; exact x_a.c2
  have sf_a_0 : (w2.alloc (.cells #[.bool n2, .slice a2 l2 c2] 25)).frozen? ⟨w.heap.size, 0, none⟩ = false := by rw [← hV2]; exact x_a.f0
  have sf_a_1 : (w2.alloc (.cells #[.bool n2, .slice a2 l2 c2] 25)).frozen? ⟨w.heap.size, 1, none⟩ = false := by rw [← hV2]; exact x_a.f1
  have sf_a_2 : (w2.alloc (.cells #[.bool n2, .slice a2 l2 c2] 25)).frozen? ⟨w.heap.size, 2, none⟩ = false := by rw [← hV2]; exact x_a.f2
  go_wp2_with (go_at_call 39; fail)
  rw [← hV2]
  clear hV2 st_a_0 st_a_1 st_a_2 sf_a_0 sf_a_1 sf_a_2
  refine (wAdd n2 false a2 d1 l2 m1 c2 k1 _ _ V2 h2 (wi_nat h1.ni) (pN za Da + pN za Da + (pD Da : Int)) rfl).mono ?_
  rintro e w3 ⟨n3, a3, l3, c3, rfl, h3, f3, bw3⟩
  have zbw3 := bw3.size
  replace ha := ha.below bw3
  replace BB := also BB bw3
  replace x_a := x_a.on bw3
  replace x_z := x_z.on bw3
  replace h1 := h1.below bw3
  replace x_r := x_r.on bw3
  replace h2 := h2.below bw3
  replace x_s := x_s.on bw3
  replace h3 := h3.wi (K + 1 + 1) (by omega) (abs_add' (abs_add' h1.zs h1.zs) (Nat.lt_of_lt_of_le (show ((pD Da : Nat) : Int).natAbs < 4294967296 ^ K by simpa using h1.ds) (Nat.pow_le_pow_right (by decide) (by omega))))
  go_wp2_with (go_at_call 51; fail)
  refine (fAdd d1 d1 m1 m1 k1 k1 _ _ w3 h1.ni h1.ni).mono ?_
  rintro e w4 ⟨a4, l4, c4, rfl, h4, f4, bw4⟩
  have zbw4 := bw4.size
  replace ha := ha.below bw4
  replace BB := also BB bw4
  replace x_a := x_a.on bw4
  replace x_z := x_z.on bw4
  replace h1 := h1.below bw4
  replace x_r := x_r.on bw4
  replace h2 := h2.below bw4
  replace x_s := x_s.on bw4
  replace h3 := h3.below bw4
  replace h4 := h4.ni (K + 1) (by omega) (by have := h1.ds; rw [Nat.pow_succ]; omega)
  go_wp2_with (go_at_call 50; fail)
  refine (qDown n3 a3 l3 c3 _ a4 l4 c4 _ w4 h3 h4 (by have := pD_pos Da; omega) Q HQ.out).mono ?_
  rintro e w5 ⟨n5, a5, l5, c5, rfl, h5, f5, bw5⟩
  have zbw5 := bw5.size
  replace ha := ha.below bw5
  replace BB := also BB bw5
  replace x_a := x_a.on bw5
  replace x_z := x_z.on bw5
  replace h1 := h1.below bw5
  replace x_r := x_r.on bw5
  replace h2 := h2.below bw5
  replace x_s := x_s.on bw5
  replace h3 := h3.below bw5
  replace h4 := h4.below bw5
  have ⟨x_z_0, x_z_1, x_z_2, x_z_3⟩ := x_z
  go_wp2
  exact bodyPost_ret (v := .agg #[.bool n5, .slice a5 l5 c5]) (by simp [results, Tryz.results24, go_sem, *]) rfl (endW (W := w4) _ (by omega) (by omega) BB h5 f5 _ _)
end Go.Proofs.YtaekgomplkkocaaGreatDoor

namespace Go.Proofs.YtaekgomplkkocaaGreatDoor
open Go.RowKit
set_option linter.unusedVariables false

/-- A fraction's text, by its parts in lowest terms. -/
def qText (N : Int) (D : Nat) : ByteArray := if D = 1 then decZ N else (decZ N ++ ⟨#[47]⟩) ++ decS D
theorem decZ_size {z : Int} {K : Nat} (h : z.natAbs < 4294967296 ^ K) : (decZ z).size ≤ 10 * K + 2 := by
  have := dlen_le h
  unfold decZ
  split
  · rw [ByteArray.size_append, decS_size]; show 1 + _ ≤ _; omega
  · rw [decS_size]; omega
theorem decS_sz {u K : Nat} (h : u < 4294967296 ^ K) : (decS u).size ≤ 10 * K + 1 := by rw [decS_size]; exact dlen_le h
theorem QN.set3 {w w' : World} {n : Bool} {a : Option Addr} {l c : Nat} {d : Option Addr} {m k : Nat} {z : Int} {D : Nat} {b : Nat} {u v t : Value} (h : QN w n a l c d m k z D) (e : w' = ((w.setCell ⟨b, 0, none⟩ u).setCell ⟨b, 1, none⟩ v).setCell ⟨b, 2, none⟩ t) (n1 : NA b a l) (n2 : NA b d m) : QN w' n a l c d m k z D := by
  rw [e]; exact h.put3 n1 n2 u v t
set_option maxRecDepth 100000 in
set_option maxHeartbeats 1000000 in
theorem qShow (n : Bool) (a : Option Addr) (la ca : Nat) (d : Option Addr) (ld cd : Nat) (za : Int) (Da : Nat) (K : Nat) (w : World) (ha : QI w K n a la ca d ld cd za Da) {s : ByteArray} (hs : s = qText (lowN (pN za Da) (pD Da)) (lowD (pN za Da) (pD Da))) :
    Calls Tryz.prog 31 #[.agg #[.bool n, .slice a la ca, .slice d ld cd]] w fun e w' => e = .returned (.string s) ∧ Below w.heap.size w w' := by
  obtain ⟨N, hN⟩ : ∃ N, N = lowN (pN za Da) (pD Da) := ⟨_, rfl⟩
  obtain ⟨E, hE⟩ : ∃ E, E = lowD (pN za Da) (pD Da) := ⟨_, rfl⟩
  rw [← hN, ← hE] at hs
  have HNs : Hid (N.natAbs < 4294967296 ^ K) := by unfold Hid; rw [hN]; exact Nat.lt_of_le_of_lt (lowN_le _ _) ha.pn
  have HEs : Hid (E < 4294967296 ^ K) := by unfold Hid; rw [hE]; exact Nat.lt_of_le_of_lt (lowD_le _ _) ha.pd
  have hk1 := ha.k1
  have kk := ha.kk
  have HN : Hid _ := hN
  have HE : Hid _ := hE
  obtain ⟨g0, hg⟩ : ∃ g0, g0 = cmpI (E : Int) ((1 : Nat) : Int) := ⟨_, rfl⟩
  have HG : Hid _ := hg
  clear hN hE
  by_cases h1 : E = 1
  · have HT : Hid (s = decZ N) := by unfold Hid; rw [hs]; unfold qText; rw [if_pos h1]
    obtain rfl : g0 = 0 := by rw [hg, h1]; rfl
    clear hs hg h1
    obtain ⟨W, hW, bW, x_a, sW⟩ := bs_3 w (.bool n) (.slice a la ca) (.slice d ld cd) 27
    have zbW := bW.size
    replace ha := ha.below bW
    have BB := bW
    go_enter Tryz.func31, Tryz.ntmps31
    go_wp2_with (go_at_call 16; fail)
    rw [← hW]
    clear hW
    refine (qNorm n a la ca d ld cd za Da K W ha N E HN.out HE.out).mono ?_
    rintro e w1 ⟨n1, a1, l1, c1, d1, m1, k1, rfl, h1, f1, g1, bw1⟩
    have zbw1 := bw1.size
    replace ha := ha.below bw1
    replace BB := also BB bw1
    replace x_a := x_a.on bw1
    have ⟨x_a_0, x_a_1, x_a_2, x_a_3, x_a_4, x_a_5⟩ := x_a
    go_wp2
    clear x_a_0 x_a_1 x_a_2 x_a_3 x_a_4 x_a_5
    obtain ⟨U, hU⟩ : ∃ U, U = (((w1.setCell ⟨w.heap.size, 0, none⟩ (.bool n1)).setCell ⟨w.heap.size, 1, none⟩ (.slice a1 l1 c1)).setCell ⟨w.heap.size, 2, none⟩ (.slice d1 m1 k1)) := ⟨_, rfl⟩
    have zU : U.heap.size = w1.heap.size := by rw [hU]; simp
    clear ha
    replace BB : Below w.heap.size w U := by rw [hU]; exact below_put3 BB (by omega) _ _ _
    replace x_a : B3 U (w.heap.size) (.bool n1) (.slice a1 l1 c1) (.slice d1 m1 k1) := by rw [hU]; exact x_a.set
    replace h1 := h1.set3 hU (f1 _ (by omega)) (g1 _ (by omega))
    rw [← hU]
    clear hU
    replace h1 := h1.qi K hk1 kk HNs.out HEs.out
    have dd1 : Below U.heap.size U U.drew := (Below.refl _ _).drew
    have zdd1 := dd1.size
    replace BB := also BB dd1
    replace x_a := x_a.on dd1
    replace h1 := h1.below dd1
    refine wp_region_held_drew (S := (fun w' => w'.cell? ⟨w.heap.size, 0, none⟩ = some (.bool n1) ∧ w'.cell? ⟨w.heap.size, 1, none⟩ = some (.slice a1 l1 c1) ∧ w'.cell? ⟨w.heap.size, 2, none⟩ = some (.slice d1 m1 k1) ∧ Below w.heap.size w w')) (by kernel_rfl) ?_ (fun hHeld => ?_)
    · first | exact ⟨x_a.c0, x_a.c1, x_a.c2, BB⟩ | exact ⟨cell_on bw3 hHeld.1, cell_on bw3 hHeld.2.1, cell_on bw3 hHeld.2.2.1, also hHeld.2.2.2 bw3⟩ | exact ⟨cell_on bw2 hHeld.1, cell_on bw2 hHeld.2.1, cell_on bw2 hHeld.2.2.1, also hHeld.2.2.2 bw2⟩
    refine take_yes (i := 0) (v := ?vr0) rfl (by kernel_rfl) (by kernel_rfl) (by kernel_rfl) (fun _ _ _ h => h) (by rfl) (by assumption) ?hyr0 ?restr0
    case hyr0 => (intro w hSw; (try dsimp only at hSw); first | (go_simp; done) | (go_simp; with_reducible rfl))
    simp only [Act.put, List.setIfInBounds_toArray, List.set_cons_zero, List.set_cons_succ]
    refine take_yes (i := 1) (v := ?vr1) rfl (by kernel_rfl) (by kernel_rfl) (by kernel_rfl) (fun _ _ _ h => h) (by rfl) (by assumption) ?hyr1 ?restr1
    case hyr1 => (intro w hSw; (try dsimp only at hSw); first | (go_simp; done) | (go_simp; with_reducible rfl))
    simp only [Act.put, List.setIfInBounds_toArray, List.set_cons_zero, List.set_cons_succ]
    refine take_call (i := 2) rfl (by kernel_rfl) (fun Kc hK => ?_)
    go_simp
    (go_at_call 55; refine (fOf 1 (by decide) rfl _).mono ?_; rintro e w2 ⟨a2, l2, c2, rfl, h2, f2, bw2⟩)
    refine hK.out _ _ ?_ (fun hHeld => ?_)
    · first | exact ⟨x_a.c0, x_a.c1, x_a.c2, BB⟩ | exact ⟨cell_on bw3 hHeld.1, cell_on bw3 hHeld.2.1, cell_on bw3 hHeld.2.2.1, also hHeld.2.2.2 bw3⟩ | exact ⟨cell_on bw2 hHeld.1, cell_on bw2 hHeld.2.1, cell_on bw2 hHeld.2.2.1, also hHeld.2.2.2 bw2⟩
    clear hK Kc
    have zbw2 := bw2.size
    replace BB := also BB bw2
    replace x_a := x_a.on bw2
    replace h1 := h1.below bw2
    refine take_call (i := 3) rfl (by kernel_rfl) (fun Kc hK => ?_)
    go_simp
    (go_at_call 54; refine (nCmp d1 a2 m1 l2 k1 c2 _ _ _ h1.ni (h2.ni 1 (by decide) (by decide)) HG.out).mono ?_; rintro e w3 ⟨rfl, bw3⟩)
    refine hK.out _ _ ?_ (fun hHeld => ?_)
    · first | exact ⟨x_a.c0, x_a.c1, x_a.c2, BB⟩ | exact ⟨cell_on bw3 hHeld.1, cell_on bw3 hHeld.2.1, cell_on bw3 hHeld.2.2.1, also hHeld.2.2.2 bw3⟩ | exact ⟨cell_on bw2 hHeld.1, cell_on bw2 hHeld.2.1, cell_on bw2 hHeld.2.2.1, also hHeld.2.2.2 bw2⟩
    clear hK Kc
    have zbw3 := bw3.size
    replace BB := also BB bw3
    replace x_a := x_a.on bw3
    replace h1 := h1.below bw3
    replace h2 := h2.below bw3
    refine take_yes (i := 4) (v := ?vr4) rfl (by kernel_rfl) (by kernel_rfl) (by kernel_rfl) (fun _ _ _ h => h) (by rfl) (by assumption) ?hyr4 ?restr4
    case hyr4 => (intro w hSw; (try dsimp only at hSw); first | (go_simp; done) | (go_simp; with_reducible rfl))
    simp only [Act.put, List.setIfInBounds_toArray, List.set_cons_zero, List.set_cons_succ]
    refine wpAnyH_done (by kernel_rfl) ?_ _
    have ⟨x_a_0, x_a_1, x_a_2, x_a_3, x_a_4, x_a_5⟩ := x_a
    go_wp2_with (go_at_call 56; fail)
    refine (wShow n1 a1 l1 c1 N w3 h1.wi HT.out).mono ?_
    rintro e w4 ⟨rfl, bw4⟩
    clear x_a_0 x_a_1 x_a_2 x_a_3 x_a_4 x_a_5
    have zbw4 := bw4.size
    replace BB := also BB bw4
    replace x_a := x_a.on bw4
    replace h1 := h1.below bw4
    replace h2 := h2.below bw4
    go_wp2
    go_ret
    exact ⟨rfl, BB⟩
  · have HT : Hid (s = (decZ N ++ ⟨#[47]⟩) ++ decS E) := by unfold Hid; rw [hs]; unfold qText; rw [if_neg h1]
    have hg0 : ¬ g0 = 0 := by rw [hg]; unfold cmpI; split; omega; split <;> omega
    clear hs hg h1
    obtain ⟨t1, ht1⟩ : ∃ t1, t1 = decZ N := ⟨_, rfl⟩
    obtain ⟨t2, ht2⟩ : ∃ t2, t2 = decS E := ⟨_, rfl⟩
    have q1 := decZ_size HNs.out
    have q2 := decS_sz HEs.out
    rw [← ht1] at q1
    rw [← ht2] at q2
    have hz1 : ¬ 9223372036854775807 < t1.size + 1 := by omega
    have hz2 : ¬ 9223372036854775807 < t1.size + 1 + t2.size := by omega
    clear q1 q2
    rw [← ht1, ← ht2] at HT
    have HT1 : Hid _ := ht1
    have HT2 : Hid _ := ht2
    clear ht1 ht2
    obtain ⟨W, hW, bW, x_a, sW⟩ := bs_3 w (.bool n) (.slice a la ca) (.slice d ld cd) 27
    have zbW := bW.size
    replace ha := ha.below bW
    have BB := bW
    go_enter Tryz.func31, Tryz.ntmps31
    go_wp2_with (go_at_call 16; fail)
    rw [← hW]
    clear hW
    refine (qNorm n a la ca d ld cd za Da K W ha N E HN.out HE.out).mono ?_
    rintro e w1 ⟨n1, a1, l1, c1, d1, m1, k1, rfl, h1, f1, g1, bw1⟩
    have zbw1 := bw1.size
    replace ha := ha.below bw1
    replace BB := also BB bw1
    replace x_a := x_a.on bw1
    have ⟨x_a_0, x_a_1, x_a_2, x_a_3, x_a_4, x_a_5⟩ := x_a
    go_wp2
    clear x_a_0 x_a_1 x_a_2 x_a_3 x_a_4 x_a_5
    obtain ⟨U, hU⟩ : ∃ U, U = (((w1.setCell ⟨w.heap.size, 0, none⟩ (.bool n1)).setCell ⟨w.heap.size, 1, none⟩ (.slice a1 l1 c1)).setCell ⟨w.heap.size, 2, none⟩ (.slice d1 m1 k1)) := ⟨_, rfl⟩
    have zU : U.heap.size = w1.heap.size := by rw [hU]; simp
    clear ha
    replace BB : Below w.heap.size w U := by rw [hU]; exact below_put3 BB (by omega) _ _ _
    replace x_a : B3 U (w.heap.size) (.bool n1) (.slice a1 l1 c1) (.slice d1 m1 k1) := by rw [hU]; exact x_a.set
    replace h1 := h1.set3 hU (f1 _ (by omega)) (g1 _ (by omega))
    rw [← hU]
    clear hU
    replace h1 := h1.qi K hk1 kk HNs.out HEs.out
    have dd1 : Below U.heap.size U U.drew := (Below.refl _ _).drew
    have zdd1 := dd1.size
    replace BB := also BB dd1
    replace x_a := x_a.on dd1
    replace h1 := h1.below dd1
    refine wp_region_held_drew (S := (fun w' => w'.cell? ⟨w.heap.size, 0, none⟩ = some (.bool n1) ∧ w'.cell? ⟨w.heap.size, 1, none⟩ = some (.slice a1 l1 c1) ∧ w'.cell? ⟨w.heap.size, 2, none⟩ = some (.slice d1 m1 k1) ∧ Below w.heap.size w w')) (by kernel_rfl) ?_ (fun hHeld => ?_)
    · first | exact ⟨x_a.c0, x_a.c1, x_a.c2, BB⟩ | exact ⟨cell_on bw3 hHeld.1, cell_on bw3 hHeld.2.1, cell_on bw3 hHeld.2.2.1, also hHeld.2.2.2 bw3⟩ | exact ⟨cell_on bw2 hHeld.1, cell_on bw2 hHeld.2.1, cell_on bw2 hHeld.2.2.1, also hHeld.2.2.2 bw2⟩
    refine take_yes (i := 0) (v := ?vq0) rfl (by kernel_rfl) (by kernel_rfl) (by kernel_rfl) (fun _ _ _ h => h) (by rfl) (by assumption) ?hyq0 ?restq0
    case hyq0 => (intro w hSw; (try dsimp only at hSw); first | (go_simp; done) | (go_simp; with_reducible rfl))
    simp only [Act.put, List.setIfInBounds_toArray, List.set_cons_zero, List.set_cons_succ]
    refine take_yes (i := 1) (v := ?vq1) rfl (by kernel_rfl) (by kernel_rfl) (by kernel_rfl) (fun _ _ _ h => h) (by rfl) (by assumption) ?hyq1 ?restq1
    case hyq1 => (intro w hSw; (try dsimp only at hSw); first | (go_simp; done) | (go_simp; with_reducible rfl))
    simp only [Act.put, List.setIfInBounds_toArray, List.set_cons_zero, List.set_cons_succ]
    refine take_call (i := 2) rfl (by kernel_rfl) (fun Kc hK => ?_)
    go_simp
    (go_at_call 55; refine (fOf 1 (by decide) rfl _).mono ?_; rintro e w2 ⟨a2, l2, c2, rfl, h2, f2, bw2⟩)
    refine hK.out _ _ ?_ (fun hHeld => ?_)
    · first | exact ⟨x_a.c0, x_a.c1, x_a.c2, BB⟩ | exact ⟨cell_on bw3 hHeld.1, cell_on bw3 hHeld.2.1, cell_on bw3 hHeld.2.2.1, also hHeld.2.2.2 bw3⟩ | exact ⟨cell_on bw2 hHeld.1, cell_on bw2 hHeld.2.1, cell_on bw2 hHeld.2.2.1, also hHeld.2.2.2 bw2⟩
    clear hK Kc
    have zbw2 := bw2.size
    replace BB := also BB bw2
    replace x_a := x_a.on bw2
    replace h1 := h1.below bw2
    refine take_call (i := 3) rfl (by kernel_rfl) (fun Kc hK => ?_)
    go_simp
    (go_at_call 54; refine (nCmp d1 a2 m1 l2 k1 c2 _ _ _ h1.ni (h2.ni 1 (by decide) (by decide)) HG.out).mono ?_; rintro e w3 ⟨rfl, bw3⟩)
    refine hK.out _ _ ?_ (fun hHeld => ?_)
    · first | exact ⟨x_a.c0, x_a.c1, x_a.c2, BB⟩ | exact ⟨cell_on bw3 hHeld.1, cell_on bw3 hHeld.2.1, cell_on bw3 hHeld.2.2.1, also hHeld.2.2.2 bw3⟩ | exact ⟨cell_on bw2 hHeld.1, cell_on bw2 hHeld.2.1, cell_on bw2 hHeld.2.2.1, also hHeld.2.2.2 bw2⟩
    clear hK Kc
    have zbw3 := bw3.size
    replace BB := also BB bw3
    replace x_a := x_a.on bw3
    replace h1 := h1.below bw3
    replace h2 := h2.below bw3
    refine take_yes (i := 4) (v := ?vq4) rfl (by kernel_rfl) (by kernel_rfl) (by kernel_rfl) (fun _ _ _ h => h) (by rfl) (by assumption) ?hyq4 ?restq4
    case hyq4 => (intro w hSw; (try dsimp only at hSw); first | (go_simp; done) | (go_simp; with_reducible rfl))
    simp only [Act.put, List.setIfInBounds_toArray, List.set_cons_zero, List.set_cons_succ]
    refine wpAnyH_done (by kernel_rfl) ?_ _
    have ⟨x_a_0, x_a_1, x_a_2, x_a_3, x_a_4, x_a_5⟩ := x_a
    go_wp2
    have dd2 : Below w3.heap.size w3 w3.drew := (Below.refl _ _).drew
    clear x_a_0 x_a_1 x_a_2 x_a_3 x_a_4 x_a_5
    have zdd2 := dd2.size
    replace BB := also BB dd2
    replace x_a := x_a.on dd2
    replace h1 := h1.below dd2
    replace h2 := h2.below dd2
    refine wp_region_held_drew (S := (fun w' => w'.cell? ⟨w.heap.size, 0, none⟩ = some (.bool n1) ∧ w'.cell? ⟨w.heap.size, 1, none⟩ = some (.slice a1 l1 c1) ∧ w'.cell? ⟨w.heap.size, 2, none⟩ = some (.slice d1 m1 k1) ∧ Below w.heap.size w w')) (by kernel_rfl) ?_ (fun hHeld => ?_)
    · first | exact ⟨x_a.c0, x_a.c1, x_a.c2, BB⟩ | exact ⟨cell_on bw5 hHeld.1, cell_on bw5 hHeld.2.1, cell_on bw5 hHeld.2.2.1, also hHeld.2.2.2 bw5⟩ | exact ⟨cell_on bw4 hHeld.1, cell_on bw4 hHeld.2.1, cell_on bw4 hHeld.2.2.1, also hHeld.2.2.2 bw4⟩
    refine take_yes (i := 0) (v := ?vs0) rfl (by kernel_rfl) (by kernel_rfl) (by kernel_rfl) (fun _ _ _ h => h) (by rfl) (by assumption) ?hys0 ?rests0
    case hys0 => (intro w hSw; (try dsimp only at hSw); first | (go_simp; done) | (go_simp; with_reducible rfl))
    simp only [Act.put, List.setIfInBounds_toArray, List.set_cons_zero, List.set_cons_succ]
    refine take_yes (i := 1) (v := ?vs1) rfl (by kernel_rfl) (by kernel_rfl) (by kernel_rfl) (fun _ _ _ h => h) (by rfl) (by assumption) ?hys1 ?rests1
    case hys1 => (intro w hSw; (try dsimp only at hSw); first | (go_simp; done) | (go_simp; with_reducible rfl))
    simp only [Act.put, List.setIfInBounds_toArray, List.set_cons_zero, List.set_cons_succ]
    refine take_yes (i := 4) (v := ?vs4) rfl (by kernel_rfl) (by kernel_rfl) (by kernel_rfl) (fun _ _ _ h => h) (by rfl) (by assumption) ?hys4 ?rests4
    case hys4 => (intro w hSw; (try dsimp only at hSw); first | (go_simp; done) | (go_simp; with_reducible rfl))
    simp only [Act.put, List.setIfInBounds_toArray, List.set_cons_zero, List.set_cons_succ]
    refine take_yes (i := 5) (v := ?vs5) rfl (by kernel_rfl) (by kernel_rfl) (by kernel_rfl) (fun _ _ _ h => h) (by rfl) (by assumption) ?hys5 ?rests5
    case hys5 => (intro w hSw; (try dsimp only at hSw); first | (go_simp; done) | (go_simp; with_reducible rfl))
    simp only [Act.put, List.setIfInBounds_toArray, List.set_cons_zero, List.set_cons_succ]
    refine take_call (i := 2) rfl (by kernel_rfl) (fun Kc hK => ?_)
    go_simp
    (go_at_call 56; refine (wShow n1 a1 l1 c1 N _ h1.wi HT1.out).mono ?_; rintro e w4 ⟨rfl, bw4⟩)
    refine hK.out _ _ ?_ (fun hHeld => ?_)
    · first | exact ⟨x_a.c0, x_a.c1, x_a.c2, BB⟩ | exact ⟨cell_on bw5 hHeld.1, cell_on bw5 hHeld.2.1, cell_on bw5 hHeld.2.2.1, also hHeld.2.2.2 bw5⟩ | exact ⟨cell_on bw4 hHeld.1, cell_on bw4 hHeld.2.1, cell_on bw4 hHeld.2.2.1, also hHeld.2.2.2 bw4⟩
    clear hK Kc
    have zbw4 := bw4.size
    replace BB := also BB bw4
    replace x_a := x_a.on bw4
    replace h1 := h1.below bw4
    replace h2 := h2.below bw4
    refine take_yes (i := 3) (v := ?vs3) rfl (by kernel_rfl) (by kernel_rfl) (by kernel_rfl) (fun _ _ _ h => h) (by rfl) (by assumption) ?hys3 ?rests3
    case hys3 => (intro w hSw; (try dsimp only at hSw); first | (go_simp; done) | (go_simp; with_reducible rfl))
    simp only [Act.put, List.setIfInBounds_toArray, List.set_cons_zero, List.set_cons_succ]
    refine take_call (i := 6) rfl (by kernel_rfl) (fun Kc hK => ?_)
    go_simp
    (go_at_call 57; refine (nShow d1 m1 k1 E _ h1.ni HT2.out).mono ?_; rintro e w5 ⟨rfl, bw5⟩)
    refine hK.out _ _ ?_ (fun hHeld => ?_)
    · first | exact ⟨x_a.c0, x_a.c1, x_a.c2, BB⟩ | exact ⟨cell_on bw5 hHeld.1, cell_on bw5 hHeld.2.1, cell_on bw5 hHeld.2.2.1, also hHeld.2.2.2 bw5⟩ | exact ⟨cell_on bw4 hHeld.1, cell_on bw4 hHeld.2.1, cell_on bw4 hHeld.2.2.1, also hHeld.2.2.2 bw4⟩
    clear hK Kc
    have zbw5 := bw5.size
    replace BB := also BB bw5
    replace x_a := x_a.on bw5
    replace h1 := h1.below bw5
    replace h2 := h2.below bw5
    refine take_yes (i := 7) (v := ?vs7) rfl (by kernel_rfl) (by kernel_rfl) (by kernel_rfl) (fun _ _ _ h => h) (by rfl) (by assumption) ?hys7 ?rests7
    case hys7 => (intro w hSw; (try dsimp only at hSw); first | (go_simp; done) | (go_simp; with_reducible rfl))
    simp only [Act.put, List.setIfInBounds_toArray, List.set_cons_zero, List.set_cons_succ]
    refine take_yes (i := 8) (v := ?vs8) rfl (by kernel_rfl) (by kernel_rfl) (by kernel_rfl) (fun _ _ _ h => h) (by rfl) (by assumption) ?hys8 ?rests8
    case hys8 => (intro w hSw; (try dsimp only at hSw); first | (go_simp; done) | (go_simp; with_reducible rfl))
    simp only [Act.put, List.setIfInBounds_toArray, List.set_cons_zero, List.set_cons_succ]
    refine wpAnyH_done (by kernel_rfl) ?_ _
    go_wp2
    go_ret
    exact ⟨by rw [HT.out]; rfl, BB⟩
end Go.Proofs.YtaekgomplkkocaaGreatDoor

namespace Go.Proofs.YtaekgomplkkocaaGreatDoor
open Go.RowKit
set_option linter.unusedVariables false

theorem ni_lit (w : World) (x : Nat) (hx : x < 4294967296) (xv : Int) (hv : xv = (x : Int)) : NI (w.alloc (.cells #[.int .u32 xv] 69)) (some ⟨w.heap.size, 0, none⟩) 1 1 x := by
  subst hv
  have e : wd.dcells 1 (x : Int) = [.int .u32 (x : Int)] := by
    have : (x : Int) % 4294967296 = x := Int.emod_eq_of_lt (by omega) (by omega)
    simp [wd.dcells, wd.dg, this]
  refine ⟨?_, by simpa using hx, by decide⟩
  rw [e]
  exact Own.sl (World.ownsRow_lit (base := w.heap.size) (e := 69) (size := 1) w #[.int .u32 (x : Int)] 1 (Nat.le_refl _) (by decide) rfl)
theorem low64 : lowN (6 * (-4 : Int).sign) (-4 : Int).natAbs = -3 ∧ lowD (6 * (-4 : Int).sign) (-4 : Int).natAbs = 2 := by decide
theorem low32 : lowN (pN (-3) 2) (pD 2) = -3 ∧ lowD (pN (-3) 2) (pD 2) = 2 := by decide
theorem rnd32 : flQ (pN (-3) 2 + pN (-3) 2 + ((pD 2 : Nat) : Int)) ((pD 2 + pD 2 : Nat) : Int) = -1 := by decide
theorem text32 : qText (-3) 2 = ⟨#[45, 51, 47, 50]⟩ := by
  unfold qText decZ decS
  rw [if_neg (by decide), if_pos (by decide), dlen_eq (k := 1) ⟨by decide, by decide, Or.inl rfl⟩, dlen_eq (k := 1) ⟨by decide, by decide, Or.inl rfl⟩]
  decide +kernel
set_option maxRecDepth 100000 in
set_option maxHeartbeats 1000000 in
theorem lives5_any (w : World) : Calls Tryz.prog 17 #[] w fun e w' => e = .returned (.bool true) ∧ Below w.heap.size w w' := by
  have e1 : Below w.heap.size w (w.alloc (.cells #[.int .u32 6] 69)) := (Below.refl _ _).alloc (Nat.le_refl _) _
  have e2 : Below (w.alloc (.cells #[.int .u32 6] 69)).heap.size (w.alloc (.cells #[.int .u32 6] 69)) ((w.alloc (.cells #[.int .u32 6] 69)).alloc (.cells #[.int .u32 4] 69)) := (Below.refl _ _).alloc (Nat.le_refl _) _
  have s6 := (ni_lit w 6 (by decide) 6 rfl).below e2
  have s4 := ni_lit (w.alloc (.cells #[.int .u32 6] 69)) 4 (by decide) 4 rfl
  rw [World.size_alloc] at s4
  have q6 : WI _ false _ 1 1 6 := wi_of (n := false) s6
  have q4 : WI _ true _ 1 1 (-4) := wi_of (n := true) s4
  have BB := also e1 e2
  obtain ⟨W, hW⟩ : ∃ W, W = (w.alloc (.cells #[.int .u32 6] 69)).alloc (.cells #[.int .u32 4] 69) := ⟨_, rfl⟩
  rw [← hW] at q6 q4 BB
  clear s6 s4 e1 e2
  go_enter Tryz.func17, Tryz.ntmps17
  go_wp2_with (go_at_call 47; fail)
  rw [← hW]
  clear hW
  refine (qMake false true _ _ 1 1 1 1 6 (-4) W q6 q4 (by decide) (-3) 2 low64.1.symm low64.2.symm).mono ?_
  rintro e w1 ⟨n1, a1, l1, c1, d1, m1, k1, rfl, h1, f1, g1, bw1⟩
  have zbw1 := bw1.size
  replace q6 := q6.below bw1
  replace q4 := q4.below bw1
  replace BB := also BB bw1
  replace h1 := h1.qi 1 (by decide) (by decide) (by decide) (by decide)
  obtain ⟨V1, hV1, bV1, x_a, sV1⟩ := bs_3 w1 (.bool n1) (.slice a1 l1 c1) (.slice d1 m1 k1) 27
  have zbV1 := bV1.size
  replace q6 := q6.below bV1
  replace q4 := q4.below bV1
  replace BB := also BB bV1
  replace h1 := h1.below bV1
  go_wp2_with (go_at_call 24; fail)
  rw [← hV1]
  clear hV1
  refine (qRound n1 a1 l1 c1 d1 m1 k1 (-3) 2 1 V1 h1 (-1) rnd32.symm).mono ?_
  rintro e w2 ⟨n2, a2, l2, c2, rfl, h2, f2, bw2⟩
  have zbw2 := bw2.size
  replace q6 := q6.below bw2
  replace q4 := q4.below bw2
  replace BB := also BB bw2
  replace h1 := h1.below bw2
  replace x_a := x_a.on bw2
  obtain ⟨V2, hV2, bV2, x_n, sV2⟩ := bs_2 w2 (.bool n2) (.slice a2 l2 c2) 25
  have zbV2 := bV2.size
  replace q6 := q6.below bV2
  replace q4 := q4.below bV2
  replace BB := also BB bV2
  replace h1 := h1.below bV2
  replace x_a := x_a.on bV2
  replace h2 := h2.below bV2
  have st_a_0 : (w2.alloc (.cells #[.bool n2, .slice a2 l2 c2] 25)).cell? ⟨w1.heap.size, 0, none⟩ = some (.bool n1) := by rw [← hV2]; exact x_a.c0
  have st_a_1 : (w2.alloc (.cells #[.bool n2, .slice a2 l2 c2] 25)).cell? ⟨w1.heap.size, 1, none⟩ = some (.slice a1 l1 c1) := by rw [← hV2]; exact x_a.c1
  have st_a_2 : (w2.alloc (.cells #[.bool n2, .slice a2 l2 c2] 25)).cell? ⟨w1.heap.size, 2, none⟩ = some (.slice d1 m1 k1) := by rw [← hV2]; exact x_a.c2
  have sf_a_0 : (w2.alloc (.cells #[.bool n2, .slice a2 l2 c2] 25)).frozen? ⟨w1.heap.size, 0, none⟩ = false := by rw [← hV2]; exact x_a.f0
  have sf_a_1 : (w2.alloc (.cells #[.bool n2, .slice a2 l2 c2] 25)).frozen? ⟨w1.heap.size, 1, none⟩ = false := by rw [← hV2]; exact x_a.f1
  have sf_a_2 : (w2.alloc (.cells #[.bool n2, .slice a2 l2 c2] 25)).frozen? ⟨w1.heap.size, 2, none⟩ = false := by rw [← hV2]; exact x_a.f2
  have HS : Hid ((⟨#[45, 51, 47, 50]⟩ : ByteArray) = qText (lowN (pN (-3) 2) (pD 2)) (lowD (pN (-3) 2) (pD 2))) := by unfold Hid; rw [low32.1, low32.2, text32]
  go_wp2_with (go_at_call 31; fail)
  rw [← hV2]
  clear hV2 st_a_0 st_a_1 st_a_2 sf_a_0 sf_a_1 sf_a_2
  refine (qShow n1 a1 l1 c1 d1 m1 k1 (-3) 2 1 V2 h1 HS.out).mono ?_
  rintro e w3 ⟨rfl, bw3⟩
  have zbw3 := bw3.size
  replace q6 := q6.below bw3
  replace q4 := q4.below bw3
  replace BB := also BB bw3
  replace h1 := h1.below bw3
  replace x_a := x_a.on bw3
  replace h2 := h2.below bw3
  replace x_n := x_n.on bw3
  obtain rfl : n2 = true := by rw [h2.sg]; rfl
  obtain rfl : l2 = 1 := by rw [h2.nd.len]; exact wd.nlen_eq ⟨by decide, Or.inr (by decide)⟩
  obtain ⟨b, p, rfl, hb, seg⟩ := h2.nd.sl.at (by decide)
  have hc : w3.cell? ⟨b, p, none⟩ = some (.int .u32 1) := by have := seg.cell 0 _ (wd.dcells_at _ _ _ (by decide)); simpa [wd.dg] using this
  have ⟨x_n_0, x_n_1, x_n_2, x_n_3⟩ := x_n
  go_wp2
  go_ret
  exact ⟨rfl, BB⟩
end Go.Proofs.YtaekgomplkkocaaGreatDoor
