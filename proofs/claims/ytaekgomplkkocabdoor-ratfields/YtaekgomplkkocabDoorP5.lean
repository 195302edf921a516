/-
  Joined texts, part 5:
  What nat's Gcd answers.
  Mathematics of fractions in lowest terms: there is one such form.
  Fractions in memory; what package rat's parts, lowest and down answer.
-/
import Derived.Test.YtaekgomplkkocabDoorP4
import Derived.Deep.LoopGhost
import Derived.Test.YtaekgomplkkocabDoorP1
namespace Go.Proofs.YtaekgomplkkocabDoor
open Go.RowKit
set_option linter.unusedVariables false

/-- What holds at the head of each round of Gcd: two numbers of the same greatest divisor, the second not above the first; k is the second. -/
def GcdRel (w : World) (g k : Nat) (av bv : Value) (wr : World) : Prop := ∃ (a : Option Addr) (la ca : Nat) (b : Option Addr) (lb cb u : Nat), av = .slice a la ca ∧ bv = .slice b lb cb ∧ ND wr a la ca u ∧ ND wr b lb cb k ∧ k ≤ u ∧ la ≤ 1000000 ∧ Nat.gcd u k = g ∧ Below w.heap.size w wr
theorem bt_small {v : Nat} (h : bt.nlen v ≤ 64) : v < 18446744073709551616 := Nat.lt_of_lt_of_le (bt.nlen_lt v) (Nat.le_trans (Nat.pow_le_pow_right (by decide) h) (by decide))
theorem nSmall (a : Option Addr) (l c u : Nat) (w : World) (h : NI w a l c u) (h64 : u < 18446744073709551616) : Calls Tryd.prog 50 #[.slice a l c] w fun e w' => e = .returned (.int .u64 (u : Int)) ∧ Below w.heap.size w w' :=
  small_any a l c u w h.sl h.lt h64
set_option maxRecDepth 100000 in
set_option maxHeartbeats 2000000 in
theorem nGcd (a b : Option Addr) (la lb ca cb u v : Nat) (w : World) (ha : NI w a la ca u) (hb : NI w b lb cb v) :
    Calls Tryd.prog 31 #[.slice a la ca, .slice b lb cb] w (GotN w (Nat.gcd u v)) := by
  obtain ⟨g, hg⟩ : ∃ g, g = Nat.gcd u v := ⟨_, rfl⟩
  have HG : Hid _ := hg.symm
  rw [← hg]
  clear hg
  have hlu := wd.nlen_le ha.lt
  have hlv := wd.nlen_le hb.lt
  have hfa := ha.few
  have hfb := hb.few
  go_enter Tryd.func31, Tryd.ntmps31
  go_wp2_with (go_at_call 47; fail)
  refine (nTrim a la ca u w ha).mono ?_
  rintro e w1 ⟨a1, la1, ca1, rfl, ha1, hb1⟩
  go_wp2_with (go_at_call 47; fail)
  refine (nTrim b lb cb v w1 (hb.below hb1)).mono ?_
  rintro e w2 ⟨b2, lb2, cb2, rfl, hb2', hb2⟩
  have ha2 := ha1.below hb2
  have hla2 : la1 ≤ 1000000 := by rw [ha1.len]; omega
  have hlb2 : lb2 ≤ 1000000 := by rw [hb2'.len]; omega
  have B2 : Below w.heap.size w w2 := hb1.trans (hb2.mono hb1.size)
  clear ha hb ha1 hb1 hb2 hlu hlv hfa hfb
  obtain ⟨c, hc⟩ : ∃ c, c = cmpI (u : Int) v := ⟨_, rfl⟩
  go_wp2_with (go_at_call 24; fail)
  refine (nCmp a1 b2 la1 lb2 ca1 cb2 u v w2 (ha2.to hla2) (hb2'.to hlb2) hc).mono ?_
  rintro e w3 ⟨rfl, hb3⟩
  have ha3 := ha2.below hb3
  have hb3' := hb2'.below hb3
  have B3 : Below w.heap.size w w3 := B2.trans (hb3.mono B2.size)
  clear ha2 hb2' hb3 B2
  rcases Nat.lt_or_ge u v with huv | huv
  · have hc0 : c < 0 := by rw [hc]; unfold cmpI; rw [if_pos (by omega)]; decide
    have HST : Hid (GcdRel w g u (.slice b2 lb2 cb2) (.slice a1 la1 ca1) w3) := ⟨b2, lb2, cb2, a1, la1, ca1, v, rfl, rfl, hb3', ha3, by omega, hlb2, by rw [Nat.gcd_comm]; exact HG.out, B3⟩
    clear hc ha3 hb3' B3 HG huv
    go_wp2
    go_loopg [0, 1] u (fun k av bv wr => GcdRel w g k av bv wr)
    case atStart => exact HST.out
    case round =>
      clear HST
      obtain ⟨a, la, ca, b, lb, cb, U, rfl, rfl, ha, hb, hle, hla, hgcd, hbel⟩ := hrel
      have hlb : lb ≤ 1000000 := by rw [hb.len]; have := mono_wd hle; rw [← ha.len] at this; omega
      have na := ha.to hla
      have nb := hb.to hlb
      obtain ⟨n, hn⟩ : ∃ n, n = bt.nlen gk := ⟨_, rfl⟩
      have HN : Hid _ := hn
      have HGC : Hid _ := hgcd
      by_cases h64 : 64 < n
      · have h64' : (64 : Int) < n := by omega
        have HV : Hid (64 < bt.nlen gk) := by unfold Hid; rw [← hn]; exact h64
        clear hn hgcd
        go_wp2_with (go_at_call 30; refine (nBits b lb cb gk _ nb HN.out).mono ?_; rintro e w' ⟨rfl, hw⟩; subst hw)
        refine (nNearer a b la lb ca cb U gk wr ha hb hla hle HV.out).mono ?_
        rintro e w5 ⟨ax, lx, cx, ay, ly, cy, X, Y, rfl, hX, hY, g1, g2, g3, g4, hb5⟩
        go_wp2
        go_roundg Y
        case measure => exact g1
        case rel => exact ⟨ax, lx, cx, ay, ly, cy, X, rfl, rfl, hX, hY, g2, by rw [hX.len]; have := mono_wd g3; rw [← ha.len] at this; omega, by rw [g4]; exact HGC.out, hbel.trans (hb5.mono hbel.size)⟩
      · have h64' : ¬ (64 : Int) < n := by omega
        have hs : gk < 18446744073709551616 := bt_small (by rw [← hn]; omega)
        clear hn hgcd
        rcases Nat.eq_zero_or_pos gk with h0 | h0
        · subst h0
          have hl0 : lb = 0 := by rw [hb.len, wd.nlen_zero]
          subst hl0
          have hUg : U = g := by have := HGC.out; simpa using this
          subst hUg
          go_wp2_with (go_at_call 30; refine (nBits b 0 cb 0 _ nb HN.out).mono ?_; rintro e w' ⟨rfl, hw⟩; subst hw)
          go_ret
          exact ⟨a, la, ca, rfl, ha, hbel⟩
        · have hl0 : 0 < lb := by rw [hb.len]; exact wd.nlen_pos h0
          have hl1 : ¬ (lb : Int) = 0 := by omega
          obtain ⟨R, hR⟩ : ∃ R, R = U % gk := ⟨_, rfl⟩
          have hRl : R < gk := by rw [hR]; exact Nat.mod_lt _ h0
          have HRG : Hid (Nat.gcd gk R = g) := by unfold Hid; rw [hR, ← HGC.out, Nat.gcd_comm gk, ← Nat.gcd_rec, Nat.gcd_comm]
          have hgl : g ≤ gk := by have := Nat.gcd_le_right U h0; have e := HGC.out; omega
          have HRE : Hid _ := hR
          clear hR
          go_wp2_with (go_at_call 30; refine (nBits b lb cb gk _ nb HN.out).mono ?_; rintro e w' ⟨rfl, hw⟩; subst hw)
          refine (nSmall b lb cb gk wr nb hs).mono ?_
          rintro e w5 ⟨rfl, hb5⟩
          go_wp2_with (go_at_call 51; fail)
          have HRS := nRest a b la lb ca cb U gk w5 (na.below hb5) (nb.below hb5) h0
          rw [← HRE.out] at HRS
          refine HRS.mono ?_
          rintro e w6 ⟨ar, lr, cr, rfl, hr6, hb6⟩
          have nr6 : NI w6 ar lr cr R := hr6.to (by rw [hr6.len]; have := mono_wd (Nat.le_of_lt hRl); rw [← hb.len] at this; omega)
          go_wp2_with (go_at_call 50; fail)
          refine (nSmall ar lr cr R w6 nr6 (by omega)).mono ?_
          rintro e w7 ⟨rfl, hb7⟩
          go_wp2_with (go_at_call 49; fail)
          have HGS := gcdSmall_any gk R hs (by omega) w7
          rw [HRG.out] at HGS
          refine HGS.mono ?_
          rintro e w8 ⟨rfl, hb8⟩
          go_wp2_with (go_at_call 25; fail)
          refine (nOf g (by omega) rfl w8).mono ?_
          rintro e w9 ⟨a9, l9, c9, rfl, h9, hb9⟩
          go_wp2
          go_ret
          exact ⟨a9, l9, c9, rfl, h9, hbel.trans ((hb5.trans ((hb6.trans ((hb7.trans ((hb8.trans (hb9.mono hb8.size)).mono hb7.size)).mono hb6.size)).mono hb5.size)).mono hbel.size)⟩
  · have hc0 : ¬ c < 0 := by rw [hc]; unfold cmpI; rw [if_neg (by omega)]; split <;> decide
    have HST : Hid (GcdRel w g v (.slice a1 la1 ca1) (.slice b2 lb2 cb2) w3) := ⟨a1, la1, ca1, b2, lb2, cb2, u, rfl, rfl, ha3, hb3', huv, hla2, HG.out, B3⟩
    clear hc ha3 hb3' B3 HG huv
    go_wp2
    go_loopg [0, 1] v (fun k av bv wr => GcdRel w g k av bv wr)
    case atStart => exact HST.out
    case round =>
      clear HST
      obtain ⟨a, la, ca, b, lb, cb, U, rfl, rfl, ha, hb, hle, hla, hgcd, hbel⟩ := hrel
      have hlb : lb ≤ 1000000 := by rw [hb.len]; have := mono_wd hle; rw [← ha.len] at this; omega
      have na := ha.to hla
      have nb := hb.to hlb
      obtain ⟨n, hn⟩ : ∃ n, n = bt.nlen gk := ⟨_, rfl⟩
      have HN : Hid _ := hn
      have HGC : Hid _ := hgcd
      by_cases h64 : 64 < n
      · have h64' : (64 : Int) < n := by omega
        have HV : Hid (64 < bt.nlen gk) := by unfold Hid; rw [← hn]; exact h64
        clear hn hgcd
        go_wp2_with (go_at_call 30; refine (nBits b lb cb gk _ nb HN.out).mono ?_; rintro e w' ⟨rfl, hw⟩; subst hw)
        refine (nNearer a b la lb ca cb U gk wr ha hb hla hle HV.out).mono ?_
        rintro e w5 ⟨ax, lx, cx, ay, ly, cy, X, Y, rfl, hX, hY, g1, g2, g3, g4, hb5⟩
        go_wp2
        go_roundg Y
        case measure => exact g1
        case rel => exact ⟨ax, lx, cx, ay, ly, cy, X, rfl, rfl, hX, hY, g2, by rw [hX.len]; have := mono_wd g3; rw [← ha.len] at this; omega, by rw [g4]; exact HGC.out, hbel.trans (hb5.mono hbel.size)⟩
      · have h64' : ¬ (64 : Int) < n := by omega
        have hs : gk < 18446744073709551616 := bt_small (by rw [← hn]; omega)
        clear hn hgcd
        rcases Nat.eq_zero_or_pos gk with h0 | h0
        · subst h0
          have hl0 : lb = 0 := by rw [hb.len, wd.nlen_zero]
          subst hl0
          have hUg : U = g := by have := HGC.out; simpa using this
          subst hUg
          go_wp2_with (go_at_call 30; refine (nBits b 0 cb 0 _ nb HN.out).mono ?_; rintro e w' ⟨rfl, hw⟩; subst hw)
          go_ret
          exact ⟨a, la, ca, rfl, ha, hbel⟩
        · have hl0 : 0 < lb := by rw [hb.len]; exact wd.nlen_pos h0
          have hl1 : ¬ (lb : Int) = 0 := by omega
          obtain ⟨R, hR⟩ : ∃ R, R = U % gk := ⟨_, rfl⟩
          have hRl : R < gk := by rw [hR]; exact Nat.mod_lt _ h0
          have HRG : Hid (Nat.gcd gk R = g) := by unfold Hid; rw [hR, ← HGC.out, Nat.gcd_comm gk, ← Nat.gcd_rec, Nat.gcd_comm]
          have hgl : g ≤ gk := by have := Nat.gcd_le_right U h0; have e := HGC.out; omega
          have HRE : Hid _ := hR
          clear hR
          go_wp2_with (go_at_call 30; refine (nBits b lb cb gk _ nb HN.out).mono ?_; rintro e w' ⟨rfl, hw⟩; subst hw)
          refine (nSmall b lb cb gk wr nb hs).mono ?_
          rintro e w5 ⟨rfl, hb5⟩
          go_wp2_with (go_at_call 51; fail)
          have HRS := nRest a b la lb ca cb U gk w5 (na.below hb5) (nb.below hb5) h0
          rw [← HRE.out] at HRS
          refine HRS.mono ?_
          rintro e w6 ⟨ar, lr, cr, rfl, hr6, hb6⟩
          have nr6 : NI w6 ar lr cr R := hr6.to (by rw [hr6.len]; have := mono_wd (Nat.le_of_lt hRl); rw [← hb.len] at this; omega)
          go_wp2_with (go_at_call 50; fail)
          refine (nSmall ar lr cr R w6 nr6 (by omega)).mono ?_
          rintro e w7 ⟨rfl, hb7⟩
          go_wp2_with (go_at_call 49; fail)
          have HGS := gcdSmall_any gk R hs (by omega) w7
          rw [HRG.out] at HGS
          refine HGS.mono ?_
          rintro e w8 ⟨rfl, hb8⟩
          go_wp2_with (go_at_call 25; fail)
          refine (nOf g (by omega) rfl w8).mono ?_
          rintro e w9 ⟨a9, l9, c9, rfl, h9, hb9⟩
          go_wp2
          go_ret
          exact ⟨a9, l9, c9, rfl, h9, hbel.trans ((hb5.trans ((hb6.trans ((hb7.trans ((hb8.trans (hb9.mono hb8.size)).mono hb7.size)).mono hb6.size)).mono hb5.size)).mono hbel.size)⟩
end Go.Proofs.YtaekgomplkkocabDoor

namespace Go.Proofs.YtaekgomplkkocabDoor
set_option linter.unusedVariables false

theorem low_nat {a b c d : Nat} (h : a * d = c * b) (g : Nat.gcd a b = 1) (g' : Nat.gcd c d = 1) (hb : 0 < b) (hd : 0 < d) : a = c ∧ b = d := by
  have h1 : b ∣ d := by
    have : b ∣ a * d := ⟨c, by rw [h, Nat.mul_comm]⟩
    exact Nat.Coprime.dvd_of_dvd_mul_left (show Nat.Coprime b a by unfold Nat.Coprime; rwa [Nat.gcd_comm]) this
  have h2 : d ∣ b := by
    have : d ∣ c * b := ⟨a, by rw [← h, Nat.mul_comm]⟩
    exact Nat.Coprime.dvd_of_dvd_mul_left (show Nat.Coprime d c by unfold Nat.Coprime; rwa [Nat.gcd_comm]) this
  have e : b = d := Nat.dvd_antisymm h1 h2
  subst e
  exact ⟨Nat.eq_of_mul_eq_mul_right hb h, rfl⟩
theorem low_one {n m : Int} {b d : Nat} (h : n * d = m * b) (g : Nat.gcd n.natAbs b = 1) (g' : Nat.gcd m.natAbs d = 1) (hb : 0 < b) (hd : 0 < d) : n = m ∧ b = d := by
  have h1 : n.natAbs * d = m.natAbs * b := by
    have := congrArg Int.natAbs h
    simpa [Int.natAbs_mul] using this
  obtain ⟨e1, e2⟩ := low_nat h1 g g' hb hd
  subst e2
  exact ⟨Int.eq_of_mul_eq_mul_right (by omega) h, rfl⟩
/-- Both parts over what they share: the same fraction, in lowest terms. -/
theorem low_terms (n : Int) (d : Nat) (hd : 0 < d) : Nat.gcd (n.natAbs / Nat.gcd n.natAbs d) (d / Nat.gcd n.natAbs d) = 1 ∧ 0 < d / Nat.gcd n.natAbs d ∧ (n.sign * (n.natAbs / Nat.gcd n.natAbs d : Nat)) * d = n * (d / Nat.gcd n.natAbs d : Nat) := by
  have hg : 0 < Nat.gcd n.natAbs d := Nat.gcd_pos_of_pos_right _ hd
  refine ⟨by rw [Nat.gcd_div (Nat.gcd_dvd_left _ _) (Nat.gcd_dvd_right _ _)]; exact Nat.div_self hg, Nat.div_pos (Nat.le_of_dvd hd (Nat.gcd_dvd_right _ _)) hg, ?_⟩
  obtain ⟨p, hp⟩ := Nat.gcd_dvd_left n.natAbs d
  obtain ⟨q, hq⟩ := Nat.gcd_dvd_right n.natAbs d
  obtain ⟨G, hG⟩ : ∃ G, G = Nat.gcd n.natAbs d := ⟨_, rfl⟩
  rw [← hG] at hp hq hg ⊢
  have e1 : n.natAbs / G = p := by rw [hp, Nat.mul_div_cancel_left _ hg]
  have e2 : d / G = q := by rw [hq, Nat.mul_div_cancel_left _ hg]
  rw [e1, e2]
  have hn : n = n.sign * ((G * p : Nat) : Int) := by rw [← hp]; exact (Int.sign_mul_natAbs n).symm
  have hd' : (d : Int) = (G : Int) * q := by rw [hq]; simp
  rw [hd']
  conv => rhs; rw [hn]
  simp only [Int.natCast_mul]
  grind
end Go.Proofs.YtaekgomplkkocabDoor

namespace Go.Proofs.YtaekgomplkkocabDoor
open Go.RowKit
set_option linter.unusedVariables false

/-- The parts of a fraction, one whose lower part is nought being nought. -/
def pN (z : Int) (D : Nat) : Int := if D = 0 then 0 else z
def pD (D : Nat) : Nat := if D = 0 then 1 else D
theorem pD_pos (D : Nat) : 0 < pD D := by unfold pD; split <;> omega
/-- The parts of a fraction in lowest terms. -/
def lowN (z : Int) (D : Nat) : Int := z.sign * ((z.natAbs / Nat.gcd z.natAbs D : Nat) : Int)
def lowD (z : Int) (D : Nat) : Nat := D / Nat.gcd z.natAbs D
theorem lowN_abs (z : Int) (D : Nat) : (lowN z D).natAbs = z.natAbs / Nat.gcd z.natAbs D := by
  unfold lowN
  rw [Int.natAbs_mul]
  by_cases h : z = 0
  · subst h; simp
  · rw [Int.natAbs_sign_of_ne_zero h, Nat.one_mul, Int.natAbs_natCast]
theorem lowN_le (z : Int) (D : Nat) : (lowN z D).natAbs ≤ z.natAbs := by rw [lowN_abs]; exact Nat.div_le_self _ _
theorem lowD_le (z : Int) (D : Nat) : lowD z D ≤ D := Nat.div_le_self _ _
theorem lowD_pos {z : Int} {D : Nat} (h : 0 < D) : 0 < lowD z D := (low_terms z D h).2.1
theorem low_gcd {z : Int} {D : Nat} (h : 0 < D) : Nat.gcd (lowN z D).natAbs (lowD z D) = 1 := by rw [lowN_abs]; exact (low_terms z D h).1
theorem low_same {z : Int} {D : Nat} (h : 0 < D) : lowN z D * D = z * lowD z D := (low_terms z D h).2.2
theorem lowN_sg {w : World} {n : Bool} {a : Option Addr} {l c : Nat} {z : Int} (h : WI w n a l c z) (D : Nat) : lowN z D = sgz n (z.natAbs / Nat.gcd z.natAbs D) := by
  have h1 := h.neg
  have h2 := h.pos
  unfold lowN sgz
  rcases wsign_cases z with ⟨hz, e⟩ | ⟨hz, e⟩ | ⟨hz, e⟩
  · rw [e]; cases n
    · have := h2 rfl; omega
    · simp
  · subst hz; simp
  · rw [e]; cases n
    · simp
    · have := h1 rfl; omega
/-- A fraction as it comes. -/
structure QI (w : World) (K : Nat) (n : Bool) (a : Option Addr) (l c : Nat) (d : Option Addr) (m k : Nat) (z : Int) (D : Nat) : Prop where
  wi : WI w n a l c z
  ni : NI w d m k D
  zs : z.natAbs < 4294967296 ^ K
  ds : D < 4294967296 ^ K
  k1 : 1 ≤ K
  kk : K ≤ 10000
/-- A fraction, both of its parts in their one form. -/
structure QN (w : World) (n : Bool) (a : Option Addr) (l c : Nat) (d : Option Addr) (m k : Nat) (z : Int) (D : Nat) : Prop where
  wn : WN w n a l c z
  nd : ND w d m k D
theorem QI.below {w w' : World} {K : Nat} {n : Bool} {a : Option Addr} {l c : Nat} {d : Option Addr} {m k : Nat} {z : Int} {D : Nat} (h : QI w K n a l c d m k z D) (hb : Below w.heap.size w w') : QI w' K n a l c d m k z D := ⟨h.wi.below hb, h.ni.below hb, h.zs, h.ds, h.k1, h.kk⟩
theorem QN.below {w w' : World} {n : Bool} {a : Option Addr} {l c : Nat} {d : Option Addr} {m k : Nat} {z : Int} {D : Nat} (h : QN w n a l c d m k z D) (hb : Below w.heap.size w w') : QN w' n a l c d m k z D := ⟨h.wn.below hb, h.nd.below hb⟩
theorem QN.qi {w : World} {n : Bool} {a : Option Addr} {l c : Nat} {d : Option Addr} {m k : Nat} {z : Int} {D : Nat} (h : QN w n a l c d m k z D) (K : Nat) (k1 : 1 ≤ K) (kk : K ≤ 10000) (hz : z.natAbs < 4294967296 ^ K) (hD : D < 4294967296 ^ K) : QI w K n a l c d m k z D :=
  ⟨h.wn.wi K (by omega) hz, h.nd.ni K (by omega) hD, hz, hD, k1, kk⟩
def GotPts (w : World) (K : Nat) (z : Int) (D : Nat) (e : Ending) (w' : World) : Prop := ∃ (n : Bool) (a : Option Addr) (l c : Nat) (d : Option Addr) (m k : Nat), e = .returned (.tuple #[.agg #[.bool n, .slice a l c], .slice d m k]) ∧ QI w' K n a l c d m k (pN z D) (pD D) ∧ Below w.heap.size w w'
def GotQ (w : World) (z : Int) (D : Nat) (e : Ending) (w' : World) : Prop := ∃ (n : Bool) (a : Option Addr) (l c : Nat) (d : Option Addr) (m k : Nat), e = .returned (.agg #[.bool n, .slice a l c, .slice d m k]) ∧ QN w' n a l c d m k z D ∧ Far w.heap.size a l ∧ Far w.heap.size d m ∧ Below w.heap.size w w'
theorem NI.put2 {w : World} {a : Option Addr} {l c u b : Nat} (h : NI w a l c u) (hn : NA b a l) (x y : Value) : NI ((w.setCell ⟨b, 0, none⟩ x).setCell ⟨b, 1, none⟩ y) a l c u := (h.put hn 0 x).put hn 1 y
theorem wi_nul (w : World) : WI w false none 0 0 0 := ⟨⟨sl_nil w, by decide, by decide⟩, fun _ => Int.le_refl 0, fun _ => Int.le_refl 0⟩
theorem wi_nat {w : World} {d : Option Addr} {l c D : Nat} (h : NI w d l c D) : WI w false d l c (D : Int) := ⟨by simpa using h, by simp, by simp⟩
theorem endPts {w w2 : World} {K : Nat} {n : Bool} {a : Option Addr} {l c : Nat} {d : Option Addr} {m k : Nat} {z : Int} {D : Nat} (b : Nat) (hb : w.heap.size ≤ b) (B : Below w.heap.size w w2) (h : QI w2 K n a l c d m k (pN z D) (pD D)) (n1 : NA b a l) (n2 : NA b d m) (u v : Value) :
    GotPts w K z D (.returned (.tuple #[.agg #[.bool n, .slice a l c], .slice d m k])) ((w2.setCell ⟨b, 0, none⟩ u).setCell ⟨b, 1, none⟩ v) :=
  ⟨n, a, l, c, d, m, k, rfl, ⟨h.wi.put2 n1 u v, h.ni.put2 n2 u v, h.zs, h.ds, h.k1, h.kk⟩, below_put2 B hb u v⟩
theorem below_put3 {B b : Nat} {w w' : World} (h : Below B w w') (hb : B ≤ b) (u v t : Value) : Below B w (((w'.setCell ⟨b, 0, none⟩ u).setCell ⟨b, 1, none⟩ v).setCell ⟨b, 2, none⟩ t) := ((h.setCell hb _).setCell hb _).setCell hb _
theorem below_put4 {B b : Nat} {w w' : World} (h : Below B w w') (hb : B ≤ b) (u v t s : Value) : Below B w ((((w'.setCell ⟨b, 0, none⟩ u).setCell ⟨b, 1, none⟩ v).setCell ⟨b, 2, none⟩ t).setCell ⟨b, 3, none⟩ s) := (((h.setCell hb _).setCell hb _).setCell hb _).setCell hb _
theorem cell_put1 {w : World} {n k i j : Nat} {v : Value} (h : w.cell? ⟨n, i, none⟩ = some v) (hk : n ≠ k) (u : Value) : (w.setCell ⟨k, j, none⟩ u).cell? ⟨n, i, none⟩ = some v := by
  rw [World.cell?_setCell_other _ _ _ _ (by intro q; simp only [Addr.mk.injEq] at q; omega)]; exact h
theorem cell_put2 {w : World} {n k i : Nat} {x : Value} (h : w.cell? ⟨n, i, none⟩ = some x) (hk : n ≠ k) (u v : Value) : ((w.setCell ⟨k, 0, none⟩ u).setCell ⟨k, 1, none⟩ v).cell? ⟨n, i, none⟩ = some x := cell_put1 (cell_put1 h hk u) hk v
theorem cell_put3 {w : World} {n k i : Nat} {x : Value} (h : w.cell? ⟨n, i, none⟩ = some x) (hk : n ≠ k) (u v t : Value) : (((w.setCell ⟨k, 0, none⟩ u).setCell ⟨k, 1, none⟩ v).setCell ⟨k, 2, none⟩ t).cell? ⟨n, i, none⟩ = some x := cell_put1 (cell_put2 h hk u v) hk t
theorem cell_put4 {w : World} {n k i : Nat} {x : Value} (h : w.cell? ⟨n, i, none⟩ = some x) (hk : n ≠ k) (u v t s : Value) : ((((w.setCell ⟨k, 0, none⟩ u).setCell ⟨k, 1, none⟩ v).setCell ⟨k, 2, none⟩ t).setCell ⟨k, 3, none⟩ s).cell? ⟨n, i, none⟩ = some x := cell_put1 (cell_put3 h hk u v t) hk s
theorem ND.put3 {w : World} {a : Option Addr} {l c u b : Nat} (h : ND w a l c u) (hn : NA b a l) (x y z : Value) : ND (((w.setCell ⟨b, 0, none⟩ x).setCell ⟨b, 1, none⟩ y).setCell ⟨b, 2, none⟩ z) a l c u := ((h.put hn 0 x).put hn 1 y).put hn 2 z
theorem QN.put3 {w : World} {n : Bool} {a : Option Addr} {l c : Nat} {d : Option Addr} {m k : Nat} {z : Int} {D : Nat} {b : Nat} (h : QN w n a l c d m k z D) (n1 : NA b a l) (n2 : NA b d m) (u v t : Value) : QN (((w.setCell ⟨b, 0, none⟩ u).setCell ⟨b, 1, none⟩ v).setCell ⟨b, 2, none⟩ t) n a l c d m k z D :=
  ⟨⟨h.wn.nd.put3 n1 u v t, h.wn.sg⟩, h.nd.put3 n2 u v t⟩
theorem endQ {w w2 : World} {n : Bool} {a : Option Addr} {l c : Nat} {d : Option Addr} {m k : Nat} {z : Int} {D : Nat} (b : Nat) (hb : w.heap.size ≤ b) (B : Below w.heap.size w w2) (h : QN w2 n a l c d m k z D) (f1 : Far (b + 1) a l) (f2 : Far (b + 1) d m) (u v t : Value) :
    GotQ w z D (.returned (.agg #[.bool n, .slice a l c, .slice d m k])) (((w2.setCell ⟨b, 0, none⟩ u).setCell ⟨b, 1, none⟩ v).setCell ⟨b, 2, none⟩ t) :=
  ⟨n, a, l, c, d, m, k, rfl, h.put3 (f1 b (by omega)) (f2 b (by omega)) u v t, f1.mono (by omega), f2.mono (by omega), below_put3 B hb u v t⟩
theorem bs_32 (w : World) (x00 x01 x02 x10 x11 : Value) (t0 t1 : TypeId) : ∃ W, W = ((w.alloc (.cells #[x00, x01, x02] t0)).alloc (.cells #[x10, x11] t1)) ∧ Below w.heap.size w W ∧ B3 W (w.heap.size) x00 x01 x02 ∧ Bx W (w.heap.size + 1) x10 x11 ∧ w.heap.size + 1 < W.heap.size := by
  have e0 : Below w.heap.size w (w.alloc (.cells #[x00, x01, x02] t0)) := (Below.refl _ _).alloc (Nat.le_refl _) _
  have h0 := b3_new w x00 x01 x02 t0
  have e1 : Below (w.alloc (.cells #[x00, x01, x02] t0)).heap.size (w.alloc (.cells #[x00, x01, x02] t0)) ((w.alloc (.cells #[x00, x01, x02] t0)).alloc (.cells #[x10, x11] t1)) := (Below.refl _ _).alloc (Nat.le_refl _) _
  have h1 := bx_new (w.alloc (.cells #[x00, x01, x02] t0)) x10 x11 t1
  rw [World.size_alloc] at h1
  exact ⟨_, rfl, also (e0) e1, (h0.on e1), h1, by simp⟩
theorem bs_23 (w : World) (x00 x01 x10 x11 x12 : Value) (t0 t1 : TypeId) : ∃ W, W = ((w.alloc (.cells #[x00, x01] t0)).alloc (.cells #[x10, x11, x12] t1)) ∧ Below w.heap.size w W ∧ Bx W (w.heap.size) x00 x01 ∧ B3 W (w.heap.size + 1) x10 x11 x12 ∧ w.heap.size + 1 < W.heap.size := by
  have e0 : Below w.heap.size w (w.alloc (.cells #[x00, x01] t0)) := (Below.refl _ _).alloc (Nat.le_refl _) _
  have h0 := bx_new w x00 x01 t0
  have e1 : Below (w.alloc (.cells #[x00, x01] t0)).heap.size (w.alloc (.cells #[x00, x01] t0)) ((w.alloc (.cells #[x00, x01] t0)).alloc (.cells #[x10, x11, x12] t1)) := (Below.refl _ _).alloc (Nat.le_refl _) _
  have h1 := b3_new (w.alloc (.cells #[x00, x01] t0)) x10 x11 x12 t1
  rw [World.size_alloc] at h1
  exact ⟨_, rfl, also (e0) e1, (h0.on e1), h1, by simp⟩
theorem bs_22 (w : World) (x00 x01 x10 x11 : Value) (t0 t1 : TypeId) : ∃ W, W = ((w.alloc (.cells #[x00, x01] t0)).alloc (.cells #[x10, x11] t1)) ∧ Below w.heap.size w W ∧ Bx W (w.heap.size) x00 x01 ∧ Bx W (w.heap.size + 1) x10 x11 ∧ w.heap.size + 1 < W.heap.size := by
  have e0 : Below w.heap.size w (w.alloc (.cells #[x00, x01] t0)) := (Below.refl _ _).alloc (Nat.le_refl _) _
  have h0 := bx_new w x00 x01 t0
  have e1 : Below (w.alloc (.cells #[x00, x01] t0)).heap.size (w.alloc (.cells #[x00, x01] t0)) ((w.alloc (.cells #[x00, x01] t0)).alloc (.cells #[x10, x11] t1)) := (Below.refl _ _).alloc (Nat.le_refl _) _
  have h1 := bx_new (w.alloc (.cells #[x00, x01] t0)) x10 x11 t1
  rw [World.size_alloc] at h1
  exact ⟨_, rfl, also (e0) e1, (h0.on e1), h1, by simp⟩
theorem bs_33 (w : World) (x00 x01 x02 x10 x11 x12 : Value) (t0 t1 : TypeId) : ∃ W, W = ((w.alloc (.cells #[x00, x01, x02] t0)).alloc (.cells #[x10, x11, x12] t1)) ∧ Below w.heap.size w W ∧ B3 W (w.heap.size) x00 x01 x02 ∧ B3 W (w.heap.size + 1) x10 x11 x12 ∧ w.heap.size + 1 < W.heap.size := by
  have e0 : Below w.heap.size w (w.alloc (.cells #[x00, x01, x02] t0)) := (Below.refl _ _).alloc (Nat.le_refl _) _
  have h0 := b3_new w x00 x01 x02 t0
  have e1 : Below (w.alloc (.cells #[x00, x01, x02] t0)).heap.size (w.alloc (.cells #[x00, x01, x02] t0)) ((w.alloc (.cells #[x00, x01, x02] t0)).alloc (.cells #[x10, x11, x12] t1)) := (Below.refl _ _).alloc (Nat.le_refl _) _
  have h1 := b3_new (w.alloc (.cells #[x00, x01, x02] t0)) x10 x11 x12 t1
  rw [World.size_alloc] at h1
  exact ⟨_, rfl, also (e0) e1, (h0.on e1), h1, by simp⟩
theorem bs_333 (w : World) (x00 x01 x02 x10 x11 x12 x20 x21 x22 : Value) (t0 t1 t2 : TypeId) : ∃ W, W = (((w.alloc (.cells #[x00, x01, x02] t0)).alloc (.cells #[x10, x11, x12] t1)).alloc (.cells #[x20, x21, x22] t2)) ∧ Below w.heap.size w W ∧ B3 W (w.heap.size) x00 x01 x02 ∧ B3 W (w.heap.size + 1) x10 x11 x12 ∧ B3 W (w.heap.size + 1 + 1) x20 x21 x22 ∧ w.heap.size + 1 + 1 < W.heap.size := by
  have e0 : Below w.heap.size w (w.alloc (.cells #[x00, x01, x02] t0)) := (Below.refl _ _).alloc (Nat.le_refl _) _
  have h0 := b3_new w x00 x01 x02 t0
  have e1 : Below (w.alloc (.cells #[x00, x01, x02] t0)).heap.size (w.alloc (.cells #[x00, x01, x02] t0)) ((w.alloc (.cells #[x00, x01, x02] t0)).alloc (.cells #[x10, x11, x12] t1)) := (Below.refl _ _).alloc (Nat.le_refl _) _
  have h1 := b3_new (w.alloc (.cells #[x00, x01, x02] t0)) x10 x11 x12 t1
  rw [World.size_alloc] at h1
  have e2 : Below ((w.alloc (.cells #[x00, x01, x02] t0)).alloc (.cells #[x10, x11, x12] t1)).heap.size ((w.alloc (.cells #[x00, x01, x02] t0)).alloc (.cells #[x10, x11, x12] t1)) (((w.alloc (.cells #[x00, x01, x02] t0)).alloc (.cells #[x10, x11, x12] t1)).alloc (.cells #[x20, x21, x22] t2)) := (Below.refl _ _).alloc (Nat.le_refl _) _
  have h2 := b3_new ((w.alloc (.cells #[x00, x01, x02] t0)).alloc (.cells #[x10, x11, x12] t1)) x20 x21 x22 t2
  rw [World.size_alloc, World.size_alloc] at h2
  exact ⟨_, rfl, also (also (e0) e1) e2, ((h0.on e1).on e2), (h1.on e2), h2, by simp⟩
theorem bs_3322 (w : World) (x00 x01 x02 x10 x11 x12 x20 x21 x30 x31 : Value) (t0 t1 t2 t3 : TypeId) : ∃ W, W = ((((w.alloc (.cells #[x00, x01, x02] t0)).alloc (.cells #[x10, x11, x12] t1)).alloc (.cells #[x20, x21] t2)).alloc (.cells #[x30, x31] t3)) ∧ Below w.heap.size w W ∧ B3 W (w.heap.size) x00 x01 x02 ∧ B3 W (w.heap.size + 1) x10 x11 x12 ∧ Bx W (w.heap.size + 1 + 1) x20 x21 ∧ Bx W (w.heap.size + 1 + 1 + 1) x30 x31 ∧ w.heap.size + 1 + 1 + 1 < W.heap.size := by
  have e0 : Below w.heap.size w (w.alloc (.cells #[x00, x01, x02] t0)) := (Below.refl _ _).alloc (Nat.le_refl _) _
  have h0 := b3_new w x00 x01 x02 t0
  have e1 : Below (w.alloc (.cells #[x00, x01, x02] t0)).heap.size (w.alloc (.cells #[x00, x01, x02] t0)) ((w.alloc (.cells #[x00, x01, x02] t0)).alloc (.cells #[x10, x11, x12] t1)) := (Below.refl _ _).alloc (Nat.le_refl _) _
  have h1 := b3_new (w.alloc (.cells #[x00, x01, x02] t0)) x10 x11 x12 t1
  rw [World.size_alloc] at h1
  have e2 : Below ((w.alloc (.cells #[x00, x01, x02] t0)).alloc (.cells #[x10, x11, x12] t1)).heap.size ((w.alloc (.cells #[x00, x01, x02] t0)).alloc (.cells #[x10, x11, x12] t1)) (((w.alloc (.cells #[x00, x01, x02] t0)).alloc (.cells #[x10, x11, x12] t1)).alloc (.cells #[x20, x21] t2)) := (Below.refl _ _).alloc (Nat.le_refl _) _
  have h2 := bx_new ((w.alloc (.cells #[x00, x01, x02] t0)).alloc (.cells #[x10, x11, x12] t1)) x20 x21 t2
  rw [World.size_alloc, World.size_alloc] at h2
  have e3 : Below (((w.alloc (.cells #[x00, x01, x02] t0)).alloc (.cells #[x10, x11, x12] t1)).alloc (.cells #[x20, x21] t2)).heap.size (((w.alloc (.cells #[x00, x01, x02] t0)).alloc (.cells #[x10, x11, x12] t1)).alloc (.cells #[x20, x21] t2)) ((((w.alloc (.cells #[x00, x01, x02] t0)).alloc (.cells #[x10, x11, x12] t1)).alloc (.cells #[x20, x21] t2)).alloc (.cells #[x30, x31] t3)) := (Below.refl _ _).alloc (Nat.le_refl _) _
  have h3 := bx_new (((w.alloc (.cells #[x00, x01, x02] t0)).alloc (.cells #[x10, x11, x12] t1)).alloc (.cells #[x20, x21] t2)) x30 x31 t3
  rw [World.size_alloc, World.size_alloc, World.size_alloc] at h3
  exact ⟨_, rfl, also (also (also (e0) e1) e2) e3, (((h0.on e1).on e2).on e3), ((h1.on e2).on e3), (h2.on e3), h3, by simp⟩
theorem bs_223 (w : World) (x00 x01 x10 x11 x20 x21 x22 : Value) (t0 t1 t2 : TypeId) : ∃ W, W = (((w.alloc (.cells #[x00, x01] t0)).alloc (.cells #[x10, x11] t1)).alloc (.cells #[x20, x21, x22] t2)) ∧ Below w.heap.size w W ∧ Bx W (w.heap.size) x00 x01 ∧ Bx W (w.heap.size + 1) x10 x11 ∧ B3 W (w.heap.size + 1 + 1) x20 x21 x22 ∧ w.heap.size + 1 + 1 < W.heap.size := by
  have e0 : Below w.heap.size w (w.alloc (.cells #[x00, x01] t0)) := (Below.refl _ _).alloc (Nat.le_refl _) _
  have h0 := bx_new w x00 x01 t0
  have e1 : Below (w.alloc (.cells #[x00, x01] t0)).heap.size (w.alloc (.cells #[x00, x01] t0)) ((w.alloc (.cells #[x00, x01] t0)).alloc (.cells #[x10, x11] t1)) := (Below.refl _ _).alloc (Nat.le_refl _) _
  have h1 := bx_new (w.alloc (.cells #[x00, x01] t0)) x10 x11 t1
  rw [World.size_alloc] at h1
  have e2 : Below ((w.alloc (.cells #[x00, x01] t0)).alloc (.cells #[x10, x11] t1)).heap.size ((w.alloc (.cells #[x00, x01] t0)).alloc (.cells #[x10, x11] t1)) (((w.alloc (.cells #[x00, x01] t0)).alloc (.cells #[x10, x11] t1)).alloc (.cells #[x20, x21, x22] t2)) := (Below.refl _ _).alloc (Nat.le_refl _) _
  have h2 := b3_new ((w.alloc (.cells #[x00, x01] t0)).alloc (.cells #[x10, x11] t1)) x20 x21 x22 t2
  rw [World.size_alloc, World.size_alloc] at h2
  exact ⟨_, rfl, also (also (e0) e1) e2, ((h0.on e1).on e2), (h1.on e2), h2, by simp⟩
theorem bs_2 (w : World) (x00 x01 : Value) (t0 : TypeId) : ∃ W, W = (w.alloc (.cells #[x00, x01] t0)) ∧ Below w.heap.size w W ∧ Bx W (w.heap.size) x00 x01 ∧ w.heap.size < W.heap.size := by
  have e0 : Below w.heap.size w (w.alloc (.cells #[x00, x01] t0)) := (Below.refl _ _).alloc (Nat.le_refl _) _
  have h0 := bx_new w x00 x01 t0
  exact ⟨_, rfl, e0, h0, by simp⟩
theorem bs_3 (w : World) (x00 x01 x02 : Value) (t0 : TypeId) : ∃ W, W = (w.alloc (.cells #[x00, x01, x02] t0)) ∧ Below w.heap.size w W ∧ B3 W (w.heap.size) x00 x01 x02 ∧ w.heap.size < W.heap.size := by
  have e0 : Below w.heap.size w (w.alloc (.cells #[x00, x01, x02] t0)) := (Below.refl _ _).alloc (Nat.le_refl _) _
  have h0 := b3_new w x00 x01 x02 t0
  exact ⟨_, rfl, e0, h0, by simp⟩
theorem bs_4 (w : World) (x00 x01 x02 x03 : Value) (t0 : TypeId) : ∃ W, W = (w.alloc (.cells #[x00, x01, x02, x03] t0)) ∧ Below w.heap.size w W ∧ B4 W (w.heap.size) x00 x01 x02 x03 ∧ w.heap.size < W.heap.size := by
  have e0 : Below w.heap.size w (w.alloc (.cells #[x00, x01, x02, x03] t0)) := (Below.refl _ _).alloc (Nat.le_refl _) _
  have h0 := b4_new w x00 x01 x02 x03 t0
  exact ⟨_, rfl, e0, h0, by simp⟩
theorem bs_34 (w : World) (x00 x01 x02 x10 x11 x12 x13 : Value) (t0 t1 : TypeId) : ∃ W, W = ((w.alloc (.cells #[x00, x01, x02] t0)).alloc (.cells #[x10, x11, x12, x13] t1)) ∧ Below w.heap.size w W ∧ B3 W (w.heap.size) x00 x01 x02 ∧ B4 W (w.heap.size + 1) x10 x11 x12 x13 ∧ w.heap.size + 1 < W.heap.size := by
  have e0 : Below w.heap.size w (w.alloc (.cells #[x00, x01, x02] t0)) := (Below.refl _ _).alloc (Nat.le_refl _) _
  have h0 := b3_new w x00 x01 x02 t0
  have e1 : Below (w.alloc (.cells #[x00, x01, x02] t0)).heap.size (w.alloc (.cells #[x00, x01, x02] t0)) ((w.alloc (.cells #[x00, x01, x02] t0)).alloc (.cells #[x10, x11, x12, x13] t1)) := (Below.refl _ _).alloc (Nat.le_refl _) _
  have h1 := b4_new (w.alloc (.cells #[x00, x01, x02] t0)) x10 x11 x12 x13 t1
  rw [World.size_alloc] at h1
  exact ⟨_, rfl, also (e0) e1, (h0.on e1), h1, by simp⟩
theorem bs_44 (w : World) (x00 x01 x02 x03 x10 x11 x12 x13 : Value) (t0 t1 : TypeId) : ∃ W, W = ((w.alloc (.cells #[x00, x01, x02, x03] t0)).alloc (.cells #[x10, x11, x12, x13] t1)) ∧ Below w.heap.size w W ∧ B4 W (w.heap.size) x00 x01 x02 x03 ∧ B4 W (w.heap.size + 1) x10 x11 x12 x13 ∧ w.heap.size + 1 < W.heap.size := by
  have e0 : Below w.heap.size w (w.alloc (.cells #[x00, x01, x02, x03] t0)) := (Below.refl _ _).alloc (Nat.le_refl _) _
  have h0 := b4_new w x00 x01 x02 x03 t0
  have e1 : Below (w.alloc (.cells #[x00, x01, x02, x03] t0)).heap.size (w.alloc (.cells #[x00, x01, x02, x03] t0)) ((w.alloc (.cells #[x00, x01, x02, x03] t0)).alloc (.cells #[x10, x11, x12, x13] t1)) := (Below.refl _ _).alloc (Nat.le_refl _) _
  have h1 := b4_new (w.alloc (.cells #[x00, x01, x02, x03] t0)) x10 x11 x12 x13 t1
  rw [World.size_alloc] at h1
  exact ⟨_, rfl, also (e0) e1, (h0.on e1), h1, by simp⟩
theorem bs_444 (w : World) (x00 x01 x02 x03 x10 x11 x12 x13 x20 x21 x22 x23 : Value) (t0 t1 t2 : TypeId) : ∃ W, W = (((w.alloc (.cells #[x00, x01, x02, x03] t0)).alloc (.cells #[x10, x11, x12, x13] t1)).alloc (.cells #[x20, x21, x22, x23] t2)) ∧ Below w.heap.size w W ∧ B4 W (w.heap.size) x00 x01 x02 x03 ∧ B4 W (w.heap.size + 1) x10 x11 x12 x13 ∧ B4 W (w.heap.size + 1 + 1) x20 x21 x22 x23 ∧ w.heap.size + 1 + 1 < W.heap.size := by
  have e0 : Below w.heap.size w (w.alloc (.cells #[x00, x01, x02, x03] t0)) := (Below.refl _ _).alloc (Nat.le_refl _) _
  have h0 := b4_new w x00 x01 x02 x03 t0
  have e1 : Below (w.alloc (.cells #[x00, x01, x02, x03] t0)).heap.size (w.alloc (.cells #[x00, x01, x02, x03] t0)) ((w.alloc (.cells #[x00, x01, x02, x03] t0)).alloc (.cells #[x10, x11, x12, x13] t1)) := (Below.refl _ _).alloc (Nat.le_refl _) _
  have h1 := b4_new (w.alloc (.cells #[x00, x01, x02, x03] t0)) x10 x11 x12 x13 t1
  rw [World.size_alloc] at h1
  have e2 : Below ((w.alloc (.cells #[x00, x01, x02, x03] t0)).alloc (.cells #[x10, x11, x12, x13] t1)).heap.size ((w.alloc (.cells #[x00, x01, x02, x03] t0)).alloc (.cells #[x10, x11, x12, x13] t1)) (((w.alloc (.cells #[x00, x01, x02, x03] t0)).alloc (.cells #[x10, x11, x12, x13] t1)).alloc (.cells #[x20, x21, x22, x23] t2)) := (Below.refl _ _).alloc (Nat.le_refl _) _
  have h2 := b4_new ((w.alloc (.cells #[x00, x01, x02, x03] t0)).alloc (.cells #[x10, x11, x12, x13] t1)) x20 x21 x22 x23 t2
  rw [World.size_alloc, World.size_alloc] at h2
  exact ⟨_, rfl, also (also (e0) e1) e2, ((h0.on e1).on e2), (h1.on e2), h2, by simp⟩
theorem bs_224 (w : World) (x00 x01 x10 x11 x20 x21 x22 x23 : Value) (t0 t1 t2 : TypeId) : ∃ W, W = (((w.alloc (.cells #[x00, x01] t0)).alloc (.cells #[x10, x11] t1)).alloc (.cells #[x20, x21, x22, x23] t2)) ∧ Below w.heap.size w W ∧ Bx W (w.heap.size) x00 x01 ∧ Bx W (w.heap.size + 1) x10 x11 ∧ B4 W (w.heap.size + 1 + 1) x20 x21 x22 x23 ∧ w.heap.size + 1 + 1 < W.heap.size := by
  have e0 : Below w.heap.size w (w.alloc (.cells #[x00, x01] t0)) := (Below.refl _ _).alloc (Nat.le_refl _) _
  have h0 := bx_new w x00 x01 t0
  have e1 : Below (w.alloc (.cells #[x00, x01] t0)).heap.size (w.alloc (.cells #[x00, x01] t0)) ((w.alloc (.cells #[x00, x01] t0)).alloc (.cells #[x10, x11] t1)) := (Below.refl _ _).alloc (Nat.le_refl _) _
  have h1 := bx_new (w.alloc (.cells #[x00, x01] t0)) x10 x11 t1
  rw [World.size_alloc] at h1
  have e2 : Below ((w.alloc (.cells #[x00, x01] t0)).alloc (.cells #[x10, x11] t1)).heap.size ((w.alloc (.cells #[x00, x01] t0)).alloc (.cells #[x10, x11] t1)) (((w.alloc (.cells #[x00, x01] t0)).alloc (.cells #[x10, x11] t1)).alloc (.cells #[x20, x21, x22, x23] t2)) := (Below.refl _ _).alloc (Nat.le_refl _) _
  have h2 := b4_new ((w.alloc (.cells #[x00, x01] t0)).alloc (.cells #[x10, x11] t1)) x20 x21 x22 x23 t2
  rw [World.size_alloc, World.size_alloc] at h2
  exact ⟨_, rfl, also (also (e0) e1) e2, ((h0.on e1).on e2), (h1.on e2), h2, by simp⟩
theorem bs_42 (w : World) (x00 x01 x02 x03 x10 x11 : Value) (t0 t1 : TypeId) : ∃ W, W = ((w.alloc (.cells #[x00, x01, x02, x03] t0)).alloc (.cells #[x10, x11] t1)) ∧ Below w.heap.size w W ∧ B4 W (w.heap.size) x00 x01 x02 x03 ∧ Bx W (w.heap.size + 1) x10 x11 ∧ w.heap.size + 1 < W.heap.size := by
  have e0 : Below w.heap.size w (w.alloc (.cells #[x00, x01, x02, x03] t0)) := (Below.refl _ _).alloc (Nat.le_refl _) _
  have h0 := b4_new w x00 x01 x02 x03 t0
  have e1 : Below (w.alloc (.cells #[x00, x01, x02, x03] t0)).heap.size (w.alloc (.cells #[x00, x01, x02, x03] t0)) ((w.alloc (.cells #[x00, x01, x02, x03] t0)).alloc (.cells #[x10, x11] t1)) := (Below.refl _ _).alloc (Nat.le_refl _) _
  have h1 := bx_new (w.alloc (.cells #[x00, x01, x02, x03] t0)) x10 x11 t1
  rw [World.size_alloc] at h1
  exact ⟨_, rfl, also (e0) e1, (h0.on e1), h1, by simp⟩
theorem bs_43 (w : World) (x00 x01 x02 x03 x10 x11 x12 : Value) (t0 t1 : TypeId) : ∃ W, W = ((w.alloc (.cells #[x00, x01, x02, x03] t0)).alloc (.cells #[x10, x11, x12] t1)) ∧ Below w.heap.size w W ∧ B4 W (w.heap.size) x00 x01 x02 x03 ∧ B3 W (w.heap.size + 1) x10 x11 x12 ∧ w.heap.size + 1 < W.heap.size := by
  have e0 : Below w.heap.size w (w.alloc (.cells #[x00, x01, x02, x03] t0)) := (Below.refl _ _).alloc (Nat.le_refl _) _
  have h0 := b4_new w x00 x01 x02 x03 t0
  have e1 : Below (w.alloc (.cells #[x00, x01, x02, x03] t0)).heap.size (w.alloc (.cells #[x00, x01, x02, x03] t0)) ((w.alloc (.cells #[x00, x01, x02, x03] t0)).alloc (.cells #[x10, x11, x12] t1)) := (Below.refl _ _).alloc (Nat.le_refl _) _
  have h1 := b3_new (w.alloc (.cells #[x00, x01, x02, x03] t0)) x10 x11 x12 t1
  rw [World.size_alloc] at h1
  exact ⟨_, rfl, also (e0) e1, (h0.on e1), h1, by simp⟩
theorem bs_222 (w : World) (x00 x01 x10 x11 x20 x21 : Value) (t0 t1 t2 : TypeId) : ∃ W, W = (((w.alloc (.cells #[x00, x01] t0)).alloc (.cells #[x10, x11] t1)).alloc (.cells #[x20, x21] t2)) ∧ Below w.heap.size w W ∧ Bx W (w.heap.size) x00 x01 ∧ Bx W (w.heap.size + 1) x10 x11 ∧ Bx W (w.heap.size + 1 + 1) x20 x21 ∧ w.heap.size + 1 + 1 < W.heap.size := by
  have e0 : Below w.heap.size w (w.alloc (.cells #[x00, x01] t0)) := (Below.refl _ _).alloc (Nat.le_refl _) _
  have h0 := bx_new w x00 x01 t0
  have e1 : Below (w.alloc (.cells #[x00, x01] t0)).heap.size (w.alloc (.cells #[x00, x01] t0)) ((w.alloc (.cells #[x00, x01] t0)).alloc (.cells #[x10, x11] t1)) := (Below.refl _ _).alloc (Nat.le_refl _) _
  have h1 := bx_new (w.alloc (.cells #[x00, x01] t0)) x10 x11 t1
  rw [World.size_alloc] at h1
  have e2 : Below ((w.alloc (.cells #[x00, x01] t0)).alloc (.cells #[x10, x11] t1)).heap.size ((w.alloc (.cells #[x00, x01] t0)).alloc (.cells #[x10, x11] t1)) (((w.alloc (.cells #[x00, x01] t0)).alloc (.cells #[x10, x11] t1)).alloc (.cells #[x20, x21] t2)) := (Below.refl _ _).alloc (Nat.le_refl _) _
  have h2 := bx_new ((w.alloc (.cells #[x00, x01] t0)).alloc (.cells #[x10, x11] t1)) x20 x21 t2
  rw [World.size_alloc, World.size_alloc] at h2
  exact ⟨_, rfl, also (also (e0) e1) e2, ((h0.on e1).on e2), (h1.on e2), h2, by simp⟩
theorem bs_332 (w : World) (x00 x01 x02 x10 x11 x12 x20 x21 : Value) (t0 t1 t2 : TypeId) : ∃ W, W = (((w.alloc (.cells #[x00, x01, x02] t0)).alloc (.cells #[x10, x11, x12] t1)).alloc (.cells #[x20, x21] t2)) ∧ Below w.heap.size w W ∧ B3 W (w.heap.size) x00 x01 x02 ∧ B3 W (w.heap.size + 1) x10 x11 x12 ∧ Bx W (w.heap.size + 1 + 1) x20 x21 ∧ w.heap.size + 1 + 1 < W.heap.size := by
  have e0 : Below w.heap.size w (w.alloc (.cells #[x00, x01, x02] t0)) := (Below.refl _ _).alloc (Nat.le_refl _) _
  have h0 := b3_new w x00 x01 x02 t0
  have e1 : Below (w.alloc (.cells #[x00, x01, x02] t0)).heap.size (w.alloc (.cells #[x00, x01, x02] t0)) ((w.alloc (.cells #[x00, x01, x02] t0)).alloc (.cells #[x10, x11, x12] t1)) := (Below.refl _ _).alloc (Nat.le_refl _) _
  have h1 := b3_new (w.alloc (.cells #[x00, x01, x02] t0)) x10 x11 x12 t1
  rw [World.size_alloc] at h1
  have e2 : Below ((w.alloc (.cells #[x00, x01, x02] t0)).alloc (.cells #[x10, x11, x12] t1)).heap.size ((w.alloc (.cells #[x00, x01, x02] t0)).alloc (.cells #[x10, x11, x12] t1)) (((w.alloc (.cells #[x00, x01, x02] t0)).alloc (.cells #[x10, x11, x12] t1)).alloc (.cells #[x20, x21] t2)) := (Below.refl _ _).alloc (Nat.le_refl _) _
  have h2 := bx_new ((w.alloc (.cells #[x00, x01, x02] t0)).alloc (.cells #[x10, x11, x12] t1)) x20 x21 t2
  rw [World.size_alloc, World.size_alloc] at h2
  exact ⟨_, rfl, also (also (e0) e1) e2, ((h0.on e1).on e2), (h1.on e2), h2, by simp⟩
set_option maxRecDepth 100000 in
set_option maxHeartbeats 1000000 in
theorem qParts (n : Bool) (a : Option Addr) (la ca : Nat) (d : Option Addr) (ld cd : Nat) (z : Int) (D K : Nat) (w : World) (h : QI w K n a la ca d ld cd z D) :
    Calls Tryd.prog 15 #[.agg #[.bool n, .slice a la ca, .slice d ld cd]] w (GotPts w K z D) := by
  obtain ⟨k, hk⟩ : ∃ k, k = bt.nlen D := ⟨_, rfl⟩
  have HK : Hid _ := hk
  have hna : NA (w.heap.size + 1) a la := h.wi.ni.sl.na (by omega)
  have hnd : NA (w.heap.size + 1) d ld := h.ni.sl.na (by omega)
  by_cases h0 : D = 0
  · obtain rfl : k = 0 := by rw [hk]; exact bt_zero.2 h0
    subst h0
    clear hk
    obtain ⟨W, hW, bW, x_a, x_z, sW⟩ := bs_32 w (.bool n) (.slice a la ca) (.slice d ld cd) (.bool false) (.slice none 0 0) 27 25
    have zbW := bW.size
    replace h := h.below bW
    have BB := bW
    go_enter Tryd.func15, Tryd.ntmps15
    go_wp2_with (go_at_call 30; fail)
    rw [← hW]
    clear hW
    refine (nBits d ld cd _ W h.ni HK.out).mono ?_
    rintro e w1 ⟨rfl, hw⟩
    subst hw
    go_wp2_with (go_at_call 25; fail)
    refine (fOf 1 (by decide) rfl W).mono ?_
    rintro e w2 ⟨a2, l2, c2, rfl, h2, f2, bw2⟩
    have zbw2 := bw2.size
    replace h := h.below bw2
    replace BB := also BB bw2
    replace x_a := x_a.on bw2
    replace x_z := x_z.on bw2
    have ⟨x_z_0, x_z_1, x_z_2, x_z_3⟩ := x_z
    go_wp2
    have hp : (1 : Nat) < 4294967296 ^ K := Nat.lt_of_lt_of_le (show 1 < 4294967296 ^ 1 by decide) (Nat.pow_le_pow_right (by decide) h.k1)
    exact bodyPost_ret (v := .tuple #[.agg #[.bool false, .slice none 0 0], .slice a2 l2 c2]) (by simp [results, Tryd.results15, go_sem, *]) rfl (endPts _ (by omega) BB ⟨wi_nul _, h2.ni 1 (by decide) (by decide), by simp only [pN, if_pos]; omega, hp, h.k1, h.kk⟩ (Or.inl rfl) (f2 _ sW) _ _)
  · have hk1 : ¬ (k : Int) = 0 := by have := bt_zero (u := D); omega
    have ez : pN z D = z := if_neg h0
    have eD : pD D = D := if_neg h0
    clear hk
    obtain ⟨W, hW, bW, x_a, x_z, sW⟩ := bs_32 w (.bool n) (.slice a la ca) (.slice d ld cd) (.bool false) (.slice none 0 0) 27 25
    have zbW := bW.size
    replace h := h.below bW
    have BB := bW
    go_enter Tryd.func15, Tryd.ntmps15
    go_wp2_with (go_at_call 30; fail)
    rw [← hW]
    clear hW
    refine (nBits d ld cd _ W h.ni HK.out).mono ?_
    rintro e w1 ⟨rfl, hw⟩
    subst hw
    have ⟨x_a_0, x_a_1, x_a_2, x_a_3, x_a_4, x_a_5⟩ := x_a
    go_wp2
    have dd1 : Below W.heap.size W W.drew := (Below.refl _ _).drew
    clear x_a_0 x_a_1 x_a_2 x_a_3 x_a_4 x_a_5
    have zdd1 := dd1.size
    replace h := h.below dd1
    replace BB := also BB dd1
    replace x_a := x_a.on dd1
    replace x_z := x_z.on dd1
    refine wp_region_held_drew (S := (fun w' => w'.cell? ⟨w.heap.size, 0, none⟩ = some (.bool n) ∧ w'.cell? ⟨w.heap.size, 1, none⟩ = some (.slice a la ca) ∧ w'.cell? ⟨w.heap.size, 2, none⟩ = some (.slice d ld cd) ∧ Below w.heap.size w w')) (by kernel_rfl) ?_ (fun hHeld => ?_)
    · first | exact ⟨x_a.c0, x_a.c1, x_a.c2, BB⟩ | exact ⟨cell_put2 hHeld.1 (by omega) _ _, cell_put2 hHeld.2.1 (by omega) _ _, cell_put2 hHeld.2.2.1 (by omega) _ _, below_put2 hHeld.2.2.2 (by omega) _ _⟩
    refine take_yes (i := 0) (v := ?vp0) rfl (by kernel_rfl) (by kernel_rfl) (by kernel_rfl) (fun _ _ _ h => h) (by rfl) (by assumption) ?hyp0 ?restp0
    case hyp0 => (intro w hSw; (try dsimp only at hSw); first | (go_simp; done) | (go_simp; with_reducible rfl))
    simp only [Act.put, List.setIfInBounds_toArray, List.set_cons_zero, List.set_cons_succ]
    refine take_yes (i := 1) (v := ?vp1) rfl (by kernel_rfl) (by kernel_rfl) (by kernel_rfl) (fun _ _ _ h => h) (by rfl) (by assumption) ?hyp1 ?restp1
    case hyp1 => (intro w hSw; (try dsimp only at hSw); first | (go_simp; done) | (go_simp; with_reducible rfl))
    simp only [Act.put, List.setIfInBounds_toArray, List.set_cons_zero, List.set_cons_succ]
    refine take_yes (i := 2) (v := ?vp2) rfl (by kernel_rfl) (by kernel_rfl) (by kernel_rfl) (fun _ _ _ h => h) (by rfl) (by assumption) ?hyp2 ?restp2
    case hyp2 => (intro w hSw; (try dsimp only at hSw); first | (go_simp; done) | (go_simp; with_reducible rfl))
    simp only [Act.put, List.setIfInBounds_toArray, List.set_cons_zero, List.set_cons_succ]
    refine take_yes (i := 3) (v := ?vp3) rfl (by kernel_rfl) (by kernel_rfl) (by kernel_rfl) (fun _ _ _ h => h) (by rfl) (by assumption) ?hyp3 ?restp3
    case hyp3 => (intro w hSw; (try dsimp only at hSw); first | (go_simp; done) | (go_simp; with_reducible rfl))
    simp only [Act.put, List.setIfInBounds_toArray, List.set_cons_zero, List.set_cons_succ]
    have x_z_0 : W.cell? ⟨w.heap.size + 1, 0, none⟩ = some (.bool false) := x_z.c0
    have x_z_1 : W.cell? ⟨w.heap.size + 1, 1, none⟩ = some (.slice none 0 0) := x_z.c1
    have x_z_2 : W.frozen? ⟨w.heap.size + 1, 0, none⟩ = false := x_z.f0
    have x_z_3 : W.frozen? ⟨w.heap.size + 1, 1, none⟩ = false := x_z.f1
    refine take_call (i := 4) rfl (by kernel_rfl) (fun Kc hK => ?_)
    go_simp
    refine hK.out _ _ ?_ (fun hHeld => ?_)
    · first | exact ⟨x_a.c0, x_a.c1, x_a.c2, BB⟩ | exact ⟨cell_put2 hHeld.1 (by omega) _ _, cell_put2 hHeld.2.1 (by omega) _ _, cell_put2 hHeld.2.2.1 (by omega) _ _, below_put2 hHeld.2.2.2 (by omega) _ _⟩
    clear hK Kc
    refine take_yes (i := 5) (v := ?vp5) rfl (by kernel_rfl) (by kernel_rfl) (by kernel_rfl) (fun _ _ _ h => h) (by rfl) (by assumption) ?hyp5 ?restp5
    case hyp5 => (intro w hSw; (try dsimp only at hSw); first | (go_simp; done) | (go_simp; with_reducible rfl))
    simp only [Act.put, List.setIfInBounds_toArray, List.set_cons_zero, List.set_cons_succ]
    refine wpAnyH_done (by kernel_rfl) ?_ _
    go_wp2
    exact bodyPost_ret (v := .tuple #[.agg #[.bool n, .slice a la ca], .slice d ld cd]) (by simp [results, Tryd.results15, go_sem, *]) rfl (endPts _ (by omega) BB (by rw [ez, eD]; exact h) hna hnd _ _)
set_option maxRecDepth 100000 in
set_option maxHeartbeats 1000000 in
theorem qLow (n : Bool) (a : Option Addr) (la ca : Nat) (z : Int) (d : Option Addr) (ld cd D : Nat) (w : World) (ha : WI w n a la ca z) (hd : NI w d ld cd D) (h0 : 0 < D) (N : Int) (E : Nat) (hN : N = lowN z D) (hE : E = lowD z D) :
    Calls Tryd.prog 16 #[.agg #[.bool n, .slice a la ca], .slice d ld cd] w (GotQ w N E) := by
  have HN : Hid (N = sgz n (z.natAbs / Nat.gcd z.natAbs D)) := by unfold Hid; rw [hN, lowN_sg ha]
  have HE : Hid (E = D / Nat.gcd z.natAbs D) := hE
  obtain ⟨G, hG⟩ : ∃ G, G = Nat.gcd z.natAbs D := ⟨_, rfl⟩
  have g0 : 0 < G := by rw [hG]; exact Nat.gcd_pos_of_pos_right _ h0
  have gl : G < 4294967296 ^ ld := by rw [hG]; exact Nat.lt_of_le_of_lt (Nat.le_of_dvd h0 (Nat.gcd_dvd_right _ _)) hd.lt
  rw [← hG] at HN HE
  clear hN hE
  obtain ⟨W, hW, bW, x_a, x_z, sW⟩ := bs_23 w (.bool n) (.slice a la ca) (.bool false) (.slice none 0 0) (.slice none 0 0) 25 27
  have zbW := bW.size
  replace ha := ha.below bW
  replace hd := hd.below bW
  have BB := bW
  go_enter Tryd.func16, Tryd.ntmps16
  go_wp2_with (go_at_call 31; fail)
  rw [← hW]
  clear hW
  refine (nGcd a d la ld ca cd _ _ W ha.ni hd).mono ?_
  rw [← hG]
  rintro e w1 ⟨a1, l1, c1, rfl, h1, bw1⟩
  have zbw1 := bw1.size
  replace ha := ha.below bw1
  replace hd := hd.below bw1
  replace BB := also BB bw1
  replace x_a := x_a.on bw1
  replace x_z := x_z.on bw1
  replace h1 := h1.ni ld hd.few gl
  have ⟨x_a_0, x_a_1, x_a_2, x_a_3⟩ := x_a
  go_wp2_with (go_at_call 32; fail)
  refine (fDiv a a1 la l1 ca c1 _ G w1 ha.ni h1 g0).mono ?_
  rintro e w2 ⟨a2, l2, c2, ar, lr, cr, rfl, h2, hr2, f2, fr2, bw2⟩
  clear x_a_0 x_a_1 x_a_2 x_a_3
  have zbw2 := bw2.size
  replace ha := ha.below bw2
  replace hd := hd.below bw2
  replace BB := also BB bw2
  replace x_a := x_a.on bw2
  replace x_z := x_z.on bw2
  replace h1 := h1.below bw2
  go_wp2_with (go_at_call 32; fail)
  refine (fDiv d a1 ld l1 cd c1 _ G w2 hd h1 g0).mono ?_
  rintro e w3 ⟨a3, l3, c3, br, mr, dr, rfl, h3, hr3, f3, fr3, bw3⟩
  have zbw3 := bw3.size
  replace ha := ha.below bw3
  replace hd := hd.below bw3
  replace BB := also BB bw3
  replace x_a := x_a.on bw3
  replace x_z := x_z.on bw3
  replace h1 := h1.below bw3
  replace h2 := h2.below bw3
  have ⟨x_a_0, x_a_1, x_a_2, x_a_3⟩ := x_a
  go_wp2_with (go_at_call 33; fail)
  refine (wNorm n a2 l2 c2 (sgz n (z.natAbs / G)) w3 (wi_of (h2.ni la ha.ni.few (Nat.lt_of_le_of_lt (Nat.div_le_self _ _) ha.ni.lt))) N HN.out).mono ?_
  rintro e w4 ⟨n4, a4, l4, c4, rfl, h4, f4, bw4⟩
  clear x_a_0 x_a_1 x_a_2 x_a_3
  have zbw4 := bw4.size
  replace ha := ha.below bw4
  replace hd := hd.below bw4
  replace BB := also BB bw4
  replace x_a := x_a.on bw4
  replace x_z := x_z.on bw4
  replace h1 := h1.below bw4
  replace h2 := h2.below bw4
  replace h3 := h3.below bw4
  have ⟨x_z_0, x_z_1, x_z_2, x_z_3, x_z_4, x_z_5⟩ := x_z
  go_wp2
  exact bodyPost_ret (v := .agg #[.bool n4, .slice a4 l4 c4, .slice a3 l3 c3]) (by simp [results, Tryd.results16, go_sem, *]) rfl (endQ _ (by omega) BB ⟨h4, by rw [HE.out]; exact h3⟩ (f4.mono (by omega)) (f3.mono (by omega)) _ _ _)
set_option maxRecDepth 100000 in
set_option maxHeartbeats 1000000 in
theorem qDown (n : Bool) (a : Option Addr) (la ca : Nat) (z : Int) (d : Option Addr) (ld cd D : Nat) (w : World) (ha : WI w n a la ca z) (hd : NI w d ld cd D) (h0 : 0 < D) (Q : Int) (hQ : Q = flQ z D) :
    Calls Tryd.prog 43 #[.agg #[.bool n, .slice a la ca], .slice d ld cd] w (GotW w Q) := by
  have HQ : Hid _ := hQ
  clear hQ
  obtain ⟨W, hW, bW, x_a, x_z, sW⟩ := bs_22 w (.bool n) (.slice a la ca) (.bool false) (.slice none 0 0) 25 25
  have zbW := bW.size
  replace ha := ha.below bW
  replace hd := hd.below bW
  have BB := bW
  go_enter Tryd.func43, Tryd.ntmps43
  go_wp2_with (go_at_call 63; fail)
  rw [← hW]
  clear hW
  refine (wFloor n false a d la ld ca cd z D W ha (wi_nat hd) (by omega) Q (flR z D) HQ.out rfl).mono ?_
  rintro e w1 ⟨n1, a1, l1, c1, n2, a2, l2, c2, rfl, h1, h2, f1, f2, bw1⟩
  have zbw1 := bw1.size
  replace ha := ha.below bw1
  replace hd := hd.below bw1
  replace BB := also BB bw1
  replace x_a := x_a.on bw1
  replace x_z := x_z.on bw1
  obtain ⟨V, hV, bV, x_q, x_r, sV⟩ := bs_22 w1 (.bool n1) (.slice a1 l1 c1) (.bool n2) (.slice a2 l2 c2) 25 25
  have zbV := bV.size
  replace ha := ha.below bV
  replace hd := hd.below bV
  replace BB := also BB bV
  replace x_a := x_a.on bV
  replace x_z := x_z.on bV
  replace h1 := h1.below bV
  replace h2 := h2.below bV
  subst hV
  have ⟨x_q_0, x_q_1, x_q_2, x_q_3⟩ := x_q
  have ⟨x_z_0, x_z_1, x_z_2, x_z_3⟩ := x_z
  go_wp2
  exact bodyPost_ret (v := .agg #[.bool n1, .slice a1 l1 c1]) (by simp [results, Tryd.results43, go_sem, *]) rfl (endW (W := W) _ (by omega) sW BB h1 f1 _ _)
end Go.Proofs.YtaekgomplkkocabDoor
