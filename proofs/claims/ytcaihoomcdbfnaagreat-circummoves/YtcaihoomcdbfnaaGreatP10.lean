/-
  Joined texts, part 10:
  What nat's between, nearer and Gcd answer.
  What nat's Gcd answers.
  Mathematics of fractions in lowest terms: there is one such form.
  Fractions in memory; what package rat's parts, lowest and down answer.
  What package rat's alike, bothDens, Norm, Neg, Add, Sub and Mul answer.
  What package rat's Of, Make, Div, Floor, Round, Sign and Cmp answer.
  What zelligeref03's Gcd answers: the greatest common divisor, by halves and differences.
  What zelligeref05's functions answer: fractions as two whole numbers, the lower above nought.
  What the calls of an open region may tell, besides: a fraction of zelligeref05.
-/
import Derived.Test.YtcaihoomcdbfnaaGreatP9
import Derived.Deep.LoopGhost
namespace Go.Proofs.YtcaihoomcdbfnaaGreat
open Go.RowKit
set_option linter.unusedVariables false

theorem nRest (a b : Option Addr) (la lb ca cb u v : Nat) (w : World) (ha : NI w a la ca u) (hb : NI w b lb cb v) (h0 : 0 < v) : Calls Tryz.prog 117 #[.slice a la ca, .slice b lb cb] w (GotN w (u % v)) :=
  (restOf_any a b la lb ca cb u v w ha.sl ha.lt (by have := ha.few; omega) hb.sl hb.lt h0).mono fun _ _ h => gotN h
theorem nBetween (ov : Bool) (a b : Option Addr) (la lb ca cb u v P Q X : Nat) (w : World) (ha : NI w a la ca u) (hb : NI w b lb cb v) (hP : P < 4294967296) (hQ : Q < 4294967296) (hX : (X : Int) = - sgv ov * ((P : Int) * u - Q * v)) (hlt : X < 4294967296 ^ la) :
    Calls Tryz.prog 125 #[.slice a la ca, .slice b lb cb, .int .u64 (P : Int), .int .u64 (Q : Int), .bool ov] w (GotN w X) := by
  rw [← Int.natCast_mul, ← Int.natCast_mul] at hX
  cases ov
  · simp only [sgv] at hX
    have e : X = Q * v - P * u := by simp at hX; omega
    subst e
    exact (between_under a b la lb ca cb u v P Q w ha.sl ha.lt (by have := ha.few; omega) hb.sl hb.lt hP hQ (by simp at hX; omega) hlt).mono fun _ _ h => gotN h
  · simp only [sgv] at hX
    have e : X = P * u - Q * v := by simp at hX; omega
    subst e
    exact (between_over a b la lb ca cb u v P Q w ha.sl ha.lt (by have := ha.few; omega) hb.sl hb.lt hP hQ (by simp at hX; omega) hlt).mono fun _ _ h => gotN h
/-- Two lesser numbers of the same greatest divisor. -/
def Nearer (w : World) (u v : Nat) (e : Ending) (w' : World) : Prop := ∃ (a : Option Addr) (la ca : Nat) (b : Option Addr) (lb cb X Y : Nat), e = .returned (.tuple #[.slice a la ca, .slice b lb cb]) ∧ ND w' a la ca X ∧ ND w' b lb cb Y ∧ Y < v ∧ Y ≤ X ∧ X ≤ u ∧ Nat.gcd X Y = Nat.gcd u v ∧ Below w.heap.size w w'
theorem mono_bt {u v : Nat} (h : v ≤ u) : bt.nlen v ≤ bt.nlen u := bt.nlen_le (Nat.lt_of_le_of_lt h (bt.nlen_lt u))
theorem mono_wd {u v : Nat} (h : v ≤ u) : wd.nlen v ≤ wd.nlen u := wd.nlen_le (Nat.lt_of_le_of_lt h (wd.nlen_lt u))
theorem bt_wd {u l : Nat} (h : u < 4294967296 ^ l) : bt.nlen u ≤ 32 * l := bt.nlen_le (by rw [pow32] at h; exact h)
set_option maxRecDepth 100000 in
set_option maxHeartbeats 2000000 in
theorem nNearer (a b : Option Addr) (la lb ca cb u v : Nat) (w : World) (ha : ND w a la ca u) (hb : ND w b lb cb v) (hla : la ≤ 1000000) (hle : v ≤ u) (h64 : 64 < bt.nlen v) :
    Calls Tryz.prog 114 #[.slice a la ca, .slice b lb cb] w (Nearer w u v) := by
  have hlb : lb ≤ 1000000 := by rw [hb.len]; have := mono_wd hle; rw [← ha.len] at this; omega
  have na := ha.to hla
  have nb := hb.to hlb
  have hm := mono_bt hle
  have hk := bt_wd na.lt
  have hv0 : 0 < v := by
    rcases Nat.eq_zero_or_pos v with e | e
    · rw [e, bt.nlen_zero] at h64; omega
    · exact e
  obtain ⟨n, hn⟩ : ∃ n, n = bt.nlen u := ⟨_, rfl⟩
  have hun : u < 2 ^ n := by rw [hn]; exact bt.nlen_lt u
  rw [← hn] at hm hk
  obtain ⟨f, hf⟩ : ∃ f, n = f + 64 := ⟨n - 64, by omega⟩
  have HN : Hid _ := hn
  have E : (n : Int) - 64 = (f : Int) := by omega
  have hF : 0 < 2 ^ f := Nat.pow_pos (by decide)
  have hx : u / 2 ^ f < 18446744073709551616 := Nat.div_lt_of_lt_mul (by rw [hf, Nat.pow_add] at hun; exact hun)
  have hy : v / 2 ^ f ≤ u / 2 ^ f := Nat.div_le_div_right hle
  have hf' : f ≤ 100000000000 := by omega
  have HH1 := headAt_any a la ca u f w ha.sl na.lt hf'
  rw [Nat.mod_eq_of_lt hx] at HH1
  have HH2 : ∀ w', Sl w' b lb cb (wd.dcells lb (v : Int)) → _ := fun w' h => headAt_any b lb cb v f w' h nb.lt hf'
  rw [Nat.mod_eq_of_lt (Nat.lt_of_le_of_lt hy hx)] at HH2
  have HFo : ∀ w', _ := fun w' => foresee_any u v (u / 2 ^ f) (v / 2 ^ f) (2 ^ f) (u % 2 ^ f) (v % 2 ^ f) w' hy hx (by rw [Nat.mul_comm]; exact (Nat.div_add_mod _ _).symm) (by rw [Nat.mul_comm]; exact (Nat.div_add_mod _ _).symm) (Nat.mod_lt _ hF) (Nat.mod_lt _ hF)
  obtain ⟨x, hxe⟩ : ∃ x, x = u / 2 ^ f := ⟨_, rfl⟩
  obtain ⟨y, hye⟩ : ∃ y, y = v / 2 ^ f := ⟨_, rfl⟩
  rw [← hxe] at HH1 HFo
  rw [← hye] at HH2 HFo
  have K1 : Hid _ := HH1
  have K2 : Hid _ := HH2
  have K3 : Hid _ := HFo
  clear HH1 HH2 HFo hxe hye hx hy hF hun hn
  have hfn : f = n - 64 := by omega
  have HF : Hid _ := hf
  clear hf hfn
  go_enter Tryz.func114, Tryz.ntmps114
  go_wp2_with (go_at_call 105; refine (nBits a la ca u _ na HN.out).mono ?_; rintro e w' ⟨rfl, hw⟩; subst hw)
  refine (show Calls _ _ _ _ (fun e w' => e = .returned (.int .u64 (x : Int)) ∧ Below w.heap.size w w') from K1.out).mono ?_
  rintro e w1 ⟨rfl, hb1⟩
  have nb1 := nb.below hb1
  go_wp2_with (go_at_call 124; fail)
  refine (show Calls _ _ _ _ (fun e w' => e = .returned (.int .u64 (y : Int)) ∧ Below w1.heap.size w1 w') from K2.out w1 nb1.sl).mono ?_
  rintro e w2 ⟨rfl, hb2⟩
  go_wp2_with (go_at_call 123; fail)
  refine (show Calls _ _ _ _ (ForePost w2 u v) from K3.out w2).mono ?_
  rintro e w3 ⟨p0, p1, q0, q1, ev, rfl, hfo, hb3⟩
  have B3 : Below w.heap.size w w3 := hb1.trans ((hb2.trans (hb3.mono hb2.size)).mono hb1.size)
  have na3 := na.below B3
  have nb3 := nb.below B3
  clear K1 K2 K3 hb1 hb2 hb3 nb1
  obtain ⟨W, hW⟩ : ∃ W, W = w3.alloc (.cells #[.int .u64 (p0 : Int), .int .u64 (p1 : Int), .int .u64 (q0 : Int), .int .u64 (q1 : Int), .bool ev] 160) := ⟨_, rfl⟩
  have BW : Below w3.heap.size w3 W := by rw [hW]; exact (Below.refl _ _).alloc (Nat.le_refl _) _
  have RW : Row W w3.heap.size (foreCells p0 p1 q0 q1 ev) := by rw [hW]; exact Row.new w3 (foreCells p0 p1 q0 q1 ev) _
  have SW : w3.heap.size < W.heap.size := by rw [hW]; simp
  have B4 := B3.trans (BW.mono B3.size)
  have na4 := na3.below BW
  have nb4 := nb3.below BW
  by_cases hq : q0 = 0
  · subst hq
    go_wp2_with (go_at_call 117; fail)
    rw [show ((0 : Nat) : Int) = 0 from rfl] at hW
    rw [← hW]
    refine (nRest a b la lb ca cb u v W na4 nb4 hv0).mono ?_
    rintro e w5 ⟨ar, lr, cr, rfl, hr, hb5⟩
    go_wp2
    go_ret2
    refine ⟨b, lb, cb, ar, lr, cr, v, u % v, rfl, ⟨(nb4.below hb5).sl, hb.len⟩, hr, Nat.mod_lt _ hv0, Nat.le_of_lt (Nat.mod_lt _ hv0), hle, ?_, B4.trans (hb5.mono B4.size)⟩
    rw [Nat.gcd_comm v, ← Nat.gcd_rec, Nat.gcd_comm]
  · have hq' : ¬ (q0 : Int) = 0 := by omega
    obtain ⟨g1, g2, g3, g4⟩ := hfo.out hq
    obtain ⟨Y, hY⟩ := Int.eq_ofNat_of_zero_le g1
    obtain ⟨X, hX⟩ := Int.eq_ofNat_of_zero_le (Int.le_of_lt (Int.lt_of_le_of_lt g1 g2))
    rw [hX, hY] at g2
    rw [hX] at g3
    have hXv : X ≤ v := by omega
    have hYX : Y < X := by omega
    have HG : Hid (Nat.gcd X Y = Nat.gcd u v) := fore_gcd u v X Y p0 p1 q0 q1 ev hX.symm hY.symm g4
    have H1 : Hid _ := nBetween ev a b la lb ca cb u v p0 q0 X W na4 nb4 hfo.hp0 hfo.hq0 hX.symm (by have := na.lt; omega)
    have H2 : Hid (∀ w', NI w' a la ca u → NI w' b lb cb v → Calls Tryz.prog 125 #[.slice a la ca, .slice b lb cb, .int .u64 (p1 : Int), .int .u64 (q1 : Int), .bool (!ev)] w' (GotN w' Y)) := fun w' h1 h2 =>
      nBetween (!ev) a b la lb ca cb u v p1 q1 Y w' h1 h2 hfo.hp1 hfo.hq1 (by rw [sgv_not]; simpa using hY.symm) (by have := na.lt; omega)
    clear g1 g2 g3 g4 hX hY hfo
    go_wp2_with (go_at_call 125; fail)
    rw [← hW]
    refine (show Calls _ _ _ _ (GotN W X) from H1.out).mono ?_
    rintro e w5 ⟨ax, lx, cx, rfl, hx5, hb5⟩
    have R5 := RW.below hb5 SW
    have c1 : w5.cell? ⟨w3.heap.size, 1, none⟩ = some (.int .u64 (p1 : Int)) := R5.cell 1 _ rfl
    have c3 : w5.cell? ⟨w3.heap.size, 3, none⟩ = some (.int .u64 (q1 : Int)) := R5.cell 3 _ rfl
    have c4 : w5.cell? ⟨w3.heap.size, 4, none⟩ = some (.bool ev) := R5.cell 4 _ rfl
    have na5 := na4.below hb5
    have nb5 := nb4.below hb5
    go_wp2_with (go_at_call 125; fail)
    refine (show Calls _ _ _ _ (GotN w5 Y) from H2.out w5 na5 nb5).mono ?_
    rintro e w6 ⟨ay, ly, cy, rfl, hy6, hb6⟩
    go_wp2
    go_ret2
    exact ⟨ax, lx, cx, ay, ly, cy, X, Y, rfl, hx5.below hb6, hy6, by omega, by omega, by omega, HG.out, B4.trans ((hb5.trans (hb6.mono hb5.size)).mono B4.size)⟩

end Go.Proofs.YtcaihoomcdbfnaaGreat

namespace Go.Proofs.YtcaihoomcdbfnaaGreat
open Go.RowKit
set_option linter.unusedVariables false

/-- What holds at the head of each round of Gcd: two numbers of the same greatest divisor, the second not above the first; k is the second. -/
def GcdRel (w : World) (g k : Nat) (av bv : Value) (wr : World) : Prop := ∃ (a : Option Addr) (la ca : Nat) (b : Option Addr) (lb cb u : Nat), av = .slice a la ca ∧ bv = .slice b lb cb ∧ ND wr a la ca u ∧ ND wr b lb cb k ∧ k ≤ u ∧ la ≤ 1000000 ∧ Nat.gcd u k = g ∧ Below w.heap.size w wr
theorem bt_small {v : Nat} (h : bt.nlen v ≤ 64) : v < 18446744073709551616 := Nat.lt_of_lt_of_le (bt.nlen_lt v) (Nat.le_trans (Nat.pow_le_pow_right (by decide) h) (by decide))
theorem nSmall (a : Option Addr) (l c u : Nat) (w : World) (h : NI w a l c u) (h64 : u < 18446744073709551616) : Calls Tryz.prog 116 #[.slice a l c] w fun e w' => e = .returned (.int .u64 (u : Int)) ∧ Below w.heap.size w w' :=
  small_any a l c u w h.sl h.lt h64
set_option maxRecDepth 100000 in
set_option maxHeartbeats 2000000 in
theorem nGcd (a b : Option Addr) (la lb ca cb u v : Nat) (w : World) (ha : NI w a la ca u) (hb : NI w b lb cb v) :
    Calls Tryz.prog 106 #[.slice a la ca, .slice b lb cb] w (GotN w (Nat.gcd u v)) := by
  obtain ⟨g, hg⟩ : ∃ g, g = Nat.gcd u v := ⟨_, rfl⟩
  have HG : Hid _ := hg.symm
  rw [← hg]
  clear hg
  have hlu := wd.nlen_le ha.lt
  have hlv := wd.nlen_le hb.lt
  have hfa := ha.few
  have hfb := hb.few
  go_enter Tryz.func106, Tryz.ntmps106
  go_wp2_with (go_at_call 97; fail)
  refine (nTrim a la ca u w ha).mono ?_
  rintro e w1 ⟨a1, la1, ca1, rfl, ha1, hb1⟩
  go_wp2_with (go_at_call 97; fail)
  refine (nTrim b lb cb v w1 (hb.below hb1)).mono ?_
  rintro e w2 ⟨b2, lb2, cb2, rfl, hb2', hb2⟩
  have ha2 := ha1.below hb2
  have hla2 : la1 ≤ 1000000 := by rw [ha1.len]; omega
  have hlb2 : lb2 ≤ 1000000 := by rw [hb2'.len]; omega
  have B2 : Below w.heap.size w w2 := hb1.trans (hb2.mono hb1.size)
  clear ha hb ha1 hb1 hb2 hlu hlv hfa hfb
  obtain ⟨c, hc⟩ : ∃ c, c = cmpI (u : Int) v := ⟨_, rfl⟩
  go_wp2_with (go_at_call 113; fail)
  refine (nCmp a1 b2 la1 lb2 ca1 cb2 u v w2 (ha2.to hla2) (hb2'.to hlb2) hc).mono ?_
  rintro e w3 ⟨rfl, hb3⟩
  have ha3 := ha2.below hb3
  have hb3' := hb2'.below hb3
  have B3 : Below w.heap.size w w3 := B2.trans (hb3.mono B2.size)
  clear ha2 hb2' hb3 B2
  rcases Nat.lt_or_ge u v with huv | huv
  · have hc0 : c < 0 := by rw [hc]; unfold cmpI; rw [if_pos (by omega)]; decide
    have HST : Hid (GcdRel w g u (.slice b2 lb2 cb2) (.slice a1 la1 ca1) w3) := ⟨b2, lb2, cb2, a1, la1, ca1, v, rfl, rfl, hb3', ha3, by omega, hlb2, by rw [Nat.gcd_comm]; exact HG.out, B3⟩
    clear hc ha3 hb3' B3 HG huv
    go_wp2
    go_loopg [0, 1] u (fun k av bv wr => GcdRel w g k av bv wr)
    case atStart => exact HST.out
    case round =>
      clear HST
      obtain ⟨a, la, ca, b, lb, cb, U, rfl, rfl, ha, hb, hle, hla, hgcd, hbel⟩ := hrel
      have hlb : lb ≤ 1000000 := by rw [hb.len]; have := mono_wd hle; rw [← ha.len] at this; omega
      have na := ha.to hla
      have nb := hb.to hlb
      obtain ⟨n, hn⟩ : ∃ n, n = bt.nlen gk := ⟨_, rfl⟩
      have HN : Hid _ := hn
      have HGC : Hid _ := hgcd
      by_cases h64 : 64 < n
      · have h64' : (64 : Int) < n := by omega
        have HV : Hid (64 < bt.nlen gk) := by unfold Hid; rw [← hn]; exact h64
        clear hn hgcd
        go_wp2_with (go_at_call 105; refine (nBits b lb cb gk _ nb HN.out).mono ?_; rintro e w' ⟨rfl, hw⟩; subst hw)
        refine (nNearer a b la lb ca cb U gk wr ha hb hla hle HV.out).mono ?_
        rintro e w5 ⟨ax, lx, cx, ay, ly, cy, X, Y, rfl, hX, hY, g1, g2, g3, g4, hb5⟩
        go_wp2
        go_roundg Y
        case measure => exact g1
        case rel => exact ⟨ax, lx, cx, ay, ly, cy, X, rfl, rfl, hX, hY, g2, by rw [hX.len]; have := mono_wd g3; rw [← ha.len] at this; omega, by rw [g4]; exact HGC.out, hbel.trans (hb5.mono hbel.size)⟩
      · have h64' : ¬ (64 : Int) < n := by omega
        have hs : gk < 18446744073709551616 := bt_small (by rw [← hn]; omega)
        clear hn hgcd
        rcases Nat.eq_zero_or_pos gk with h0 | h0
        · subst h0
          have hl0 : lb = 0 := by rw [hb.len, wd.nlen_zero]
          subst hl0
          have hUg : U = g := by have := HGC.out; simpa using this
          subst hUg
          go_wp2_with (go_at_call 105; refine (nBits b 0 cb 0 _ nb HN.out).mono ?_; rintro e w' ⟨rfl, hw⟩; subst hw)
          go_ret
          exact ⟨a, la, ca, rfl, ha, hbel⟩
        · have hl0 : 0 < lb := by rw [hb.len]; exact wd.nlen_pos h0
          have hl1 : ¬ (lb : Int) = 0 := by omega
          obtain ⟨R, hR⟩ : ∃ R, R = U % gk := ⟨_, rfl⟩
          have hRl : R < gk := by rw [hR]; exact Nat.mod_lt _ h0
          have HRG : Hid (Nat.gcd gk R = g) := by unfold Hid; rw [hR, ← HGC.out, Nat.gcd_comm gk, ← Nat.gcd_rec, Nat.gcd_comm]
          have hgl : g ≤ gk := by have := Nat.gcd_le_right U h0; have e := HGC.out; omega
          have HRE : Hid _ := hR
          clear hR
          go_wp2_with (go_at_call 105; refine (nBits b lb cb gk _ nb HN.out).mono ?_; rintro e w' ⟨rfl, hw⟩; subst hw)
          refine (nSmall b lb cb gk wr nb hs).mono ?_
          rintro e w5 ⟨rfl, hb5⟩
          go_wp2_with (go_at_call 117; fail)
          have HRS := nRest a b la lb ca cb U gk w5 (na.below hb5) (nb.below hb5) h0
          rw [← HRE.out] at HRS
          refine HRS.mono ?_
          rintro e w6 ⟨ar, lr, cr, rfl, hr6, hb6⟩
          have nr6 : NI w6 ar lr cr R := hr6.to (by rw [hr6.len]; have := mono_wd (Nat.le_of_lt hRl); rw [← hb.len] at this; omega)
          go_wp2_with (go_at_call 116; fail)
          refine (nSmall ar lr cr R w6 nr6 (by omega)).mono ?_
          rintro e w7 ⟨rfl, hb7⟩
          go_wp2_with (go_at_call 115; fail)
          have HGS := gcdSmall_any gk R hs (by omega) w7
          rw [HRG.out] at HGS
          refine HGS.mono ?_
          rintro e w8 ⟨rfl, hb8⟩
          go_wp2_with (go_at_call 54; fail)
          refine (nOf g (by omega) rfl w8).mono ?_
          rintro e w9 ⟨a9, l9, c9, rfl, h9, hb9⟩
          go_wp2
          go_ret
          exact ⟨a9, l9, c9, rfl, h9, hbel.trans ((hb5.trans ((hb6.trans ((hb7.trans ((hb8.trans (hb9.mono hb8.size)).mono hb7.size)).mono hb6.size)).mono hb5.size)).mono hbel.size)⟩
  · have hc0 : ¬ c < 0 := by rw [hc]; unfold cmpI; rw [if_neg (by omega)]; split <;> decide
    have HST : Hid (GcdRel w g v (.slice a1 la1 ca1) (.slice b2 lb2 cb2) w3) := ⟨a1, la1, ca1, b2, lb2, cb2, u, rfl, rfl, ha3, hb3', huv, hla2, HG.out, B3⟩
    clear hc ha3 hb3' B3 HG huv
    go_wp2
    go_loopg [0, 1] v (fun k av bv wr => GcdRel w g k av bv wr)
    case atStart => exact HST.out
    case round =>
      clear HST
      obtain ⟨a, la, ca, b, lb, cb, U, rfl, rfl, ha, hb, hle, hla, hgcd, hbel⟩ := hrel
      have hlb : lb ≤ 1000000 := by rw [hb.len]; have := mono_wd hle; rw [← ha.len] at this; omega
      have na := ha.to hla
      have nb := hb.to hlb
      obtain ⟨n, hn⟩ : ∃ n, n = bt.nlen gk := ⟨_, rfl⟩
      have HN : Hid _ := hn
      have HGC : Hid _ := hgcd
      by_cases h64 : 64 < n
      · have h64' : (64 : Int) < n := by omega
        have HV : Hid (64 < bt.nlen gk) := by unfold Hid; rw [← hn]; exact h64
        clear hn hgcd
        go_wp2_with (go_at_call 105; refine (nBits b lb cb gk _ nb HN.out).mono ?_; rintro e w' ⟨rfl, hw⟩; subst hw)
        refine (nNearer a b la lb ca cb U gk wr ha hb hla hle HV.out).mono ?_
        rintro e w5 ⟨ax, lx, cx, ay, ly, cy, X, Y, rfl, hX, hY, g1, g2, g3, g4, hb5⟩
        go_wp2
        go_roundg Y
        case measure => exact g1
        case rel => exact ⟨ax, lx, cx, ay, ly, cy, X, rfl, rfl, hX, hY, g2, by rw [hX.len]; have := mono_wd g3; rw [← ha.len] at this; omega, by rw [g4]; exact HGC.out, hbel.trans (hb5.mono hbel.size)⟩
      · have h64' : ¬ (64 : Int) < n := by omega
        have hs : gk < 18446744073709551616 := bt_small (by rw [← hn]; omega)
        clear hn hgcd
        rcases Nat.eq_zero_or_pos gk with h0 | h0
        · subst h0
          have hl0 : lb = 0 := by rw [hb.len, wd.nlen_zero]
          subst hl0
          have hUg : U = g := by have := HGC.out; simpa using this
          subst hUg
          go_wp2_with (go_at_call 105; refine (nBits b 0 cb 0 _ nb HN.out).mono ?_; rintro e w' ⟨rfl, hw⟩; subst hw)
          go_ret
          exact ⟨a, la, ca, rfl, ha, hbel⟩
        · have hl0 : 0 < lb := by rw [hb.len]; exact wd.nlen_pos h0
          have hl1 : ¬ (lb : Int) = 0 := by omega
          obtain ⟨R, hR⟩ : ∃ R, R = U % gk := ⟨_, rfl⟩
          have hRl : R < gk := by rw [hR]; exact Nat.mod_lt _ h0
          have HRG : Hid (Nat.gcd gk R = g) := by unfold Hid; rw [hR, ← HGC.out, Nat.gcd_comm gk, ← Nat.gcd_rec, Nat.gcd_comm]
          have hgl : g ≤ gk := by have := Nat.gcd_le_right U h0; have e := HGC.out; omega
          have HRE : Hid _ := hR
          clear hR
          go_wp2_with (go_at_call 105; refine (nBits b lb cb gk _ nb HN.out).mono ?_; rintro e w' ⟨rfl, hw⟩; subst hw)
          refine (nSmall b lb cb gk wr nb hs).mono ?_
          rintro e w5 ⟨rfl, hb5⟩
          go_wp2_with (go_at_call 117; fail)
          have HRS := nRest a b la lb ca cb U gk w5 (na.below hb5) (nb.below hb5) h0
          rw [← HRE.out] at HRS
          refine HRS.mono ?_
          rintro e w6 ⟨ar, lr, cr, rfl, hr6, hb6⟩
          have nr6 : NI w6 ar lr cr R := hr6.to (by rw [hr6.len]; have := mono_wd (Nat.le_of_lt hRl); rw [← hb.len] at this; omega)
          go_wp2_with (go_at_call 116; fail)
          refine (nSmall ar lr cr R w6 nr6 (by omega)).mono ?_
          rintro e w7 ⟨rfl, hb7⟩
          go_wp2_with (go_at_call 115; fail)
          have HGS := gcdSmall_any gk R hs (by omega) w7
          rw [HRG.out] at HGS
          refine HGS.mono ?_
          rintro e w8 ⟨rfl, hb8⟩
          go_wp2_with (go_at_call 54; fail)
          refine (nOf g (by omega) rfl w8).mono ?_
          rintro e w9 ⟨a9, l9, c9, rfl, h9, hb9⟩
          go_wp2
          go_ret
          exact ⟨a9, l9, c9, rfl, h9, hbel.trans ((hb5.trans ((hb6.trans ((hb7.trans ((hb8.trans (hb9.mono hb8.size)).mono hb7.size)).mono hb6.size)).mono hb5.size)).mono hbel.size)⟩
end Go.Proofs.YtcaihoomcdbfnaaGreat

namespace Go.Proofs.YtcaihoomcdbfnaaGreat
set_option linter.unusedVariables false

theorem low_nat {a b c d : Nat} (h : a * d = c * b) (g : Nat.gcd a b = 1) (g' : Nat.gcd c d = 1) (hb : 0 < b) (hd : 0 < d) : a = c ∧ b = d := by
  have h1 : b ∣ d := by
    have : b ∣ a * d := ⟨c, by rw [h, Nat.mul_comm]⟩
    exact Nat.Coprime.dvd_of_dvd_mul_left (show Nat.Coprime b a by unfold Nat.Coprime; rwa [Nat.gcd_comm]) this
  have h2 : d ∣ b := by
    have : d ∣ c * b := ⟨a, by rw [← h, Nat.mul_comm]⟩
    exact Nat.Coprime.dvd_of_dvd_mul_left (show Nat.Coprime d c by unfold Nat.Coprime; rwa [Nat.gcd_comm]) this
  have e : b = d := Nat.dvd_antisymm h1 h2
  subst e
  exact ⟨Nat.eq_of_mul_eq_mul_right hb h, rfl⟩
theorem low_one {n m : Int} {b d : Nat} (h : n * d = m * b) (g : Nat.gcd n.natAbs b = 1) (g' : Nat.gcd m.natAbs d = 1) (hb : 0 < b) (hd : 0 < d) : n = m ∧ b = d := by
  have h1 : n.natAbs * d = m.natAbs * b := by
    have := congrArg Int.natAbs h
    simpa [Int.natAbs_mul] using this
  obtain ⟨e1, e2⟩ := low_nat h1 g g' hb hd
  subst e2
  exact ⟨Int.eq_of_mul_eq_mul_right (by omega) h, rfl⟩
/-- Both parts over what they share: the same fraction, in lowest terms. -/
theorem low_terms (n : Int) (d : Nat) (hd : 0 < d) : Nat.gcd (n.natAbs / Nat.gcd n.natAbs d) (d / Nat.gcd n.natAbs d) = 1 ∧ 0 < d / Nat.gcd n.natAbs d ∧ (n.sign * (n.natAbs / Nat.gcd n.natAbs d : Nat)) * d = n * (d / Nat.gcd n.natAbs d : Nat) := by
  have hg : 0 < Nat.gcd n.natAbs d := Nat.gcd_pos_of_pos_right _ hd
  refine ⟨by rw [Nat.gcd_div (Nat.gcd_dvd_left _ _) (Nat.gcd_dvd_right _ _)]; exact Nat.div_self hg, Nat.div_pos (Nat.le_of_dvd hd (Nat.gcd_dvd_right _ _)) hg, ?_⟩
  obtain ⟨p, hp⟩ := Nat.gcd_dvd_left n.natAbs d
  obtain ⟨q, hq⟩ := Nat.gcd_dvd_right n.natAbs d
  obtain ⟨G, hG⟩ : ∃ G, G = Nat.gcd n.natAbs d := ⟨_, rfl⟩
  rw [← hG] at hp hq hg ⊢
  have e1 : n.natAbs / G = p := by rw [hp, Nat.mul_div_cancel_left _ hg]
  have e2 : d / G = q := by rw [hq, Nat.mul_div_cancel_left _ hg]
  rw [e1, e2]
  have hn : n = n.sign * ((G * p : Nat) : Int) := by rw [← hp]; exact (Int.sign_mul_natAbs n).symm
  have hd' : (d : Int) = (G : Int) * q := by rw [hq]; simp
  rw [hd']
  conv => rhs; rw [hn]
  simp only [Int.natCast_mul]
  grind
end Go.Proofs.YtcaihoomcdbfnaaGreat

namespace Go.Proofs.YtcaihoomcdbfnaaGreat
open Go.RowKit
set_option linter.unusedVariables false

/-- The parts of a fraction, one whose lower part is nought being nought. -/
def pN (z : Int) (D : Nat) : Int := if D = 0 then 0 else z
def pD (D : Nat) : Nat := if D = 0 then 1 else D
/-- The parts of a fraction in lowest terms. -/
def lowN (z : Int) (D : Nat) : Int := z.sign * ((z.natAbs / Nat.gcd z.natAbs D : Nat) : Int)
def lowD (z : Int) (D : Nat) : Nat := D / Nat.gcd z.natAbs D
theorem lowN_abs (z : Int) (D : Nat) : (lowN z D).natAbs = z.natAbs / Nat.gcd z.natAbs D := by
  unfold lowN
  rw [Int.natAbs_mul]
  by_cases h : z = 0
  · subst h; simp
  · rw [Int.natAbs_sign_of_ne_zero h, Nat.one_mul, Int.natAbs_natCast]
theorem lowN_le (z : Int) (D : Nat) : (lowN z D).natAbs ≤ z.natAbs := by rw [lowN_abs]; exact Nat.div_le_self _ _
theorem lowD_le (z : Int) (D : Nat) : lowD z D ≤ D := Nat.div_le_self _ _
theorem lowD_pos {z : Int} {D : Nat} (h : 0 < D) : 0 < lowD z D := (low_terms z D h).2.1
theorem low_gcd {z : Int} {D : Nat} (h : 0 < D) : Nat.gcd (lowN z D).natAbs (lowD z D) = 1 := by rw [lowN_abs]; exact (low_terms z D h).1
theorem low_same {z : Int} {D : Nat} (h : 0 < D) : lowN z D * D = z * lowD z D := (low_terms z D h).2.2
theorem lowN_sg {w : World} {n : Bool} {a : Option Addr} {l c : Nat} {z : Int} (h : WI w n a l c z) (D : Nat) : lowN z D = sgz n (z.natAbs / Nat.gcd z.natAbs D) := by
  have h1 := h.neg
  have h2 := h.pos
  unfold lowN sgz
  rcases wsign_cases z with ⟨hz, e⟩ | ⟨hz, e⟩ | ⟨hz, e⟩
  · rw [e]; cases n
    · have := h2 rfl; omega
    · simp
  · subst hz; simp
  · rw [e]; cases n
    · simp
    · have := h1 rfl; omega
/-- A fraction as it comes. -/
structure QI (w : World) (K : Nat) (n : Bool) (a : Option Addr) (l c : Nat) (d : Option Addr) (m k : Nat) (z : Int) (D : Nat) : Prop where
  wi : WI w n a l c z
  ni : NI w d m k D
  zs : z.natAbs < 4294967296 ^ K
  ds : D < 4294967296 ^ K
  k1 : 1 ≤ K
  kk : K ≤ 10000
/-- A fraction, both of its parts in their one form. -/
structure QN (w : World) (n : Bool) (a : Option Addr) (l c : Nat) (d : Option Addr) (m k : Nat) (z : Int) (D : Nat) : Prop where
  wn : WN w n a l c z
  nd : ND w d m k D
theorem QI.below {w w' : World} {K : Nat} {n : Bool} {a : Option Addr} {l c : Nat} {d : Option Addr} {m k : Nat} {z : Int} {D : Nat} (h : QI w K n a l c d m k z D) (hb : Below w.heap.size w w') : QI w' K n a l c d m k z D := ⟨h.wi.below hb, h.ni.below hb, h.zs, h.ds, h.k1, h.kk⟩
theorem QN.below {w w' : World} {n : Bool} {a : Option Addr} {l c : Nat} {d : Option Addr} {m k : Nat} {z : Int} {D : Nat} (h : QN w n a l c d m k z D) (hb : Below w.heap.size w w') : QN w' n a l c d m k z D := ⟨h.wn.below hb, h.nd.below hb⟩
theorem QN.qi {w : World} {n : Bool} {a : Option Addr} {l c : Nat} {d : Option Addr} {m k : Nat} {z : Int} {D : Nat} (h : QN w n a l c d m k z D) (K : Nat) (k1 : 1 ≤ K) (kk : K ≤ 10000) (hz : z.natAbs < 4294967296 ^ K) (hD : D < 4294967296 ^ K) : QI w K n a l c d m k z D :=
  ⟨h.wn.wi K (by omega) hz, h.nd.ni K (by omega) hD, hz, hD, k1, kk⟩
def GotQ (w : World) (z : Int) (D : Nat) (e : Ending) (w' : World) : Prop := ∃ (n : Bool) (a : Option Addr) (l c : Nat) (d : Option Addr) (m k : Nat), e = .returned (.agg #[.bool n, .slice a l c, .slice d m k]) ∧ QN w' n a l c d m k z D ∧ Far w.heap.size a l ∧ Far w.heap.size d m ∧ Below w.heap.size w w'
theorem NI.put2 {w : World} {a : Option Addr} {l c u b : Nat} (h : NI w a l c u) (hn : NA b a l) (x y : Value) : NI ((w.setCell ⟨b, 0, none⟩ x).setCell ⟨b, 1, none⟩ y) a l c u := (h.put hn 0 x).put hn 1 y
theorem ND.put3 {w : World} {a : Option Addr} {l c u b : Nat} (h : ND w a l c u) (hn : NA b a l) (x y z : Value) : ND (((w.setCell ⟨b, 0, none⟩ x).setCell ⟨b, 1, none⟩ y).setCell ⟨b, 2, none⟩ z) a l c u := ((h.put hn 0 x).put hn 1 y).put hn 2 z
theorem QN.put3 {w : World} {n : Bool} {a : Option Addr} {l c : Nat} {d : Option Addr} {m k : Nat} {z : Int} {D : Nat} {b : Nat} (h : QN w n a l c d m k z D) (n1 : NA b a l) (n2 : NA b d m) (u v t : Value) : QN (((w.setCell ⟨b, 0, none⟩ u).setCell ⟨b, 1, none⟩ v).setCell ⟨b, 2, none⟩ t) n a l c d m k z D :=
  ⟨⟨h.wn.nd.put3 n1 u v t, h.wn.sg⟩, h.nd.put3 n2 u v t⟩
theorem endQ {w w2 : World} {n : Bool} {a : Option Addr} {l c : Nat} {d : Option Addr} {m k : Nat} {z : Int} {D : Nat} (b : Nat) (hb : w.heap.size ≤ b) (B : Below w.heap.size w w2) (h : QN w2 n a l c d m k z D) (f1 : Far (b + 1) a l) (f2 : Far (b + 1) d m) (u v t : Value) :
    GotQ w z D (.returned (.agg #[.bool n, .slice a l c, .slice d m k])) (((w2.setCell ⟨b, 0, none⟩ u).setCell ⟨b, 1, none⟩ v).setCell ⟨b, 2, none⟩ t) :=
  ⟨n, a, l, c, d, m, k, rfl, h.put3 (f1 b (by omega)) (f2 b (by omega)) u v t, f1.mono (by omega), f2.mono (by omega), below_put3 B hb u v t⟩
set_option maxRecDepth 100000 in
set_option maxHeartbeats 1000000 in
theorem qLow (n : Bool) (a : Option Addr) (la ca : Nat) (z : Int) (d : Option Addr) (ld cd D : Nat) (w : World) (ha : WI w n a la ca z) (hd : NI w d ld cd D) (h0 : 0 < D) (N : Int) (E : Nat) (hN : N = lowN z D) (hE : E = lowD z D) :
    Calls Tryz.prog 94 #[.agg #[.bool n, .slice a la ca], .slice d ld cd] w (GotQ w N E) := by
  have HN : Hid (N = sgz n (z.natAbs / Nat.gcd z.natAbs D)) := by unfold Hid; rw [hN, lowN_sg ha]
  have HE : Hid (E = D / Nat.gcd z.natAbs D) := hE
  obtain ⟨G, hG⟩ : ∃ G, G = Nat.gcd z.natAbs D := ⟨_, rfl⟩
  have g0 : 0 < G := by rw [hG]; exact Nat.gcd_pos_of_pos_right _ h0
  have gl : G < 4294967296 ^ ld := by rw [hG]; exact Nat.lt_of_le_of_lt (Nat.le_of_dvd h0 (Nat.gcd_dvd_right _ _)) hd.lt
  rw [← hG] at HN HE
  clear hN hE
  obtain ⟨W, hW, bW, x_a, x_z, sW⟩ := bs_23 w (.bool n) (.slice a la ca) (.bool false) (.slice none 0 0) (.slice none 0 0) 27 29
  have zbW := bW.size
  replace ha := ha.below bW
  replace hd := hd.below bW
  have BB := bW
  go_enter Tryz.func94, Tryz.ntmps94
  go_wp2_with (go_at_call 106; fail)
  rw [← hW]
  clear hW
  refine (nGcd a d la ld ca cd _ _ W ha.ni hd).mono ?_
  rw [← hG]
  rintro e w1 ⟨a1, l1, c1, rfl, h1, bw1⟩
  have zbw1 := bw1.size
  replace ha := ha.below bw1
  replace hd := hd.below bw1
  replace BB := also BB bw1
  replace x_a := x_a.on bw1
  replace x_z := x_z.on bw1
  replace h1 := h1.ni ld hd.few gl
  have ⟨x_a_0, x_a_1, x_a_2, x_a_3⟩ := x_a
  go_wp2_with (go_at_call 107; fail)
  refine (fDiv a a1 la l1 ca c1 _ G w1 ha.ni h1 g0).mono ?_
  rintro e w2 ⟨a2, l2, c2, ar, lr, cr, rfl, h2, hr2, f2, fr2, bw2⟩
  clear x_a_0 x_a_1 x_a_2 x_a_3
  have zbw2 := bw2.size
  replace ha := ha.below bw2
  replace hd := hd.below bw2
  replace BB := also BB bw2
  replace x_a := x_a.on bw2
  replace x_z := x_z.on bw2
  replace h1 := h1.below bw2
  go_wp2_with (go_at_call 107; fail)
  refine (fDiv d a1 ld l1 cd c1 _ G w2 hd h1 g0).mono ?_
  rintro e w3 ⟨a3, l3, c3, br, mr, dr, rfl, h3, hr3, f3, fr3, bw3⟩
  have zbw3 := bw3.size
  replace ha := ha.below bw3
  replace hd := hd.below bw3
  replace BB := also BB bw3
  replace x_a := x_a.on bw3
  replace x_z := x_z.on bw3
  replace h1 := h1.below bw3
  replace h2 := h2.below bw3
  have ⟨x_a_0, x_a_1, x_a_2, x_a_3⟩ := x_a
  go_wp2_with (go_at_call 108; fail)
  refine (wNorm n a2 l2 c2 (sgz n (z.natAbs / G)) w3 (wi_of (h2.ni la ha.ni.few (Nat.lt_of_le_of_lt (Nat.div_le_self _ _) ha.ni.lt))) N HN.out).mono ?_
  rintro e w4 ⟨n4, a4, l4, c4, rfl, h4, f4, bw4⟩
  clear x_a_0 x_a_1 x_a_2 x_a_3
  have zbw4 := bw4.size
  replace ha := ha.below bw4
  replace hd := hd.below bw4
  replace BB := also BB bw4
  replace x_a := x_a.on bw4
  replace x_z := x_z.on bw4
  replace h1 := h1.below bw4
  replace h2 := h2.below bw4
  replace h3 := h3.below bw4
  have ⟨x_z_0, x_z_1, x_z_2, x_z_3, x_z_4, x_z_5⟩ := x_z
  go_wp2
  exact bodyPost_ret (v := .agg #[.bool n4, .slice a4 l4 c4, .slice a3 l3 c3]) (by simp [results, Tryz.results94, go_sem, *]) rfl (endQ _ (by omega) BB ⟨h4, by rw [HE.out]; exact h3⟩ (f4.mono (by omega)) (f3.mono (by omega)) _ _ _)
end Go.Proofs.YtcaihoomcdbfnaaGreat

namespace Go.Proofs.YtcaihoomcdbfnaaGreat
open Go.RowKit
set_option linter.unusedVariables false

theorem QI.pn {w : World} {K : Nat} {n : Bool} {a : Option Addr} {l c : Nat} {d : Option Addr} {m k : Nat} {z : Int} {D : Nat} (h : QI w K n a l c d m k z D) : (pN z D).natAbs < 4294967296 ^ K := by
  unfold pN
  split
  · exact Nat.pow_pos (by decide)
  · exact h.zs
theorem QI.pd {w : World} {K : Nat} {n : Bool} {a : Option Addr} {l c : Nat} {d : Option Addr} {m k : Nat} {z : Int} {D : Nat} (h : QI w K n a l c d m k z D) : pD D < 4294967296 ^ K := by
  unfold pD
  split
  · exact Nat.lt_of_lt_of_le (show 1 < 4294967296 ^ 1 by decide) (Nat.pow_le_pow_right (by decide) h.k1)
  · exact h.ds
end Go.Proofs.YtcaihoomcdbfnaaGreat

namespace Go.Proofs.YtcaihoomcdbfnaaGreat
open Go.RowKit
set_option linter.unusedVariables false

/-- A fraction and an error. -/
def GotMk (w : World) (z : Int) (D : Nat) (E : Int) (e : Ending) (w' : World) : Prop := ∃ (n : Bool) (a : Option Addr) (l c : Nat) (d : Option Addr) (m k : Nat), e = .returned (.tuple #[.agg #[.bool n, .slice a l c, .slice d m k], .int .i64 E]) ∧ QN w' n a l c d m k z D ∧ Far w.heap.size a l ∧ Far w.heap.size d m ∧ Below w.heap.size w w'
theorem endMk {w w2 : World} {n : Bool} {a : Option Addr} {l c : Nat} {d : Option Addr} {m k : Nat} {z : Int} {D : Nat} {E : Int} (b : Nat) (hb : w.heap.size ≤ b) (B : Below w.heap.size w w2) (h : QN w2 n a l c d m k z D) (f1 : Far (b + 1) a l) (f2 : Far (b + 1) d m) (u v t : Value) :
    GotMk w z D E (.returned (.tuple #[.agg #[.bool n, .slice a l c, .slice d m k], .int .i64 E])) (((w2.setCell ⟨b, 0, none⟩ u).setCell ⟨b, 1, none⟩ v).setCell ⟨b, 2, none⟩ t) :=
  ⟨n, a, l, c, d, m, k, rfl, h.put3 (f1 b (by omega)) (f2 b (by omega)) u v t, f1.mono (by omega), f2.mono (by omega), below_put3 B hb u v t⟩
theorem ne_not {n m : Bool} (h : ¬ n = m) : m = !n := by cases n <;> cases m <;> first | rfl | exact absurd rfl h
theorem bne_self (m : Bool) : (m != m) = false := by cases m <;> rfl
theorem bne_not (n : Bool) : (n != !n) = true := by cases n <;> rfl
theorem wi_over {w : World} {n m : Bool} {a b : Option Addr} {la ca lb cb : Nat} {x y : Int} (ha : WI w n a la ca x) (hb : WI w m b lb cb y) (h0 : y ≠ 0) : WI w (n != m) a la ca (x * y.sign) := by
  have h1 := ha.neg
  have h2 := ha.pos
  have h3 := hb.neg
  have h4 := hb.pos
  rcases wsign_cases y with ⟨hy, e⟩ | ⟨hy, e⟩ | ⟨hy, e⟩
  · rw [e]
    obtain rfl : m = true := by cases m; (have := h4 rfl; omega); rfl
    refine ⟨by rw [show (x * -1).natAbs = x.natAbs by omega]; exact ha.ni, ?_, ?_⟩ <;> cases n <;> simp <;> first | (have := h1 rfl; omega) | (have := h2 rfl; omega)
  · exact absurd hy h0
  · rw [e]
    obtain rfl : m = false := by cases m; rfl; (have := h3 rfl; omega)
    refine ⟨by rw [Int.mul_one]; exact ha.ni, ?_, ?_⟩ <;> cases n <;> simp <;> first | (have := h1 rfl; omega) | (have := h2 rfl; omega)
set_option maxRecDepth 100000 in
set_option maxHeartbeats 1000000 in
theorem qOf (x : Int) (w : World) (h1 : -9223372036854775808 ≤ x) (h2 : x ≤ 9223372036854775807) : Calls Tryz.prog 23 #[.int .i64 x] w (GotQ w x 1) := by
  have HX1 : Hid _ := h1
  have HX2 : Hid _ := h2
  clear h1 h2
  obtain ⟨W, hW, bW, x_z, sW⟩ := bs_3 w (.bool false) (.slice none 0 0) (.slice none 0 0) 29
  have zbW := bW.size
  have BB := bW
  go_enter Tryz.func23, Tryz.ntmps23
  go_wp2_with (go_at_call 53; fail)
  rw [← hW]
  clear hW
  refine (wOf x W HX1.out HX2.out).mono ?_
  rintro e w1 ⟨n1, a1, l1, c1, rfl, h1, f1, bw1⟩
  have zbw1 := bw1.size
  replace BB := also BB bw1
  replace x_z := x_z.on bw1
  go_wp2_with (go_at_call 54; fail)
  refine (fOf 1 (by decide) rfl w1).mono ?_
  rintro e w2 ⟨a2, l2, c2, rfl, h2, f2, bw2⟩
  have zbw2 := bw2.size
  replace BB := also BB bw2
  replace x_z := x_z.on bw2
  replace h1 := h1.below bw2
  have ⟨x_z_0, x_z_1, x_z_2, x_z_3, x_z_4, x_z_5⟩ := x_z
  go_wp2
  exact bodyPost_ret (v := .agg #[.bool n1, .slice a1 l1 c1, .slice a2 l2 c2]) (by simp [results, Tryz.results23, go_sem, *]) rfl (endQ _ (by omega) BB ⟨h1, h2⟩ (f1.mono (by omega)) (f2.mono (by omega)) _ _ _)
set_option maxRecDepth 100000 in
set_option maxHeartbeats 1000000 in
theorem qMake (n m : Bool) (a b : Option Addr) (la lb ca cb : Nat) (x y : Int) (w : World) (ha : WI w n a la ca x) (hb : WI w m b lb cb y) (h0 : y ≠ 0) (N : Int) (E : Nat) (hN : N = lowN (x * y.sign) y.natAbs) (hE : E = lowD (x * y.sign) y.natAbs) :
    Calls Tryz.prog 68 #[.agg #[.bool n, .slice a la ca], .agg #[.bool m, .slice b lb cb]] w (GotMk w N E 0) := by
  have HN : Hid _ := hN
  have HE : Hid _ := hE
  have hq := wi_over ha hb h0
  obtain ⟨s, hs⟩ : ∃ s, s = y.sign := ⟨_, rfl⟩
  have HS : Hid _ := hs
  have hs0 : ¬ s = 0 := by rw [hs]; exact fun e => h0 (Int.sign_eq_zero_iff_zero.1 e)
  have hy : 0 < y.natAbs := by omega
  clear hN hE hs h0
  obtain ⟨r, hr⟩ : ∃ r, r = (n != m) := ⟨_, rfl⟩
  have HR : Hid _ := hr
  have hr2 : (n != m) = r := hr.symm
  rw [hr2] at hq
  clear hr
  by_cases hnm : n = m
  · obtain rfl : r = false := by rw [← hr2, hnm]; exact bne_self m
    subst hnm
    clear hr2 HR
    obtain ⟨W, hW, bW, x_a, x_b, x_z, sW⟩ := bs_223 w (.bool n) (.slice a la ca) (.bool n) (.slice b lb cb) (.bool false) (.slice none 0 0) (.slice none 0 0) 27 27 29
    have zbW := bW.size
    replace ha := ha.below bW
    replace hb := hb.below bW
    replace hq := hq.below bW
    have BB := bW
    go_enter Tryz.func68, Tryz.ntmps68
    go_wp2_with (go_at_call 93; fail)
    rw [← hW]
    clear hW
    refine (wSign n b lb cb y W hb HS.out).mono ?_
    rintro e w1 ⟨rfl, bw1⟩
    have zbw1 := bw1.size
    replace ha := ha.below bw1
    replace hb := hb.below bw1
    replace hq := hq.below bw1
    replace BB := also BB bw1
    replace x_a := x_a.on bw1
    replace x_b := x_b.on bw1
    replace x_z := x_z.on bw1
    have ⟨x_a_0, x_a_1, x_a_2, x_a_3⟩ := x_a
    have ⟨x_b_0, x_b_1, x_b_2, x_b_3⟩ := x_b
    go_wp2_with (go_at_call 94; fail)
    refine (qLow false a la ca _ b lb cb _ w1 hq hb.ni hy N E HN.out HE.out).mono ?_
    rintro e w3 ⟨n3, a3, l3, c3, d3, m3, k3, rfl, h3, f3, g3, bw3⟩
    clear x_a_0 x_a_1 x_a_2 x_a_3 x_b_0 x_b_1 x_b_2 x_b_3
    have zbw3 := bw3.size
    replace ha := ha.below bw3
    replace hb := hb.below bw3
    replace hq := hq.below bw3
    replace BB := also BB bw3
    replace x_a := x_a.on bw3
    replace x_b := x_b.on bw3
    replace x_z := x_z.on bw3
    have ⟨x_z_0, x_z_1, x_z_2, x_z_3, x_z_4, x_z_5⟩ := x_z
    go_wp2
    exact bodyPost_ret (v := .tuple #[.agg #[.bool n3, .slice a3 l3 c3, .slice d3 m3 k3], .int .i64 0]) (by simp [results, Tryz.results68, go_sem, *]) rfl (endMk _ (by omega) BB h3 (f3.mono (by omega)) (g3.mono (by omega)) _ _ _)
  · obtain rfl : r = true := by rw [← hr2, ne_not hnm]; exact bne_not n
    obtain rfl : m = !n := ne_not hnm
    clear hr2 HR hnm
    obtain ⟨W, hW, bW, x_a, x_b, x_z, sW⟩ := bs_223 w (.bool n) (.slice a la ca) (.bool (!n)) (.slice b lb cb) (.bool false) (.slice none 0 0) (.slice none 0 0) 27 27 29
    have zbW := bW.size
    replace ha := ha.below bW
    replace hb := hb.below bW
    replace hq := hq.below bW
    have BB := bW
    go_enter Tryz.func68, Tryz.ntmps68
    go_wp2_with (go_at_call 93; fail)
    rw [← hW]
    clear hW
    refine (wSign (!n) b lb cb y W hb HS.out).mono ?_
    rintro e w1 ⟨rfl, bw1⟩
    have zbw1 := bw1.size
    replace ha := ha.below bw1
    replace hb := hb.below bw1
    replace hq := hq.below bw1
    replace BB := also BB bw1
    replace x_a := x_a.on bw1
    replace x_b := x_b.on bw1
    replace x_z := x_z.on bw1
    have ⟨x_a_0, x_a_1, x_a_2, x_a_3⟩ := x_a
    have ⟨x_b_0, x_b_1, x_b_2, x_b_3⟩ := x_b
    go_wp2_with (go_at_call 94; fail)
    refine (qLow true a la ca _ b lb cb _ w1 hq hb.ni hy N E HN.out HE.out).mono ?_
    rintro e w3 ⟨n3, a3, l3, c3, d3, m3, k3, rfl, h3, f3, g3, bw3⟩
    clear x_a_0 x_a_1 x_a_2 x_a_3 x_b_0 x_b_1 x_b_2 x_b_3
    have zbw3 := bw3.size
    replace ha := ha.below bw3
    replace hb := hb.below bw3
    replace hq := hq.below bw3
    replace BB := also BB bw3
    replace x_a := x_a.on bw3
    replace x_b := x_b.on bw3
    replace x_z := x_z.on bw3
    have ⟨x_z_0, x_z_1, x_z_2, x_z_3, x_z_4, x_z_5⟩ := x_z
    go_wp2
    exact bodyPost_ret (v := .tuple #[.agg #[.bool n3, .slice a3 l3 c3, .slice d3 m3 k3], .int .i64 0]) (by simp [results, Tryz.results68, go_sem, *]) rfl (endMk _ (by omega) BB h3 (f3.mono (by omega)) (g3.mono (by omega)) _ _ _)
end Go.Proofs.YtcaihoomcdbfnaaGreat

namespace Go.Proofs.YtcaihoomcdbfnaaGreat
open Go.RowKit
set_option linter.unusedVariables false

theorem gcd_half {X Y G : Nat} (h : Nat.gcd X Y = G) (hG : G % 2 = 1) (hX : X % 2 = 0) : Nat.gcd (X / 2) Y = G := by
  have hX2 : X = 2 * (X / 2) := by omega
  have hc : Nat.Coprime G 2 := by
    unfold Nat.Coprime
    rw [Nat.gcd_comm, Nat.gcd_rec, hG]
    decide
  have h1 : G ∣ X / 2 := by
    have : G ∣ 2 * (X / 2) := by rw [← hX2, ← h]; exact Nat.gcd_dvd_left X Y
    exact hc.dvd_of_dvd_mul_left this
  have h2 : G ∣ Y := by rw [← h]; exact Nat.gcd_dvd_right X Y
  refine Nat.dvd_antisymm ?_ (Nat.dvd_gcd h1 h2)
  rw [← h]
  exact Nat.dvd_gcd (Nat.dvd_trans (Nat.gcd_dvd_left _ _) ⟨2, by omega⟩) (Nat.gcd_dvd_right _ _)
theorem gcd_both {X Y : Nat} (hX : X % 2 = 0) (hY : Y % 2 = 0) : Nat.gcd X Y = Nat.gcd (X / 2) (Y / 2) * 2 := by
  have h1 : X = 2 * (X / 2) := by omega
  have h2 : Y = 2 * (Y / 2) := by omega
  conv => lhs; rw [h1, h2]
  rw [Nat.gcd_mul_left, Nat.mul_comm]
theorem gcd_odd {X Y : Nat} (h : ¬ (X % 2 = 0 ∧ Y % 2 = 0)) : Nat.gcd X Y % 2 = 1 := by
  rcases Nat.mod_two_eq_zero_or_one (Nat.gcd X Y) with e | e
  · exfalso
    have h2 : 2 ∣ Nat.gcd X Y := Nat.dvd_of_mod_eq_zero e
    exact h ⟨Nat.mod_eq_zero_of_dvd (Nat.dvd_trans h2 (Nat.gcd_dvd_left _ _)), Nat.mod_eq_zero_of_dvd (Nat.dvd_trans h2 (Nat.gcd_dvd_right _ _))⟩
  · exact e
theorem gcd_less {X Y : Nat} (h : Y ≤ X) : Nat.gcd (X - Y) Y = Nat.gcd X Y := by
  have e : X = X - Y + Y := by omega
  conv => rhs; rw [e]
  rw [Nat.gcd_add_self_left]
theorem mono_hf {u v : Nat} (h : u ≤ v) : hf.nlen u ≤ hf.nlen v := hf.nlen_le (Nat.lt_of_le_of_lt h (hf.nlen_lt v))
/-- The lowest digit tells whether a number is even. -/
theorem low_even (X : Nat) : hf.dg (X : Int) 0 % 2 = ((X % 2 : Nat) : Int) := by
  rw [hf.dg_nat, Nat.pow_zero, Nat.div_one]
  omega
/-- A number that isn't nought has a first digit. -/
theorem HD.first {w : World} {a : Option Addr} {l c u : Nat} (h : HD w a l c u) (hu : 0 < u) : 0 < l ∧ ∃ b o, a = some ⟨b, o, none⟩ ∧ w.cell? ⟨b, o, none⟩ = some (.int .i64 (hf.dg (u : Int) 0)) ∧ l ≤ 9223372036854775807 := by
  have hl : 0 < l := by rw [h.len]; exact hf.nlen_pos hu
  obtain ⟨b, o, e, hb, hs⟩ := h.sl.at hl
  have := h.sl.big
  have := h.sl.room
  unfold maxLen at *
  exact ⟨hl, b, o, e, by have := hs.cell 0 _ (hf.dcells_at _ _ _ hl); simpa using this, by omega⟩

/-- Both are halved: k is the first number. -/
def G1 (w : World) (u v : Nat) (k : Nat) (x y t : Value) (wr : World) : Prop := ∃ (a : Option Addr) (la ca : Nat) (b : Option Addr) (lb cb Y T : Nat), x = .slice a la ca ∧ y = .slice b lb cb ∧ t = .int .i64 (T : Int) ∧ HD wr a la ca k ∧ HD wr b lb cb Y ∧ 0 < k ∧ 0 < Y ∧ k * 2 ^ T ≤ u ∧ Y ≤ v ∧ Nat.gcd k Y * 2 ^ T = Nat.gcd u v ∧ Below w.heap.size w wr
/-- One is taken off the other. -/
def G2 (w : World) (u v G : Nat) (k : Nat) (x y : Value) (wr : World) : Prop := ∃ (a : Option Addr) (la ca : Nat) (b : Option Addr) (lb cb X Y : Nat), x = .slice a la ca ∧ y = .slice b lb cb ∧ HD wr a la ca X ∧ HD wr b lb cb Y ∧ X + Y = k ∧ 0 < Y ∧ k ≤ u + v ∧ Nat.gcd X Y = G ∧ Below w.heap.size w wr
/-- One is halved. -/
def G3 (w : World) (Y G M : Nat) (k : Nat) (x : Value) (wr : World) : Prop := ∃ (a : Option Addr) (la ca : Nat), x = .slice a la ca ∧ HD wr a la ca k ∧ 0 < k ∧ k ≤ M ∧ Nat.gcd k Y = G ∧ Below w.heap.size w wr
/-- Two is doubled. -/
def G5 (w : World) (T k : Nat) (one i : Value) (wr : World) : Prop := ∃ (a : Option Addr) (la ca I : Nat), one = .slice a la ca ∧ i = .int .i64 (I : Int) ∧ HD wr a la ca (2 ^ I) ∧ I + k = T ∧ Below w.heap.size w wr

set_option maxRecDepth 100000 in
set_option maxHeartbeats 4000000 in
theorem hGcd (a b : Option Addr) (la lb ca cb u v : Nat) (w : World) (ha : HD w a la ca u) (hb : HD w b lb cb v) (fu : hf.nlen (u + v) ≤ 1000000) :
    Calls Tryz.prog 65 #[.slice a la ca, .slice b lb cb] w (GotH w (Nat.gcd u v)) := by
  obtain ⟨g, hg⟩ : ∃ g, g = Nat.gcd u v := ⟨_, rfl⟩
  have hb0 : Below w.heap.size w (w.alloc (.cells #[.int .i64 1] 3)) := (Below.refl _ _).alloc (Nat.le_refl _) _
  have h1 : HD (w.alloc (.cells #[.int .i64 1] 3)) (some ⟨w.heap.size, 0, none⟩) 1 1 (2 ^ 0) := by
    have e : hf.dcells 1 ((2 ^ 0 : Nat) : Int) = [.int .i64 1] := by simp [hf.dcells, hf.dg]
    refine ⟨?_, (hf.nlen_eq ⟨by decide, Or.inr (by decide)⟩).symm⟩
    rw [e]
    exact Own.sl (World.ownsRow_lit w #[.int .i64 1] 1 (Nat.le_refl _) (by decide) rfl)
  have ha0 := ha.below hb0
  have hb0' := hb.below hb0
  obtain ⟨w0, hw0⟩ : ∃ w0, w0 = w.alloc (.cells #[.int .i64 1] 3) := ⟨_, rfl⟩
  rw [← hw0] at hb0 h1 ha0 hb0'
  have HG : Hid _ := hg.symm
  rw [← hg]
  clear hg ha hb
  rcases Nat.eq_zero_or_pos u with hu | hu
  · subst hu
    obtain rfl : la = 0 := by rw [ha0.len, hf.nlen_zero]
    obtain rfl : v = g := by have := HG.out; simpa using this
    go_enter Tryz.func65, Tryz.ntmps65
    go_wp2
    go_ret
    exact ⟨b, lb, cb, rfl, hw0 ▸ hb0', hw0 ▸ hb0⟩
  rcases Nat.eq_zero_or_pos v with hv | hv
  · subst hv
    obtain rfl : lb = 0 := by rw [hb0'.len, hf.nlen_zero]
    obtain rfl : u = g := by have := HG.out; simpa using this
    obtain ⟨hl, _⟩ := ha0.first hu
    have hl' : ¬ (la : Int) = 0 := by omega
    go_enter Tryz.func65, Tryz.ntmps65
    go_wp2
    go_ret
    exact ⟨a, la, ca, rfl, hw0 ▸ ha0, hw0 ▸ hb0⟩
  have hla : ¬ (la : Int) = 0 := by have := (ha0.first hu).1; omega
  have hlb : ¬ (lb : Int) = 0 := by have := (hb0'.first hv).1; omega
  have HST : Hid (G1 w0 u v u (.slice a la ca) (.slice b lb cb) (.int .i64 0) w0) := ⟨a, la, ca, b, lb, cb, v, 0, rfl, rfl, rfl, ha0, hb0', hu, hv, by simp, Nat.le_refl _, by simp, Below.refl _ _⟩
  clear ha0 hb0'
  have fu1 : ∀ x, x ≤ u + v → hf.nlen x ≤ 1000000 := fun x hx => Nat.le_trans (mono_hf hx) fu
  have FU : Hid _ := fu1
  obtain ⟨K, hK, hKu⟩ : ∃ K, K ≤ 16000000 ∧ u < 2 ^ K := by
    have h2 := hf.nlen_lt (u + v)
    rw [show (65536 : Nat) = 2 ^ 16 from rfl, ← Nat.pow_mul] at h2
    exact ⟨16 * hf.nlen (u + v), by omega, by omega⟩
  have HUB : Hid _ := hKu
  have H1 : Hid _ := h1
  clear hKu fu fu1 h1
  go_enter Tryz.func65, Tryz.ntmps65
  go_wp2
  rw [← hw0]
  simp only [show ((la : Int) == 0) = false by simpa using hla, show ((lb : Int) == 0) = false by simpa using hlb]
  clear hw0
  go_loopg [6, 7, 8] u (fun k x y t wr => G1 w0 u v k x y t wr)
  case atStart => exact HST.out
  case round =>
    clear HST hla hlb
    obtain ⟨a, la, ca, b, lb, cb, Y, T, rfl, rfl, rfl, ha, hb, hX0, hY0, hXu, hYv, hgg, hbel⟩ := hrel
    have hT : T < K := by
      refine Nat.lt_of_not_le fun h => ?_
      have h2 := Nat.pow_le_pow_right (n := 2) (by decide) h
      have h3 : 1 * 2 ^ T ≤ gk * 2 ^ T := Nat.mul_le_mul_right _ hX0
      have := HUB.out
      omega
    have hXu' : gk ≤ u := Nat.le_trans (Nat.le_mul_of_pos_right _ (Nat.pow_pos (by decide))) hXu
    have hPu : 2 ^ T ≤ u := Nat.le_trans (Nat.le_mul_of_pos_left _ hX0) hXu
    obtain ⟨hl, ba, oa, rfl, c0, hlm⟩ := ha.first hX0
    obtain ⟨hl2, bb, ob, rfl, c1, hlm2⟩ := hb.first hY0
    have hl' : (0 : Int) < la := by omega
    have hl2' : (0 : Int) < lb := by omega
    obtain ⟨p, hp⟩ : ∃ p, p = hf.dg (gk : Int) 0 := ⟨_, rfl⟩
    obtain ⟨q, hq⟩ : ∃ q, q = hf.dg (Y : Int) 0 := ⟨_, rfl⟩
    have ep := low_even gk
    have eq := low_even Y
    have rp := hf.dg_range (gk : Int) 0
    have rq := hf.dg_range (Y : Int) 0
    rw [← hp] at c0 ep rp
    rw [← hq] at c1 eq rq
    obtain ⟨rp0, rp1⟩ := rp
    obtain ⟨rq0, rq1⟩ := rq
    have HGG : Hid _ := hgg
    have HXU : Hid _ := hXu
    have HPU : Hid _ := hPu
    clear hp hq hgg hXu hPu
    by_cases hx : gk % 2 = 0
    · rw [hx] at ep
      replace ep : p % 2 = 0 := ep
      by_cases hy : Y % 2 = 0
      · rw [hy] at eq
        replace eq : q % 2 = 0 := eq
        clear hlm hlm2
        go_wp2_with (go_at_call 92; fail)
        refine (hHalf _ la ca gk wr ha (FU.out _ (by omega))).mono ?_
        rintro e w3 ⟨a3, la3, ca3, rfl, ha3, hb3⟩
        go_wp2_with (go_at_call 92; fail)
        refine (hHalf _ lb cb Y w3 (hb.below hb3) (FU.out _ (by omega))).mono ?_
        rintro e w4 ⟨a4, la4, ca4, rfl, ha4, hb4⟩
        go_wp2
        go_roundg (gk / 2)
        case measure => omega
        case rel =>
          refine ⟨a3, la3, ca3, a4, la4, ca4, Y / 2, T + 1, rfl, rfl, by simp, ha3.below hb4, ha4, by omega, by omega, ?_, by omega, ?_, hbel.trans ((hb3.trans (hb4.mono hb3.size)).mono hbel.size)⟩
          · have := HXU.out
            rw [Nat.pow_succ, Nat.mul_comm (2 ^ T), ← Nat.mul_assoc, show gk / 2 * 2 = gk by omega]
            exact this
          · rw [Nat.pow_succ, Nat.mul_comm (2 ^ T), ← Nat.mul_assoc, ← gcd_both hx hy]
            exact HGG.out
      · replace eq : q % 2 = 1 := by rw [eq]; omega
        have hne : ¬ (gk % 2 = 0 ∧ Y % 2 = 0) := by omega
        have hodd := gcd_odd hne
        obtain ⟨G, hG⟩ : ∃ G, G = Nat.gcd gk Y := ⟨_, rfl⟩
        rw [← hG] at hodd
        have HO : Hid _ := hodd
        have HT : Hid (G * 2 ^ T = g) := by unfold Hid; rw [hG, HGG.out]; exact HG.out
        have HST : Hid (G2 w0 u v G (gk + Y) (.slice (some ⟨ba, oa, none⟩) la ca) (.slice (some ⟨bb, ob, none⟩) lb cb) wr) := ⟨_, la, ca, _, lb, cb, gk, Y, rfl, rfl, ha, hb, rfl, hY0, by omega, hG.symm, hbel⟩
        clear hG hodd hne HGG HXU hlm hlm2
        go_wp2
        clear c0 c1 ha hb hbel hl hl2 hl' hl2' ep eq rp0 rp1 rq0 rq1
        go_loopg [6, 7] (gk + Y) (fun k x y wr => G2 w0 u v G k x y wr)
        case atStart => exact HST.out
        case round =>
          clear HST hX0 hY0 hXu' hYv
          obtain ⟨a, la, ca, b, lb, cb, X, Y, rfl, rfl, ha, hb, hk, hY0, hku, hgc, hbel⟩ := hrel
          subst hk

          rcases Nat.eq_zero_or_pos X with hX0 | hX0
          · subst hX0
            obtain rfl : la = 0 := by rw [ha.len, hf.nlen_zero]
            obtain rfl : Y = G := by simpa using hgc
            have h1 := H1.out.below hbel
            have HST : Hid (G5 wr T T (.slice (some ⟨w.heap.size, 0, none⟩) 1 1) (.int .i64 0) wr) := ⟨_, 1, 1, 0, rfl, rfl, h1, by omega, Below.refl _ _⟩
            clear h1 hgc
            go_wp2
            go_loopg [5, 9] T (fun k one i wr' => G5 wr T k one i wr')
            case atStart => exact HST.out
            case round =>
              clear HST
              obtain ⟨a5, l5, c5, I, rfl, rfl, h5, hI, hb5⟩ := hrel
              rcases Nat.eq_zero_or_pos gk with h0 | h0
              · subst h0
                obtain rfl : I = T := by omega
                have HP : Hid _ := h5
                obtain ⟨P, hP⟩ : ∃ P, P = 2 ^ I := ⟨_, rfl⟩
                have h5 : HD _ a5 l5 c5 P := hP ▸ h5
                have hPu : P ≤ u := hP ▸ HPU.out
                have HT' : Hid (Y * P = g) := by rw [hP]; exact HT.out
                clear hP HP HPU HT
                go_wp2_with (go_at_call 83; fail)
                have H := hMul b a5 lb l5 cb c5 Y P _ (hb.below hb5) h5 (FU.out _ (by omega)) (FU.out _ (by omega))
                rw [HT'.out] at H
                refine H.mono ?_
                rintro e w9 ⟨a9, l9, c9, rfl, h9, hb9⟩
                go_wp2
                go_ret
                have B1 := hb0.trans (hbel.mono hb0.size)
                have B2 := B1.trans (hb5.mono B1.size)
                exact ⟨a9, l9, c9, rfl, h9, B2.trans (hb9.mono B2.size)⟩
              · have hlt : (I : Int) < T := by omega
                have hIT : 2 ^ I ≤ u := Nat.le_trans (Nat.pow_le_pow_right (by decide) (by omega)) HPU.out
                obtain ⟨P, hP⟩ : ∃ P, P = 2 ^ I := ⟨_, rfl⟩
                rw [← hP] at h5 hIT
                have HP : Hid (P + P = 2 ^ (I + 1)) := by unfold Hid; rw [hP, Nat.pow_succ]; omega
                clear hP
                go_wp2_with (go_at_call 79; fail)
                refine (hAdd a5 a5 l5 l5 c5 c5 P P _ h5 h5 (FU.out _ (by omega)) (FU.out _ (by omega))).mono ?_
                rw [HP.out]
                rintro e w9 ⟨a9, l9, c9, rfl, h9, hb9⟩
                go_wp2
                go_roundg (gk - 1)
                case measure => omega
                case rel => exact ⟨a9, l9, c9, I + 1, rfl, by simp, h9, by omega, hb5.trans (hb9.mono hb5.size)⟩
          · have hl : 0 < la := (ha.first hX0).1
            have hl' : (0 : Int) < la := by omega
            have HST : Hid (G3 wr Y G X X (.slice a la ca) wr) := ⟨a, la, ca, rfl, ha, hX0, Nat.le_refl _, hgc, Below.refl _ _⟩
            clear ha hgc
            go_wp2
            go_loopg [6] X (fun k x wr' => G3 wr Y G X k x wr')
            case atStart => exact HST.out
            case round =>
              clear HST hl hl'
              obtain ⟨a, la, ca, rfl, ha, hk0, hkX, hgc, hb3⟩ := hrel
              have k3e : True := trivial
              obtain ⟨hl, ba, oa, rfl, c0, hlm⟩ := ha.first hk0
              have hl' : (0 : Int) < la := by omega
              obtain ⟨p, hp⟩ : ∃ p, p = hf.dg (gk : Int) 0 := ⟨_, rfl⟩
              have ep := low_even gk
              have rp := hf.dg_range (gk : Int) 0
              rw [← hp] at c0 ep rp
              obtain ⟨rp0, rp1⟩ := rp
              clear hp hlm
              by_cases hx : gk % 2 = 0
              · rw [hx] at ep
                replace ep : p % 2 = 0 := ep
                have HGC : Hid _ := gcd_half hgc HO.out hx
                clear hgc
                go_wp2_with (go_at_call 92; fail)
                refine (hHalf _ la ca gk _ ha (FU.out _ (by omega))).mono ?_
                rintro e w4 ⟨a4, la4, ca4, rfl, ha4, hb4⟩
                go_wp2
                go_roundg (gk / 2)
                case measure => omega
                case rel => exact ⟨a4, la4, ca4, rfl, ha4, by omega, by omega, HGC.out, hb3.trans (hb4.mono hb3.size)⟩
              · replace ep : p % 2 = 1 := by rw [ep]; omega
                have hb3' := hb.below hb3
                have hl2 : 0 < lb := (hb.first hY0).1
                have hl2' : (0 : Int) < lb := by omega
                obtain ⟨X3, hX3⟩ : ∃ X3, X3 = gk := ⟨_, rfl⟩
                rw [← hX3] at ha hk0 hkX hgc
                have HST : Hid (G3 wr X3 G Y Y (.slice b lb cb) wr) := ⟨b, lb, cb, rfl, hb3', hY0, Nat.le_refl _, by rw [Nat.gcd_comm]; exact hgc, Below.refl _ _⟩
                clear hgc hb hb3' hl2 hX3
                go_wp2
                clear c0 hl hl' ep rp0 rp1 hl2'
                go_loopg [7] Y (fun k y wr' => G3 wr X3 G Y k y wr')
                case atStart => exact HST.out
                case round =>
                  clear HST
                  obtain ⟨b, lb, cb, rfl, hb, hj0, hjY, hgc, hb4⟩ := hrel
                  obtain ⟨hl, bb, ob, rfl, c0, hlm⟩ := hb.first hj0
                  have hl' : (0 : Int) < lb := by omega
                  obtain ⟨q, hq⟩ : ∃ q, q = hf.dg (gk : Int) 0 := ⟨_, rfl⟩
                  have eq := low_even gk
                  have rq := hf.dg_range (gk : Int) 0
                  rw [← hq] at c0 eq rq
                  obtain ⟨rq0, rq1⟩ := rq
                  clear hq hlm
                  by_cases hy : gk % 2 = 0
                  · rw [hy] at eq
                    replace eq : q % 2 = 0 := eq
                    have HGC : Hid _ := gcd_half hgc HO.out hy
                    clear hgc
                    go_wp2_with (go_at_call 92; fail)
                    refine (hHalf _ lb cb gk _ hb (FU.out _ (by omega))).mono ?_
                    rintro e w5 ⟨a5, la5, ca5, rfl, ha5, hb5⟩
                    go_wp2
                    go_roundg (gk / 2)
                    case measure => omega
                    case rel => exact ⟨a5, la5, ca5, rfl, ha5, by omega, by omega, HGC.out, hb4.trans (hb5.mono hb4.size)⟩
                  · replace eq : q % 2 = 1 := by rw [eq]; omega
                    have ha4 := ha.below hb4
                    have B1 := hbel.trans (hb3.mono hbel.size)
                    have B2 := B1.trans (hb4.mono B1.size)
                    obtain ⟨c, hc⟩ : ∃ c, c = cmpI (X3 : Int) gk := ⟨_, rfl⟩
                    have HC : Hid _ := hc
                    have HGC : Hid _ := hgc
                    rcases Nat.lt_or_ge X3 gk with hlt | hge
                    · have hc0 : c < 0 := by rw [hc]; unfold cmpI; rw [if_pos (by omega)]; decide
                      clear hc hgc
                      go_wp2_with (go_at_call 80; fail)
                      refine (hCmp _ _ la lb ca cb X3 gk _ ha4 hb HC.out).mono ?_
                      rintro e w5 ⟨rfl, hb5⟩
                      go_wp2_with (go_at_call 82; fail)
                      refine (hSub _ _ lb la cb ca gk X3 _ (hb.below hb5) (ha4.below hb5) (FU.out _ (by omega)) (FU.out _ (by omega)) (by omega)).mono ?_
                      rintro e w6 ⟨a6, l6, c6, rfl, h6, hb6⟩
                      go_wp2
                      go_roundg gk
                      case measure => omega
                      case rel => exact ⟨a6, l6, c6, _, la, ca, gk - X3, X3, rfl, rfl, h6, (ha4.below hb5).below hb6, by omega, hk0, by omega, by rw [gcd_less (by omega)]; exact HGC.out, B2.trans ((hb5.trans (hb6.mono hb5.size)).mono B2.size)⟩
                    · have hc0 : ¬ c < 0 := by rw [hc]; unfold cmpI; rw [if_neg (by omega)]; split <;> decide
                      clear hc hgc
                      go_wp2_with (go_at_call 80; fail)
                      refine (hCmp _ _ la lb ca cb X3 gk _ ha4 hb HC.out).mono ?_
                      rintro e w5 ⟨rfl, hb5⟩
                      go_wp2_with (go_at_call 82; fail)
                      refine (hSub _ _ la lb ca cb X3 gk _ (ha4.below hb5) (hb.below hb5) (FU.out _ (by omega)) (FU.out _ (by omega)) (by omega)).mono ?_
                      rintro e w6 ⟨a6, l6, c6, rfl, h6, hb6⟩
                      go_wp2
                      go_roundg X3
                      case measure => omega
                      case rel => exact ⟨a6, l6, c6, _, lb, cb, X3 - gk, gk, rfl, rfl, h6, (hb.below hb5).below hb6, by omega, hj0, by omega, by rw [gcd_less (by omega), Nat.gcd_comm]; exact HGC.out, B2.trans ((hb5.trans (hb6.mono hb5.size)).mono B2.size)⟩
    · replace ep : p % 2 = 1 := by rw [ep]; omega
      have hne : ¬ (gk % 2 = 0 ∧ Y % 2 = 0) := by omega
      have hodd := gcd_odd hne
      obtain ⟨G, hG⟩ : ∃ G, G = Nat.gcd gk Y := ⟨_, rfl⟩
      rw [← hG] at hodd
      have HO : Hid _ := hodd
      have HT : Hid (G * 2 ^ T = g) := by unfold Hid; rw [hG, HGG.out]; exact HG.out
      have HST : Hid (G2 w0 u v G (gk + Y) (.slice (some ⟨ba, oa, none⟩) la ca) (.slice (some ⟨bb, ob, none⟩) lb cb) wr) := ⟨_, la, ca, _, lb, cb, gk, Y, rfl, rfl, ha, hb, rfl, hY0, by omega, hG.symm, hbel⟩
      clear hG hodd hne HGG HXU hlm hlm2
      go_wp2
      clear c0 c1 ha hb hbel hl hl2 hl' hl2' ep eq rp0 rp1 rq0 rq1
      go_loopg [6, 7] (gk + Y) (fun k x y wr => G2 w0 u v G k x y wr)
      case atStart => exact HST.out
      case round =>
        clear HST hX0 hY0 hXu' hYv
        obtain ⟨a, la, ca, b, lb, cb, X, Y, rfl, rfl, ha, hb, hk, hY0, hku, hgc, hbel⟩ := hrel
        subst hk

        rcases Nat.eq_zero_or_pos X with hX0 | hX0
        · subst hX0
          obtain rfl : la = 0 := by rw [ha.len, hf.nlen_zero]
          obtain rfl : Y = G := by simpa using hgc
          have h1 := H1.out.below hbel
          have HST : Hid (G5 wr T T (.slice (some ⟨w.heap.size, 0, none⟩) 1 1) (.int .i64 0) wr) := ⟨_, 1, 1, 0, rfl, rfl, h1, by omega, Below.refl _ _⟩
          clear h1 hgc
          go_wp2
          go_loopg [5, 9] T (fun k one i wr' => G5 wr T k one i wr')
          case atStart => exact HST.out
          case round =>
            clear HST
            obtain ⟨a5, l5, c5, I, rfl, rfl, h5, hI, hb5⟩ := hrel
            rcases Nat.eq_zero_or_pos gk with h0 | h0
            · subst h0
              obtain rfl : I = T := by omega
              have HP : Hid _ := h5
              obtain ⟨P, hP⟩ : ∃ P, P = 2 ^ I := ⟨_, rfl⟩
              have h5 : HD _ a5 l5 c5 P := hP ▸ h5
              have hPu : P ≤ u := hP ▸ HPU.out
              have HT' : Hid (Y * P = g) := by rw [hP]; exact HT.out
              clear hP HP HPU HT
              go_wp2_with (go_at_call 83; fail)
              have H := hMul b a5 lb l5 cb c5 Y P _ (hb.below hb5) h5 (FU.out _ (by omega)) (FU.out _ (by omega))
              rw [HT'.out] at H
              refine H.mono ?_
              rintro e w9 ⟨a9, l9, c9, rfl, h9, hb9⟩
              go_wp2
              go_ret
              have B1 := hb0.trans (hbel.mono hb0.size)
              have B2 := B1.trans (hb5.mono B1.size)
              exact ⟨a9, l9, c9, rfl, h9, B2.trans (hb9.mono B2.size)⟩
            · have hlt : (I : Int) < T := by omega
              have hIT : 2 ^ I ≤ u := Nat.le_trans (Nat.pow_le_pow_right (by decide) (by omega)) HPU.out
              obtain ⟨P, hP⟩ : ∃ P, P = 2 ^ I := ⟨_, rfl⟩
              rw [← hP] at h5 hIT
              have HP : Hid (P + P = 2 ^ (I + 1)) := by unfold Hid; rw [hP, Nat.pow_succ]; omega
              clear hP
              go_wp2_with (go_at_call 79; fail)
              refine (hAdd a5 a5 l5 l5 c5 c5 P P _ h5 h5 (FU.out _ (by omega)) (FU.out _ (by omega))).mono ?_
              rw [HP.out]
              rintro e w9 ⟨a9, l9, c9, rfl, h9, hb9⟩
              go_wp2
              go_roundg (gk - 1)
              case measure => omega
              case rel => exact ⟨a9, l9, c9, I + 1, rfl, by simp, h9, by omega, hb5.trans (hb9.mono hb5.size)⟩
        · have hl : 0 < la := (ha.first hX0).1
          have hl' : (0 : Int) < la := by omega
          have HST : Hid (G3 wr Y G X X (.slice a la ca) wr) := ⟨a, la, ca, rfl, ha, hX0, Nat.le_refl _, hgc, Below.refl _ _⟩
          clear ha hgc
          go_wp2
          go_loopg [6] X (fun k x wr' => G3 wr Y G X k x wr')
          case atStart => exact HST.out
          case round =>
            clear HST hl hl'
            obtain ⟨a, la, ca, rfl, ha, hk0, hkX, hgc, hb3⟩ := hrel
            have k3e : True := trivial
            obtain ⟨hl, ba, oa, rfl, c0, hlm⟩ := ha.first hk0
            have hl' : (0 : Int) < la := by omega
            obtain ⟨p, hp⟩ : ∃ p, p = hf.dg (gk : Int) 0 := ⟨_, rfl⟩
            have ep := low_even gk
            have rp := hf.dg_range (gk : Int) 0
            rw [← hp] at c0 ep rp
            obtain ⟨rp0, rp1⟩ := rp
            clear hp hlm
            by_cases hx : gk % 2 = 0
            · rw [hx] at ep
              replace ep : p % 2 = 0 := ep
              have HGC : Hid _ := gcd_half hgc HO.out hx
              clear hgc
              go_wp2_with (go_at_call 92; fail)
              refine (hHalf _ la ca gk _ ha (FU.out _ (by omega))).mono ?_
              rintro e w4 ⟨a4, la4, ca4, rfl, ha4, hb4⟩
              go_wp2
              go_roundg (gk / 2)
              case measure => omega
              case rel => exact ⟨a4, la4, ca4, rfl, ha4, by omega, by omega, HGC.out, hb3.trans (hb4.mono hb3.size)⟩
            · replace ep : p % 2 = 1 := by rw [ep]; omega
              have hb3' := hb.below hb3
              have hl2 : 0 < lb := (hb.first hY0).1
              have hl2' : (0 : Int) < lb := by omega
              obtain ⟨X3, hX3⟩ : ∃ X3, X3 = gk := ⟨_, rfl⟩
              rw [← hX3] at ha hk0 hkX hgc
              have HST : Hid (G3 wr X3 G Y Y (.slice b lb cb) wr) := ⟨b, lb, cb, rfl, hb3', hY0, Nat.le_refl _, by rw [Nat.gcd_comm]; exact hgc, Below.refl _ _⟩
              clear hgc hb hb3' hl2 hX3
              go_wp2
              clear c0 hl hl' ep rp0 rp1 hl2'
              go_loopg [7] Y (fun k y wr' => G3 wr X3 G Y k y wr')
              case atStart => exact HST.out
              case round =>
                clear HST
                obtain ⟨b, lb, cb, rfl, hb, hj0, hjY, hgc, hb4⟩ := hrel
                obtain ⟨hl, bb, ob, rfl, c0, hlm⟩ := hb.first hj0
                have hl' : (0 : Int) < lb := by omega
                obtain ⟨q, hq⟩ : ∃ q, q = hf.dg (gk : Int) 0 := ⟨_, rfl⟩
                have eq := low_even gk
                have rq := hf.dg_range (gk : Int) 0
                rw [← hq] at c0 eq rq
                obtain ⟨rq0, rq1⟩ := rq
                clear hq hlm
                by_cases hy : gk % 2 = 0
                · rw [hy] at eq
                  replace eq : q % 2 = 0 := eq
                  have HGC : Hid _ := gcd_half hgc HO.out hy
                  clear hgc
                  go_wp2_with (go_at_call 92; fail)
                  refine (hHalf _ lb cb gk _ hb (FU.out _ (by omega))).mono ?_
                  rintro e w5 ⟨a5, la5, ca5, rfl, ha5, hb5⟩
                  go_wp2
                  go_roundg (gk / 2)
                  case measure => omega
                  case rel => exact ⟨a5, la5, ca5, rfl, ha5, by omega, by omega, HGC.out, hb4.trans (hb5.mono hb4.size)⟩
                · replace eq : q % 2 = 1 := by rw [eq]; omega
                  have ha4 := ha.below hb4
                  have B1 := hbel.trans (hb3.mono hbel.size)
                  have B2 := B1.trans (hb4.mono B1.size)
                  obtain ⟨c, hc⟩ : ∃ c, c = cmpI (X3 : Int) gk := ⟨_, rfl⟩
                  have HC : Hid _ := hc
                  have HGC : Hid _ := hgc
                  rcases Nat.lt_or_ge X3 gk with hlt | hge
                  · have hc0 : c < 0 := by rw [hc]; unfold cmpI; rw [if_pos (by omega)]; decide
                    clear hc hgc
                    go_wp2_with (go_at_call 80; fail)
                    refine (hCmp _ _ la lb ca cb X3 gk _ ha4 hb HC.out).mono ?_
                    rintro e w5 ⟨rfl, hb5⟩
                    go_wp2_with (go_at_call 82; fail)
                    refine (hSub _ _ lb la cb ca gk X3 _ (hb.below hb5) (ha4.below hb5) (FU.out _ (by omega)) (FU.out _ (by omega)) (by omega)).mono ?_
                    rintro e w6 ⟨a6, l6, c6, rfl, h6, hb6⟩
                    go_wp2
                    go_roundg gk
                    case measure => omega
                    case rel => exact ⟨a6, l6, c6, _, la, ca, gk - X3, X3, rfl, rfl, h6, (ha4.below hb5).below hb6, by omega, hk0, by omega, by rw [gcd_less (by omega)]; exact HGC.out, B2.trans ((hb5.trans (hb6.mono hb5.size)).mono B2.size)⟩
                  · have hc0 : ¬ c < 0 := by rw [hc]; unfold cmpI; rw [if_neg (by omega)]; split <;> decide
                    clear hc hgc
                    go_wp2_with (go_at_call 80; fail)
                    refine (hCmp _ _ la lb ca cb X3 gk _ ha4 hb HC.out).mono ?_
                    rintro e w5 ⟨rfl, hb5⟩
                    go_wp2_with (go_at_call 82; fail)
                    refine (hSub _ _ la lb ca cb X3 gk _ (ha4.below hb5) (hb.below hb5) (FU.out _ (by omega)) (FU.out _ (by omega)) (by omega)).mono ?_
                    rintro e w6 ⟨a6, l6, c6, rfl, h6, hb6⟩
                    go_wp2
                    go_roundg X3
                    case measure => omega
                    case rel => exact ⟨a6, l6, c6, _, lb, cb, X3 - gk, gk, rfl, rfl, h6, (hb.below hb5).below hb6, by omega, hj0, by omega, by rw [gcd_less (by omega), Nat.gcd_comm]; exact HGC.out, B2.trans ((hb5.trans (hb6.mono hb5.size)).mono B2.size)⟩
end Go.Proofs.YtcaihoomcdbfnaaGreat

namespace Go.Proofs.YtcaihoomcdbfnaaGreat
open Go.RowKit
set_option linter.unusedVariables false

/-- The reference's fraction. -/
structure RQ (w : World) (K : Nat) (s : Int) (d : Option Addr) (l c : Nat) (t : Int) (g : Option Addr) (h k : Nat) (N : Int) (D : Nat) : Prop where
  rn : RN w s d l c N
  rd : RN w t g h k (D : Int)
  dp : 0 < D
  ns : N.natAbs < 4294967296 ^ K
  ds : D < 4294967296 ^ K
  kk : K ≤ 10000
theorem RQ.below {w w' : World} {K : Nat} {s : Int} {d : Option Addr} {l c : Nat} {t : Int} {g : Option Addr} {h k : Nat} {N : Int} {D : Nat} (q : RQ w K s d l c t g h k N D) (hb : Below w.heap.size w w') : RQ w' K s d l c t g h k N D := ⟨q.rn.below hb, q.rd.below hb, q.dp, q.ns, q.ds, q.kk⟩
theorem RQ.more {w : World} {K L : Nat} {s : Int} {d : Option Addr} {l c : Nat} {t : Int} {g : Option Addr} {h k : Nat} {N : Int} {D : Nat} (q : RQ w K s d l c t g h k N D) (hL : K ≤ L) (kk : L ≤ 10000) : RQ w L s d l c t g h k N D :=
  ⟨q.rn, q.rd, q.dp, Nat.lt_of_lt_of_le q.ns (Nat.pow_le_pow_right (by decide) hL), Nat.lt_of_lt_of_le q.ds (Nat.pow_le_pow_right (by decide) hL), kk⟩
theorem RQ.fn {w : World} {K : Nat} {s : Int} {d : Option Addr} {l c : Nat} {t : Int} {g : Option Addr} {h k : Nat} {N : Int} {D : Nat} (q : RQ w K s d l c t g h k N D) : hf.nlen N.natAbs ≤ 1000000 := hfew q.ns (by have := q.kk; omega)
theorem RQ.fd {w : World} {K : Nat} {s : Int} {d : Option Addr} {l c : Nat} {t : Int} {g : Option Addr} {h k : Nat} {N : Int} {D : Nat} (q : RQ w K s d l c t g h k N D) : hf.nlen ((D : Nat) : Int).natAbs ≤ 1000000 := by rw [Int.natAbs_natCast]; exact hfew q.ds (by have := q.kk; omega)
theorem RN.put4 {w : World} {s : Int} {d : Option Addr} {l c b : Nat} {z : Int} (h : RN w s d l c z) (hn : NA b d l) (x y u v : Value) : RN ((((w.setCell ⟨b, 0, none⟩ x).setCell ⟨b, 1, none⟩ y).setCell ⟨b, 2, none⟩ u).setCell ⟨b, 3, none⟩ v) s d l c z := ((((h.put hn 0 x).put hn 1 y).put hn 2 u).put hn 3 v)
def GotRQ (w : World) (P : Nat → Prop) (K : Nat) (N : Int) (D : Nat) (e : Ending) (w' : World) : Prop := ∃ (s : Int) (d : Option Addr) (l c : Nat) (t : Int) (g : Option Addr) (h k : Nat), e = .returned (.agg #[.int .i64 s, .slice d l c, .int .i64 t, .slice g h k]) ∧ RQ w' K s d l c t g h k N D ∧ (∀ j, j < w.heap.size → P j → NA j d l ∧ NA j g h) ∧ Below w.heap.size w w'
theorem endRQ {w w2 : World} {P : Nat → Prop} {K : Nat} {s : Int} {d : Option Addr} {l c : Nat} {t : Int} {g : Option Addr} {h k : Nat} {N : Int} {D : Nat} (b : Nat) (hb : w.heap.size ≤ b) (B : Below w.heap.size w w2) (q : RQ w2 K s d l c t g h k N D) (n1 : NA b d l) (n2 : NA b g h) (hf : ∀ j, j < w.heap.size → P j → NA j d l ∧ NA j g h) (x y u v : Value) :
    GotRQ w P K N D (.returned (.agg #[.int .i64 s, .slice d l c, .int .i64 t, .slice g h k])) ((((w2.setCell ⟨b, 0, none⟩ x).setCell ⟨b, 1, none⟩ y).setCell ⟨b, 2, none⟩ u).setCell ⟨b, 3, none⟩ v) :=
  ⟨s, d, l, c, t, g, h, k, rfl, ⟨q.rn.put4 n1 x y u v, q.rd.put4 n2 x y u v, q.dp, q.ns, q.ds, q.kk⟩, hf, below_put4 B hb x y u v⟩
theorem rn_nat {w : World} {d : Option Addr} {l c u : Nat} (h : HD w d l c u) (h0 : 0 < u) : RN w 1 d l c (u : Int) := ⟨by rw [Int.natAbs_natCast]; exact h, (sign_pos (by omega)).symm⟩
set_option maxRecDepth 100000 in
set_option maxHeartbeats 1000000 in
theorem rqOf (n : Bool) (a : Option Addr) (la ca : Nat) (d : Option Addr) (ld cd : Nat) (za : Int) (Da K : Nat) (w : World) (ha : QI w K n a la ca d ld cd za Da) :
    Calls Tryz.prog 16 #[.agg #[.bool n, .slice a la ca, .slice d ld cd]] w (GotRQ w (fun _ => True) K (pN za Da) (pD Da)) := by
  have hpn := ha.pn
  have hpd := ha.pd
  have hk := ha.kk
  obtain ⟨W, hW, bW, x_a, x_z, sW⟩ := bs_34 w (.bool n) (.slice a la ca) (.slice d ld cd) (.int .i64 0) (.slice none 0 0) (.int .i64 0) (.slice none 0 0) 29 41
  have zbW := bW.size
  replace ha := ha.below bW
  have BB := bW
  go_enter Tryz.func16, Tryz.ntmps16
  go_wp2_with (go_at_call 38; fail)
  rw [← hW]
  clear hW
  refine (hfOf d ld cd _ W ha.ni).mono ?_
  rintro e w1 ⟨d1, l1, c1, rfl, h1, f1, bw1⟩
  have zbw1 := bw1.size
  replace ha := ha.below bw1
  replace BB := also BB bw1
  replace x_a := x_a.on bw1
  replace x_z := x_z.on bw1
  by_cases h0 : Da = 0
  · obtain rfl : l1 = 0 := h1.pos.2 h0
    subst h0
    go_wp2_with (go_at_call 37; fail)
    refine (rwLong 1 w1 (by decide) (by decide)).mono ?_
    rintro e w2 ⟨s2, d2, l2, c2, rfl, h2, f2, bw2⟩
    have zbw2 := bw2.size
    replace ha := ha.below bw2
    replace BB := also BB bw2
    replace x_a := x_a.on bw2
    replace x_z := x_z.on bw2
    replace h1 := h1.below bw2
    have ⟨x_z_0, x_z_1, x_z_2, x_z_3, x_z_4, x_z_5, x_z_6, x_z_7⟩ := x_z
    go_wp2
    exact bodyPost_ret (v := .agg #[.int .i64 0, .slice none 0 0, .int .i64 s2, .slice d2 l2 c2]) (by simp [results, Tryz.results16, go_sem, *]) rfl (endRQ _ (by omega) BB ⟨rn_zero _ 0, h2, by decide, hpn, hpd, hk⟩ (Or.inl rfl) (f2 _ (by omega) trivial) (fun j hj _ => ⟨Or.inl rfl, f2 j (by omega) trivial⟩) _ _ _ _)
  · have hl : ¬ (l1 : Int) = 0 := by have := h1.pos; omega
    have ez : pN za Da = za := if_neg h0
    have eD : pD Da = Da := if_neg h0
    rw [ez] at hpn
    rw [eD] at hpd
    have hl1 := f1
    have ⟨x_a_0, x_a_1, x_a_2, x_a_3, x_a_4, x_a_5⟩ := x_a
    go_wp2_with (go_at_call 39; fail)
    refine (rwOf n a la ca za w1 ha.wi).mono ?_
    rintro e w2 ⟨s2, d2, l2, c2, rfl, h2, f2, bw2⟩
    clear x_a_0 x_a_1 x_a_2 x_a_3 x_a_4 x_a_5
    have zbw2 := bw2.size
    replace ha := ha.below bw2
    replace BB := also BB bw2
    replace x_a := x_a.on bw2
    replace x_z := x_z.on bw2
    replace h1 := h1.below bw2
    have ⟨x_z_0, x_z_1, x_z_2, x_z_3, x_z_4, x_z_5, x_z_6, x_z_7⟩ := x_z
    go_wp2
    exact bodyPost_ret (v := .agg #[.int .i64 s2, .slice d2 l2 c2, .int .i64 1, .slice d1 l1 c1]) (by simp [results, Tryz.results16, go_sem, *]) rfl (by rw [ez, eD]; exact endRQ _ (by omega) BB ⟨h2, rn_nat h1 (by omega), by omega, hpn, hpd, hk⟩ (f2 _ (by omega) trivial) (f1 _ (by omega)) (fun j hj _ => ⟨f2 j (by omega) trivial, f1 j (by omega)⟩) _ _ _ _)
set_option maxRecDepth 100000 in
set_option maxHeartbeats 1000000 in
theorem rqLong (x : Int) (w : World) (h1 : -9223372036854775808 ≤ x) (h2 : x ≤ 9223372036854775807) : Calls Tryz.prog 15 #[.int .i64 x] w (GotRQ w (fun _ => True) 2 x 1) := by
  have HX1 : Hid _ := h1
  have HX2 : Hid _ := h2
  have HX3 : Hid (x.natAbs < 4294967296 ^ 2) := by unfold Hid; omega
  clear h1 h2
  obtain ⟨W, hW, bW, x_z, sW⟩ := bs_4 w (.int .i64 0) (.slice none 0 0) (.int .i64 0) (.slice none 0 0) 41
  have zbW := bW.size
  have BB := bW
  go_enter Tryz.func15, Tryz.ntmps15
  go_wp2_with (go_at_call 37; fail)
  rw [← hW]
  clear hW
  refine (rwLong x W HX1.out HX2.out).mono ?_
  rintro e w1 ⟨s1, d1, l1, c1, rfl, h1, f1, bw1⟩
  have zbw1 := bw1.size
  replace BB := also BB bw1
  replace x_z := x_z.on bw1
  go_wp2_with (go_at_call 37; fail)
  refine (rwLong 1 w1 (by decide) (by decide)).mono ?_
  rintro e w2 ⟨s2, d2, l2, c2, rfl, h2, f2, bw2⟩
  have zbw2 := bw2.size
  replace BB := also BB bw2
  replace x_z := x_z.on bw2
  replace h1 := h1.below bw2
  have ⟨x_z_0, x_z_1, x_z_2, x_z_3, x_z_4, x_z_5, x_z_6, x_z_7⟩ := x_z
  go_wp2
  exact bodyPost_ret (v := .agg #[.int .i64 s1, .slice d1 l1 c1, .int .i64 s2, .slice d2 l2 c2]) (by simp [results, Tryz.results15, go_sem, *]) rfl (endRQ _ (by omega) BB ⟨h1, h2, by decide, HX3.out, by decide, by decide⟩ (f1 _ (by omega) trivial) (f2 _ (by omega) trivial) (fun j hj _ => ⟨f1 j (by omega) trivial, f2 j (by omega) trivial⟩) _ _ _ _)
end Go.Proofs.YtcaihoomcdbfnaaGreat

namespace Go.Proofs.YtcaihoomcdbfnaaGreat
open Go.RowKit
set_option linter.unusedVariables false

theorem RQ.put {w : World} {K : Nat} {s : Int} {d : Option Addr} {l c : Nat} {t : Int} {g : Option Addr} {h k : Nat} {N : Int} {D b : Nat} (q : RQ w K s d l c t g h k N D) (n1 : NA b d l) (n2 : NA b g h) (i : Nat) (v : Value) : RQ (w.setCell ⟨b, i, none⟩ v) K s d l c t g h k N D := ⟨q.rn.put n1 i v, q.rd.put n2 i v, q.dp, q.ns, q.ds, q.kk⟩
theorem QI.put {w : World} {K : Nat} {n : Bool} {a : Option Addr} {l c : Nat} {d : Option Addr} {m k : Nat} {z : Int} {D b : Nat} (h : QI w K n a l c d m k z D) (n1 : NA b a l) (n2 : NA b d m) (i : Nat) (v : Value) : QI (w.setCell ⟨b, i, none⟩ v) K n a l c d m k z D := ⟨h.wi.put n1 i v, h.ni.put n2 i v, h.zs, h.ds, h.k1, h.kk⟩
theorem QN.put {w : World} {n : Bool} {a : Option Addr} {l c : Nat} {d : Option Addr} {m k : Nat} {z : Int} {D b : Nat} (h : QN w n a l c d m k z D) (n1 : NA b a l) (n2 : NA b d m) (i : Nat) (v : Value) : QN (w.setCell ⟨b, i, none⟩ v) n a l c d m k z D := ⟨h.wn.put n1 i v, h.nd.put n2 i v⟩
end Go.Proofs.YtcaihoomcdbfnaaGreat
