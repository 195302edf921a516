/-
  Joined texts, part 5:
  What nat's between, nearer and Gcd answer.
  What nat's Gcd answers.
  Mathematics of fractions in lowest terms: there is one such form.
  Fractions in memory; what package rat's parts, lowest and down answer.
  The laws' own cut of a fraction, of layer 5.
  A fraction that comes as an argument, opened.
  What package rat's alike, bothDens, Norm, Neg, Add, Sub and Mul answer.
  What zelligeref03's Cmp, Add and Sub answer.
  What zelligeref03's Mul answers.
  What zelligeref03 answers, with letters for the lengths.
  What zelligeref03 answers, with letters for the lengths, apart from all that was there before.
-/
import Derived.Test.YtaekgomplkkocabGreatDoorP4
import Derived.Test.YtaekgomplkkocabGreatDoorP3
import Derived.Deep.LoopGhost
import Derived.Test.YtaekgomplkkocabGreatDoorP1
import Derived.Test.YtaekgomplkkocabGreatDoorP2
namespace Go.Proofs.YtaekgomplkkocabGreatDoor
open Go.RowKit
set_option linter.unusedVariables false

theorem nRest (a b : Option Addr) (la lb ca cb u v : Nat) (w : World) (ha : NI w a la ca u) (hb : NI w b lb cb v) (h0 : 0 < v) : Calls Tryz.prog 90 #[.slice a la ca, .slice b lb cb] w (GotN w (u % v)) :=
  (restOf_any a b la lb ca cb u v w ha.sl ha.lt (by have := ha.few; omega) hb.sl hb.lt h0).mono fun _ _ h => gotN h
theorem nBetween (ov : Bool) (a b : Option Addr) (la lb ca cb u v P Q X : Nat) (w : World) (ha : NI w a la ca u) (hb : NI w b lb cb v) (hP : P < 4294967296) (hQ : Q < 4294967296) (hX : (X : Int) = - sgv ov * ((P : Int) * u - Q * v)) (hlt : X < 4294967296 ^ la) :
    Calls Tryz.prog 100 #[.slice a la ca, .slice b lb cb, .int .u64 (P : Int), .int .u64 (Q : Int), .bool ov] w (GotN w X) := by
  rw [← Int.natCast_mul, ← Int.natCast_mul] at hX
  cases ov
  · simp only [sgv] at hX
    have e : X = Q * v - P * u := by simp at hX; omega
    subst e
    exact (between_under a b la lb ca cb u v P Q w ha.sl ha.lt (by have := ha.few; omega) hb.sl hb.lt hP hQ (by simp at hX; omega) hlt).mono fun _ _ h => gotN h
  · simp only [sgv] at hX
    have e : X = P * u - Q * v := by simp at hX; omega
    subst e
    exact (between_over a b la lb ca cb u v P Q w ha.sl ha.lt (by have := ha.few; omega) hb.sl hb.lt hP hQ (by simp at hX; omega) hlt).mono fun _ _ h => gotN h
/-- Two lesser numbers of the same greatest divisor. -/
def Nearer (w : World) (u v : Nat) (e : Ending) (w' : World) : Prop := ∃ (a : Option Addr) (la ca : Nat) (b : Option Addr) (lb cb X Y : Nat), e = .returned (.tuple #[.slice a la ca, .slice b lb cb]) ∧ ND w' a la ca X ∧ ND w' b lb cb Y ∧ Y < v ∧ Y ≤ X ∧ X ≤ u ∧ Nat.gcd X Y = Nat.gcd u v ∧ Below w.heap.size w w'
theorem mono_bt {u v : Nat} (h : v ≤ u) : bt.nlen v ≤ bt.nlen u := bt.nlen_le (Nat.lt_of_le_of_lt h (bt.nlen_lt u))
theorem mono_wd {u v : Nat} (h : v ≤ u) : wd.nlen v ≤ wd.nlen u := wd.nlen_le (Nat.lt_of_le_of_lt h (wd.nlen_lt u))
theorem bt_wd {u l : Nat} (h : u < 4294967296 ^ l) : bt.nlen u ≤ 32 * l := bt.nlen_le (by rw [pow32] at h; exact h)
set_option maxRecDepth 100000 in
set_option maxHeartbeats 2000000 in
theorem nNearer (a b : Option Addr) (la lb ca cb u v : Nat) (w : World) (ha : ND w a la ca u) (hb : ND w b lb cb v) (hla : la ≤ 1000000) (hle : v ≤ u) (h64 : 64 < bt.nlen v) :
    Calls Tryz.prog 87 #[.slice a la ca, .slice b lb cb] w (Nearer w u v) := by
  have hlb : lb ≤ 1000000 := by rw [hb.len]; have := mono_wd hle; rw [← ha.len] at this; omega
  have na := ha.to hla
  have nb := hb.to hlb
  have hm := mono_bt hle
  have hk := bt_wd na.lt
  have hv0 : 0 < v := by
    rcases Nat.eq_zero_or_pos v with e | e
    · rw [e, bt.nlen_zero] at h64; omega
    · exact e
  obtain ⟨n, hn⟩ : ∃ n, n = bt.nlen u := ⟨_, rfl⟩
  have hun : u < 2 ^ n := by rw [hn]; exact bt.nlen_lt u
  rw [← hn] at hm hk
  obtain ⟨f, hf⟩ : ∃ f, n = f + 64 := ⟨n - 64, by omega⟩
  have HN : Hid _ := hn
  have E : (n : Int) - 64 = (f : Int) := by omega
  have hF : 0 < 2 ^ f := Nat.pow_pos (by decide)
  have hx : u / 2 ^ f < 18446744073709551616 := Nat.div_lt_of_lt_mul (by rw [hf, Nat.pow_add] at hun; exact hun)
  have hy : v / 2 ^ f ≤ u / 2 ^ f := Nat.div_le_div_right hle
  have hf' : f ≤ 100000000000 := by omega
  have HH1 := headAt_any a la ca u f w ha.sl na.lt hf'
  rw [Nat.mod_eq_of_lt hx] at HH1
  have HH2 : ∀ w', Sl w' b lb cb (wd.dcells lb (v : Int)) → _ := fun w' h => headAt_any b lb cb v f w' h nb.lt hf'
  rw [Nat.mod_eq_of_lt (Nat.lt_of_le_of_lt hy hx)] at HH2
  have HFo : ∀ w', _ := fun w' => foresee_any u v (u / 2 ^ f) (v / 2 ^ f) (2 ^ f) (u % 2 ^ f) (v % 2 ^ f) w' hy hx (by rw [Nat.mul_comm]; exact (Nat.div_add_mod _ _).symm) (by rw [Nat.mul_comm]; exact (Nat.div_add_mod _ _).symm) (Nat.mod_lt _ hF) (Nat.mod_lt _ hF)
  obtain ⟨x, hxe⟩ : ∃ x, x = u / 2 ^ f := ⟨_, rfl⟩
  obtain ⟨y, hye⟩ : ∃ y, y = v / 2 ^ f := ⟨_, rfl⟩
  rw [← hxe] at HH1 HFo
  rw [← hye] at HH2 HFo
  have K1 : Hid _ := HH1
  have K2 : Hid _ := HH2
  have K3 : Hid _ := HFo
  clear HH1 HH2 HFo hxe hye hx hy hF hun hn
  have hfn : f = n - 64 := by omega
  have HF : Hid _ := hf
  clear hf hfn
  go_enter Tryz.func87, Tryz.ntmps87
  go_wp2_with (go_at_call 63; refine (nBits a la ca u _ na HN.out).mono ?_; rintro e w' ⟨rfl, hw⟩; subst hw)
  refine (show Calls _ _ _ _ (fun e w' => e = .returned (.int .u64 (x : Int)) ∧ Below w.heap.size w w') from K1.out).mono ?_
  rintro e w1 ⟨rfl, hb1⟩
  have nb1 := nb.below hb1
  go_wp2_with (go_at_call 99; fail)
  refine (show Calls _ _ _ _ (fun e w' => e = .returned (.int .u64 (y : Int)) ∧ Below w1.heap.size w1 w') from K2.out w1 nb1.sl).mono ?_
  rintro e w2 ⟨rfl, hb2⟩
  go_wp2_with (go_at_call 98; fail)
  refine (show Calls _ _ _ _ (ForePost w2 u v) from K3.out w2).mono ?_
  rintro e w3 ⟨p0, p1, q0, q1, ev, rfl, hfo, hb3⟩
  have B3 : Below w.heap.size w w3 := hb1.trans ((hb2.trans (hb3.mono hb2.size)).mono hb1.size)
  have na3 := na.below B3
  have nb3 := nb.below B3
  clear K1 K2 K3 hb1 hb2 hb3 nb1
  obtain ⟨W, hW⟩ : ∃ W, W = w3.alloc (.cells #[.int .u64 (p0 : Int), .int .u64 (p1 : Int), .int .u64 (q0 : Int), .int .u64 (q1 : Int), .bool ev] 141) := ⟨_, rfl⟩
  have BW : Below w3.heap.size w3 W := by rw [hW]; exact (Below.refl _ _).alloc (Nat.le_refl _) _
  have RW : Row W w3.heap.size (foreCells p0 p1 q0 q1 ev) := by rw [hW]; exact Row.new w3 (foreCells p0 p1 q0 q1 ev) _
  have SW : w3.heap.size < W.heap.size := by rw [hW]; simp
  have B4 := B3.trans (BW.mono B3.size)
  have na4 := na3.below BW
  have nb4 := nb3.below BW
  by_cases hq : q0 = 0
  · subst hq
    go_wp2_with (go_at_call 90; fail)
    rw [show ((0 : Nat) : Int) = 0 from rfl] at hW
    rw [← hW]
    refine (nRest a b la lb ca cb u v W na4 nb4 hv0).mono ?_
    rintro e w5 ⟨ar, lr, cr, rfl, hr, hb5⟩
    go_wp2
    go_ret2
    refine ⟨b, lb, cb, ar, lr, cr, v, u % v, rfl, ⟨(nb4.below hb5).sl, hb.len⟩, hr, Nat.mod_lt _ hv0, Nat.le_of_lt (Nat.mod_lt _ hv0), hle, ?_, B4.trans (hb5.mono B4.size)⟩
    rw [Nat.gcd_comm v, ← Nat.gcd_rec, Nat.gcd_comm]
  · have hq' : ¬ (q0 : Int) = 0 := by omega
    obtain ⟨g1, g2, g3, g4⟩ := hfo.out hq
    obtain ⟨Y, hY⟩ := Int.eq_ofNat_of_zero_le g1
    obtain ⟨X, hX⟩ := Int.eq_ofNat_of_zero_le (Int.le_of_lt (Int.lt_of_le_of_lt g1 g2))
    rw [hX, hY] at g2
    rw [hX] at g3
    have hXv : X ≤ v := by omega
    have hYX : Y < X := by omega
    have HG : Hid (Nat.gcd X Y = Nat.gcd u v) := fore_gcd u v X Y p0 p1 q0 q1 ev hX.symm hY.symm g4
    have H1 : Hid _ := nBetween ev a b la lb ca cb u v p0 q0 X W na4 nb4 hfo.hp0 hfo.hq0 hX.symm (by have := na.lt; omega)
    have H2 : Hid (∀ w', NI w' a la ca u → NI w' b lb cb v → Calls Tryz.prog 100 #[.slice a la ca, .slice b lb cb, .int .u64 (p1 : Int), .int .u64 (q1 : Int), .bool (!ev)] w' (GotN w' Y)) := fun w' h1 h2 =>
      nBetween (!ev) a b la lb ca cb u v p1 q1 Y w' h1 h2 hfo.hp1 hfo.hq1 (by rw [sgv_not]; simpa using hY.symm) (by have := na.lt; omega)
    clear g1 g2 g3 g4 hX hY hfo
    go_wp2_with (go_at_call 100; fail)
    rw [← hW]
    refine (show Calls _ _ _ _ (GotN W X) from H1.out).mono ?_
    rintro e w5 ⟨ax, lx, cx, rfl, hx5, hb5⟩
    have R5 := RW.below hb5 SW
    have c1 : w5.cell? ⟨w3.heap.size, 1, none⟩ = some (.int .u64 (p1 : Int)) := R5.cell 1 _ rfl
    have c3 : w5.cell? ⟨w3.heap.size, 3, none⟩ = some (.int .u64 (q1 : Int)) := R5.cell 3 _ rfl
    have c4 : w5.cell? ⟨w3.heap.size, 4, none⟩ = some (.bool ev) := R5.cell 4 _ rfl
    have na5 := na4.below hb5
    have nb5 := nb4.below hb5
    go_wp2_with (go_at_call 100; fail)
    refine (show Calls _ _ _ _ (GotN w5 Y) from H2.out w5 na5 nb5).mono ?_
    rintro e w6 ⟨ay, ly, cy, rfl, hy6, hb6⟩
    go_wp2
    go_ret2
    exact ⟨ax, lx, cx, ay, ly, cy, X, Y, rfl, hx5.below hb6, hy6, by omega, by omega, by omega, HG.out, B4.trans ((hb5.trans (hb6.mono hb5.size)).mono B4.size)⟩

end Go.Proofs.YtaekgomplkkocabGreatDoor

namespace Go.Proofs.YtaekgomplkkocabGreatDoor
open Go.RowKit
set_option linter.unusedVariables false

/-- What holds at the head of each round of Gcd: two numbers of the same greatest divisor, the second not above the first; k is the second. -/
def GcdRel (w : World) (g k : Nat) (av bv : Value) (wr : World) : Prop := ∃ (a : Option Addr) (la ca : Nat) (b : Option Addr) (lb cb u : Nat), av = .slice a la ca ∧ bv = .slice b lb cb ∧ ND wr a la ca u ∧ ND wr b lb cb k ∧ k ≤ u ∧ la ≤ 1000000 ∧ Nat.gcd u k = g ∧ Below w.heap.size w wr
theorem bt_small {v : Nat} (h : bt.nlen v ≤ 64) : v < 18446744073709551616 := Nat.lt_of_lt_of_le (bt.nlen_lt v) (Nat.le_trans (Nat.pow_le_pow_right (by decide) h) (by decide))
theorem nSmall (a : Option Addr) (l c u : Nat) (w : World) (h : NI w a l c u) (h64 : u < 18446744073709551616) : Calls Tryz.prog 89 #[.slice a l c] w fun e w' => e = .returned (.int .u64 (u : Int)) ∧ Below w.heap.size w w' :=
  small_any a l c u w h.sl h.lt h64
set_option maxRecDepth 100000 in
set_option maxHeartbeats 2000000 in
theorem nGcd (a b : Option Addr) (la lb ca cb u v : Nat) (w : World) (ha : NI w a la ca u) (hb : NI w b lb cb v) :
    Calls Tryz.prog 64 #[.slice a la ca, .slice b lb cb] w (GotN w (Nat.gcd u v)) := by
  obtain ⟨g, hg⟩ : ∃ g, g = Nat.gcd u v := ⟨_, rfl⟩
  have HG : Hid _ := hg.symm
  rw [← hg]
  clear hg
  have hlu := wd.nlen_le ha.lt
  have hlv := wd.nlen_le hb.lt
  have hfa := ha.few
  have hfb := hb.few
  go_enter Tryz.func64, Tryz.ntmps64
  go_wp2_with (go_at_call 79; fail)
  refine (nTrim a la ca u w ha).mono ?_
  rintro e w1 ⟨a1, la1, ca1, rfl, ha1, hb1⟩
  go_wp2_with (go_at_call 79; fail)
  refine (nTrim b lb cb v w1 (hb.below hb1)).mono ?_
  rintro e w2 ⟨b2, lb2, cb2, rfl, hb2', hb2⟩
  have ha2 := ha1.below hb2
  have hla2 : la1 ≤ 1000000 := by rw [ha1.len]; omega
  have hlb2 : lb2 ≤ 1000000 := by rw [hb2'.len]; omega
  have B2 : Below w.heap.size w w2 := hb1.trans (hb2.mono hb1.size)
  clear ha hb ha1 hb1 hb2 hlu hlv hfa hfb
  obtain ⟨c, hc⟩ : ∃ c, c = cmpI (u : Int) v := ⟨_, rfl⟩
  go_wp2_with (go_at_call 36; fail)
  refine (nCmp a1 b2 la1 lb2 ca1 cb2 u v w2 (ha2.to hla2) (hb2'.to hlb2) hc).mono ?_
  rintro e w3 ⟨rfl, hb3⟩
  have ha3 := ha2.below hb3
  have hb3' := hb2'.below hb3
  have B3 : Below w.heap.size w w3 := B2.trans (hb3.mono B2.size)
  clear ha2 hb2' hb3 B2
  rcases Nat.lt_or_ge u v with huv | huv
  · have hc0 : c < 0 := by rw [hc]; unfold cmpI; rw [if_pos (by omega)]; decide
    have HST : Hid (GcdRel w g u (.slice b2 lb2 cb2) (.slice a1 la1 ca1) w3) := ⟨b2, lb2, cb2, a1, la1, ca1, v, rfl, rfl, hb3', ha3, by omega, hlb2, by rw [Nat.gcd_comm]; exact HG.out, B3⟩
    clear hc ha3 hb3' B3 HG huv
    go_wp2
    go_loopg [0, 1] u (fun k av bv wr => GcdRel w g k av bv wr)
    case atStart => exact HST.out
    case round =>
      clear HST
      obtain ⟨a, la, ca, b, lb, cb, U, rfl, rfl, ha, hb, hle, hla, hgcd, hbel⟩ := hrel
      have hlb : lb ≤ 1000000 := by rw [hb.len]; have := mono_wd hle; rw [← ha.len] at this; omega
      have na := ha.to hla
      have nb := hb.to hlb
      obtain ⟨n, hn⟩ : ∃ n, n = bt.nlen gk := ⟨_, rfl⟩
      have HN : Hid _ := hn
      have HGC : Hid _ := hgcd
      by_cases h64 : 64 < n
      · have h64' : (64 : Int) < n := by omega
        have HV : Hid (64 < bt.nlen gk) := by unfold Hid; rw [← hn]; exact h64
        clear hn hgcd
        go_wp2_with (go_at_call 63; refine (nBits b lb cb gk _ nb HN.out).mono ?_; rintro e w' ⟨rfl, hw⟩; subst hw)
        refine (nNearer a b la lb ca cb U gk wr ha hb hla hle HV.out).mono ?_
        rintro e w5 ⟨ax, lx, cx, ay, ly, cy, X, Y, rfl, hX, hY, g1, g2, g3, g4, hb5⟩
        go_wp2
        go_roundg Y
        case measure => exact g1
        case rel => exact ⟨ax, lx, cx, ay, ly, cy, X, rfl, rfl, hX, hY, g2, by rw [hX.len]; have := mono_wd g3; rw [← ha.len] at this; omega, by rw [g4]; exact HGC.out, hbel.trans (hb5.mono hbel.size)⟩
      · have h64' : ¬ (64 : Int) < n := by omega
        have hs : gk < 18446744073709551616 := bt_small (by rw [← hn]; omega)
        clear hn hgcd
        rcases Nat.eq_zero_or_pos gk with h0 | h0
        · subst h0
          have hl0 : lb = 0 := by rw [hb.len, wd.nlen_zero]
          subst hl0
          have hUg : U = g := by have := HGC.out; simpa using this
          subst hUg
          go_wp2_with (go_at_call 63; refine (nBits b 0 cb 0 _ nb HN.out).mono ?_; rintro e w' ⟨rfl, hw⟩; subst hw)
          go_ret
          exact ⟨a, la, ca, rfl, ha, hbel⟩
        · have hl0 : 0 < lb := by rw [hb.len]; exact wd.nlen_pos h0
          have hl1 : ¬ (lb : Int) = 0 := by omega
          obtain ⟨R, hR⟩ : ∃ R, R = U % gk := ⟨_, rfl⟩
          have hRl : R < gk := by rw [hR]; exact Nat.mod_lt _ h0
          have HRG : Hid (Nat.gcd gk R = g) := by unfold Hid; rw [hR, ← HGC.out, Nat.gcd_comm gk, ← Nat.gcd_rec, Nat.gcd_comm]
          have hgl : g ≤ gk := by have := Nat.gcd_le_right U h0; have e := HGC.out; omega
          have HRE : Hid _ := hR
          clear hR
          go_wp2_with (go_at_call 63; refine (nBits b lb cb gk _ nb HN.out).mono ?_; rintro e w' ⟨rfl, hw⟩; subst hw)
          refine (nSmall b lb cb gk wr nb hs).mono ?_
          rintro e w5 ⟨rfl, hb5⟩
          go_wp2_with (go_at_call 90; fail)
          have HRS := nRest a b la lb ca cb U gk w5 (na.below hb5) (nb.below hb5) h0
          rw [← HRE.out] at HRS
          refine HRS.mono ?_
          rintro e w6 ⟨ar, lr, cr, rfl, hr6, hb6⟩
          have nr6 : NI w6 ar lr cr R := hr6.to (by rw [hr6.len]; have := mono_wd (Nat.le_of_lt hRl); rw [← hb.len] at this; omega)
          go_wp2_with (go_at_call 89; fail)
          refine (nSmall ar lr cr R w6 nr6 (by omega)).mono ?_
          rintro e w7 ⟨rfl, hb7⟩
          go_wp2_with (go_at_call 88; fail)
          have HGS := gcdSmall_any gk R hs (by omega) w7
          rw [HRG.out] at HGS
          refine HGS.mono ?_
          rintro e w8 ⟨rfl, hb8⟩
          go_wp2_with (go_at_call 14; fail)
          refine (nOf g (by omega) rfl w8).mono ?_
          rintro e w9 ⟨a9, l9, c9, rfl, h9, hb9⟩
          go_wp2
          go_ret
          exact ⟨a9, l9, c9, rfl, h9, hbel.trans ((hb5.trans ((hb6.trans ((hb7.trans ((hb8.trans (hb9.mono hb8.size)).mono hb7.size)).mono hb6.size)).mono hb5.size)).mono hbel.size)⟩
  · have hc0 : ¬ c < 0 := by rw [hc]; unfold cmpI; rw [if_neg (by omega)]; split <;> decide
    have HST : Hid (GcdRel w g v (.slice a1 la1 ca1) (.slice b2 lb2 cb2) w3) := ⟨a1, la1, ca1, b2, lb2, cb2, u, rfl, rfl, ha3, hb3', huv, hla2, HG.out, B3⟩
    clear hc ha3 hb3' B3 HG huv
    go_wp2
    go_loopg [0, 1] v (fun k av bv wr => GcdRel w g k av bv wr)
    case atStart => exact HST.out
    case round =>
      clear HST
      obtain ⟨a, la, ca, b, lb, cb, U, rfl, rfl, ha, hb, hle, hla, hgcd, hbel⟩ := hrel
      have hlb : lb ≤ 1000000 := by rw [hb.len]; have := mono_wd hle; rw [← ha.len] at this; omega
      have na := ha.to hla
      have nb := hb.to hlb
      obtain ⟨n, hn⟩ : ∃ n, n = bt.nlen gk := ⟨_, rfl⟩
      have HN : Hid _ := hn
      have HGC : Hid _ := hgcd
      by_cases h64 : 64 < n
      · have h64' : (64 : Int) < n := by omega
        have HV : Hid (64 < bt.nlen gk) := by unfold Hid; rw [← hn]; exact h64
        clear hn hgcd
        go_wp2_with (go_at_call 63; refine (nBits b lb cb gk _ nb HN.out).mono ?_; rintro e w' ⟨rfl, hw⟩; subst hw)
        refine (nNearer a b la lb ca cb U gk wr ha hb hla hle HV.out).mono ?_
        rintro e w5 ⟨ax, lx, cx, ay, ly, cy, X, Y, rfl, hX, hY, g1, g2, g3, g4, hb5⟩
        go_wp2
        go_roundg Y
        case measure => exact g1
        case rel => exact ⟨ax, lx, cx, ay, ly, cy, X, rfl, rfl, hX, hY, g2, by rw [hX.len]; have := mono_wd g3; rw [← ha.len] at this; omega, by rw [g4]; exact HGC.out, hbel.trans (hb5.mono hbel.size)⟩
      · have h64' : ¬ (64 : Int) < n := by omega
        have hs : gk < 18446744073709551616 := bt_small (by rw [← hn]; omega)
        clear hn hgcd
        rcases Nat.eq_zero_or_pos gk with h0 | h0
        · subst h0
          have hl0 : lb = 0 := by rw [hb.len, wd.nlen_zero]
          subst hl0
          have hUg : U = g := by have := HGC.out; simpa using this
          subst hUg
          go_wp2_with (go_at_call 63; refine (nBits b 0 cb 0 _ nb HN.out).mono ?_; rintro e w' ⟨rfl, hw⟩; subst hw)
          go_ret
          exact ⟨a, la, ca, rfl, ha, hbel⟩
        · have hl0 : 0 < lb := by rw [hb.len]; exact wd.nlen_pos h0
          have hl1 : ¬ (lb : Int) = 0 := by omega
          obtain ⟨R, hR⟩ : ∃ R, R = U % gk := ⟨_, rfl⟩
          have hRl : R < gk := by rw [hR]; exact Nat.mod_lt _ h0
          have HRG : Hid (Nat.gcd gk R = g) := by unfold Hid; rw [hR, ← HGC.out, Nat.gcd_comm gk, ← Nat.gcd_rec, Nat.gcd_comm]
          have hgl : g ≤ gk := by have := Nat.gcd_le_right U h0; have e := HGC.out; omega
          have HRE : Hid _ := hR
          clear hR
          go_wp2_with (go_at_call 63; refine (nBits b lb cb gk _ nb HN.out).mono ?_; rintro e w' ⟨rfl, hw⟩; subst hw)
          refine (nSmall b lb cb gk wr nb hs).mono ?_
          rintro e w5 ⟨rfl, hb5⟩
          go_wp2_with (go_at_call 90; fail)
          have HRS := nRest a b la lb ca cb U gk w5 (na.below hb5) (nb.below hb5) h0
          rw [← HRE.out] at HRS
          refine HRS.mono ?_
          rintro e w6 ⟨ar, lr, cr, rfl, hr6, hb6⟩
          have nr6 : NI w6 ar lr cr R := hr6.to (by rw [hr6.len]; have := mono_wd (Nat.le_of_lt hRl); rw [← hb.len] at this; omega)
          go_wp2_with (go_at_call 89; fail)
          refine (nSmall ar lr cr R w6 nr6 (by omega)).mono ?_
          rintro e w7 ⟨rfl, hb7⟩
          go_wp2_with (go_at_call 88; fail)
          have HGS := gcdSmall_any gk R hs (by omega) w7
          rw [HRG.out] at HGS
          refine HGS.mono ?_
          rintro e w8 ⟨rfl, hb8⟩
          go_wp2_with (go_at_call 14; fail)
          refine (nOf g (by omega) rfl w8).mono ?_
          rintro e w9 ⟨a9, l9, c9, rfl, h9, hb9⟩
          go_wp2
          go_ret
          exact ⟨a9, l9, c9, rfl, h9, hbel.trans ((hb5.trans ((hb6.trans ((hb7.trans ((hb8.trans (hb9.mono hb8.size)).mono hb7.size)).mono hb6.size)).mono hb5.size)).mono hbel.size)⟩
end Go.Proofs.YtaekgomplkkocabGreatDoor

namespace Go.Proofs.YtaekgomplkkocabGreatDoor
set_option linter.unusedVariables false

theorem low_nat {a b c d : Nat} (h : a * d = c * b) (g : Nat.gcd a b = 1) (g' : Nat.gcd c d = 1) (hb : 0 < b) (hd : 0 < d) : a = c ∧ b = d := by
  have h1 : b ∣ d := by
    have : b ∣ a * d := ⟨c, by rw [h, Nat.mul_comm]⟩
    exact Nat.Coprime.dvd_of_dvd_mul_left (show Nat.Coprime b a by unfold Nat.Coprime; rwa [Nat.gcd_comm]) this
  have h2 : d ∣ b := by
    have : d ∣ c * b := ⟨a, by rw [← h, Nat.mul_comm]⟩
    exact Nat.Coprime.dvd_of_dvd_mul_left (show Nat.Coprime d c by unfold Nat.Coprime; rwa [Nat.gcd_comm]) this
  have e : b = d := Nat.dvd_antisymm h1 h2
  subst e
  exact ⟨Nat.eq_of_mul_eq_mul_right hb h, rfl⟩
theorem low_one {n m : Int} {b d : Nat} (h : n * d = m * b) (g : Nat.gcd n.natAbs b = 1) (g' : Nat.gcd m.natAbs d = 1) (hb : 0 < b) (hd : 0 < d) : n = m ∧ b = d := by
  have h1 : n.natAbs * d = m.natAbs * b := by
    have := congrArg Int.natAbs h
    simpa [Int.natAbs_mul] using this
  obtain ⟨e1, e2⟩ := low_nat h1 g g' hb hd
  subst e2
  exact ⟨Int.eq_of_mul_eq_mul_right (by omega) h, rfl⟩
/-- Both parts over what they share: the same fraction, in lowest terms. -/
theorem low_terms (n : Int) (d : Nat) (hd : 0 < d) : Nat.gcd (n.natAbs / Nat.gcd n.natAbs d) (d / Nat.gcd n.natAbs d) = 1 ∧ 0 < d / Nat.gcd n.natAbs d ∧ (n.sign * (n.natAbs / Nat.gcd n.natAbs d : Nat)) * d = n * (d / Nat.gcd n.natAbs d : Nat) := by
  have hg : 0 < Nat.gcd n.natAbs d := Nat.gcd_pos_of_pos_right _ hd
  refine ⟨by rw [Nat.gcd_div (Nat.gcd_dvd_left _ _) (Nat.gcd_dvd_right _ _)]; exact Nat.div_self hg, Nat.div_pos (Nat.le_of_dvd hd (Nat.gcd_dvd_right _ _)) hg, ?_⟩
  obtain ⟨p, hp⟩ := Nat.gcd_dvd_left n.natAbs d
  obtain ⟨q, hq⟩ := Nat.gcd_dvd_right n.natAbs d
  obtain ⟨G, hG⟩ : ∃ G, G = Nat.gcd n.natAbs d := ⟨_, rfl⟩
  rw [← hG] at hp hq hg ⊢
  have e1 : n.natAbs / G = p := by rw [hp, Nat.mul_div_cancel_left _ hg]
  have e2 : d / G = q := by rw [hq, Nat.mul_div_cancel_left _ hg]
  rw [e1, e2]
  have hn : n = n.sign * ((G * p : Nat) : Int) := by rw [← hp]; exact (Int.sign_mul_natAbs n).symm
  have hd' : (d : Int) = (G : Int) * q := by rw [hq]; simp
  rw [hd']
  conv => rhs; rw [hn]
  simp only [Int.natCast_mul]
  grind
end Go.Proofs.YtaekgomplkkocabGreatDoor

namespace Go.Proofs.YtaekgomplkkocabGreatDoor
open Go.RowKit
set_option linter.unusedVariables false

/-- The parts of a fraction, one whose lower part is nought being nought. -/
def pN (z : Int) (D : Nat) : Int := if D = 0 then 0 else z
def pD (D : Nat) : Nat := if D = 0 then 1 else D
theorem pD_pos (D : Nat) : 0 < pD D := by unfold pD; split <;> omega
/-- The parts of a fraction in lowest terms. -/
def lowN (z : Int) (D : Nat) : Int := z.sign * ((z.natAbs / Nat.gcd z.natAbs D : Nat) : Int)
def lowD (z : Int) (D : Nat) : Nat := D / Nat.gcd z.natAbs D
theorem lowN_abs (z : Int) (D : Nat) : (lowN z D).natAbs = z.natAbs / Nat.gcd z.natAbs D := by
  unfold lowN
  rw [Int.natAbs_mul]
  by_cases h : z = 0
  · subst h; simp
  · rw [Int.natAbs_sign_of_ne_zero h, Nat.one_mul, Int.natAbs_natCast]
theorem lowN_le (z : Int) (D : Nat) : (lowN z D).natAbs ≤ z.natAbs := by rw [lowN_abs]; exact Nat.div_le_self _ _
theorem lowD_le (z : Int) (D : Nat) : lowD z D ≤ D := Nat.div_le_self _ _
theorem lowD_pos {z : Int} {D : Nat} (h : 0 < D) : 0 < lowD z D := (low_terms z D h).2.1
theorem low_gcd {z : Int} {D : Nat} (h : 0 < D) : Nat.gcd (lowN z D).natAbs (lowD z D) = 1 := by rw [lowN_abs]; exact (low_terms z D h).1
theorem low_same {z : Int} {D : Nat} (h : 0 < D) : lowN z D * D = z * lowD z D := (low_terms z D h).2.2
theorem lowN_sg {w : World} {n : Bool} {a : Option Addr} {l c : Nat} {z : Int} (h : WI w n a l c z) (D : Nat) : lowN z D = sgz n (z.natAbs / Nat.gcd z.natAbs D) := by
  have h1 := h.neg
  have h2 := h.pos
  unfold lowN sgz
  rcases wsign_cases z with ⟨hz, e⟩ | ⟨hz, e⟩ | ⟨hz, e⟩
  · rw [e]; cases n
    · have := h2 rfl; omega
    · simp
  · subst hz; simp
  · rw [e]; cases n
    · simp
    · have := h1 rfl; omega
/-- A fraction as it comes. -/
structure QI (w : World) (K : Nat) (n : Bool) (a : Option Addr) (l c : Nat) (d : Option Addr) (m k : Nat) (z : Int) (D : Nat) : Prop where
  wi : WI w n a l c z
  ni : NI w d m k D
  zs : z.natAbs < 4294967296 ^ K
  ds : D < 4294967296 ^ K
  k1 : 1 ≤ K
  kk : K ≤ 10000
/-- A fraction, both of its parts in their one form. -/
structure QN (w : World) (n : Bool) (a : Option Addr) (l c : Nat) (d : Option Addr) (m k : Nat) (z : Int) (D : Nat) : Prop where
  wn : WN w n a l c z
  nd : ND w d m k D
theorem QI.below {w w' : World} {K : Nat} {n : Bool} {a : Option Addr} {l c : Nat} {d : Option Addr} {m k : Nat} {z : Int} {D : Nat} (h : QI w K n a l c d m k z D) (hb : Below w.heap.size w w') : QI w' K n a l c d m k z D := ⟨h.wi.below hb, h.ni.below hb, h.zs, h.ds, h.k1, h.kk⟩
theorem QN.below {w w' : World} {n : Bool} {a : Option Addr} {l c : Nat} {d : Option Addr} {m k : Nat} {z : Int} {D : Nat} (h : QN w n a l c d m k z D) (hb : Below w.heap.size w w') : QN w' n a l c d m k z D := ⟨h.wn.below hb, h.nd.below hb⟩
theorem QN.qi {w : World} {n : Bool} {a : Option Addr} {l c : Nat} {d : Option Addr} {m k : Nat} {z : Int} {D : Nat} (h : QN w n a l c d m k z D) (K : Nat) (k1 : 1 ≤ K) (kk : K ≤ 10000) (hz : z.natAbs < 4294967296 ^ K) (hD : D < 4294967296 ^ K) : QI w K n a l c d m k z D :=
  ⟨h.wn.wi K (by omega) hz, h.nd.ni K (by omega) hD, hz, hD, k1, kk⟩
def GotPts (w : World) (K : Nat) (z : Int) (D : Nat) (e : Ending) (w' : World) : Prop := ∃ (n : Bool) (a : Option Addr) (l c : Nat) (d : Option Addr) (m k : Nat), e = .returned (.tuple #[.agg #[.bool n, .slice a l c], .slice d m k]) ∧ QI w' K n a l c d m k (pN z D) (pD D) ∧ Below w.heap.size w w'
def GotQ (w : World) (z : Int) (D : Nat) (e : Ending) (w' : World) : Prop := ∃ (n : Bool) (a : Option Addr) (l c : Nat) (d : Option Addr) (m k : Nat), e = .returned (.agg #[.bool n, .slice a l c, .slice d m k]) ∧ QN w' n a l c d m k z D ∧ Far w.heap.size a l ∧ Far w.heap.size d m ∧ Below w.heap.size w w'
theorem NI.put2 {w : World} {a : Option Addr} {l c u b : Nat} (h : NI w a l c u) (hn : NA b a l) (x y : Value) : NI ((w.setCell ⟨b, 0, none⟩ x).setCell ⟨b, 1, none⟩ y) a l c u := (h.put hn 0 x).put hn 1 y
theorem wi_nul (w : World) : WI w false none 0 0 0 := ⟨⟨sl_nil w, by decide, by decide⟩, fun _ => Int.le_refl 0, fun _ => Int.le_refl 0⟩
theorem wi_nat {w : World} {d : Option Addr} {l c D : Nat} (h : NI w d l c D) : WI w false d l c (D : Int) := ⟨by simpa using h, by simp, by simp⟩
theorem endPts {w w2 : World} {K : Nat} {n : Bool} {a : Option Addr} {l c : Nat} {d : Option Addr} {m k : Nat} {z : Int} {D : Nat} (b : Nat) (hb : w.heap.size ≤ b) (B : Below w.heap.size w w2) (h : QI w2 K n a l c d m k (pN z D) (pD D)) (n1 : NA b a l) (n2 : NA b d m) (u v : Value) :
    GotPts w K z D (.returned (.tuple #[.agg #[.bool n, .slice a l c], .slice d m k])) ((w2.setCell ⟨b, 0, none⟩ u).setCell ⟨b, 1, none⟩ v) :=
  ⟨n, a, l, c, d, m, k, rfl, ⟨h.wi.put2 n1 u v, h.ni.put2 n2 u v, h.zs, h.ds, h.k1, h.kk⟩, below_put2 B hb u v⟩
theorem below_put3 {B b : Nat} {w w' : World} (h : Below B w w') (hb : B ≤ b) (u v t : Value) : Below B w (((w'.setCell ⟨b, 0, none⟩ u).setCell ⟨b, 1, none⟩ v).setCell ⟨b, 2, none⟩ t) := ((h.setCell hb _).setCell hb _).setCell hb _
theorem below_put4 {B b : Nat} {w w' : World} (h : Below B w w') (hb : B ≤ b) (u v t s : Value) : Below B w ((((w'.setCell ⟨b, 0, none⟩ u).setCell ⟨b, 1, none⟩ v).setCell ⟨b, 2, none⟩ t).setCell ⟨b, 3, none⟩ s) := (((h.setCell hb _).setCell hb _).setCell hb _).setCell hb _
theorem cell_put1 {w : World} {n k i j : Nat} {v : Value} (h : w.cell? ⟨n, i, none⟩ = some v) (hk : n ≠ k) (u : Value) : (w.setCell ⟨k, j, none⟩ u).cell? ⟨n, i, none⟩ = some v := by
  rw [World.cell?_setCell_other _ _ _ _ (by intro q; simp only [Addr.mk.injEq] at q; omega)]; exact h
theorem cell_put2 {w : World} {n k i : Nat} {x : Value} (h : w.cell? ⟨n, i, none⟩ = some x) (hk : n ≠ k) (u v : Value) : ((w.setCell ⟨k, 0, none⟩ u).setCell ⟨k, 1, none⟩ v).cell? ⟨n, i, none⟩ = some x := cell_put1 (cell_put1 h hk u) hk v
theorem cell_put3 {w : World} {n k i : Nat} {x : Value} (h : w.cell? ⟨n, i, none⟩ = some x) (hk : n ≠ k) (u v t : Value) : (((w.setCell ⟨k, 0, none⟩ u).setCell ⟨k, 1, none⟩ v).setCell ⟨k, 2, none⟩ t).cell? ⟨n, i, none⟩ = some x := cell_put1 (cell_put2 h hk u v) hk t
theorem cell_put4 {w : World} {n k i : Nat} {x : Value} (h : w.cell? ⟨n, i, none⟩ = some x) (hk : n ≠ k) (u v t s : Value) : ((((w.setCell ⟨k, 0, none⟩ u).setCell ⟨k, 1, none⟩ v).setCell ⟨k, 2, none⟩ t).setCell ⟨k, 3, none⟩ s).cell? ⟨n, i, none⟩ = some x := cell_put1 (cell_put3 h hk u v t) hk s
theorem ND.put3 {w : World} {a : Option Addr} {l c u b : Nat} (h : ND w a l c u) (hn : NA b a l) (x y z : Value) : ND (((w.setCell ⟨b, 0, none⟩ x).setCell ⟨b, 1, none⟩ y).setCell ⟨b, 2, none⟩ z) a l c u := ((h.put hn 0 x).put hn 1 y).put hn 2 z
theorem QN.put3 {w : World} {n : Bool} {a : Option Addr} {l c : Nat} {d : Option Addr} {m k : Nat} {z : Int} {D : Nat} {b : Nat} (h : QN w n a l c d m k z D) (n1 : NA b a l) (n2 : NA b d m) (u v t : Value) : QN (((w.setCell ⟨b, 0, none⟩ u).setCell ⟨b, 1, none⟩ v).setCell ⟨b, 2, none⟩ t) n a l c d m k z D :=
  ⟨⟨h.wn.nd.put3 n1 u v t, h.wn.sg⟩, h.nd.put3 n2 u v t⟩
theorem endQ {w w2 : World} {n : Bool} {a : Option Addr} {l c : Nat} {d : Option Addr} {m k : Nat} {z : Int} {D : Nat} (b : Nat) (hb : w.heap.size ≤ b) (B : Below w.heap.size w w2) (h : QN w2 n a l c d m k z D) (f1 : Far (b + 1) a l) (f2 : Far (b + 1) d m) (u v t : Value) :
    GotQ w z D (.returned (.agg #[.bool n, .slice a l c, .slice d m k])) (((w2.setCell ⟨b, 0, none⟩ u).setCell ⟨b, 1, none⟩ v).setCell ⟨b, 2, none⟩ t) :=
  ⟨n, a, l, c, d, m, k, rfl, h.put3 (f1 b (by omega)) (f2 b (by omega)) u v t, f1.mono (by omega), f2.mono (by omega), below_put3 B hb u v t⟩
theorem bs_32 (w : World) (x00 x01 x02 x10 x11 : Value) (t0 t1 : TypeId) : ∃ W, W = ((w.alloc (.cells #[x00, x01, x02] t0)).alloc (.cells #[x10, x11] t1)) ∧ Below w.heap.size w W ∧ B3 W (w.heap.size) x00 x01 x02 ∧ Bx W (w.heap.size + 1) x10 x11 ∧ w.heap.size + 1 < W.heap.size := by
  have e0 : Below w.heap.size w (w.alloc (.cells #[x00, x01, x02] t0)) := (Below.refl _ _).alloc (Nat.le_refl _) _
  have h0 := b3_new w x00 x01 x02 t0
  have e1 : Below (w.alloc (.cells #[x00, x01, x02] t0)).heap.size (w.alloc (.cells #[x00, x01, x02] t0)) ((w.alloc (.cells #[x00, x01, x02] t0)).alloc (.cells #[x10, x11] t1)) := (Below.refl _ _).alloc (Nat.le_refl _) _
  have h1 := bx_new (w.alloc (.cells #[x00, x01, x02] t0)) x10 x11 t1
  rw [World.size_alloc] at h1
  exact ⟨_, rfl, also (e0) e1, (h0.on e1), h1, by simp⟩
theorem bs_23 (w : World) (x00 x01 x10 x11 x12 : Value) (t0 t1 : TypeId) : ∃ W, W = ((w.alloc (.cells #[x00, x01] t0)).alloc (.cells #[x10, x11, x12] t1)) ∧ Below w.heap.size w W ∧ Bx W (w.heap.size) x00 x01 ∧ B3 W (w.heap.size + 1) x10 x11 x12 ∧ w.heap.size + 1 < W.heap.size := by
  have e0 : Below w.heap.size w (w.alloc (.cells #[x00, x01] t0)) := (Below.refl _ _).alloc (Nat.le_refl _) _
  have h0 := bx_new w x00 x01 t0
  have e1 : Below (w.alloc (.cells #[x00, x01] t0)).heap.size (w.alloc (.cells #[x00, x01] t0)) ((w.alloc (.cells #[x00, x01] t0)).alloc (.cells #[x10, x11, x12] t1)) := (Below.refl _ _).alloc (Nat.le_refl _) _
  have h1 := b3_new (w.alloc (.cells #[x00, x01] t0)) x10 x11 x12 t1
  rw [World.size_alloc] at h1
  exact ⟨_, rfl, also (e0) e1, (h0.on e1), h1, by simp⟩
theorem bs_22 (w : World) (x00 x01 x10 x11 : Value) (t0 t1 : TypeId) : ∃ W, W = ((w.alloc (.cells #[x00, x01] t0)).alloc (.cells #[x10, x11] t1)) ∧ Below w.heap.size w W ∧ Bx W (w.heap.size) x00 x01 ∧ Bx W (w.heap.size + 1) x10 x11 ∧ w.heap.size + 1 < W.heap.size := by
  have e0 : Below w.heap.size w (w.alloc (.cells #[x00, x01] t0)) := (Below.refl _ _).alloc (Nat.le_refl _) _
  have h0 := bx_new w x00 x01 t0
  have e1 : Below (w.alloc (.cells #[x00, x01] t0)).heap.size (w.alloc (.cells #[x00, x01] t0)) ((w.alloc (.cells #[x00, x01] t0)).alloc (.cells #[x10, x11] t1)) := (Below.refl _ _).alloc (Nat.le_refl _) _
  have h1 := bx_new (w.alloc (.cells #[x00, x01] t0)) x10 x11 t1
  rw [World.size_alloc] at h1
  exact ⟨_, rfl, also (e0) e1, (h0.on e1), h1, by simp⟩
theorem bs_33 (w : World) (x00 x01 x02 x10 x11 x12 : Value) (t0 t1 : TypeId) : ∃ W, W = ((w.alloc (.cells #[x00, x01, x02] t0)).alloc (.cells #[x10, x11, x12] t1)) ∧ Below w.heap.size w W ∧ B3 W (w.heap.size) x00 x01 x02 ∧ B3 W (w.heap.size + 1) x10 x11 x12 ∧ w.heap.size + 1 < W.heap.size := by
  have e0 : Below w.heap.size w (w.alloc (.cells #[x00, x01, x02] t0)) := (Below.refl _ _).alloc (Nat.le_refl _) _
  have h0 := b3_new w x00 x01 x02 t0
  have e1 : Below (w.alloc (.cells #[x00, x01, x02] t0)).heap.size (w.alloc (.cells #[x00, x01, x02] t0)) ((w.alloc (.cells #[x00, x01, x02] t0)).alloc (.cells #[x10, x11, x12] t1)) := (Below.refl _ _).alloc (Nat.le_refl _) _
  have h1 := b3_new (w.alloc (.cells #[x00, x01, x02] t0)) x10 x11 x12 t1
  rw [World.size_alloc] at h1
  exact ⟨_, rfl, also (e0) e1, (h0.on e1), h1, by simp⟩
theorem bs_333 (w : World) (x00 x01 x02 x10 x11 x12 x20 x21 x22 : Value) (t0 t1 t2 : TypeId) : ∃ W, W = (((w.alloc (.cells #[x00, x01, x02] t0)).alloc (.cells #[x10, x11, x12] t1)).alloc (.cells #[x20, x21, x22] t2)) ∧ Below w.heap.size w W ∧ B3 W (w.heap.size) x00 x01 x02 ∧ B3 W (w.heap.size + 1) x10 x11 x12 ∧ B3 W (w.heap.size + 1 + 1) x20 x21 x22 ∧ w.heap.size + 1 + 1 < W.heap.size := by
  have e0 : Below w.heap.size w (w.alloc (.cells #[x00, x01, x02] t0)) := (Below.refl _ _).alloc (Nat.le_refl _) _
  have h0 := b3_new w x00 x01 x02 t0
  have e1 : Below (w.alloc (.cells #[x00, x01, x02] t0)).heap.size (w.alloc (.cells #[x00, x01, x02] t0)) ((w.alloc (.cells #[x00, x01, x02] t0)).alloc (.cells #[x10, x11, x12] t1)) := (Below.refl _ _).alloc (Nat.le_refl _) _
  have h1 := b3_new (w.alloc (.cells #[x00, x01, x02] t0)) x10 x11 x12 t1
  rw [World.size_alloc] at h1
  have e2 : Below ((w.alloc (.cells #[x00, x01, x02] t0)).alloc (.cells #[x10, x11, x12] t1)).heap.size ((w.alloc (.cells #[x00, x01, x02] t0)).alloc (.cells #[x10, x11, x12] t1)) (((w.alloc (.cells #[x00, x01, x02] t0)).alloc (.cells #[x10, x11, x12] t1)).alloc (.cells #[x20, x21, x22] t2)) := (Below.refl _ _).alloc (Nat.le_refl _) _
  have h2 := b3_new ((w.alloc (.cells #[x00, x01, x02] t0)).alloc (.cells #[x10, x11, x12] t1)) x20 x21 x22 t2
  rw [World.size_alloc, World.size_alloc] at h2
  exact ⟨_, rfl, also (also (e0) e1) e2, ((h0.on e1).on e2), (h1.on e2), h2, by simp⟩
theorem bs_3322 (w : World) (x00 x01 x02 x10 x11 x12 x20 x21 x30 x31 : Value) (t0 t1 t2 t3 : TypeId) : ∃ W, W = ((((w.alloc (.cells #[x00, x01, x02] t0)).alloc (.cells #[x10, x11, x12] t1)).alloc (.cells #[x20, x21] t2)).alloc (.cells #[x30, x31] t3)) ∧ Below w.heap.size w W ∧ B3 W (w.heap.size) x00 x01 x02 ∧ B3 W (w.heap.size + 1) x10 x11 x12 ∧ Bx W (w.heap.size + 1 + 1) x20 x21 ∧ Bx W (w.heap.size + 1 + 1 + 1) x30 x31 ∧ w.heap.size + 1 + 1 + 1 < W.heap.size := by
  have e0 : Below w.heap.size w (w.alloc (.cells #[x00, x01, x02] t0)) := (Below.refl _ _).alloc (Nat.le_refl _) _
  have h0 := b3_new w x00 x01 x02 t0
  have e1 : Below (w.alloc (.cells #[x00, x01, x02] t0)).heap.size (w.alloc (.cells #[x00, x01, x02] t0)) ((w.alloc (.cells #[x00, x01, x02] t0)).alloc (.cells #[x10, x11, x12] t1)) := (Below.refl _ _).alloc (Nat.le_refl _) _
  have h1 := b3_new (w.alloc (.cells #[x00, x01, x02] t0)) x10 x11 x12 t1
  rw [World.size_alloc] at h1
  have e2 : Below ((w.alloc (.cells #[x00, x01, x02] t0)).alloc (.cells #[x10, x11, x12] t1)).heap.size ((w.alloc (.cells #[x00, x01, x02] t0)).alloc (.cells #[x10, x11, x12] t1)) (((w.alloc (.cells #[x00, x01, x02] t0)).alloc (.cells #[x10, x11, x12] t1)).alloc (.cells #[x20, x21] t2)) := (Below.refl _ _).alloc (Nat.le_refl _) _
  have h2 := bx_new ((w.alloc (.cells #[x00, x01, x02] t0)).alloc (.cells #[x10, x11, x12] t1)) x20 x21 t2
  rw [World.size_alloc, World.size_alloc] at h2
  have e3 : Below (((w.alloc (.cells #[x00, x01, x02] t0)).alloc (.cells #[x10, x11, x12] t1)).alloc (.cells #[x20, x21] t2)).heap.size (((w.alloc (.cells #[x00, x01, x02] t0)).alloc (.cells #[x10, x11, x12] t1)).alloc (.cells #[x20, x21] t2)) ((((w.alloc (.cells #[x00, x01, x02] t0)).alloc (.cells #[x10, x11, x12] t1)).alloc (.cells #[x20, x21] t2)).alloc (.cells #[x30, x31] t3)) := (Below.refl _ _).alloc (Nat.le_refl _) _
  have h3 := bx_new (((w.alloc (.cells #[x00, x01, x02] t0)).alloc (.cells #[x10, x11, x12] t1)).alloc (.cells #[x20, x21] t2)) x30 x31 t3
  rw [World.size_alloc, World.size_alloc, World.size_alloc] at h3
  exact ⟨_, rfl, also (also (also (e0) e1) e2) e3, (((h0.on e1).on e2).on e3), ((h1.on e2).on e3), (h2.on e3), h3, by simp⟩
theorem bs_223 (w : World) (x00 x01 x10 x11 x20 x21 x22 : Value) (t0 t1 t2 : TypeId) : ∃ W, W = (((w.alloc (.cells #[x00, x01] t0)).alloc (.cells #[x10, x11] t1)).alloc (.cells #[x20, x21, x22] t2)) ∧ Below w.heap.size w W ∧ Bx W (w.heap.size) x00 x01 ∧ Bx W (w.heap.size + 1) x10 x11 ∧ B3 W (w.heap.size + 1 + 1) x20 x21 x22 ∧ w.heap.size + 1 + 1 < W.heap.size := by
  have e0 : Below w.heap.size w (w.alloc (.cells #[x00, x01] t0)) := (Below.refl _ _).alloc (Nat.le_refl _) _
  have h0 := bx_new w x00 x01 t0
  have e1 : Below (w.alloc (.cells #[x00, x01] t0)).heap.size (w.alloc (.cells #[x00, x01] t0)) ((w.alloc (.cells #[x00, x01] t0)).alloc (.cells #[x10, x11] t1)) := (Below.refl _ _).alloc (Nat.le_refl _) _
  have h1 := bx_new (w.alloc (.cells #[x00, x01] t0)) x10 x11 t1
  rw [World.size_alloc] at h1
  have e2 : Below ((w.alloc (.cells #[x00, x01] t0)).alloc (.cells #[x10, x11] t1)).heap.size ((w.alloc (.cells #[x00, x01] t0)).alloc (.cells #[x10, x11] t1)) (((w.alloc (.cells #[x00, x01] t0)).alloc (.cells #[x10, x11] t1)).alloc (.cells #[x20, x21, x22] t2)) := (Below.refl _ _).alloc (Nat.le_refl _) _
  have h2 := b3_new ((w.alloc (.cells #[x00, x01] t0)).alloc (.cells #[x10, x11] t1)) x20 x21 x22 t2
  rw [World.size_alloc, World.size_alloc] at h2
  exact ⟨_, rfl, also (also (e0) e1) e2, ((h0.on e1).on e2), (h1.on e2), h2, by simp⟩
theorem bs_2 (w : World) (x00 x01 : Value) (t0 : TypeId) : ∃ W, W = (w.alloc (.cells #[x00, x01] t0)) ∧ Below w.heap.size w W ∧ Bx W (w.heap.size) x00 x01 ∧ w.heap.size < W.heap.size := by
  have e0 : Below w.heap.size w (w.alloc (.cells #[x00, x01] t0)) := (Below.refl _ _).alloc (Nat.le_refl _) _
  have h0 := bx_new w x00 x01 t0
  exact ⟨_, rfl, e0, h0, by simp⟩
theorem bs_3 (w : World) (x00 x01 x02 : Value) (t0 : TypeId) : ∃ W, W = (w.alloc (.cells #[x00, x01, x02] t0)) ∧ Below w.heap.size w W ∧ B3 W (w.heap.size) x00 x01 x02 ∧ w.heap.size < W.heap.size := by
  have e0 : Below w.heap.size w (w.alloc (.cells #[x00, x01, x02] t0)) := (Below.refl _ _).alloc (Nat.le_refl _) _
  have h0 := b3_new w x00 x01 x02 t0
  exact ⟨_, rfl, e0, h0, by simp⟩
theorem bs_4 (w : World) (x00 x01 x02 x03 : Value) (t0 : TypeId) : ∃ W, W = (w.alloc (.cells #[x00, x01, x02, x03] t0)) ∧ Below w.heap.size w W ∧ B4 W (w.heap.size) x00 x01 x02 x03 ∧ w.heap.size < W.heap.size := by
  have e0 : Below w.heap.size w (w.alloc (.cells #[x00, x01, x02, x03] t0)) := (Below.refl _ _).alloc (Nat.le_refl _) _
  have h0 := b4_new w x00 x01 x02 x03 t0
  exact ⟨_, rfl, e0, h0, by simp⟩
theorem bs_34 (w : World) (x00 x01 x02 x10 x11 x12 x13 : Value) (t0 t1 : TypeId) : ∃ W, W = ((w.alloc (.cells #[x00, x01, x02] t0)).alloc (.cells #[x10, x11, x12, x13] t1)) ∧ Below w.heap.size w W ∧ B3 W (w.heap.size) x00 x01 x02 ∧ B4 W (w.heap.size + 1) x10 x11 x12 x13 ∧ w.heap.size + 1 < W.heap.size := by
  have e0 : Below w.heap.size w (w.alloc (.cells #[x00, x01, x02] t0)) := (Below.refl _ _).alloc (Nat.le_refl _) _
  have h0 := b3_new w x00 x01 x02 t0
  have e1 : Below (w.alloc (.cells #[x00, x01, x02] t0)).heap.size (w.alloc (.cells #[x00, x01, x02] t0)) ((w.alloc (.cells #[x00, x01, x02] t0)).alloc (.cells #[x10, x11, x12, x13] t1)) := (Below.refl _ _).alloc (Nat.le_refl _) _
  have h1 := b4_new (w.alloc (.cells #[x00, x01, x02] t0)) x10 x11 x12 x13 t1
  rw [World.size_alloc] at h1
  exact ⟨_, rfl, also (e0) e1, (h0.on e1), h1, by simp⟩
theorem bs_44 (w : World) (x00 x01 x02 x03 x10 x11 x12 x13 : Value) (t0 t1 : TypeId) : ∃ W, W = ((w.alloc (.cells #[x00, x01, x02, x03] t0)).alloc (.cells #[x10, x11, x12, x13] t1)) ∧ Below w.heap.size w W ∧ B4 W (w.heap.size) x00 x01 x02 x03 ∧ B4 W (w.heap.size + 1) x10 x11 x12 x13 ∧ w.heap.size + 1 < W.heap.size := by
  have e0 : Below w.heap.size w (w.alloc (.cells #[x00, x01, x02, x03] t0)) := (Below.refl _ _).alloc (Nat.le_refl _) _
  have h0 := b4_new w x00 x01 x02 x03 t0
  have e1 : Below (w.alloc (.cells #[x00, x01, x02, x03] t0)).heap.size (w.alloc (.cells #[x00, x01, x02, x03] t0)) ((w.alloc (.cells #[x00, x01, x02, x03] t0)).alloc (.cells #[x10, x11, x12, x13] t1)) := (Below.refl _ _).alloc (Nat.le_refl _) _
  have h1 := b4_new (w.alloc (.cells #[x00, x01, x02, x03] t0)) x10 x11 x12 x13 t1
  rw [World.size_alloc] at h1
  exact ⟨_, rfl, also (e0) e1, (h0.on e1), h1, by simp⟩
theorem bs_444 (w : World) (x00 x01 x02 x03 x10 x11 x12 x13 x20 x21 x22 x23 : Value) (t0 t1 t2 : TypeId) : ∃ W, W = (((w.alloc (.cells #[x00, x01, x02, x03] t0)).alloc (.cells #[x10, x11, x12, x13] t1)).alloc (.cells #[x20, x21, x22, x23] t2)) ∧ Below w.heap.size w W ∧ B4 W (w.heap.size) x00 x01 x02 x03 ∧ B4 W (w.heap.size + 1) x10 x11 x12 x13 ∧ B4 W (w.heap.size + 1 + 1) x20 x21 x22 x23 ∧ w.heap.size + 1 + 1 < W.heap.size := by
  have e0 : Below w.heap.size w (w.alloc (.cells #[x00, x01, x02, x03] t0)) := (Below.refl _ _).alloc (Nat.le_refl _) _
  have h0 := b4_new w x00 x01 x02 x03 t0
  have e1 : Below (w.alloc (.cells #[x00, x01, x02, x03] t0)).heap.size (w.alloc (.cells #[x00, x01, x02, x03] t0)) ((w.alloc (.cells #[x00, x01, x02, x03] t0)).alloc (.cells #[x10, x11, x12, x13] t1)) := (Below.refl _ _).alloc (Nat.le_refl _) _
  have h1 := b4_new (w.alloc (.cells #[x00, x01, x02, x03] t0)) x10 x11 x12 x13 t1
  rw [World.size_alloc] at h1
  have e2 : Below ((w.alloc (.cells #[x00, x01, x02, x03] t0)).alloc (.cells #[x10, x11, x12, x13] t1)).heap.size ((w.alloc (.cells #[x00, x01, x02, x03] t0)).alloc (.cells #[x10, x11, x12, x13] t1)) (((w.alloc (.cells #[x00, x01, x02, x03] t0)).alloc (.cells #[x10, x11, x12, x13] t1)).alloc (.cells #[x20, x21, x22, x23] t2)) := (Below.refl _ _).alloc (Nat.le_refl _) _
  have h2 := b4_new ((w.alloc (.cells #[x00, x01, x02, x03] t0)).alloc (.cells #[x10, x11, x12, x13] t1)) x20 x21 x22 x23 t2
  rw [World.size_alloc, World.size_alloc] at h2
  exact ⟨_, rfl, also (also (e0) e1) e2, ((h0.on e1).on e2), (h1.on e2), h2, by simp⟩
theorem bs_224 (w : World) (x00 x01 x10 x11 x20 x21 x22 x23 : Value) (t0 t1 t2 : TypeId) : ∃ W, W = (((w.alloc (.cells #[x00, x01] t0)).alloc (.cells #[x10, x11] t1)).alloc (.cells #[x20, x21, x22, x23] t2)) ∧ Below w.heap.size w W ∧ Bx W (w.heap.size) x00 x01 ∧ Bx W (w.heap.size + 1) x10 x11 ∧ B4 W (w.heap.size + 1 + 1) x20 x21 x22 x23 ∧ w.heap.size + 1 + 1 < W.heap.size := by
  have e0 : Below w.heap.size w (w.alloc (.cells #[x00, x01] t0)) := (Below.refl _ _).alloc (Nat.le_refl _) _
  have h0 := bx_new w x00 x01 t0
  have e1 : Below (w.alloc (.cells #[x00, x01] t0)).heap.size (w.alloc (.cells #[x00, x01] t0)) ((w.alloc (.cells #[x00, x01] t0)).alloc (.cells #[x10, x11] t1)) := (Below.refl _ _).alloc (Nat.le_refl _) _
  have h1 := bx_new (w.alloc (.cells #[x00, x01] t0)) x10 x11 t1
  rw [World.size_alloc] at h1
  have e2 : Below ((w.alloc (.cells #[x00, x01] t0)).alloc (.cells #[x10, x11] t1)).heap.size ((w.alloc (.cells #[x00, x01] t0)).alloc (.cells #[x10, x11] t1)) (((w.alloc (.cells #[x00, x01] t0)).alloc (.cells #[x10, x11] t1)).alloc (.cells #[x20, x21, x22, x23] t2)) := (Below.refl _ _).alloc (Nat.le_refl _) _
  have h2 := b4_new ((w.alloc (.cells #[x00, x01] t0)).alloc (.cells #[x10, x11] t1)) x20 x21 x22 x23 t2
  rw [World.size_alloc, World.size_alloc] at h2
  exact ⟨_, rfl, also (also (e0) e1) e2, ((h0.on e1).on e2), (h1.on e2), h2, by simp⟩
theorem bs_42 (w : World) (x00 x01 x02 x03 x10 x11 : Value) (t0 t1 : TypeId) : ∃ W, W = ((w.alloc (.cells #[x00, x01, x02, x03] t0)).alloc (.cells #[x10, x11] t1)) ∧ Below w.heap.size w W ∧ B4 W (w.heap.size) x00 x01 x02 x03 ∧ Bx W (w.heap.size + 1) x10 x11 ∧ w.heap.size + 1 < W.heap.size := by
  have e0 : Below w.heap.size w (w.alloc (.cells #[x00, x01, x02, x03] t0)) := (Below.refl _ _).alloc (Nat.le_refl _) _
  have h0 := b4_new w x00 x01 x02 x03 t0
  have e1 : Below (w.alloc (.cells #[x00, x01, x02, x03] t0)).heap.size (w.alloc (.cells #[x00, x01, x02, x03] t0)) ((w.alloc (.cells #[x00, x01, x02, x03] t0)).alloc (.cells #[x10, x11] t1)) := (Below.refl _ _).alloc (Nat.le_refl _) _
  have h1 := bx_new (w.alloc (.cells #[x00, x01, x02, x03] t0)) x10 x11 t1
  rw [World.size_alloc] at h1
  exact ⟨_, rfl, also (e0) e1, (h0.on e1), h1, by simp⟩
theorem bs_43 (w : World) (x00 x01 x02 x03 x10 x11 x12 : Value) (t0 t1 : TypeId) : ∃ W, W = ((w.alloc (.cells #[x00, x01, x02, x03] t0)).alloc (.cells #[x10, x11, x12] t1)) ∧ Below w.heap.size w W ∧ B4 W (w.heap.size) x00 x01 x02 x03 ∧ B3 W (w.heap.size + 1) x10 x11 x12 ∧ w.heap.size + 1 < W.heap.size := by
  have e0 : Below w.heap.size w (w.alloc (.cells #[x00, x01, x02, x03] t0)) := (Below.refl _ _).alloc (Nat.le_refl _) _
  have h0 := b4_new w x00 x01 x02 x03 t0
  have e1 : Below (w.alloc (.cells #[x00, x01, x02, x03] t0)).heap.size (w.alloc (.cells #[x00, x01, x02, x03] t0)) ((w.alloc (.cells #[x00, x01, x02, x03] t0)).alloc (.cells #[x10, x11, x12] t1)) := (Below.refl _ _).alloc (Nat.le_refl _) _
  have h1 := b3_new (w.alloc (.cells #[x00, x01, x02, x03] t0)) x10 x11 x12 t1
  rw [World.size_alloc] at h1
  exact ⟨_, rfl, also (e0) e1, (h0.on e1), h1, by simp⟩
theorem bs_222 (w : World) (x00 x01 x10 x11 x20 x21 : Value) (t0 t1 t2 : TypeId) : ∃ W, W = (((w.alloc (.cells #[x00, x01] t0)).alloc (.cells #[x10, x11] t1)).alloc (.cells #[x20, x21] t2)) ∧ Below w.heap.size w W ∧ Bx W (w.heap.size) x00 x01 ∧ Bx W (w.heap.size + 1) x10 x11 ∧ Bx W (w.heap.size + 1 + 1) x20 x21 ∧ w.heap.size + 1 + 1 < W.heap.size := by
  have e0 : Below w.heap.size w (w.alloc (.cells #[x00, x01] t0)) := (Below.refl _ _).alloc (Nat.le_refl _) _
  have h0 := bx_new w x00 x01 t0
  have e1 : Below (w.alloc (.cells #[x00, x01] t0)).heap.size (w.alloc (.cells #[x00, x01] t0)) ((w.alloc (.cells #[x00, x01] t0)).alloc (.cells #[x10, x11] t1)) := (Below.refl _ _).alloc (Nat.le_refl _) _
  have h1 := bx_new (w.alloc (.cells #[x00, x01] t0)) x10 x11 t1
  rw [World.size_alloc] at h1
  have e2 : Below ((w.alloc (.cells #[x00, x01] t0)).alloc (.cells #[x10, x11] t1)).heap.size ((w.alloc (.cells #[x00, x01] t0)).alloc (.cells #[x10, x11] t1)) (((w.alloc (.cells #[x00, x01] t0)).alloc (.cells #[x10, x11] t1)).alloc (.cells #[x20, x21] t2)) := (Below.refl _ _).alloc (Nat.le_refl _) _
  have h2 := bx_new ((w.alloc (.cells #[x00, x01] t0)).alloc (.cells #[x10, x11] t1)) x20 x21 t2
  rw [World.size_alloc, World.size_alloc] at h2
  exact ⟨_, rfl, also (also (e0) e1) e2, ((h0.on e1).on e2), (h1.on e2), h2, by simp⟩
theorem bs_332 (w : World) (x00 x01 x02 x10 x11 x12 x20 x21 : Value) (t0 t1 t2 : TypeId) : ∃ W, W = (((w.alloc (.cells #[x00, x01, x02] t0)).alloc (.cells #[x10, x11, x12] t1)).alloc (.cells #[x20, x21] t2)) ∧ Below w.heap.size w W ∧ B3 W (w.heap.size) x00 x01 x02 ∧ B3 W (w.heap.size + 1) x10 x11 x12 ∧ Bx W (w.heap.size + 1 + 1) x20 x21 ∧ w.heap.size + 1 + 1 < W.heap.size := by
  have e0 : Below w.heap.size w (w.alloc (.cells #[x00, x01, x02] t0)) := (Below.refl _ _).alloc (Nat.le_refl _) _
  have h0 := b3_new w x00 x01 x02 t0
  have e1 : Below (w.alloc (.cells #[x00, x01, x02] t0)).heap.size (w.alloc (.cells #[x00, x01, x02] t0)) ((w.alloc (.cells #[x00, x01, x02] t0)).alloc (.cells #[x10, x11, x12] t1)) := (Below.refl _ _).alloc (Nat.le_refl _) _
  have h1 := b3_new (w.alloc (.cells #[x00, x01, x02] t0)) x10 x11 x12 t1
  rw [World.size_alloc] at h1
  have e2 : Below ((w.alloc (.cells #[x00, x01, x02] t0)).alloc (.cells #[x10, x11, x12] t1)).heap.size ((w.alloc (.cells #[x00, x01, x02] t0)).alloc (.cells #[x10, x11, x12] t1)) (((w.alloc (.cells #[x00, x01, x02] t0)).alloc (.cells #[x10, x11, x12] t1)).alloc (.cells #[x20, x21] t2)) := (Below.refl _ _).alloc (Nat.le_refl _) _
  have h2 := bx_new ((w.alloc (.cells #[x00, x01, x02] t0)).alloc (.cells #[x10, x11, x12] t1)) x20 x21 t2
  rw [World.size_alloc, World.size_alloc] at h2
  exact ⟨_, rfl, also (also (e0) e1) e2, ((h0.on e1).on e2), (h1.on e2), h2, by simp⟩
set_option maxRecDepth 100000 in
set_option maxHeartbeats 1000000 in
theorem qParts (n : Bool) (a : Option Addr) (la ca : Nat) (d : Option Addr) (ld cd : Nat) (z : Int) (D K : Nat) (w : World) (h : QI w K n a la ca d ld cd z D) :
    Calls Tryz.prog 47 #[.agg #[.bool n, .slice a la ca, .slice d ld cd]] w (GotPts w K z D) := by
  obtain ⟨k, hk⟩ : ∃ k, k = bt.nlen D := ⟨_, rfl⟩
  have HK : Hid _ := hk
  have hna : NA (w.heap.size + 1) a la := h.wi.ni.sl.na (by omega)
  have hnd : NA (w.heap.size + 1) d ld := h.ni.sl.na (by omega)
  by_cases h0 : D = 0
  · obtain rfl : k = 0 := by rw [hk]; exact bt_zero.2 h0
    subst h0
    clear hk
    obtain ⟨W, hW, bW, x_a, x_z, sW⟩ := bs_32 w (.bool n) (.slice a la ca) (.slice d ld cd) (.bool false) (.slice none 0 0) 27 25
    have zbW := bW.size
    replace h := h.below bW
    have BB := bW
    go_enter Tryz.func47, Tryz.ntmps47
    go_wp2_with (go_at_call 63; fail)
    rw [← hW]
    clear hW
    refine (nBits d ld cd _ W h.ni HK.out).mono ?_
    rintro e w1 ⟨rfl, hw⟩
    subst hw
    go_wp2_with (go_at_call 14; fail)
    refine (fOf 1 (by decide) rfl W).mono ?_
    rintro e w2 ⟨a2, l2, c2, rfl, h2, f2, bw2⟩
    have zbw2 := bw2.size
    replace h := h.below bw2
    replace BB := also BB bw2
    replace x_a := x_a.on bw2
    replace x_z := x_z.on bw2
    have ⟨x_z_0, x_z_1, x_z_2, x_z_3⟩ := x_z
    go_wp2
    have hp : (1 : Nat) < 4294967296 ^ K := Nat.lt_of_lt_of_le (show 1 < 4294967296 ^ 1 by decide) (Nat.pow_le_pow_right (by decide) h.k1)
    exact bodyPost_ret (v := .tuple #[.agg #[.bool false, .slice none 0 0], .slice a2 l2 c2]) (by simp [results, Tryz.results47, go_sem, *]) rfl (endPts _ (by omega) BB ⟨wi_nul _, h2.ni 1 (by decide) (by decide), by simp only [pN, if_pos]; omega, hp, h.k1, h.kk⟩ (Or.inl rfl) (f2 _ sW) _ _)
  · have hk1 : ¬ (k : Int) = 0 := by have := bt_zero (u := D); omega
    have ez : pN z D = z := if_neg h0
    have eD : pD D = D := if_neg h0
    clear hk
    obtain ⟨W, hW, bW, x_a, x_z, sW⟩ := bs_32 w (.bool n) (.slice a la ca) (.slice d ld cd) (.bool false) (.slice none 0 0) 27 25
    have zbW := bW.size
    replace h := h.below bW
    have BB := bW
    go_enter Tryz.func47, Tryz.ntmps47
    go_wp2_with (go_at_call 63; fail)
    rw [← hW]
    clear hW
    refine (nBits d ld cd _ W h.ni HK.out).mono ?_
    rintro e w1 ⟨rfl, hw⟩
    subst hw
    have ⟨x_a_0, x_a_1, x_a_2, x_a_3, x_a_4, x_a_5⟩ := x_a
    go_wp2
    have dd1 : Below W.heap.size W W.drew := (Below.refl _ _).drew
    clear x_a_0 x_a_1 x_a_2 x_a_3 x_a_4 x_a_5
    have zdd1 := dd1.size
    replace h := h.below dd1
    replace BB := also BB dd1
    replace x_a := x_a.on dd1
    replace x_z := x_z.on dd1
    refine wp_region_held_drew (S := (fun w' => w'.cell? ⟨w.heap.size, 0, none⟩ = some (.bool n) ∧ w'.cell? ⟨w.heap.size, 1, none⟩ = some (.slice a la ca) ∧ w'.cell? ⟨w.heap.size, 2, none⟩ = some (.slice d ld cd) ∧ Below w.heap.size w w')) (by kernel_rfl) ?_ (fun hHeld => ?_)
    · first | exact ⟨x_a.c0, x_a.c1, x_a.c2, BB⟩ | exact ⟨cell_put2 hHeld.1 (by omega) _ _, cell_put2 hHeld.2.1 (by omega) _ _, cell_put2 hHeld.2.2.1 (by omega) _ _, below_put2 hHeld.2.2.2 (by omega) _ _⟩
    refine take_yes (i := 0) (v := ?vp0) rfl (by kernel_rfl) (by kernel_rfl) (by kernel_rfl) (fun _ _ _ h => h) (by rfl) (by assumption) ?hyp0 ?restp0
    case hyp0 => (intro w hSw; (try dsimp only at hSw); first | (go_simp; done) | (go_simp; with_reducible rfl))
    simp only [Act.put, List.setIfInBounds_toArray, List.set_cons_zero, List.set_cons_succ]
    refine take_yes (i := 1) (v := ?vp1) rfl (by kernel_rfl) (by kernel_rfl) (by kernel_rfl) (fun _ _ _ h => h) (by rfl) (by assumption) ?hyp1 ?restp1
    case hyp1 => (intro w hSw; (try dsimp only at hSw); first | (go_simp; done) | (go_simp; with_reducible rfl))
    simp only [Act.put, List.setIfInBounds_toArray, List.set_cons_zero, List.set_cons_succ]
    refine take_yes (i := 2) (v := ?vp2) rfl (by kernel_rfl) (by kernel_rfl) (by kernel_rfl) (fun _ _ _ h => h) (by rfl) (by assumption) ?hyp2 ?restp2
    case hyp2 => (intro w hSw; (try dsimp only at hSw); first | (go_simp; done) | (go_simp; with_reducible rfl))
    simp only [Act.put, List.setIfInBounds_toArray, List.set_cons_zero, List.set_cons_succ]
    refine take_yes (i := 3) (v := ?vp3) rfl (by kernel_rfl) (by kernel_rfl) (by kernel_rfl) (fun _ _ _ h => h) (by rfl) (by assumption) ?hyp3 ?restp3
    case hyp3 => (intro w hSw; (try dsimp only at hSw); first | (go_simp; done) | (go_simp; with_reducible rfl))
    simp only [Act.put, List.setIfInBounds_toArray, List.set_cons_zero, List.set_cons_succ]
    have x_z_0 : W.cell? ⟨w.heap.size + 1, 0, none⟩ = some (.bool false) := x_z.c0
    have x_z_1 : W.cell? ⟨w.heap.size + 1, 1, none⟩ = some (.slice none 0 0) := x_z.c1
    have x_z_2 : W.frozen? ⟨w.heap.size + 1, 0, none⟩ = false := x_z.f0
    have x_z_3 : W.frozen? ⟨w.heap.size + 1, 1, none⟩ = false := x_z.f1
    refine take_call (i := 4) rfl (by kernel_rfl) (fun Kc hK => ?_)
    go_simp
    refine hK.out _ _ ?_ (fun hHeld => ?_)
    · first | exact ⟨x_a.c0, x_a.c1, x_a.c2, BB⟩ | exact ⟨cell_put2 hHeld.1 (by omega) _ _, cell_put2 hHeld.2.1 (by omega) _ _, cell_put2 hHeld.2.2.1 (by omega) _ _, below_put2 hHeld.2.2.2 (by omega) _ _⟩
    clear hK Kc
    refine take_yes (i := 5) (v := ?vp5) rfl (by kernel_rfl) (by kernel_rfl) (by kernel_rfl) (fun _ _ _ h => h) (by rfl) (by assumption) ?hyp5 ?restp5
    case hyp5 => (intro w hSw; (try dsimp only at hSw); first | (go_simp; done) | (go_simp; with_reducible rfl))
    simp only [Act.put, List.setIfInBounds_toArray, List.set_cons_zero, List.set_cons_succ]
    refine wpAnyH_done (by kernel_rfl) ?_ _
    go_wp2
    exact bodyPost_ret (v := .tuple #[.agg #[.bool n, .slice a la ca], .slice d ld cd]) (by simp [results, Tryz.results47, go_sem, *]) rfl (endPts _ (by omega) BB (by rw [ez, eD]; exact h) hna hnd _ _)
set_option maxRecDepth 100000 in
set_option maxHeartbeats 1000000 in
theorem qLow (n : Bool) (a : Option Addr) (la ca : Nat) (z : Int) (d : Option Addr) (ld cd D : Nat) (w : World) (ha : WI w n a la ca z) (hd : NI w d ld cd D) (h0 : 0 < D) (N : Int) (E : Nat) (hN : N = lowN z D) (hE : E = lowD z D) :
    Calls Tryz.prog 46 #[.agg #[.bool n, .slice a la ca], .slice d ld cd] w (GotQ w N E) := by
  have HN : Hid (N = sgz n (z.natAbs / Nat.gcd z.natAbs D)) := by unfold Hid; rw [hN, lowN_sg ha]
  have HE : Hid (E = D / Nat.gcd z.natAbs D) := hE
  obtain ⟨G, hG⟩ : ∃ G, G = Nat.gcd z.natAbs D := ⟨_, rfl⟩
  have g0 : 0 < G := by rw [hG]; exact Nat.gcd_pos_of_pos_right _ h0
  have gl : G < 4294967296 ^ ld := by rw [hG]; exact Nat.lt_of_le_of_lt (Nat.le_of_dvd h0 (Nat.gcd_dvd_right _ _)) hd.lt
  rw [← hG] at HN HE
  clear hN hE
  obtain ⟨W, hW, bW, x_a, x_z, sW⟩ := bs_23 w (.bool n) (.slice a la ca) (.bool false) (.slice none 0 0) (.slice none 0 0) 25 27
  have zbW := bW.size
  replace ha := ha.below bW
  replace hd := hd.below bW
  have BB := bW
  go_enter Tryz.func46, Tryz.ntmps46
  go_wp2_with (go_at_call 64; fail)
  rw [← hW]
  clear hW
  refine (nGcd a d la ld ca cd _ _ W ha.ni hd).mono ?_
  rw [← hG]
  rintro e w1 ⟨a1, l1, c1, rfl, h1, bw1⟩
  have zbw1 := bw1.size
  replace ha := ha.below bw1
  replace hd := hd.below bw1
  replace BB := also BB bw1
  replace x_a := x_a.on bw1
  replace x_z := x_z.on bw1
  replace h1 := h1.ni ld hd.few gl
  have ⟨x_a_0, x_a_1, x_a_2, x_a_3⟩ := x_a
  go_wp2_with (go_at_call 65; fail)
  refine (fDiv a a1 la l1 ca c1 _ G w1 ha.ni h1 g0).mono ?_
  rintro e w2 ⟨a2, l2, c2, ar, lr, cr, rfl, h2, hr2, f2, fr2, bw2⟩
  clear x_a_0 x_a_1 x_a_2 x_a_3
  have zbw2 := bw2.size
  replace ha := ha.below bw2
  replace hd := hd.below bw2
  replace BB := also BB bw2
  replace x_a := x_a.on bw2
  replace x_z := x_z.on bw2
  replace h1 := h1.below bw2
  go_wp2_with (go_at_call 65; fail)
  refine (fDiv d a1 ld l1 cd c1 _ G w2 hd h1 g0).mono ?_
  rintro e w3 ⟨a3, l3, c3, br, mr, dr, rfl, h3, hr3, f3, fr3, bw3⟩
  have zbw3 := bw3.size
  replace ha := ha.below bw3
  replace hd := hd.below bw3
  replace BB := also BB bw3
  replace x_a := x_a.on bw3
  replace x_z := x_z.on bw3
  replace h1 := h1.below bw3
  replace h2 := h2.below bw3
  have ⟨x_a_0, x_a_1, x_a_2, x_a_3⟩ := x_a
  go_wp2_with (go_at_call 66; fail)
  refine (wNorm n a2 l2 c2 (sgz n (z.natAbs / G)) w3 (wi_of (h2.ni la ha.ni.few (Nat.lt_of_le_of_lt (Nat.div_le_self _ _) ha.ni.lt))) N HN.out).mono ?_
  rintro e w4 ⟨n4, a4, l4, c4, rfl, h4, f4, bw4⟩
  clear x_a_0 x_a_1 x_a_2 x_a_3
  have zbw4 := bw4.size
  replace ha := ha.below bw4
  replace hd := hd.below bw4
  replace BB := also BB bw4
  replace x_a := x_a.on bw4
  replace x_z := x_z.on bw4
  replace h1 := h1.below bw4
  replace h2 := h2.below bw4
  replace h3 := h3.below bw4
  have ⟨x_z_0, x_z_1, x_z_2, x_z_3, x_z_4, x_z_5⟩ := x_z
  go_wp2
  exact bodyPost_ret (v := .agg #[.bool n4, .slice a4 l4 c4, .slice a3 l3 c3]) (by simp [results, Tryz.results46, go_sem, *]) rfl (endQ _ (by omega) BB ⟨h4, by rw [HE.out]; exact h3⟩ (f4.mono (by omega)) (f3.mono (by omega)) _ _ _)
set_option maxRecDepth 100000 in
set_option maxHeartbeats 1000000 in
theorem qDown (n : Bool) (a : Option Addr) (la ca : Nat) (z : Int) (d : Option Addr) (ld cd D : Nat) (w : World) (ha : WI w n a la ca z) (hd : NI w d ld cd D) (h0 : 0 < D) (Q : Int) (hQ : Q = flQ z D) :
    Calls Tryz.prog 49 #[.agg #[.bool n, .slice a la ca], .slice d ld cd] w (GotW w Q) := by
  have HQ : Hid _ := hQ
  clear hQ
  obtain ⟨W, hW, bW, x_a, x_z, sW⟩ := bs_22 w (.bool n) (.slice a la ca) (.bool false) (.slice none 0 0) 25 25
  have zbW := bW.size
  replace ha := ha.below bW
  replace hd := hd.below bW
  have BB := bW
  go_enter Tryz.func49, Tryz.ntmps49
  go_wp2_with (go_at_call 68; fail)
  rw [← hW]
  clear hW
  refine (wFloor n false a d la ld ca cd z D W ha (wi_nat hd) (by omega) Q (flR z D) HQ.out rfl).mono ?_
  rintro e w1 ⟨n1, a1, l1, c1, n2, a2, l2, c2, rfl, h1, h2, f1, f2, bw1⟩
  have zbw1 := bw1.size
  replace ha := ha.below bw1
  replace hd := hd.below bw1
  replace BB := also BB bw1
  replace x_a := x_a.on bw1
  replace x_z := x_z.on bw1
  obtain ⟨V, hV, bV, x_q, x_r, sV⟩ := bs_22 w1 (.bool n1) (.slice a1 l1 c1) (.bool n2) (.slice a2 l2 c2) 25 25
  have zbV := bV.size
  replace ha := ha.below bV
  replace hd := hd.below bV
  replace BB := also BB bV
  replace x_a := x_a.on bV
  replace x_z := x_z.on bV
  replace h1 := h1.below bV
  replace h2 := h2.below bV
  subst hV
  have ⟨x_q_0, x_q_1, x_q_2, x_q_3⟩ := x_q
  have ⟨x_z_0, x_z_1, x_z_2, x_z_3⟩ := x_z
  go_wp2
  exact bodyPost_ret (v := .agg #[.bool n1, .slice a1 l1 c1]) (by simp [results, Tryz.results49, go_sem, *]) rfl (endW (W := W) _ (by omega) sW BB h1 f1 _ _)
end Go.Proofs.YtaekgomplkkocabGreatDoor

namespace Go.Proofs.YtaekgomplkkocabGreatDoor
open Go.RowKit
set_option linter.unusedVariables false

theorem wp_append_at {P : Program} {w : World} {o : Oper} {a : Act} {K : Act → World → Prop} {Q : Exit → Act → World → Prop} (s x : Operand) (t : TypeId)
    (ho : o.op = .call { callee := .builtin .append, args := #[s, x], argTypes := #[t, t] })
    (base : Nat) (e : TypeId) (i : TypeInfo) (z : Value) (bytes : Nat) (ht : P.underlying t = some (.slice e)) (hi : P.info? e = some i) (hz : i.zero = some z)
    (hsize : i.size = 1) (hby : i.bytes = bytes) (hzs : z.cells.size = 1)
    (a0 : Option Addr) (n0 c0 : Nat) (xs : List Value) (hs : a.eval s = .slice a0 n0 c0) (hown : Own w base e a0 n0 c0 xs)
    (ao : Option Addr) (m c : Nat) (news : List Value) (hx : a.eval x = .slice ao m c) (hsl : Sl w ao m c news) (h1 : ∀ u ∈ news, u.oneCell' = true)
    (h63 : n0 + m ≤ maxLen) (hbytes : (n0 + m) * bytes ≤ 140737488355328) (hbase : base ≤ w.heap.size)
    (h : ∀ a' cap' w', Own w' base e a' (n0 + m) cap' (xs ++ news) → w.grownBy w' (Value.slice a0 n0 c0).ownBlock → ((Value.slice a' (n0 + m) cap').ownBlock = (Value.slice a0 n0 c0).ownBlock ∨ (Value.slice a' (n0 + m) cap').ownBlock = some w.heap.size) → K (a.put o.dst (.slice a' (n0 + m) cap')) w') : o.wp P a w K Q := by
  cases ao with
  | none =>
    obtain ⟨rfl, rfl⟩ := hsl.nil rfl
    obtain rfl : news = [] := List.eq_nil_of_length_eq_zero hsl.len
    have hrun := run_append_owned_none (P := P) (w := w) base t o.type e i 1 ht hi _ n0 xs hown
    unfold Oper.wp
    simp [execOp, ho, resolve, invoke, builtin, hs, hx, hrun, Result.andThen]
    exact h a0 c0 w (by simpa using hown) (World.grownBy.refl _ _) (Or.inl (by cases a0 <;> rfl))
  | some ad =>
    obtain ⟨v', w', hr, h2, h3, _, h5⟩ := run_append_own_at (P := P) w base t o.type e i z 1 bytes ht hi hz hsize hby hzs (by decide) _ n0 xs hown ad m c news (by rw [hsl.len]; omega) (by
      intro j u hu
      have hj := (List.getElem?_eq_some_iff.1 hu).1
      obtain ⟨b, off, e1, hb, hseg⟩ := hsl.at (by have := hsl.len; omega)
      cases e1
      rw [Addr.add_lit]
      exact hseg.cell j u hu) h1 h63 hbytes hbase
    obtain ⟨a', cap', rfl, h4⟩ := Own.form h2
    unfold Oper.wp execOp
    simp only [ho, resolve, invoke, builtin, Sem.run_bind, Sem.run_pure, Result.andThen_ok, List.map_toArray, List.map_cons, List.map_nil, hs, hx, hr]
    exact h a' cap' w' h4 h3 h5
theorem step_append_at {P : Program} {w : World} {ops : Array Oper} {o : Oper} {a : Act} {K : Act → World → Prop} {Q : Exit → Act → World → Prop} {E : Prop} (hgd : o.guard = none) (s x : Operand) (t : TypeId)
    (ho : o.op = .call { callee := .builtin .append, args := #[s, x], argTypes := #[t, t] })
    (base : Nat) (e : TypeId) (i : TypeInfo) (z : Value) (bytes : Nat) (ht : P.underlying t = some (.slice e)) (hi : P.info? e = some i) (hz : i.zero = some z)
    (hsize : i.size = 1) (hby : i.bytes = bytes) (hzs : z.cells.size = 1)
    (a0 : Option Addr) (n0 c0 : Nat) (xs : List Value) (hs : a.eval s = .slice a0 n0 c0) (hown : Own w base e a0 n0 c0 xs)
    (ao : Option Addr) (m c : Nat) (news : List Value) (hx : a.eval x = .slice ao m c) (hsl : Sl w ao m c news) (h1 : ∀ u ∈ news, u.oneCell' = true)
    (h63 : n0 + m ≤ maxLen) (hbytes : (n0 + m) * bytes ≤ 140737488355328) (hbase : base ≤ w.heap.size)
    (h : ∀ a' cap' w', Own w' base e a' (n0 + m) cap' (xs ++ news) → w.grownBy w' (Value.slice a0 n0 c0).ownBlock → ((Value.slice a' (n0 + m) cap').ownBlock = (Value.slice a0 n0 c0).ownBlock ∨ (Value.slice a' (n0 + m) cap').ownBlock = some w.heap.size) → K (a.put o.dst (.slice a' (n0 + m) cap')) w') :
    if Region.wanted o (yielded ops a.tmps) = true then Oper.wp P o a w K Q else E := by
  have hw : Region.wanted o (yielded ops a.tmps) = true := by simp [Region.wanted, hgd]
  rw [if_pos hw]
  exact wp_append_at s x t ho base e i z bytes ht hi hz hsize hby hzs a0 n0 c0 xs hs hown ao m c news hx hsl h1 h63 hbytes hbase h
/-- Some fraction of six words at most each way, with the same sign. -/
def Cut5 (w : World) (n : Bool) (e : Ending) (w' : World) : Prop := ∃ (a : Option Addr) (m c x : Nat) (d : Option Addr) (k g y : Nat), e = .returned (.agg #[.bool n, .slice a m c, .slice d k g]) ∧ QI w' 6 n a m c d k g (sgz n x) y ∧ Far w.heap.size a m ∧ Far w.heap.size d k ∧ Below w.heap.size w w'
theorem NI.put3 {w : World} {a : Option Addr} {l c u b : Nat} (h : NI w a l c u) (hn : NA b a l) (x y z : Value) : NI (((w.setCell ⟨b, 0, none⟩ x).setCell ⟨b, 1, none⟩ y).setCell ⟨b, 2, none⟩ z) a l c u := ((h.put hn 0 x).put hn 1 y).put hn 2 z
theorem endCut5 {w w2 : World} {n : Bool} {a d : Option Addr} {m c x k g y z base : Nat} {T : TypeId} (hm : m ≤ 6) (hk : k ≤ 6) (hx : x < 4294967296 ^ m) (hy : y < 4294967296 ^ k) (o1 : Own w2 base T a m c (wd.dcells m (x : Int))) (o2 : Own w2 base T d k g (wd.dcells k (y : Int))) (hz : w.heap.size ≤ z) (hzb : z < base) (B : Below w.heap.size w w2) (u v t : Value) :
    Cut5 w n (.returned (.agg #[.bool n, .slice a m c, .slice d k g])) (((w2.setCell ⟨z, 0, none⟩ u).setCell ⟨z, 1, none⟩ v).setCell ⟨z, 2, none⟩ t) :=
  have f1 := Own.far o1
  have f2 := Own.far o2
  have h1 : NI w2 a m c x := ⟨Own.sl o1, hx, by omega⟩
  have h2 : NI w2 d k g y := ⟨Own.sl o2, hy, by omega⟩
  ⟨a, m, c, x, d, k, g, y, rfl, ⟨wi_of (h1.put3 (f1 z hzb) u v t), h2.put3 (f2 z hzb) u v t, by rw [sgz_abs]; exact Nat.lt_of_lt_of_le hx (Nat.pow_le_pow_right (by decide) hm), Nat.lt_of_lt_of_le hy (Nat.pow_le_pow_right (by decide) hk), by decide, by decide⟩, f1.mono (by omega), f2.mono (by omega), below_put3 B hz u v t⟩
theorem Own.kept {w w' : World} {base n cap g : Nat} {T : TypeId} {a : Option Addr} {xs : List Value} (h : Own w base T a n cap xs) (hg : w.grownBy w' (some g)) (hne : (Value.slice a n cap).ownBlock ≠ some g) : Own w' base T a n cap xs := World.ownsRow.kept h hg (Or.inr hne)
theorem Own.lt {w : World} {base n cap k : Nat} {T : TypeId} {a : Option Addr} {xs : List Value} (h : Own w base T a n cap xs) (hk : (Value.slice a n cap).ownBlock = some k) : base ≤ k ∧ k < w.heap.size := World.ownsRow.lt h k hk
end Go.Proofs.YtaekgomplkkocabGreatDoor

namespace Go.Proofs.YtaekgomplkkocabGreatDoor
open Go.ChangeShapes Go.WideShapes Go.ChangeAt Go.RowKit Go.Joins
set_option linter.unusedVariables false

theorem cellsRat : Tryz.prog.cellsOf 27 = 3 := by kernel_rfl
theorem cellsNat' : Tryz.prog.cellsOf 23 = 1 := by kernel_rfl
theorem cellsBool' : Tryz.prog.cellsOf 4 = 1 := by kernel_rfl
set_option maxRecDepth 100000 in
theorem rat_view {H : Type} {enc : TypeId × Value → H} {W : World} {b0 : Nat} {v : Value} {d : DataW H} {p : List MemPlace} (hv : Value.okWide Tryz.prog W .any b0 27 v)
    (h : DataW.Trod enc Tryz.prog W 0 (fun _ => true) true 27 v d p) (hfz : W.noneFrozen p) (hlt : ∀ x ∈ p, x.block < W.heap.size) :
    ∃ (n : Bool) (a : Option Addr) (l c u : Nat) (d : Option Addr) (m k v' : Nat), v = .agg #[.bool n, .slice a l c, .slice d m k] ∧ u < 4294967296 ^ l ∧ Sl W a l c (wd.dcells l (u : Int)) ∧ v' < 4294967296 ^ m ∧ Sl W d m k (wd.dcells m (v' : Int)) := by
  obtain ⟨cs, rfl, hsz⟩ := okWide_struct Tryz.underlying27 hv
  obtain ⟨c0, c1, c2, rfl⟩ := array3 (hsz.trans cellsRat)
  obtain ⟨fuel, hf⟩ := h
  obtain ⟨y0, y1, m, hx, _, h0, h1⟩ := trod_struct2 Tryz.underlying27 hf
  simp only [Prod.mk.injEq] at hx
  obtain ⟨_, rfl⟩ := hx
  have h0' : DataW.trod enc Tryz.prog W 0 (fun _ => true) true m 25 [c0, c1] = some y0 := by simpa [Value.cells, cellsInt] using h0
  have h1' : DataW.trod enc Tryz.prog W 0 (fun _ => true) true m 23 [c2] = some y1 := by simpa [Value.cells, cellsNat'] using h1
  cases m with
  | zero => simp [DataW.trod] at h1'
  | succ m =>
    obtain ⟨z0, z1, k, hy, _, h2, h3⟩ := trod_struct2 Tryz.underlying25 h0'
    have h2' : DataW.trod enc Tryz.prog W 0 (fun _ => true) true k 4 [c0] = some z0 := by simpa [cellsBool'] using h2
    have h3' : DataW.trod enc Tryz.prog W 0 (fun _ => true) true k 23 [c1] = some z1 := by simpa [cellsNat'] using h3
    obtain ⟨n, ex, _⟩ := DataW.trod_bool Tryz.underlying4 h2'
    obtain ⟨a, l, c, ey⟩ := slice_form Tryz.underlying23 h3'
    obtain ⟨d', m', k', ez⟩ := slice_form Tryz.underlying23 h1'
    simp at ex ey ez
    subst ex ey ez
    subst hy
    obtain ⟨zd, zp⟩ := z1
    obtain ⟨yd, yp⟩ := y1
    obtain ⟨u, hu, hs⟩ := nat_view (d := zd) (p := zp) (by simpa [Value.cells] using h3') (fun b o hm => hfz b o (by simp [hm])) (fun z hz => hlt z (by simp [hz]))
    obtain ⟨v', hv', hs'⟩ := nat_view (d := yd) (p := yp) (by simpa [Value.cells] using h1') (fun b o hm => hfz b o (by simp [hm])) (fun z hz => hlt z (by simp [hz]))
    exact ⟨n, a, l, c, u, d', m', k', v', rfl, hu, hs, hv', hs'⟩
end Go.Proofs.YtaekgomplkkocabGreatDoor

namespace Go.Proofs.YtaekgomplkkocabGreatDoor
open Go.RowKit
set_option linter.unusedVariables false

def GotTwo (w : World) (x y : Int) (e : Ending) (w' : World) : Prop := ∃ (n : Bool) (a : Option Addr) (l c : Nat) (m : Bool) (b : Option Addr) (k g : Nat), e = .returned (.tuple #[.agg #[.bool n, .slice a l c], .agg #[.bool m, .slice b k g]]) ∧ WN w' n a l c x ∧ WN w' m b k g y ∧ Below w.heap.size w w'
theorem endTwo {w w2 : World} {n : Bool} {a : Option Addr} {l c : Nat} {m : Bool} {b : Option Addr} {k g : Nat} {x y : Int} (p : Nat) (hp : w.heap.size ≤ p) (B : Below w.heap.size w w2) (h1 : WN w2 n a l c x) (h2 : WN w2 m b k g y) (f1 : Far (p + 2) a l) (f2 : Far (p + 2) b k) (u v u' v' : Value) :
    GotTwo w x y (.returned (.tuple #[.agg #[.bool n, .slice a l c], .agg #[.bool m, .slice b k g]])) ((((w2.setCell ⟨p, 0, none⟩ u).setCell ⟨p, 1, none⟩ v).setCell ⟨p + 1, 0, none⟩ u').setCell ⟨p + 1, 1, none⟩ v') :=
  ⟨n, a, l, c, m, b, k, g, rfl, (h1.put2 (f1 _ (by omega)) _ _).put2 (f1 _ (by omega)) _ _, (h2.put2 (f2 _ (by omega)) _ _).put2 (f2 _ (by omega)) _ _, below_put2 (below_put2 B hp _ _) (by omega) _ _⟩
theorem abs_add' {X Y : Int} {K : Nat} (h1 : X.natAbs < 4294967296 ^ K) (h2 : Y.natAbs < 4294967296 ^ K) : (X + Y).natAbs < 4294967296 ^ (K + 1) := by
  have := Int.natAbs_add_le X Y
  rw [Nat.pow_succ]
  omega
theorem abs_mul' {X Y : Int} {K L : Nat} (h1 : X.natAbs < 4294967296 ^ K) (h2 : Y.natAbs < 4294967296 ^ L) : (X * Y).natAbs < 4294967296 ^ (K + L) := by
  rw [Int.natAbs_mul, Nat.pow_add]
  exact Nat.mul_lt_mul_of_lt_of_le h1 (Nat.le_of_lt h2) (Nat.pow_pos (by decide))
theorem nat_mul' {X Y : Nat} {K L : Nat} (h1 : X < 4294967296 ^ K) (h2 : Y < 4294967296 ^ L) : X * Y < 4294967296 ^ (K + L) := by
  rw [Nat.pow_add]
  exact Nat.mul_lt_mul_of_lt_of_le h1 (Nat.le_of_lt h2) (Nat.pow_pos (by decide))
theorem QI.pn {w : World} {K : Nat} {n : Bool} {a : Option Addr} {l c : Nat} {d : Option Addr} {m k : Nat} {z : Int} {D : Nat} (h : QI w K n a l c d m k z D) : (pN z D).natAbs < 4294967296 ^ K := by
  unfold pN
  split
  · exact Nat.pow_pos (by decide)
  · exact h.zs
theorem QI.pd {w : World} {K : Nat} {n : Bool} {a : Option Addr} {l c : Nat} {d : Option Addr} {m k : Nat} {z : Int} {D : Nat} (h : QI w K n a l c d m k z D) : pD D < 4294967296 ^ K := by
  unfold pD
  split
  · exact Nat.lt_of_lt_of_le (show 1 < 4294967296 ^ 1 by decide) (Nat.pow_le_pow_right (by decide) h.k1)
  · exact h.ds
theorem abs_sub' {X Y : Int} {K : Nat} (h1 : X.natAbs < 4294967296 ^ K) (h2 : Y.natAbs < 4294967296 ^ K) : (X - Y).natAbs < 4294967296 ^ (K + 1) := by
  have := Int.natAbs_sub_le X Y
  rw [Nat.pow_succ]
  omega
set_option maxRecDepth 100000 in
set_option maxHeartbeats 1000000 in
theorem qNorm (n : Bool) (a : Option Addr) (la ca : Nat) (d : Option Addr) (ld cd : Nat) (za : Int) (Da : Nat) (K : Nat) (w : World) (ha : QI w K n a la ca d ld cd za Da) (N : Int) (E : Nat) (hN : N = lowN (pN za Da) (pD Da)) (hE : E = lowD (pN za Da) (pD Da)) :
    Calls Tryz.prog 35 #[.agg #[.bool n, .slice a la ca, .slice d ld cd]] w (GotQ w N E) := by
  have HN : Hid _ := hN
  have HE : Hid _ := hE
  clear hN hE
  obtain ⟨W, hW, bW, x_a, x_z, sW⟩ := bs_33 w (.bool n) (.slice a la ca) (.slice d ld cd) (.bool false) (.slice none 0 0) (.slice none 0 0) 27 27
  have zbW := bW.size
  replace ha := ha.below bW
  have BB := bW
  go_enter Tryz.func35, Tryz.ntmps35
  go_wp2_with (go_at_call 47; fail)
  rw [← hW]
  clear hW
  refine (qParts n a la ca d ld cd za Da K W ha).mono ?_
  rintro e w1 ⟨n1, a1, l1, c1, d1, m1, k1, rfl, h1, bw1⟩
  have zbw1 := bw1.size
  replace ha := ha.below bw1
  replace BB := also BB bw1
  replace x_a := x_a.on bw1
  replace x_z := x_z.on bw1
  go_wp2_with (go_at_call 46; fail)
  refine (qLow n1 a1 l1 c1 _ d1 m1 k1 _ w1 h1.wi h1.ni (pD_pos _) N E HN.out HE.out).mono ?_
  rintro e w3 ⟨n3, a3, l3, c3, d3, m3, k3, rfl, h3, f3, g3, bw3⟩
  have zbw3 := bw3.size
  replace ha := ha.below bw3
  replace BB := also BB bw3
  replace x_a := x_a.on bw3
  replace x_z := x_z.on bw3
  replace h1 := h1.below bw3
  have ⟨x_z_0, x_z_1, x_z_2, x_z_3, x_z_4, x_z_5⟩ := x_z
  go_wp2
  exact bodyPost_ret (v := .agg #[.bool n3, .slice a3 l3 c3, .slice d3 m3 k3]) (by simp [results, Tryz.results35, go_sem, *]) rfl (endQ _ (by omega) BB h3 (f3.mono (by omega)) (g3.mono (by omega)) _ _ _)
end Go.Proofs.YtaekgomplkkocabGreatDoor

namespace Go.Proofs.YtaekgomplkkocabGreatDoor
open Go.RowKit
set_option linter.unusedVariables false

theorem hf_top_eq {u v m k : Nat} (hk : k ≤ m) (hu : u < 65536 ^ m) (hv : v < 65536 ^ m) (h : ∀ j, k ≤ j → j < m → hf.dg (u : Int) j = hf.dg (v : Int) j) : u / 65536 ^ k = v / 65536 ^ k := by
  have hlt : ∀ x : Nat, x < 65536 ^ m → x / 65536 ^ k < 65536 ^ (m - k) := fun x hx => by
    refine Nat.div_lt_of_lt_mul ?_
    rw [← Nat.pow_add, show k + (m - k) = m by omega]
    exact hx
  refine hf.eq_of_dcells (m - k) _ _ (hlt u hu) (hlt v hv) fun j hj => ?_
  rw [Int.natCast_ediv, Int.natCast_ediv, hf.pow_cast, hf.dg_div, hf.dg_div]
  exact h _ (by omega) (by omega)
theorem cmpI_lt {x y : Int} (h : x < y) : cmpI x y = -1 := by unfold cmpI; rw [if_pos h]
theorem cmpI_gt {x y : Int} (h : y < x) : cmpI x y = 1 := by unfold cmpI; rw [if_neg (by omega), if_pos h]

set_option maxRecDepth 100000 in
set_option maxHeartbeats 1000000 in
theorem rcmp_any (a b : Option Addr) (ca cb u v : Nat) (w : World) (ha : Sl w a (hf.nlen u) ca (hf.dcells (hf.nlen u) (u : Int))) (hb : Sl w b (hf.nlen v) cb (hf.dcells (hf.nlen v) (v : Int))) :
    Calls Tryz.prog 59 #[.slice a (hf.nlen u) ca, .slice b (hf.nlen v) cb] w fun e w' => e = .returned (.int .i64 (cmpI u v)) ∧ Below w.heap.size w w' := by
  have k1 := ha.big
  have k2 := ha.room
  have k3 := hb.big
  have k4 := hb.room
  unfold maxLen at k1 k3
  rcases Nat.lt_trichotomy (hf.nlen u) (hf.nlen v) with h | h | h
  · have HC : Hid (cmpI u v = -1) := cmpI_lt (by have := hf.lt_of_nlen h; omega)
    go_enter Tryz.func59, Tryz.ntmps59
    go_wp2
    go_ret
    exact ⟨by rw [HC.out]; rfl, (by first | exact Below.refl _ _ | exact below_drewN (Below.refl _ _) _ | exact below_drewN (below_drewN (Below.refl _ _) _) _ | exact below_drewN (below_drewN (below_drewN (Below.refl _ _) _) _) _)⟩
  · obtain ⟨m, hm⟩ : ∃ m, hf.nlen u = m := ⟨_, rfl⟩
    have hv := hf.nlen_lt v
    have hu := hf.nlen_lt u
    rw [← h] at hb hv k4 ⊢
    rw [hm] at ha hb hu hv k2 k4 ⊢
    have HU : Hid _ := hu
    have HV : Hid _ := hv
    clear hm hu hv h
    go_enter Tryz.func59, Tryz.ntmps59
    go_wp2
    go_loopw [5] (fun i wr => ∃ r : Nat, r ≤ m ∧ i = .int .i64 ((r : Int) - 1) ∧ Hid (∀ j, r ≤ j → j < m → hf.dg (u : Int) j = hf.dg (v : Int) j) ∧ ∃ n, wr = w.drewN n) (fun i _ => (intOf i + 1).toNat)
    case atStart => exact ⟨m, Nat.le_refl _, rfl, fun j h1 h2 => absurd h1 (by omega), 0, rfl⟩
    case round =>
      obtain ⟨r, hr, rfl, HR, n, rfl⟩ := hrel
      rcases r with _ | q
      · have HE : Hid (cmpI u v = 0) := by
          obtain rfl : u = v := hf.eq_of_dcells m u v HU.out HV.out (fun j hj => HR.out j (Nat.zero_le _) hj)
          exact cmpI_self _
        go_wp2
        go_ret
        exact ⟨by rw [HE.out]; rfl, (by first | exact Below.refl _ _ | exact below_drewN (Below.refl _ _) _ | exact below_drewN (below_drewN (Below.refl _ _) _) _ | exact below_drewN (below_drewN (below_drewN (Below.refl _ _) _) _) _)⟩
      · obtain ⟨ba, oa, rfl, hba, hsa⟩ := ha.at (by omega)
        obtain ⟨bb, ob, rfl, hbb, hsb⟩ := hb.at (by omega)
        have c1 : w.cell? ⟨ba, oa + q, none⟩ = some (.int .i64 (hf.dg u q)) := hsa.cell q _ (hf.dcells_at _ _ _ (by omega))
        have c2 : w.cell? ⟨bb, ob + q, none⟩ = some (.int .i64 (hf.dg v q)) := hsb.cell q _ (hf.dcells_at _ _ _ (by omega))
        have HT : Hid (u / 65536 ^ (q + 1) = v / 65536 ^ (q + 1)) := hf_top_eq (by omega) HU.out HV.out HR.out
        have e1 : ((q + 1 : Nat) : Int) - 1 = (q : Int) := by omega
        obtain ⟨X, hX⟩ : ∃ X, hf.dg (u : Int) q = X := ⟨_, rfl⟩
        obtain ⟨Y, hY⟩ : ∃ Y, hf.dg (v : Int) q = Y := ⟨_, rfl⟩
        rcases Int.lt_trichotomy X Y with l | l | l
        · have HC : Hid (cmpI u v = -1) := cmpI_lt (by have := hf.lt_of_top HT.out (by rw [hX, hY]; exact l); omega)
          rw [hX] at c1
          rw [hY] at c2
          clear hX hY
          go_wp2
          go_quiet (fail)
          go_wp2
          go_ret
          exact ⟨by rw [HC.out]; rfl, (by first | exact Below.refl _ _ | exact below_drewN (Below.refl _ _) _ | exact below_drewN (below_drewN (Below.refl _ _) _) _ | exact below_drewN (below_drewN (below_drewN (Below.refl _ _) _) _) _)⟩
        · have HQ : Hid (∀ j, q ≤ j → j < m → hf.dg (u : Int) j = hf.dg (v : Int) j) := fun j h1 h2 => by
            rcases Nat.lt_or_ge q j with h3 | h3
            · exact HR.out j h3 h2
            · obtain rfl : j = q := by omega
              rw [hX, hY, l]
          have l1 : ¬ X < Y := by omega
          have l2 : ¬ Y < X := by omega
          rw [hX] at c1
          rw [hY] at c2
          clear hX hY l
          go_wp2
          go_quiet (fail)
          go_wp2
          go_quiet (fail)
          go_wp2
          go_roundw
          case rel => exact ⟨q, by omega, by go_num, HQ.out, _, rfl⟩
          case measure => simp [intOf]
        · have HC : Hid (cmpI u v = 1) := cmpI_gt (by have := hf.lt_of_top HT.out.symm (by rw [hX, hY]; exact l); omega)
          have l1 : ¬ X < Y := by omega
          rw [hX] at c1
          rw [hY] at c2
          clear hX hY
          go_wp2
          go_quiet (fail)
          go_wp2
          go_quiet (fail)
          go_wp2
          go_ret
          exact ⟨by rw [HC.out]; rfl, (by first | exact Below.refl _ _ | exact below_drewN (Below.refl _ _) _ | exact below_drewN (below_drewN (Below.refl _ _) _) _ | exact below_drewN (below_drewN (below_drewN (Below.refl _ _) _) _) _)⟩
  · have HC : Hid (cmpI u v = 1) := cmpI_gt (by have := hf.lt_of_nlen h; omega)
    have h' : ¬ (hf.nlen u : Int) < hf.nlen v := by omega
    go_enter Tryz.func59, Tryz.ntmps59
    go_wp2
    go_ret
    exact ⟨by rw [HC.out]; rfl, (by first | exact Below.refl _ _ | exact below_drewN (Below.refl _ _) _ | exact below_drewN (below_drewN (Below.refl _ _) _) _ | exact below_drewN (below_drewN (below_drewN (Below.refl _ _) _) _) _)⟩

/-- One digit more behind those that one has. -/
theorem push_next {w wr w2 w4 : World} {k cap cap' g' : Nat} {a : Option Addr} {V x : Int} (hx : x = hf.dg V k) (hown : Own wr w.heap.size 3 a k cap (hf.dcells k V)) (hbel : Below w.heap.size w wr)
    (h4 : w4.ownsRow w.heap.size 3 1 (.slice (some ⟨g', 0, none⟩) (k + 1) cap') (k + 1) (hf.dcells k V ++ [.int .i64 x]))
    (h2 : Below wr.heap.size wr w2) (hgr : w2.grownBy w4 (Value.slice a k cap).ownBlock) : Own w4 w.heap.size 3 (some ⟨g', 0, none⟩) (k + 1) cap' (hf.dcells (k + 1) V) ∧ Below w.heap.size w w4 := by
  have hs := hbel.size
  refine ⟨?_, (hbel.trans (h2.mono hs)).grown hgr (by have := h2.size; omega) (fun k' hk' => (World.ownsRow.lt hown k' hk').1)⟩
  rw [hf.dcells_succ, ← hx]
  exact h4
/-- What holds at the head of each round of the sum's loop. -/
def RAddRel (w : World) (u v l : Nat) (o c i : Value) (wr : World) : Prop := ∃ (k cap : Nat) (ao : Option Addr), k ≤ l ∧ i = .int .i64 (k : Int) ∧ c = .int .i64 (hf.carry u v k) ∧ o = .slice ao k cap ∧ Own wr w.heap.size 3 ao k cap (hf.dcells k ((u : Int) + v)) ∧ Below w.heap.size w wr
theorem radd_next {w wr w2 w4 : World} {u v l k cap cap' g' : Nat} {ao : Option Addr} {x : Int} (hk : k < l) (hx : x = hf.carry u v k + hf.dg u k + hf.dg v k) (hown : Own wr w.heap.size 3 ao k cap (hf.dcells k ((u : Int) + v))) (hbel : Below w.heap.size w wr)
    (h4 : w4.ownsRow w.heap.size 3 1 (.slice (some ⟨g', 0, none⟩) (k + 1) cap') (k + 1) (hf.dcells k ((u : Int) + v) ++ [.int .i64 (x % 65536)]))
    (h2 : Below wr.heap.size wr w2) (hgr : w2.grownBy w4 (Value.slice ao k cap).ownBlock) : RAddRel w u v l (.slice (some ⟨g', 0, none⟩) (k + 1) cap') (.int .i64 (x / 65536)) (.int .i64 ((k : Int) + 1)) w4 := by
  obtain ⟨h5, h6⟩ := push_next (x := x % 65536) (by rw [hx, hf.add_digit]) hown hbel h4 h2 hgr
  exact ⟨k + 1, cap', _, hk, by simp, by rw [hf.carry_succ, hx], rfl, h5, h6⟩

set_option maxRecDepth 100000 in
set_option maxHeartbeats 2000000 in
theorem radd_any (a b : Option Addr) (ca cb u v : Nat) (w : World) (ha : Sl w a (hf.nlen u) ca (hf.dcells (hf.nlen u) (u : Int))) (hb : Sl w b (hf.nlen v) cb (hf.dcells (hf.nlen v) (v : Int))) (hlu : hf.nlen u ≤ 1000000000) (hlv : hf.nlen v ≤ 1000000000) :
    Calls Tryz.prog 17 #[.slice a (hf.nlen u) ca, .slice b (hf.nlen v) cb] w fun e w' => ∃ a' cap', e = .returned (.slice a' (hf.nlen (u + v)) cap') ∧ Own w' w.heap.size 3 a' (hf.nlen (u + v)) cap' (hf.dcells (hf.nlen (u + v)) ((u + v : Nat) : Int)) ∧ Below w.heap.size w w' := by
  obtain ⟨i0, hi0, hz0, hz1, hz2⟩ := info_parts infoInt
  have hown0 := own_empty w w.heap.size 3 (Nat.le_refl _)
  have hu := hf.nlen_lt u
  have hv := hf.nlen_lt v
  obtain ⟨lu, hlu'⟩ : ∃ l, hf.nlen u = l := ⟨_, rfl⟩
  obtain ⟨lv, hlv'⟩ : ∃ l, hf.nlen v = l := ⟨_, rfl⟩
  rw [hlu'] at ha hlu hu ⊢
  rw [hlv'] at hb hlv hv ⊢
  obtain ⟨L, hL1, hL2, hL3⟩ : ∃ L, lu ≤ L ∧ lv ≤ L ∧ (L ≤ lu ∨ L ≤ lv) := ⟨max lu lv, by omega, by omega, by omega⟩
  have HU : Hid (∀ k, lu ≤ k → hf.dg (u : Int) k = 0) := fun k hk => hf.dg_over (Nat.lt_of_lt_of_le hu (Nat.pow_le_pow_right (by decide) hk))
  have HV : Hid (∀ k, lv ≤ k → hf.dg (v : Int) k = 0) := fun k hk => hf.dg_over (Nat.lt_of_lt_of_le hv (Nat.pow_le_pow_right (by decide) hk))
  have HS : Hid (u + v < 65536 ^ (L + 1)) := by
    have h1 := Nat.pow_le_pow_right (n := 65536) (by decide) hL1
    have h2 := Nat.pow_le_pow_right (n := 65536) (by decide) hL2
    unfold Hid
    rw [Nat.pow_succ]; omega
  have HE : Hid ((u : Int) + v = ((u + v : Nat) : Int)) := by unfold Hid; omega
  clear hu hv hlu' hlv'
  go_enter Tryz.func17, Tryz.ntmps17
  go_wp2
  go_loopw [5, 6, 7] (fun o c i wr => RAddRel w u v L o c i wr) (fun _ _ i _ => L - (intOf i).toNat)
  case atStart => exact ⟨0, 0, _, by omega, rfl, by rw [hf.carry_zero], rfl, hown0, (Below.refl _ _).alloc (Nat.le_refl _) _⟩
  case round =>
    clear hown0
    obtain ⟨k, cap, ao, hk, rfl, rfl, rfl, hown, hbel⟩ := hrel
    have hsz := hbel.size
    obtain ⟨f0, f1⟩ := hf.carry_range u v k
    obtain ⟨d0, d1⟩ := hf.dg_range u k
    obtain ⟨e0, e1⟩ := hf.dg_range v k
    obtain ⟨C, hC⟩ : ∃ C, hf.carry (u : Int) v k = C := ⟨_, rfl⟩
    obtain ⟨X, hX⟩ : ∃ X, hf.dg (u : Int) k = X := ⟨_, rfl⟩
    obtain ⟨Y, hY⟩ : ∃ Y, hf.dg (v : Int) k = Y := ⟨_, rfl⟩
    rw [hC] at f0 f1
    rw [hX] at d0 d1
    rw [hY] at e0 e1
    by_cases h1 : k < lu
    · obtain ⟨ba, oa, rfl, hba, hsa⟩ := ha.at (by omega)
      have r1 := ha.room
      have c1 : wr.cell? ⟨ba, oa + k, none⟩ = some (.int .i64 X) := (hbel.cell (p := ⟨ba, oa + k, none⟩) hba).trans (by rw [← hX]; exact hsa.cell k _ (hf.dcells_at _ _ _ h1))
      by_cases h2 : k < lv
      · obtain ⟨bb, ob, rfl, hbb, hsb⟩ := hb.at (by omega)
        have r2 := hb.room
        have c2 : wr.cell? ⟨bb, ob + k, none⟩ = some (.int .i64 Y) := (hbel.cell (p := ⟨bb, ob + k, none⟩) hbb).trans (by rw [← hY]; exact hsb.cell k _ (hf.dcells_at _ _ _ h2))
        have HN : Hid _ := fun w2 w4 g' cap' => radd_next (l := L) (x := C + X + Y) (w2 := w2) (w4 := w4) (g' := g') (cap' := cap') (by omega) (by rw [hC, hX, hY]) hown hbel
        rw [hC]
        clear hC hX hY
        go_wp2_with (at_builtin; refine wpList_append_lies _ rfl (.tmp 41) (.tmp 44) 31 rfl w.heap.size 3 i0 (.int .i64 0) 1 8 Tryz.underlying31 hi0 hz0 hz1 hz2 rfl (by decide) (.slice ao k cap) (k) (hf.dcells k ((u : Int) + v)) rfl (World.ownsRow.alloc hown _) ⟨wr.heap.size, 0, none⟩ 1 1 [.int .i64 ((C + X + Y) % 65536)] rfl rfl (cell_one_new _ _ _) (ints_oneCell .i64 [(C + X + Y) % 65536]) (by decide) (by unfold maxLen; omega) (by omega) (by simp; omega) _ rfl ?_; intro g' cap' w4 hown4 hgrow4 hat4 hlt4)
        go_roundw
        case rel => exact HN.out _ w4 g' cap' hown4 ((Below.refl _ _).alloc (Nat.le_refl _) _) hgrow4
        case measure => simp [intOf]; omega
      · have HN : Hid _ := fun w2 w4 g' cap' => radd_next (l := L) (x := C + X) (w2 := w2) (w4 := w4) (g' := g') (cap' := cap') (by omega) (by rw [hC, hX, HV.out k (by omega)]; omega) hown hbel
        have h2' : ¬ (k : Int) < lv := by omega
        rw [hC]
        clear hC hX hY
        go_wp2_with (at_builtin; refine wpList_append_lies _ rfl (.tmp 41) (.tmp 44) 31 rfl w.heap.size 3 i0 (.int .i64 0) 1 8 Tryz.underlying31 hi0 hz0 hz1 hz2 rfl (by decide) (.slice ao k cap) (k) (hf.dcells k ((u : Int) + v)) rfl (World.ownsRow.alloc hown _) ⟨wr.heap.size, 0, none⟩ 1 1 [.int .i64 ((C + X) % 65536)] rfl rfl (cell_one_new _ _ _) (ints_oneCell .i64 [(C + X) % 65536]) (by decide) (by unfold maxLen; omega) (by omega) (by simp; omega) _ rfl ?_; intro g' cap' w4 hown4 hgrow4 hat4 hlt4)
        go_roundw
        case rel => exact HN.out _ w4 g' cap' hown4 ((Below.refl _ _).alloc (Nat.le_refl _) _) hgrow4
        case measure => simp [intOf]; omega
    · by_cases h2 : k < lv
      · obtain ⟨bb, ob, rfl, hbb, hsb⟩ := hb.at (by omega)
        have r2 := hb.room
        have c2 : wr.cell? ⟨bb, ob + k, none⟩ = some (.int .i64 Y) := (hbel.cell (p := ⟨bb, ob + k, none⟩) hbb).trans (by rw [← hY]; exact hsb.cell k _ (hf.dcells_at _ _ _ h2))
        have HN : Hid _ := fun w2 w4 g' cap' => radd_next (l := L) (x := C + Y) (w2 := w2) (w4 := w4) (g' := g') (cap' := cap') (by omega) (by rw [hC, hY, HU.out k (by omega)]; omega) hown hbel
        have h1' : ¬ (k : Int) < lu := by omega
        rw [hC]
        clear hC hX hY
        go_wp2_with (at_builtin; refine wpList_append_lies _ rfl (.tmp 41) (.tmp 44) 31 rfl w.heap.size 3 i0 (.int .i64 0) 1 8 Tryz.underlying31 hi0 hz0 hz1 hz2 rfl (by decide) (.slice ao k cap) (k) (hf.dcells k ((u : Int) + v)) rfl (World.ownsRow.alloc hown _) ⟨wr.heap.size, 0, none⟩ 1 1 [.int .i64 ((C + Y) % 65536)] rfl rfl (cell_one_new _ _ _) (ints_oneCell .i64 [(C + Y) % 65536]) (by decide) (by unfold maxLen; omega) (by omega) (by simp; omega) _ rfl ?_; intro g' cap' w4 hown4 hgrow4 hat4 hlt4)
        go_roundw
        case rel => exact HN.out _ w4 g' cap' hown4 ((Below.refl _ _).alloc (Nat.le_refl _) _) hgrow4
        case measure => simp [intOf]; omega
      · obtain rfl : k = L := by omega
        have HC2 : Hid (C = hf.dg ((u : Int) + v) k) := by
          have h := hf.add_digit u v k
          rw [hC, hX, hY] at h
          have hx0 := HU.out k (by omega)
          have hy0 := HV.out k (by omega)
          rw [hX] at hx0
          rw [hY] at hy0
          unfold Hid
          omega
        have h1' : ¬ (k : Int) < lu := by omega
        have h2' : ¬ (k : Int) < lv := by omega
        have HN : Hid _ := fun w2 w4 g' cap' => push_next (x := C) (w2 := w2) (w4 := w4) (g' := g') (cap' := cap') HC2.out hown hbel
        rw [hC]
        clear hC hX hY
        go_wp2_with (first
          | (at_builtin; refine wpList_append_lies _ rfl (.tmp 48) (.tmp 50) 31 rfl w.heap.size 3 i0 (.int .i64 0) 1 8 Tryz.underlying31 hi0 hz0 hz1 hz2 rfl (by decide) (.slice ao k cap) (k) (hf.dcells k ((u : Int) + v)) rfl (World.ownsRow.alloc hown _) ⟨wr.heap.size, 0, none⟩ 1 1 [.int .i64 (C)] rfl rfl (cell_one_new _ _ _) (ints_oneCell .i64 [C]) (by decide) (by unfold maxLen; omega) (by omega) (by simp; omega) _ rfl ?_; intro g' cap' w4 hown4 hgrow4 hat4 hlt4)
          | (go_at_call 19; have hnx := HN.out _ w4 g' cap' hown4 ((Below.refl _ _).alloc (Nat.le_refl _) _) hgrow4; rw [HE.out] at hnx; refine (rtrim_own _ _ _ (u + v) _ _ hnx.1 HS.out).mono ?_; rintro e w' ⟨rfl, hw, hown5⟩; subst hw))
        go_ret
        exact ⟨_, cap', rfl, hown5, hnx.2⟩

/-- What holds at the head of each round of the difference's loop. -/
def RSubRel (w : World) (u v l : Nat) (o c i : Value) (wr : World) : Prop := ∃ (k cap : Nat) (ao : Option Addr), k ≤ l ∧ i = .int .i64 (k : Int) ∧ c = .int .i64 (hf.bw u v k) ∧ o = .slice ao k cap ∧ Own wr w.heap.size 3 ao k cap (hf.dcells k ((u : Int) - v)) ∧ Below w.heap.size w wr
theorem rsub_next {w wr w2 w4 : World} {u v l k cap cap' g' : Nat} {ao : Option Addr} {x c : Int} (hk : k < l) (hx : (x = hf.dg u k - hf.dg v k - hf.bw u v k ∧ 0 ≤ x ∧ c = 0) ∨ (x = hf.dg u k - hf.dg v k - hf.bw u v k + 65536 ∧ x < 65536 ∧ c = 1)) (hown : Own wr w.heap.size 3 ao k cap (hf.dcells k ((u : Int) - v))) (hbel : Below w.heap.size w wr)
    (h4 : w4.ownsRow w.heap.size 3 1 (.slice (some ⟨g', 0, none⟩) (k + 1) cap') (k + 1) (hf.dcells k ((u : Int) - v) ++ [.int .i64 x]))
    (h2 : Below wr.heap.size wr w2) (hgr : w2.grownBy w4 (Value.slice ao k cap).ownBlock) : RSubRel w u v l (.slice (some ⟨g', 0, none⟩) (k + 1) cap') (.int .i64 c) (.int .i64 ((k : Int) + 1)) w4 := by
  have d := hf.dg_range u k
  have e := hf.dg_range v k
  have f := hf.bw_range u v k
  have hd := hf.sub_digit u v k
  have hb := hf.bw_succ u v k
  obtain ⟨h5, h6⟩ := push_next (x := x) (by rw [← hd]; omega) hown hbel h4 h2 hgr
  refine ⟨k + 1, cap', _, hk, by simp, ?_, rfl, h5, h6⟩
  rw [← hb]
  unfold hf.bor
  rcases hx with ⟨h, h0, rfl⟩ | ⟨h, h0, rfl⟩
  · rw [if_neg (by omega)]
  · rw [if_pos (by omega)]
set_option maxRecDepth 100000 in
set_option maxHeartbeats 2000000 in
theorem rsub_any (a b : Option Addr) (ca cb u v : Nat) (w : World) (ha : Sl w a (hf.nlen u) ca (hf.dcells (hf.nlen u) (u : Int))) (hb : Sl w b (hf.nlen v) cb (hf.dcells (hf.nlen v) (v : Int))) (hlu : hf.nlen u ≤ 1000000000) (hlv : hf.nlen v ≤ 1000000000) (hle : v ≤ u) :
    Calls Tryz.prog 60 #[.slice a (hf.nlen u) ca, .slice b (hf.nlen v) cb] w fun e w' => ∃ a' cap', e = .returned (.slice a' (hf.nlen (u - v)) cap') ∧ Own w' w.heap.size 3 a' (hf.nlen (u - v)) cap' (hf.dcells (hf.nlen (u - v)) ((u - v : Nat) : Int)) ∧ Below w.heap.size w w' := by
  obtain ⟨i0, hi0, hz0, hz1, hz2⟩ := info_parts infoInt
  have hown0 := own_empty w w.heap.size 3 (Nat.le_refl _)
  have hu := hf.nlen_lt u
  have hv := hf.nlen_lt v
  obtain ⟨lu, hlu'⟩ : ∃ l, hf.nlen u = l := ⟨_, rfl⟩
  obtain ⟨lv, hlv'⟩ : ∃ l, hf.nlen v = l := ⟨_, rfl⟩
  rw [hlu'] at ha hlu hu ⊢
  rw [hlv'] at hb hlv hv ⊢
  have HV : Hid (∀ k, lv ≤ k → hf.dg (v : Int) k = 0) := fun k hk => hf.dg_over (Nat.lt_of_lt_of_le hv (Nat.pow_le_pow_right (by decide) hk))
  have HS : Hid (u - v < 65536 ^ lu) := by unfold Hid; omega
  have HE : Hid ((u : Int) - v = ((u - v : Nat) : Int)) := by unfold Hid; omega
  clear hu hv hlu' hlv' hle
  go_enter Tryz.func60, Tryz.ntmps60
  go_wp2
  go_loopw [5, 6, 7] (fun o c i wr => RSubRel w u v lu o c i wr) (fun _ _ i _ => lu - (intOf i).toNat)
  case atStart => exact ⟨0, 0, _, by omega, rfl, by rw [hf.bw_zero], rfl, hown0, (Below.refl _ _).alloc (Nat.le_refl _) _⟩
  case round =>
    clear hown0
    obtain ⟨k, cap, ao, hk, rfl, rfl, rfl, hown, hbel⟩ := hrel
    have hsz := hbel.size
    obtain ⟨f0, f1⟩ := hf.bw_range u v k
    obtain ⟨d0, d1⟩ := hf.dg_range u k
    obtain ⟨e0, e1⟩ := hf.dg_range v k
    obtain ⟨C, hC⟩ : ∃ C, hf.bw (u : Int) v k = C := ⟨_, rfl⟩
    obtain ⟨X, hX⟩ : ∃ X, hf.dg (u : Int) k = X := ⟨_, rfl⟩
    obtain ⟨Y, hY⟩ : ∃ Y, hf.dg (v : Int) k = Y := ⟨_, rfl⟩
    rw [hC] at f0 f1
    rw [hX] at d0 d1
    rw [hY] at e0 e1
    by_cases h1 : k < lu
    · obtain ⟨ba, oa, rfl, hba, hsa⟩ := ha.at (by omega)
      have r1 := ha.room
      have c1 : wr.cell? ⟨ba, oa + k, none⟩ = some (.int .i64 X) := (hbel.cell (p := ⟨ba, oa + k, none⟩) hba).trans (by rw [← hX]; exact hsa.cell k _ (hf.dcells_at _ _ _ h1))
      by_cases h2 : k < lv
      · obtain ⟨bb, ob, rfl, hbb, hsb⟩ := hb.at (by omega)
        have r2 := hb.room
        have c2 : wr.cell? ⟨bb, ob + k, none⟩ = some (.int .i64 Y) := (hbel.cell (p := ⟨bb, ob + k, none⟩) hbb).trans (by rw [← hY]; exact hsb.cell k _ (hf.dcells_at _ _ _ h2))
        by_cases hn : X - C - Y < 0
        · have HN : Hid _ := fun w2 w4 g' cap' => rsub_next (l := lu) (c := 1) (x := X - C - Y + 65536) (w2 := w2) (w4 := w4) (g' := g') (cap' := cap') (by omega) (Or.inr ⟨by rw [hC, hX, hY]; omega, by omega, rfl⟩) hown hbel
          rw [hC]
          clear hC hX hY
          go_wp2_with (at_builtin; refine wpList_append_lies _ rfl (.tmp 36) (.tmp 38) 31 rfl w.heap.size 3 i0 (.int .i64 0) 1 8 Tryz.underlying31 hi0 hz0 hz1 hz2 rfl (by decide) (.slice ao k cap) (k) (hf.dcells k ((u : Int) - v)) rfl (World.ownsRow.alloc hown _) ⟨wr.heap.size, 0, none⟩ 1 1 [.int .i64 (X - C - Y + 65536)] rfl rfl (cell_one_new _ _ _) (ints_oneCell .i64 [X - C - Y + 65536]) (by decide) (by unfold maxLen; omega) (by omega) (by simp; omega) _ rfl ?_; intro g' cap' w4 hown4 hgrow4 hat4 hlt4)
          go_roundw
          case rel => exact HN.out _ w4 g' cap' hown4 ((Below.refl _ _).alloc (Nat.le_refl _) _) hgrow4
          case measure => simp [intOf]; omega
        · have HN : Hid _ := fun w2 w4 g' cap' => rsub_next (l := lu) (c := 0) (x := X - C - Y) (w2 := w2) (w4 := w4) (g' := g') (cap' := cap') (by omega) (Or.inl ⟨by rw [hC, hX, hY]; omega, by omega, rfl⟩) hown hbel
          rw [hC]
          clear hC hX hY
          go_wp2_with (at_builtin; refine wpList_append_lies _ rfl (.tmp 36) (.tmp 38) 31 rfl w.heap.size 3 i0 (.int .i64 0) 1 8 Tryz.underlying31 hi0 hz0 hz1 hz2 rfl (by decide) (.slice ao k cap) (k) (hf.dcells k ((u : Int) - v)) rfl (World.ownsRow.alloc hown _) ⟨wr.heap.size, 0, none⟩ 1 1 [.int .i64 (X - C - Y)] rfl rfl (cell_one_new _ _ _) (ints_oneCell .i64 [X - C - Y]) (by decide) (by unfold maxLen; omega) (by omega) (by simp; omega) _ rfl ?_; intro g' cap' w4 hown4 hgrow4 hat4 hlt4)
          go_roundw
          case rel => exact HN.out _ w4 g' cap' hown4 ((Below.refl _ _).alloc (Nat.le_refl _) _) hgrow4
          case measure => simp [intOf]; omega
      · have h2' : ¬ (k : Int) < lv := by omega
        have hY0 := HV.out k (by omega)
        by_cases hn : X - C < 0
        · have HN : Hid _ := fun w2 w4 g' cap' => rsub_next (l := lu) (c := 1) (x := X - C + 65536) (w2 := w2) (w4 := w4) (g' := g') (cap' := cap') (by omega) (Or.inr ⟨by rw [hC, hX, hY0]; omega, by omega, rfl⟩) hown hbel
          rw [hC]
          clear hC hX hY hY0
          go_wp2_with (at_builtin; refine wpList_append_lies _ rfl (.tmp 36) (.tmp 38) 31 rfl w.heap.size 3 i0 (.int .i64 0) 1 8 Tryz.underlying31 hi0 hz0 hz1 hz2 rfl (by decide) (.slice ao k cap) (k) (hf.dcells k ((u : Int) - v)) rfl (World.ownsRow.alloc hown _) ⟨wr.heap.size, 0, none⟩ 1 1 [.int .i64 (X - C + 65536)] rfl rfl (cell_one_new _ _ _) (ints_oneCell .i64 [X - C + 65536]) (by decide) (by unfold maxLen; omega) (by omega) (by simp; omega) _ rfl ?_; intro g' cap' w4 hown4 hgrow4 hat4 hlt4)
          go_roundw
          case rel => exact HN.out _ w4 g' cap' hown4 ((Below.refl _ _).alloc (Nat.le_refl _) _) hgrow4
          case measure => simp [intOf]; omega
        · have HN : Hid _ := fun w2 w4 g' cap' => rsub_next (l := lu) (c := 0) (x := X - C) (w2 := w2) (w4 := w4) (g' := g') (cap' := cap') (by omega) (Or.inl ⟨by rw [hC, hX, hY0]; omega, by omega, rfl⟩) hown hbel
          rw [hC]
          clear hC hX hY hY0
          go_wp2_with (at_builtin; refine wpList_append_lies _ rfl (.tmp 36) (.tmp 38) 31 rfl w.heap.size 3 i0 (.int .i64 0) 1 8 Tryz.underlying31 hi0 hz0 hz1 hz2 rfl (by decide) (.slice ao k cap) (k) (hf.dcells k ((u : Int) - v)) rfl (World.ownsRow.alloc hown _) ⟨wr.heap.size, 0, none⟩ 1 1 [.int .i64 (X - C)] rfl rfl (cell_one_new _ _ _) (ints_oneCell .i64 [X - C]) (by decide) (by unfold maxLen; omega) (by omega) (by simp; omega) _ rfl ?_; intro g' cap' w4 hown4 hgrow4 hat4 hlt4)
          go_roundw
          case rel => exact HN.out _ w4 g' cap' hown4 ((Below.refl _ _).alloc (Nat.le_refl _) _) hgrow4
          case measure => simp [intOf]; omega
    · obtain rfl : k = lu := by omega
      rw [HE.out] at hown
      clear hC hX hY
      go_wp2_with (go_at_call 19; refine (rtrim_own _ _ _ (u - v) _ _ hown HS.out).mono ?_; rintro e w' ⟨rfl, hw, hown5⟩; subst hw)
      go_ret
      exact ⟨_, cap, rfl, hown5, hbel⟩
end Go.Proofs.YtaekgomplkkocabGreatDoor

namespace Go.Proofs.YtaekgomplkkocabGreatDoor
open Go.RowKit
set_option linter.unusedVariables false

/-- What holds at the head of each round of the inner loop. -/
def RMulIn (w : World) (b N lv i : Nat) (O x v : Int) (c kv : Value) (wr : World) : Prop := ∃ k : Nat, k ≤ lv ∧ kv = .int .i64 (k : Int) ∧ c = .int .i64 (hf.cy O x v i k) ∧ Own wr w.heap.size 3 (some ⟨b, 0, none⟩) N N (hf.mix N (i + k) (O + x * 65536 ^ i * v) O) ∧ Below w.heap.size w wr
theorem rmul_next {w wr : World} {b N lv i k n : Nat} {O x v t : Int} (hk : k < lv) (hN : i + lv ≤ N) (ht : t = hf.cy O x v i k + hf.dg O (i + k) + x * hf.dg v k) (hown : Own wr w.heap.size 3 (some ⟨b, 0, none⟩) N N (hf.mix N (i + k) (O + x * 65536 ^ i * v) O)) (hbel : Below w.heap.size w wr) :
    RMulIn w b N lv i O x v (.int .i64 (t / 65536)) (.int .i64 ((k : Int) + 1)) ((wr.drewN n).setCell ⟨b, i + k, none⟩ (.int .i64 (t % 65536))) := by
  have hown' : Own (wr.drewN n) w.heap.size 3 (some ⟨b, 0, none⟩) N N (hf.mix N (i + k) (O + x * 65536 ^ i * v) O) := hown
  refine ⟨k + 1, hk, by simp, by rw [ht, hf.cy_succ], ?_, (below_drewN hbel n).setCell (seg_of_own hown).2.2 _⟩
  rw [ht, hf.mul_digit, ← Nat.add_assoc, ← hf.mix_set]
  exact Own.set hown' _ (by omega)
/-- What holds at the head of each round of the outer loop. -/
def RMulOut (w : World) (b lu lv u v : Nat) (iv : Value) (wr : World) : Prop := ∃ i : Nat, i ≤ lu ∧ iv = .int .i64 (i : Int) ∧ Own wr w.heap.size 3 (some ⟨b, 0, none⟩) (lu + lv) (lu + lv) (hf.dcells (lu + lv) ((u % 65536 ^ i * v : Nat) : Int)) ∧ Below w.heap.size w wr
theorem hpart_lt {u v k lb : Nat} (hv : v < 65536 ^ lb) : u % 65536 ^ k * v < 65536 ^ (k + lb) := by
  rw [Nat.pow_add]
  exact Nat.mul_lt_mul_of_lt_of_le (Nat.mod_lt _ (hf.pow_nat k)) (Nat.le_of_lt hv) (hf.pow_nat lb)
theorem hpart_next (u v k : Nat) : ((u % 65536 ^ k * v : Nat) : Int) + hf.dg u k * 65536 ^ k * v = ((u % 65536 ^ (k + 1) * v : Nat) : Int) := by
  rw [Int.natCast_mul, Int.natCast_mul, Int.natCast_emod, Int.natCast_emod, hf.pow_cast, hf.pow_cast]
  exact hf.mul_next u v k
theorem rmul_last {w wr : World} {b lu lv u v i : Nat} {c O X : Int} (hO : O = ((u % 65536 ^ i * v : Nat) : Int)) (hX : X = hf.dg (u : Int) i) (hi : i < lu) (hv : v < 65536 ^ lv) (hc : c = hf.cy O X v i lv)
    (hown : Own wr w.heap.size 3 (some ⟨b, 0, none⟩) (lu + lv) (lu + lv) (hf.mix (lu + lv) (i + lv) (O + X * 65536 ^ i * v) O)) (hbel : Below w.heap.size w wr) :
    RMulOut w b lu lv u v (.int .i64 ((i : Int) + 1)) (wr.setCell ⟨b, i + lv, none⟩ (.int .i64 c)) := by
  subst hO hX
  refine ⟨i + 1, hi, by simp, ?_, hbel.setCell (seg_of_own hown).2.2 _⟩
  have hd := hf.mul_digit ((u % 65536 ^ i * v : Nat) : Int) (hf.dg u i) v i lv
  have h0 : hf.dg ((u % 65536 ^ i * v : Nat) : Int) (i + lv) = 0 := hf.dg_over (hpart_lt hv)
  have h1 : hf.dg (v : Int) lv = 0 := hf.dg_over hv
  have hr := hf.cy_range ((u % 65536 ^ i * v : Nat) : Int) (hf.dg u i) v i lv (hf.dg_range u i).1 (hf.dg_range u i).2
  rw [h0, h1, ← hc, Int.mul_zero] at hd
  rw [← hc] at hr
  have hc2 : c = hf.dg (((u % 65536 ^ i * v : Nat) : Int) + hf.dg u i * 65536 ^ i * v) (i + lv) := by rw [← hd]; omega
  have := Own.set hown (i := i + lv) (.int .i64 c) (by omega)
  rw [hc2, hf.mix_set] at this
  rw [hc2]
  have e : hf.mix (lu + lv) (i + lv + 1) (((u % 65536 ^ i * v : Nat) : Int) + hf.dg u i * 65536 ^ i * v) ((u % 65536 ^ i * v : Nat) : Int) = hf.dcells (lu + lv) ((u % 65536 ^ (i + 1) * v : Nat) : Int) := by
    rw [← hpart_next, ← hf.mix_full (lu + lv) (((u % 65536 ^ i * v : Nat) : Int) + hf.dg u i * 65536 ^ i * v) ((u % 65536 ^ i * v : Nat) : Int)]
    refine hf.fill_congr fun j hj => ?_
    by_cases h : j < i + lv + 1
    · simp [h, hj]
    · have z1 : hf.dg ((u % 65536 ^ i * v : Nat) : Int) j = 0 := hf.dg_over (Nat.lt_of_lt_of_le (hpart_lt hv) (Nat.pow_le_pow_right (by decide) (by omega)))
      have z2 : hf.dg (((u % 65536 ^ i * v : Nat) : Int) + hf.dg u i * 65536 ^ i * v) j = 0 := by
        rw [hpart_next]
        exact hf.dg_over (Nat.lt_of_lt_of_le (hpart_lt hv) (Nat.pow_le_pow_right (by decide) (by omega)))
      rw [z1, z2]; simp
  rw [← e]
  exact this

set_option maxRecDepth 100000 in
set_option maxHeartbeats 2000000 in
theorem rmul_any (a b : Option Addr) (ca cb u v : Nat) (w : World) (ha : Sl w a (hf.nlen u) ca (hf.dcells (hf.nlen u) (u : Int))) (hb : Sl w b (hf.nlen v) cb (hf.dcells (hf.nlen v) (v : Int))) (hlu : hf.nlen u ≤ 1000000000) (hlv : hf.nlen v ≤ 1000000000) :
    Calls Tryz.prog 18 #[.slice a (hf.nlen u) ca, .slice b (hf.nlen v) cb] w fun e w' => ∃ a' cap', e = .returned (.slice a' (hf.nlen (u * v)) cap') ∧ Own w' w.heap.size 3 a' (hf.nlen (u * v)) cap' (hf.dcells (hf.nlen (u * v)) ((u * v : Nat) : Int)) ∧ Below w.heap.size w w' := by
  obtain ⟨i0, hi0, hz0, hz1, hz2⟩ := info_parts infoInt
  have hu := hf.nlen_lt u
  have hv := hf.nlen_lt v
  obtain ⟨lu, hlu'⟩ : ∃ l, hf.nlen u = l := ⟨_, rfl⟩
  obtain ⟨lv, hlv'⟩ : ∃ l, hf.nlen v = l := ⟨_, rfl⟩
  rw [hlu'] at ha hlu hu ⊢
  rw [hlv'] at hb hlv hv ⊢
  have HM : Hid (u % 65536 ^ lu = u) := Nat.mod_eq_of_lt hu
  have HV : Hid _ := hv
  have HS : Hid (u * v < 65536 ^ (lu + lv)) := by have := hpart_lt (u := u) (k := lu) hv; rwa [HM.out] at this
  have hz0' : hf.dcells (lu + lv) 0 = List.replicate (lu + lv) (.int .i64 0) := hf.dcells_zero _
  have HZ : Hid _ := hz0'
  have hmax : lu + lv ≤ maxLen := by unfold maxLen; omega
  clear hu hv hlu' hlv' hz0'
  go_enter Tryz.func18, Tryz.ntmps18
  go_wp2_with (at_make; refine make_any _ rfl (.tmp 13) (.tmp 13) 31 rfl w.heap.size 3 i0 (.int .i64 0) Tryz.underlying31 hi0 hz0 hz1 rfl .i64 .i64 _ _ (lu + lv) rfl rfl (by simp) (by simp) (by rw [hz2]; omega) (by omega) (Nat.le_refl _) ?_; intro w1 hown hbel)
  rw [← HZ.out] at hown
  go_loopw [6] (fun iv wr => RMulOut w w.heap.size lu lv u v iv wr) (fun iv _ => lu - (intOf iv).toNat)
  case atStart => exact ⟨0, by omega, rfl, by rw [Nat.pow_zero, Nat.mod_one, Nat.zero_mul]; exact hown, hbel⟩
  case round =>
    clear hown hbel
    obtain ⟨i, hi, rfl, hown, hbel⟩ := hrel
    by_cases hlt : i < lu
    · obtain ⟨ba, oa, rfl, hba, hsa⟩ := ha.at (by omega)
      have r1 := ha.room
      obtain ⟨X, hX⟩ : ∃ X, X = hf.dg (u : Int) i := ⟨_, rfl⟩
      obtain ⟨O, hO⟩ : ∃ O, O = ((u % 65536 ^ i * v : Nat) : Int) := ⟨_, rfl⟩
      obtain ⟨x0, x1⟩ := hf.dg_range u i
      have c0 : w.cell? ⟨ba, oa + i, none⟩ = some (.int .i64 X) := by rw [hX]; exact hsa.cell i _ (hf.dcells_at _ _ _ hlt)
      rw [← hX] at x0 x1
      have HI : Hid (RMulIn w w.heap.size (lu + lv) lv i O X v (.int .i64 0) (.int .i64 0) wr) := ⟨0, by omega, rfl, by rw [hf.cy_zero], by rw [Nat.add_zero, hf.mix_start, hO]; exact hown, hbel⟩
      have HL : Hid _ := fun (wr : World) (c : Int) => rmul_last (w := w) (wr := wr) (b := w.heap.size) (c := c) hO hX hlt HV.out
      clear hown hbel hX hO
      go_wp2
      go_loopw [7, 8] (fun c kv wr => RMulIn w w.heap.size (lu + lv) lv i O X v c kv wr) (fun _ kv _ => lv - (intOf kv).toNat)
      case atStart => exact HI.out
      case round =>
        obtain ⟨k, hk, rfl, rfl, hown, hbel⟩ := hrel
        obtain ⟨f0, f1⟩ := hf.cy_range O X v i k x0 x1
        by_cases hlk : k < lv
        · obtain ⟨bb, ob, rfl, hbb, hsb⟩ := hb.at (by omega)
          have r2 := hb.room
          have c1 : wr.cell? ⟨ba, oa + i, none⟩ = some (.int .i64 X) := (hbel.cell (p := ⟨ba, oa + i, none⟩) hba).trans c0
          have c2 : wr.cell? ⟨bb, ob + k, none⟩ = some (.int .i64 (hf.dg v k)) := (hbel.cell (p := ⟨bb, ob + k, none⟩) hbb).trans (hsb.cell k _ (hf.dcells_at _ _ _ hlk))
          have c3 : wr.cell? ⟨w.heap.size, i + k, none⟩ = some (.int .i64 (hf.dg O (i + k))) := Own.cell hown _ _ (hf.mix_at _ _ _ _ _ (by omega) (Nat.le_refl _))
          have c4 : wr.frozen? ⟨w.heap.size, i + k, none⟩ = false := Own.free hown _ (by omega)
          obtain ⟨d0, d1⟩ := hf.dg_range v k
          obtain ⟨e0, e1⟩ := hf.dg_range O (i + k)
          have HN : Hid _ := fun n => rmul_next (n := n) hlk (by omega) rfl hown hbel
          obtain ⟨C, hC⟩ : ∃ C, hf.cy O X v i k = C := ⟨_, rfl⟩
          obtain ⟨Y, hY⟩ : ∃ Y, hf.dg (v : Int) k = Y := ⟨_, rfl⟩
          obtain ⟨D, hD⟩ : ∃ D, hf.dg O (i + k) = D := ⟨_, rfl⟩
          rw [hC] at f0 f1 HN ⊢
          rw [hY] at c2 d0 d1 HN
          rw [hD] at c3 e0 e1 HN
          have m0 : 0 ≤ X * Y := Int.mul_nonneg x0 d0
          have m1 : X * Y ≤ 4294836225 := by have := Int.mul_le_mul (show X ≤ 65535 by omega) (show Y ≤ 65535 by omega) d0 (by decide); omega
          clear hown hC hY hD
          go_wp2
          go_quiet (fail)
          go_wp2
          go_roundw
          case rel => exact HN.out _
          case measure => simp [intOf]; omega
        · obtain rfl : k = lv := by omega
          have c3 : wr.cell? ⟨w.heap.size, i + k, none⟩ = some (.int .i64 (hf.dg O (i + k))) := Own.cell hown _ _ (hf.mix_at _ _ _ _ _ (by omega) (Nat.le_refl _))
          have c4 : wr.frozen? ⟨w.heap.size, i + k, none⟩ = false := Own.free hown _ (by omega)
          have HN : Hid _ := HL.out wr _ rfl hown hbel
          clear hown
          go_wp2
          go_roundw
          case rel => exact HN.out
          case measure => simp [intOf]; omega
    · obtain rfl : i = lu := by omega
      rw [HM.out] at hown
      go_wp2_with (go_at_call 19; refine (rtrim_own _ _ _ (u * v) _ _ hown HS.out).mono ?_; rintro e w' ⟨rfl, hw, hown5⟩; subst hw)
      go_ret
      exact ⟨_, _, rfl, hown5, hbel⟩
end Go.Proofs.YtaekgomplkkocabGreatDoor

namespace Go.Proofs.YtaekgomplkkocabGreatDoor
open Go.RowKit
set_option linter.unusedVariables false

/-- The slice is the digits of the number u. -/
structure HD (w : World) (a : Option Addr) (l c u : Nat) : Prop where
  sl : Sl w a l c (hf.dcells l (u : Int))
  len : l = hf.nlen u
theorem HD.below {w w' : World} {a : Option Addr} {l c u : Nat} (h : HD w a l c u) (hb : Below w.heap.size w w') : HD w' a l c u := ⟨h.sl.below hb, h.len⟩
theorem hd_nil (w : World) : HD w none 0 0 0 := ⟨sl_nil w, hf.nlen_zero.symm⟩
def GotH (w : World) (u : Nat) (e : Ending) (w' : World) : Prop := ∃ a l c, e = .returned (.slice a l c) ∧ HD w' a l c u ∧ Below w.heap.size w w'
theorem gotH {w w' : World} {u : Nat} {e : Ending} (h : ∃ a' cap', e = .returned (.slice a' (hf.nlen u) cap') ∧ Own w' w.heap.size 3 a' (hf.nlen u) cap' (hf.dcells (hf.nlen u) (u : Int)) ∧ Below w.heap.size w w') : GotH w u e w' := by
  obtain ⟨a, c, he, ho, hb⟩ := h
  exact ⟨a, _, c, he, ⟨Own.sl ho, rfl⟩, hb⟩
theorem hfew {u K : Nat} (hu : u < 4294967296 ^ K) (hK : K ≤ 500000) : hf.nlen u ≤ 1000000 := by
  have : hf.nlen u ≤ 2 * K := hf.nlen_le (by rw [pow_halves]; exact hu)
  omega
theorem hOf (a : Option Addr) (l c u : Nat) (w : World) (hs : Sl w a l c (wd.dcells l (u : Int))) (hu : u < 4294967296 ^ l) (hl : l ≤ 1000000) : Calls Tryz.prog 39 #[.slice a l c] w (GotH w u) :=
  (rof_any a l c u w hs hu (by omega)).mono fun _ _ h => gotH h
theorem hCmp (a b : Option Addr) (la lb ca cb u v : Nat) (w : World) (ha : HD w a la ca u) (hb : HD w b lb cb v) {c : Int} (hc : c = cmpI u v) : Calls Tryz.prog 59 #[.slice a la ca, .slice b lb cb] w fun e w' => e = .returned (.int .i64 c) ∧ Below w.heap.size w w' := by
  obtain ⟨ha, rfl⟩ := ha
  obtain ⟨hb, rfl⟩ := hb
  subst hc
  exact rcmp_any a b ca cb u v w ha hb
theorem hAdd (a b : Option Addr) (la lb ca cb u v : Nat) (w : World) (ha : HD w a la ca u) (hb : HD w b lb cb v) (fu : hf.nlen u ≤ 1000000) (fv : hf.nlen v ≤ 1000000) : Calls Tryz.prog 17 #[.slice a la ca, .slice b lb cb] w (GotH w (u + v)) := by
  obtain ⟨ha, rfl⟩ := ha
  obtain ⟨hb, rfl⟩ := hb
  exact (radd_any a b ca cb u v w ha hb (by omega) (by omega)).mono fun _ _ h => gotH h
theorem hSub (a b : Option Addr) (la lb ca cb u v : Nat) (w : World) (ha : HD w a la ca u) (hb : HD w b lb cb v) (fu : hf.nlen u ≤ 1000000) (fv : hf.nlen v ≤ 1000000) (hle : v ≤ u) : Calls Tryz.prog 60 #[.slice a la ca, .slice b lb cb] w (GotH w (u - v)) := by
  obtain ⟨ha, rfl⟩ := ha
  obtain ⟨hb, rfl⟩ := hb
  exact (rsub_any a b ca cb u v w ha hb (by omega) (by omega) hle).mono fun _ _ h => gotH h
theorem hMul (a b : Option Addr) (la lb ca cb u v : Nat) (w : World) (ha : HD w a la ca u) (hb : HD w b lb cb v) (fu : hf.nlen u ≤ 1000000) (fv : hf.nlen v ≤ 1000000) : Calls Tryz.prog 18 #[.slice a la ca, .slice b lb cb] w (GotH w (u * v)) := by
  obtain ⟨ha, rfl⟩ := ha
  obtain ⟨hb, rfl⟩ := hb
  exact (rmul_any a b ca cb u v w ha hb (by omega) (by omega)).mono fun _ _ h => gotH h
theorem hHalf (a : Option Addr) (la ca u : Nat) (w : World) (ha : HD w a la ca u) (fu : hf.nlen u ≤ 1000000) : Calls Tryz.prog 58 #[.slice a la ca] w (GotH w (u / 2)) := by
  obtain ⟨ha, rfl⟩ := ha
  exact (rhalf_any a ca u w ha (by omega)).mono fun _ _ h => gotH h
theorem hSame (a b : Option Addr) (la lb ca cb u : Nat) (w : World) (ha : Sl w a la ca (wd.dcells la (u : Int))) (ea : la = wd.nlen u) (hb : HD w b lb cb u) (fu : hf.nlen u ≤ 1000000) : Calls Tryz.prog 25 #[.slice a la ca, .slice b lb cb] w fun e w' => e = .returned (.bool true) ∧ Below w.heap.size w w' := by
  subst ea
  obtain ⟨hb, rfl⟩ := hb
  exact same_yes a b ca cb u w ha hb (by omega)
end Go.Proofs.YtaekgomplkkocabGreatDoor

namespace Go.Proofs.YtaekgomplkkocabGreatDoor
open Go.RowKit
set_option linter.unusedVariables false

theorem HD.put {w : World} {a : Option Addr} {l c u b : Nat} (h : HD w a l c u) (hn : NA b a l) (i : Nat) (v : Value) : HD (w.setCell ⟨b, i, none⟩ v) a l c u := ⟨h.sl.put hn i v, h.len⟩
def GotHF (w : World) (u : Nat) (e : Ending) (w' : World) : Prop := ∃ a l c, e = .returned (.slice a l c) ∧ HD w' a l c u ∧ Far w.heap.size a l ∧ Below w.heap.size w w'
theorem gotHF {w w' : World} {u : Nat} {e : Ending} (h : ∃ a' cap', e = .returned (.slice a' (hf.nlen u) cap') ∧ Own w' w.heap.size 3 a' (hf.nlen u) cap' (hf.dcells (hf.nlen u) (u : Int)) ∧ Below w.heap.size w w') : GotHF w u e w' := by
  obtain ⟨a, c, he, ho, hb⟩ := h
  exact ⟨a, _, c, he, ⟨Own.sl ho, rfl⟩, Own.far ho, hb⟩
theorem hfOf (a : Option Addr) (l c u : Nat) (w : World) (h : NI w a l c u) : Calls Tryz.prog 39 #[.slice a l c] w (GotHF w u) :=
  (rof_any a l c u w h.sl h.lt (by have := h.few; omega)).mono fun _ _ h => gotHF h
theorem hfAdd (a b : Option Addr) (la lb ca cb u v : Nat) (w : World) (ha : HD w a la ca u) (hb : HD w b lb cb v) (fu : hf.nlen u ≤ 1000000) (fv : hf.nlen v ≤ 1000000) : Calls Tryz.prog 17 #[.slice a la ca, .slice b lb cb] w (GotHF w (u + v)) := by
  obtain ⟨ha, rfl⟩ := ha
  obtain ⟨hb, rfl⟩ := hb
  exact (radd_any a b ca cb u v w ha hb (by omega) (by omega)).mono fun _ _ h => gotHF h
theorem hfSub (a b : Option Addr) (la lb ca cb u v : Nat) (w : World) (ha : HD w a la ca u) (hb : HD w b lb cb v) (fu : hf.nlen u ≤ 1000000) (fv : hf.nlen v ≤ 1000000) (hle : v ≤ u) : Calls Tryz.prog 60 #[.slice a la ca, .slice b lb cb] w (GotHF w (u - v)) := by
  obtain ⟨ha, rfl⟩ := ha
  obtain ⟨hb, rfl⟩ := hb
  exact (rsub_any a b ca cb u v w ha hb (by omega) (by omega) hle).mono fun _ _ h => gotHF h
theorem hfMul (a b : Option Addr) (la lb ca cb u v : Nat) (w : World) (ha : HD w a la ca u) (hb : HD w b lb cb v) (fu : hf.nlen u ≤ 1000000) (fv : hf.nlen v ≤ 1000000) : Calls Tryz.prog 18 #[.slice a la ca, .slice b lb cb] w (GotHF w (u * v)) := by
  obtain ⟨ha, rfl⟩ := ha
  obtain ⟨hb, rfl⟩ := hb
  exact (rmul_any a b ca cb u v w ha hb (by omega) (by omega)).mono fun _ _ h => gotHF h
end Go.Proofs.YtaekgomplkkocabGreatDoor
