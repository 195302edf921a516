/-
  NatGcds: the greatest number that divides any two is the document's.
-/
import Derived.Test.YtjdphcdpgjdmkaaDoorP4
import Derived.Test.YtjdphcdpgjdmkaaDoorP6
namespace Go.Proofs.YtjdphcdpgjdmkaaDoor
open Go.RowKit
set_option linter.unusedVariables false

/-- The first words of a number are a number. -/
theorem Sl.cut {w : World} {a : Option Addr} {m c x k : Nat} (h : Sl w a m c (wd.dcells m (x : Int))) (hk : k ≤ m) : Sl w a k c (wd.dcells k ((x % 4294967296 ^ k : Nat) : Int)) := by
  have e : wd.dcells k (x : Int) = wd.dcells k ((x % 4294967296 ^ k : Nat) : Int) := by
    refine wd.dcells_congr ((x / 4294967296 ^ k : Nat) : Int) ?_
    have := Nat.mod_add_div x (4294967296 ^ k)
    rw [← wd.pow_cast]
    rw [← Int.natCast_mul, Nat.mul_comm]
    omega
  rw [← e]
  refine ⟨wd.dcells_length _ _, Nat.le_trans hk h.room, h.big, fun ha => ⟨by have := (h.nil ha).1; omega, (h.nil ha).2⟩, ?_⟩
  rcases Nat.eq_zero_or_pos k with rfl | hk0
  · exact Or.inl rfl
  · obtain ⟨b, o, e1, hb, hs⟩ := h.at (by omega)
    exact Or.inr ⟨b, o, e1, hb, by have := hs.take k; rwa [wd.dcells_take _ _ _ hk] at this⟩
theorem Own.shape {w : World} {base n cap : Nat} {T : TypeId} {a : Option Addr} {xs : List Value} (h : Own w base T a n cap xs) : (a = none ∧ n = 0 ∧ cap = 0) ∨ ∃ g, a = some ⟨g, 0, none⟩ := by
  obtain ⟨hl, ⟨h1, h2⟩ | ⟨g, cap', cur, hv, r⟩⟩ := h
  · cases h1
    exact Or.inl ⟨rfl, h2, rfl⟩
  · cases hv
    exact Or.inr ⟨g, rfl⟩
namespace ngcds
open Go.ChangeShapes Go.WideShapes Go.ChangeAt
set_option maxRecDepth 100000 in
set_option maxHeartbeats 4000000 in
theorem walk (a : Option Addr) (la ca u : Nat) (b : Option Addr) (lb cb v : Nat) (w : World) (ha : Sl w a la ca (wd.dcells la (u : Int))) (hu : u < 4294967296 ^ la) (hb : Sl w b lb cb (wd.dcells lb (v : Int))) (hv : v < 4294967296 ^ lb) :
    Calls Tryd.prog 3 #[.slice a la ca, .slice b lb cb] w fun e w' => e = .returned (.bool true) ∧ Below w.heap.size w w' := by
  have hT := Below.refl w.heap.size w
  go_enter Tryd.func3, Tryd.ntmps3
  go_wp2_with (go_at_call 5; fail)
  refine (short_any a la ca u _ ha hu).mono ?_
  rintro e w1 ⟨a1, ca1, m, x, rfl, hm, hx, hown1, hbel1⟩
  have hb1 := hb.below hbel1
  have hT := hT.trans (hbel1.mono hT.size)
  go_wp2_with (go_at_call 5; fail)
  refine (short_any b lb cb v _ hb1 hv).mono ?_
  rintro e w2 ⟨b1, cb1, n, y, rfl, hn, hy, hown2, hbel2⟩
  have n2 : NI w2 b1 n cb1 y := ⟨Own.sl hown2, hy, by omega⟩
  have n1 : NI w2 a1 m ca1 x := ⟨(Own.sl hown1).below hbel2, hx, by omega⟩
  have hT := hT.trans (hbel2.mono hT.size)
  have sh1 := Own.shape hown1
  have sh2 := Own.shape hown2
  have r1 := n1.sl.room
  have r2 := n2.sl.room
  have k1 := n1.sl.big
  have k2 := n2.sl.big
  unfold maxLen at k1 k2
  clear ha hu hb hv hb1 hown1 hown2
  by_cases h8 : m ≤ 8 ∧ n ≤ 8
  · obtain ⟨h8a, h8b⟩ := h8
    have f1 : ¬ (8 : Int) < m := by omega
    have f2 : ¬ (8 : Int) < n := by omega
    go_wp2_with (go_at_call 7; fail)
    have p1 := n1
    have p2 := n2
    have hT := hT
    obtain ⟨G, hG⟩ : ∃ G, G = Nat.gcd x y := ⟨_, rfl⟩
    have fs : hf.nlen (x + y) ≤ 1000000 := hfew (K := 21) (few_sum (m := m) (n := n) (by omega) (by omega) p1.lt p2.lt) (by decide)
    have fg : hf.nlen G ≤ 1000000 := by
      refine Nat.le_trans (mono_hf ?_) fs
      rw [hG]
      rcases Nat.eq_zero_or_pos x with e | e
      · rw [e, Nat.gcd_zero_left]; omega
      · exact Nat.le_trans (Nat.le_of_dvd e (Nat.gcd_dvd_left _ _)) (Nat.le_add_right _ _)
    have H := nGcd _ _ _ _ _ _ x y _ p1 p2
    rw [← hG] at H
    refine H.mono ?_
    rintro e w3 ⟨ag, lg, cg, rfl, hg3, hb3⟩
    have p1 := p1.below hb3
    have p2 := p2.below hb3
    have hT := hT.trans (hb3.mono hT.size)
    have HG : Hid _ := hG
    clear hG H
    go_wp2_with (go_at_call 9; fail)
    refine (hOf _ _ _ x _ p1.sl p1.lt p1.few).mono ?_
    rintro e w4 ⟨ax, lx, cx, rfl, hx4, hb4⟩
    have p2 := p2.below hb4
    have hg3 := hg3.below hb4
    have hT := hT.trans (hb4.mono hT.size)
    go_wp2_with (go_at_call 9; fail)
    refine (hOf _ _ _ y _ p2.sl p2.lt p2.few).mono ?_
    rintro e w5 ⟨ay, ly, cy, rfl, hy5, hb5⟩
    have hx4 := hx4.below hb5
    have hg3 := hg3.below hb5
    have hT := hT.trans (hb5.mono hT.size)
    go_wp2_with (go_at_call 8; fail)
    have H := hGcd ax ay lx ly cx cy x y w5 hx4 hy5 fs
    rw [← HG.out] at H
    refine H.mono ?_
    rintro e w6 ⟨ar, lr, cr, rfl, hr6, hb6⟩
    have hg3 := hg3.below hb6
    have hT := hT.trans (hb6.mono hT.size)
    go_wp2_with (go_at_call 6; fail)
    refine (hSame ag ar lg lr cg cr G w6 hg3.sl hg3.len hr6 fg).mono ?_
    rintro e w7 ⟨rfl, hb7⟩
    have hT := hT.trans (hb7.mono hT.size)
    go_wp2_with (go_at_call 10; refine (lives_any _).mono ?_; rintro e w15 ⟨rfl, hbel15⟩; have hT := hT.trans (hbel15.mono hT.size))
    go_ret
    exact ⟨rfl, hT⟩
  · obtain ⟨K, hK⟩ : ∃ K, K = m % 8 := ⟨_, rfl⟩
    obtain ⟨L, hL⟩ : ∃ L, L = n % 8 := ⟨_, rfl⟩
    have EK : (m : Int) % 8 = (K : Int) := by omega
    have EL : (n : Int) % 8 = (L : Int) := by omega
    have hKm : K ≤ m := by omega
    have hLn : L ≤ n := by omega
    have hK8 : K < 8 := by omega
    have hL8 : L < 8 := by omega
    have q1 := n1.sl.cut hKm
    have q2 := n2.sl.cut hLn
    have X1 : Hid (x % 4294967296 ^ K < 4294967296 ^ K) := Nat.mod_lt _ (wd.pow_nat K)
    have Y1 : Hid (y % 4294967296 ^ L < 4294967296 ^ L) := Nat.mod_lt _ (wd.pow_nat L)
    obtain ⟨X, hX⟩ : ∃ X, X = x % 4294967296 ^ K := ⟨_, rfl⟩
    obtain ⟨Y, hY⟩ : ∃ Y, Y = y % 4294967296 ^ L := ⟨_, rfl⟩
    rw [← hX] at q1 X1
    rw [← hY] at q2 Y1
    have p1 : NI w2 a1 K ca1 X := ⟨q1, X1.out, by omega⟩
    have p2 : NI w2 b1 L cb1 Y := ⟨q2, Y1.out, by omega⟩
    clear hX hY hK hL n1 n2 q1 q2
    rcases sh1 with ⟨rfl, rfl, rfl⟩ | ⟨ga, rfl⟩
    · rcases sh2 with ⟨rfl, rfl, rfl⟩ | ⟨gb, rfl⟩
      · omega
      · obtain rfl : K = 0 := by omega
        have f2 : (8 : Int) < n := by omega
        go_wp2
        go_quiet (fail)
        go_wp2_with (go_at_call 7; fail)
        have p1 := NI.below p1 (show Below w2.heap.size w2 (w2.drewN nq) from ⟨rfl, rfl, rfl, Nat.le_refl _, fun _ _ => rfl⟩)
        have p2 := NI.below p2 (show Below w2.heap.size w2 (w2.drewN nq) from ⟨rfl, rfl, rfl, Nat.le_refl _, fun _ _ => rfl⟩)
        have hT := below_drewN hT nq
        obtain ⟨G, hG⟩ : ∃ G, G = Nat.gcd X Y := ⟨_, rfl⟩
        have fs : hf.nlen (X + Y) ≤ 1000000 := hfew (K := 21) (few_sum (m := 0) (n := L) (by omega) (by omega) p1.lt p2.lt) (by decide)
        have fg : hf.nlen G ≤ 1000000 := by
          refine Nat.le_trans (mono_hf ?_) fs
          rw [hG]
          rcases Nat.eq_zero_or_pos X with e | e
          · rw [e, Nat.gcd_zero_left]; omega
          · exact Nat.le_trans (Nat.le_of_dvd e (Nat.gcd_dvd_left _ _)) (Nat.le_add_right _ _)
        have H := nGcd _ _ _ _ _ _ X Y _ p1 p2
        rw [← hG] at H
        refine H.mono ?_
        rintro e w3 ⟨ag, lg, cg, rfl, hg3, hb3⟩
        have p1 := p1.below hb3
        have p2 := p2.below hb3
        have hT := hT.trans (hb3.mono hT.size)
        have HG : Hid _ := hG
        clear hG H
        go_wp2_with (go_at_call 9; fail)
        refine (hOf _ _ _ X _ p1.sl p1.lt p1.few).mono ?_
        rintro e w4 ⟨ax, lx, cx, rfl, hx4, hb4⟩
        have p2 := p2.below hb4
        have hg3 := hg3.below hb4
        have hT := hT.trans (hb4.mono hT.size)
        go_wp2_with (go_at_call 9; fail)
        refine (hOf _ _ _ Y _ p2.sl p2.lt p2.few).mono ?_
        rintro e w5 ⟨ay, ly, cy, rfl, hy5, hb5⟩
        have hx4 := hx4.below hb5
        have hg3 := hg3.below hb5
        have hT := hT.trans (hb5.mono hT.size)
        go_wp2_with (go_at_call 8; fail)
        have H := hGcd ax ay lx ly cx cy X Y w5 hx4 hy5 fs
        rw [← HG.out] at H
        refine H.mono ?_
        rintro e w6 ⟨ar, lr, cr, rfl, hr6, hb6⟩
        have hg3 := hg3.below hb6
        have hT := hT.trans (hb6.mono hT.size)
        go_wp2_with (go_at_call 6; fail)
        refine (hSame ag ar lg lr cg cr G w6 hg3.sl hg3.len hr6 fg).mono ?_
        rintro e w7 ⟨rfl, hb7⟩
        have hT := hT.trans (hb7.mono hT.size)
        go_wp2_with (go_at_call 10; refine (lives_any _).mono ?_; rintro e w15 ⟨rfl, hbel15⟩; have hT := hT.trans (hbel15.mono hT.size))
        go_ret
        exact ⟨rfl, hT⟩
    · rcases sh2 with ⟨rfl, rfl, rfl⟩ | ⟨gb, rfl⟩
      · obtain rfl : L = 0 := by omega
        have f1 : (8 : Int) < m := by omega
        go_wp2
        go_quiet (fail)
        go_wp2_with (go_at_call 7; fail)
        have p1 := NI.below p1 (show Below w2.heap.size w2 (w2.drewN nq) from ⟨rfl, rfl, rfl, Nat.le_refl _, fun _ _ => rfl⟩)
        have p2 := NI.below p2 (show Below w2.heap.size w2 (w2.drewN nq) from ⟨rfl, rfl, rfl, Nat.le_refl _, fun _ _ => rfl⟩)
        have hT := below_drewN hT nq
        obtain ⟨G, hG⟩ : ∃ G, G = Nat.gcd X Y := ⟨_, rfl⟩
        have fs : hf.nlen (X + Y) ≤ 1000000 := hfew (K := 21) (few_sum (m := K) (n := 0) (by omega) (by omega) p1.lt p2.lt) (by decide)
        have fg : hf.nlen G ≤ 1000000 := by
          refine Nat.le_trans (mono_hf ?_) fs
          rw [hG]
          rcases Nat.eq_zero_or_pos X with e | e
          · rw [e, Nat.gcd_zero_left]; omega
          · exact Nat.le_trans (Nat.le_of_dvd e (Nat.gcd_dvd_left _ _)) (Nat.le_add_right _ _)
        have H := nGcd _ _ _ _ _ _ X Y _ p1 p2
        rw [← hG] at H
        refine H.mono ?_
        rintro e w3 ⟨ag, lg, cg, rfl, hg3, hb3⟩
        have p1 := p1.below hb3
        have p2 := p2.below hb3
        have hT := hT.trans (hb3.mono hT.size)
        have HG : Hid _ := hG
        clear hG H
        go_wp2_with (go_at_call 9; fail)
        refine (hOf _ _ _ X _ p1.sl p1.lt p1.few).mono ?_
        rintro e w4 ⟨ax, lx, cx, rfl, hx4, hb4⟩
        have p2 := p2.below hb4
        have hg3 := hg3.below hb4
        have hT := hT.trans (hb4.mono hT.size)
        go_wp2_with (go_at_call 9; fail)
        refine (hOf _ _ _ Y _ p2.sl p2.lt p2.few).mono ?_
        rintro e w5 ⟨ay, ly, cy, rfl, hy5, hb5⟩
        have hx4 := hx4.below hb5
        have hg3 := hg3.below hb5
        have hT := hT.trans (hb5.mono hT.size)
        go_wp2_with (go_at_call 8; fail)
        have H := hGcd ax ay lx ly cx cy X Y w5 hx4 hy5 fs
        rw [← HG.out] at H
        refine H.mono ?_
        rintro e w6 ⟨ar, lr, cr, rfl, hr6, hb6⟩
        have hg3 := hg3.below hb6
        have hT := hT.trans (hb6.mono hT.size)
        go_wp2_with (go_at_call 6; fail)
        refine (hSame ag ar lg lr cg cr G w6 hg3.sl hg3.len hr6 fg).mono ?_
        rintro e w7 ⟨rfl, hb7⟩
        have hT := hT.trans (hb7.mono hT.size)
        go_wp2_with (go_at_call 10; refine (lives_any _).mono ?_; rintro e w15 ⟨rfl, hbel15⟩; have hT := hT.trans (hbel15.mono hT.size))
        go_ret
        exact ⟨rfl, hT⟩
      · by_cases f1' : 8 < m
        · have f1 : (8 : Int) < m := by omega
          go_wp2
          go_quiet (fail)
          go_wp2_with (go_at_call 7; fail)
          have p1 := NI.below p1 (show Below w2.heap.size w2 (w2.drewN nq) from ⟨rfl, rfl, rfl, Nat.le_refl _, fun _ _ => rfl⟩)
          have p2 := NI.below p2 (show Below w2.heap.size w2 (w2.drewN nq) from ⟨rfl, rfl, rfl, Nat.le_refl _, fun _ _ => rfl⟩)
          have hT := below_drewN hT nq
          obtain ⟨G, hG⟩ : ∃ G, G = Nat.gcd X Y := ⟨_, rfl⟩
          have fs : hf.nlen (X + Y) ≤ 1000000 := hfew (K := 21) (few_sum (m := K) (n := L) (by omega) (by omega) p1.lt p2.lt) (by decide)
          have fg : hf.nlen G ≤ 1000000 := by
            refine Nat.le_trans (mono_hf ?_) fs
            rw [hG]
            rcases Nat.eq_zero_or_pos X with e | e
            · rw [e, Nat.gcd_zero_left]; omega
            · exact Nat.le_trans (Nat.le_of_dvd e (Nat.gcd_dvd_left _ _)) (Nat.le_add_right _ _)
          have H := nGcd _ _ _ _ _ _ X Y _ p1 p2
          rw [← hG] at H
          refine H.mono ?_
          rintro e w3 ⟨ag, lg, cg, rfl, hg3, hb3⟩
          have p1 := p1.below hb3
          have p2 := p2.below hb3
          have hT := hT.trans (hb3.mono hT.size)
          have HG : Hid _ := hG
          clear hG H
          go_wp2_with (go_at_call 9; fail)
          refine (hOf _ _ _ X _ p1.sl p1.lt p1.few).mono ?_
          rintro e w4 ⟨ax, lx, cx, rfl, hx4, hb4⟩
          have p2 := p2.below hb4
          have hg3 := hg3.below hb4
          have hT := hT.trans (hb4.mono hT.size)
          go_wp2_with (go_at_call 9; fail)
          refine (hOf _ _ _ Y _ p2.sl p2.lt p2.few).mono ?_
          rintro e w5 ⟨ay, ly, cy, rfl, hy5, hb5⟩
          have hx4 := hx4.below hb5
          have hg3 := hg3.below hb5
          have hT := hT.trans (hb5.mono hT.size)
          go_wp2_with (go_at_call 8; fail)
          have H := hGcd ax ay lx ly cx cy X Y w5 hx4 hy5 fs
          rw [← HG.out] at H
          refine H.mono ?_
          rintro e w6 ⟨ar, lr, cr, rfl, hr6, hb6⟩
          have hg3 := hg3.below hb6
          have hT := hT.trans (hb6.mono hT.size)
          go_wp2_with (go_at_call 6; fail)
          refine (hSame ag ar lg lr cg cr G w6 hg3.sl hg3.len hr6 fg).mono ?_
          rintro e w7 ⟨rfl, hb7⟩
          have hT := hT.trans (hb7.mono hT.size)
          go_wp2_with (go_at_call 10; refine (lives_any _).mono ?_; rintro e w15 ⟨rfl, hbel15⟩; have hT := hT.trans (hbel15.mono hT.size))
          go_ret
          exact ⟨rfl, hT⟩
        · have f1 : ¬ (8 : Int) < m := by omega
          have f2 : (8 : Int) < n := by omega
          go_wp2
          go_quiet (fail)
          go_wp2_with (go_at_call 7; fail)
          have p1 := NI.below p1 (show Below w2.heap.size w2 (w2.drewN nq) from ⟨rfl, rfl, rfl, Nat.le_refl _, fun _ _ => rfl⟩)
          have p2 := NI.below p2 (show Below w2.heap.size w2 (w2.drewN nq) from ⟨rfl, rfl, rfl, Nat.le_refl _, fun _ _ => rfl⟩)
          have hT := below_drewN hT nq
          obtain ⟨G, hG⟩ : ∃ G, G = Nat.gcd X Y := ⟨_, rfl⟩
          have fs : hf.nlen (X + Y) ≤ 1000000 := hfew (K := 21) (few_sum (m := K) (n := L) (by omega) (by omega) p1.lt p2.lt) (by decide)
          have fg : hf.nlen G ≤ 1000000 := by
            refine Nat.le_trans (mono_hf ?_) fs
            rw [hG]
            rcases Nat.eq_zero_or_pos X with e | e
            · rw [e, Nat.gcd_zero_left]; omega
            · exact Nat.le_trans (Nat.le_of_dvd e (Nat.gcd_dvd_left _ _)) (Nat.le_add_right _ _)
          have H := nGcd _ _ _ _ _ _ X Y _ p1 p2
          rw [← hG] at H
          refine H.mono ?_
          rintro e w3 ⟨ag, lg, cg, rfl, hg3, hb3⟩
          have p1 := p1.below hb3
          have p2 := p2.below hb3
          have hT := hT.trans (hb3.mono hT.size)
          have HG : Hid _ := hG
          clear hG H
          go_wp2_with (go_at_call 9; fail)
          refine (hOf _ _ _ X _ p1.sl p1.lt p1.few).mono ?_
          rintro e w4 ⟨ax, lx, cx, rfl, hx4, hb4⟩
          have p2 := p2.below hb4
          have hg3 := hg3.below hb4
          have hT := hT.trans (hb4.mono hT.size)
          go_wp2_with (go_at_call 9; fail)
          refine (hOf _ _ _ Y _ p2.sl p2.lt p2.few).mono ?_
          rintro e w5 ⟨ay, ly, cy, rfl, hy5, hb5⟩
          have hx4 := hx4.below hb5
          have hg3 := hg3.below hb5
          have hT := hT.trans (hb5.mono hT.size)
          go_wp2_with (go_at_call 8; fail)
          have H := hGcd ax ay lx ly cx cy X Y w5 hx4 hy5 fs
          rw [← HG.out] at H
          refine H.mono ?_
          rintro e w6 ⟨ar, lr, cr, rfl, hr6, hb6⟩
          have hg3 := hg3.below hb6
          have hT := hT.trans (hb6.mono hT.size)
          go_wp2_with (go_at_call 6; fail)
          refine (hSame ag ar lg lr cg cr G w6 hg3.sl hg3.len hr6 fg).mono ?_
          rintro e w7 ⟨rfl, hb7⟩
          have hT := hT.trans (hb7.mono hT.size)
          go_wp2_with (go_at_call 10; refine (lives_any _).mono ?_; rintro e w15 ⟨rfl, hbel15⟩; have hT := hT.trans (hbel15.mono hT.size))
          go_ret
          exact ⟨rfl, hT⟩
theorem own : ownKnob Tryd.prog.godebug = none := by kernel_rfl
set_option maxRecDepth 100000 in
theorem lifted (os : Os) (started : os.Started) (H : Type) (enc : TypeId × Value → H) :
    ReturnsInHanded {} Tryd.checked os 3 .any (fun w args => (Rows.natGcdsSpec.pre enc Tryd.prog Tryd.f3 [] false w args ∧ laidMetH Tryd.prog Rows.natGcdsRow.laid w) ∧ sizedMet enc Tryd.prog Tryd.f3 (OpenSpec.ofChange Rows.natGcdsSpec) false w args)
      (Rows.natGcdsSpec.post enc Tryd.prog Tryd.f3 false true false false) := by
  refine returnsInHanded_of_change_and (C := Tryd.checked) (X := fun w _ => laidMetH Tryd.prog Rows.natGcdsRow.laid w) (fun _ _ _ hh h => h.of_heap hh) own started (by kernel_rfl) Tryd.func3
    (ChangeSpec.witness_shaped (enc := enc) (C := Tryd.checked) (os := os) (X := fun w _ => laidMetH Tryd.prog Rows.natGcdsRow.laid w) false (World.laidAll Tryd.prog os Rows.natGcdsRow.laid) #[.slice none 0 0, .slice none 0 0] 8 (World.laidAll_os _ _ _)
      (World.shaped_of_ZipB (by kernel_rfl) (by kernel_rfl)) (by kernel_rfl) (by kernel_rfl) (by kernel_rfl)
      (by rw [MakeChecks.laidMetH_plain _ _ _ (by kernel_rfl)]; exact laidMet_laidAll _ (by kernel_rfl) (by kernel_rfl))) ?_
  intro W base args ds gs before hval0 hW _ _ hL _
  have hval : ∀ (j : Nat) t v, Tryd.f3.params[j]? = some t → args[j]? = some v → Value.okWide Tryd.prog W .any base t v := hval0
  have hW' := hW
  obtain ⟨p, q, hA0, hV, rfl, hfz, hnd⟩ := hW
  have hA : DataW.TrodAll enc Tryd.prog W 0 (fun _ => true) true Tryd.f3.params.toList args.toList ds p := hA0
  rw [Tryd.params3] at hA hval
  obtain ⟨v0, vs0, d0, ds0, p0, q0, hargs, rfl, rfl, h0, r0⟩ := trodAll_cons hA
  obtain ⟨v1, vs1, d1, ds1, p1, q1, rfl, rfl, rfl, h1, r1⟩ := trodAll_cons r0
  obtain ⟨rfl, rfl, rfl⟩ := trodAll_nil r1
  obtain rfl : args = #[v0, v1] := by cases args; simp_all
  obtain ⟨rfl, rfl⟩ := trodVars_none hV
  have hlt : ∀ x ∈ p0 ++ p1, x.block < W.heap.size := fun x hx => by simpa using hW'.lt x (by simpa using hx)
  obtain ⟨a0, l0, c0, rfl⟩ := okWide_slice Tryd.underlying23 (hval 0 23 v0 rfl rfl)
  have h0k := h0
  obtain ⟨f0, hf0⟩ := h0
  obtain ⟨u0, hu0, hs0⟩ := nat_view hf0 (fun b o h => hfz b o (by simp [h])) (fun x hx => hlt x (by simp [hx]))
  obtain ⟨a1, l1, c1, rfl⟩ := okWide_slice Tryd.underlying23 (hval 1 23 v1 rfl rfl)
  have h1k := h1
  obtain ⟨f1, hf1⟩ := h1
  obtain ⟨u1, hu1, hs1⟩ := nat_view hf1 (fun b o h => hfz b o (by simp [h])) (fun x hx => hlt x (by simp [hx]))
  clear hA0 hval0
  refine (walk a0 l0 c0 u0 a1 l1 c1 u1 W hs0 hu0 hs1 hu1).mono fun e W' ⟨he, bel⟩ => ?_
  subst he
  exact ⟨_, rfl, _, _, _, [], _, [], hW', trodAll_mk1 (shut_bool Tryd.underlying4 _), (trodAll_cons_mk (Below.trod laidOutAll (by kernel_rfl) (of_decide_eq_true (by kernel_rfl)) h0k bel (fun x hx => hlt x (by simp [hx]))) (trodAll_cons_mk (Below.trod laidOutAll (by kernel_rfl) (of_decide_eq_true (by kernel_rfl)) h1k bel (fun x hx => hlt x (by simp [hx]))) trodAll_mk0)), rfl, bel.frame _, fun h => by cases h⟩

theorem said : Rows.NatGcdsSaid :=
  OpenClaim.holds_of_wide 3 Tryd.f3 rfl rfl rfl rfl rfl rfl rfl ⟨rfl, rfl, rfl, rfl, rfl⟩ rfl rfl rfl rfl rfl (by kernel_rfl) Tryd.func3 (by kernel_rfl)
    (of_decide_eq_true (by kernel_rfl)) (by unfold Func.isWrapper; first | (rw [if_pos (by decide +kernel)]; kernel_rfl) | (rw [if_neg (by decide +kernel)]; exact ⟨rfl, rfl⟩))
    (fun os started H enc _ => lifted os started H enc)
/-- The program's own looks are off, and no parameter wants a stand-in: what the card asks. -/
theorem plain (f : FuncId) (fn : Func) (hf : Tryd.pinned.checked.prog.funcNamed "zellige/zelligelaw03.NatGcds" = some f) (hfn : Tryd.pinned.checked.prog.funcs[f]? = some fn) :
    false = Tryd.pinned.checked.prog.looks [] ∧ ∀ (j : Nat) t, fn.params[j]? = some t → Tryd.pinned.checked.prog.wantsStandIn t = false := by
  obtain rfl : f = 3 := Option.some.inj ((show Tryd.prog.funcNamed "zellige/zelligelaw03.NatGcds" = some 3 by kernel_rfl).symm.trans hf) |>.symm
  obtain rfl : fn = Tryd.f3 := (Option.some.inj (Tryd.func3.symm.trans hfn)).symm
  refine ⟨by kernel_rfl, fun j t ht => ?_⟩
  rw [Tryd.params3] at ht
  have hm : t ∈ [23, 23] := by simpa using Array.mem_of_getElem? ht
  have hall : ([23, 23].all fun u => !Tryd.prog.wantsStandIn u) = true := by kernel_rfl
  exact (show Tryd.prog.wantsStandIn t = false by simpa using List.all_eq_true.1 hall t hm)
/-- The statement: the card. -/
theorem proved : Rows.NatGcdsCardSaid :=
  Claim7.holds_tied_plain_at .later [] _ _ _ _ said (fun _ h => by cases h) (by kernel_rfl) (fun _ h => by cases h) natGcds_row_tie rfl ⟨rfl, rfl⟩ (by kernel_rfl) rfl plain (by kernel_rfl)
#print axioms proved
end ngcds
end Go.Proofs.YtjdphcdpgjdmkaaDoor
