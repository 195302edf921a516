/-
  What nat's divideLong answers, and DivMod where the divisor has two words at least.
-/
import Derived.Test.YteoepelmapjhcaaDoorKnuE
import Derived.Test.YteoepelmapjhcaaDoorNatH
namespace Go.Proofs.YteoepelmapjhcaaDoor
open Go.RowKit
set_option linter.unusedVariables false

/-- What is left of A when the quotient's words from k on are taken off. -/
def rk (A D k : Nat) : Nat := A / 4294967296 ^ k % D * 4294967296 ^ k + A % 4294967296 ^ k
/-- The words that the next word of the quotient is told by. -/
def nk (A D j : Nat) : Nat := A / 4294967296 ^ (j + 1) % D * 4294967296 + A / 4294967296 ^ j % 4294967296
theorem mod_more (A j : Nat) : A % 4294967296 ^ (j + 1) = A % 4294967296 ^ j + 4294967296 ^ j * (A / 4294967296 ^ j % 4294967296) := by
  rw [Nat.pow_succ, Nat.mod_mul]
theorem rk_split (A D j : Nat) : rk A D (j + 1) = A % 4294967296 ^ j + 4294967296 ^ j * nk A D j := by
  have e : ∀ P X Z : Nat, X * (P * 4294967296) + Z = Z + P * (X * 4294967296) := fun P X Z => by
    rw [Nat.mul_left_comm, Nat.add_comm]
  unfold rk nk
  rw [mod_more, Nat.pow_succ, Nat.mul_add, e]
  omega
theorem rk_here (A D j : Nat) : rk A D j = A % 4294967296 ^ j + 4294967296 ^ j * (A / 4294967296 ^ j % D) := by
  unfold rk
  rw [Nat.mul_comm (4294967296 ^ j)]
  omega
theorem nk_cast (A D j : Nat) : ((nk A D j : Nat) : Int) = (A : Int) / 4294967296 ^ (j + 1) % D * 4294967296 + wd.dg A j := by
  unfold nk wd.dg
  rw [Int.natCast_add, Int.natCast_mul, Int.natCast_emod, Int.natCast_ediv, Int.natCast_emod, Int.natCast_ediv, wd.pow_cast, wd.pow_cast]
  rfl
theorem nk_div (A D j : Nat) (hD : 0 < D) : ((nk A D j / D : Nat) : Int) = wd.dg ((A / D : Nat) : Int) j := by
  rw [Int.natCast_ediv, nk_cast, wd.quot_digit _ _ _ (by omega), Int.natCast_ediv]
theorem nk_mod (A D j : Nat) (hD : 0 < D) : nk A D j % D = A / 4294967296 ^ j % D := by
  have h : ((nk A D j % D : Nat) : Int) = ((A / 4294967296 ^ j % D : Nat) : Int) := by
    rw [Int.natCast_emod, nk_cast, (wd.long_div A D j (by omega)).2, Int.natCast_emod, Int.natCast_ediv, wd.pow_cast]
  exact Int.ofNat.inj h
theorem nk_lt (A D j : Nat) (hD : 0 < D) : nk A D j < D * 4294967296 := by
  unfold nk
  have h1 := Nat.mod_lt (A / 4294967296 ^ (j + 1)) hD
  have h2 := Nat.mod_lt (A / 4294967296 ^ j) (show 0 < 4294967296 by decide)
  omega
theorem low_div (A j X : Nat) : (((A % 4294967296 ^ j + 4294967296 ^ j * X : Nat)) : Int) / 4294967296 ^ j = (X : Int) := by
  rw [← wd.pow_cast, ← Int.natCast_ediv, Nat.add_mul_div_left _ _ (wd.pow_nat j), Nat.div_eq_of_lt (Nat.mod_lt _ (wd.pow_nat j)), Nat.zero_add]
/-- A part of what one owns, written over: below it nothing changes, above it are noughts. -/
theorem own_put {w w1 : World} {base b L cap j m A X Y : Nat} {T : TypeId} (hown : Own w base T (some ⟨b, 0, none⟩) L cap (wd.dcells L ((A % 4294967296 ^ j + 4294967296 ^ j * X : Nat) : Int))) (hL : j + m ≤ L) (hX : X < 4294967296 ^ m) (hY : Y < 4294967296 ^ m)
    (hseg : Seg w1 b j (wd.dcells m (Y : Int))) (hw : Wr w w1 b j (j + m)) : Own w1 base T (some ⟨b, 0, none⟩) L cap (wd.dcells L ((A % 4294967296 ^ j + 4294967296 ^ j * Y : Nat) : Int)) := by
  have hs0 := (seg_of_own hown).1
  have hpj := wd.p256 j
  refine hw.owned hown (wd.dcells_length _ _) ?_
  have cong : ∀ Z : Nat, wd.dcells j ((A % 4294967296 ^ j + 4294967296 ^ j * Z : Nat) : Int) = wd.dcells j ((A % 4294967296 ^ j : Nat) : Int) := fun Z => wd.dcells_congr (Z : Int) (by rw [Int.natCast_add, Int.natCast_mul, wd.pow_cast, Int.mul_comm (4294967296 ^ j)])
  have top : ∀ Z : Nat, Z < 4294967296 ^ m → (((A % 4294967296 ^ j + 4294967296 ^ j * Z : Nat)) : Int) / 4294967296 ^ (j + m) = 0 := fun Z hZ => by
    rw [Int.pow_add, ← Int.ediv_ediv_of_nonneg (Int.le_of_lt hpj), low_div]
    exact Int.ediv_eq_zero_of_lt (by omega) (by rw [← wd.pow_cast]; omega)
  have t1 : Seg w1 b 0 (wd.dcells j ((A % 4294967296 ^ j + 4294967296 ^ j * Y : Nat) : Int)) := by
    rw [cong, ← cong X]
    exact hw.out (seg_head hs0 j (by omega)) (by rw [wd.dcells_length]; omega)
  have t3 : Seg w1 b (j + m) (wd.dcells (L - (j + m)) 0) := by
    have := hw.out (seg_part hs0 (j + m) (L - (j + m)) (by omega)) (by omega)
    rwa [Nat.zero_add, top X hX] at this
  have t2 : Seg w1 b j (wd.dcells (m + (L - (j + m))) (Y : Int)) := seg_join hseg (by
    rw [Int.ediv_eq_zero_of_lt (by omega) (by rw [← wd.pow_cast]; omega)]
    exact t3)
  have s1 := seg_join t1 (m := m + (L - (j + m))) (by rw [Nat.zero_add, low_div]; exact t2)
  rwa [show j + (m + (L - (j + m))) = L by omega] at s1

/-- What holds at the head of each round. -/
def LongRel (w : World) (A D lb la m rb qb : Nat) (ds : Option Addr) (i : Value) (wr : World) : Prop := ∃ k : Nat, k ≤ m ∧ i = .int .i64 ((k : Int) - 1) ∧
  Own wr w.heap.size 44 (some ⟨qb, 0, none⟩) m m (wd.xim m k ((A / D : Nat) : Int) 0) ∧ Own wr w.heap.size 44 (some ⟨rb, 0, none⟩) (la + 1) (la + 1) (wd.dcells (la + 1) ((rk A D k : Nat) : Int)) ∧
  Sl wr ds lb (lb + 1) (wd.dcells lb (D : Int)) ∧ Below w.heap.size w wr
theorem long_next {w wr w1 : World} {A D lb la m rb qb j : Nat} {ds : Option Addr} (hD : 0 < D) (hj : j < m) (hm : m + lb = la + 1) (hqr : qb ≠ rb) (hsd : ∀ o, ds ≠ some ⟨rb, o, none⟩) (hsq : ∀ o, ds ≠ some ⟨qb, o, none⟩) (hDl : D < 4294967296 ^ lb)
    (hq : Own wr w.heap.size 44 (some ⟨qb, 0, none⟩) m m (wd.xim m (j + 1) ((A / D : Nat) : Int) 0)) (hr : Own wr w.heap.size 44 (some ⟨rb, 0, none⟩) (la + 1) (la + 1) (wd.dcells (la + 1) ((rk A D (j + 1) : Nat) : Int)))
    (hs : Sl wr ds lb (lb + 1) (wd.dcells lb (D : Int))) (hb : Below w.heap.size w wr) (hseg : Seg w1 rb j (wd.dcells (lb + 1) ((nk A D j % D : Nat) : Int))) (hw : Wr wr w1 rb j (j + (lb + 1))) :
    LongRel w A D lb la m rb qb ds (.int .i64 ((j : Int) - 1)) (w1.setCell ⟨qb, j, none⟩ (.int .u32 ((nk A D j / D : Nat) : Int))) := by
  have hq1 := hw.own hq (fun o e => hqr (by cases e; rfl))
  have hrb := (seg_of_own hr).2.2
  have hqb := (seg_of_own hq).2.2
  have hN : nk A D j < 4294967296 ^ (lb + 1) := by
    have h1 := nk_lt A D j hD
    have h2 : D * 4294967296 ≤ 4294967296 ^ (lb + 1) := by rw [Nat.pow_succ]; exact Nat.mul_le_mul_right _ (by omega)
    omega
  have hr1 := own_put (Y := nk A D j % D) (by rw [rk_split] at hr; exact hr) (by omega) hN (Nat.lt_of_le_of_lt (Nat.mod_le _ _) hN) hseg hw
  rw [nk_mod A D j hD, ← rk_here] at hr1
  have ws : Wr w1 (w1.setCell ⟨qb, j, none⟩ (.int .u32 ((nk A D j / D : Nat) : Int))) qb 0 m := (Wr.refl _ _ _ _).set _ (Nat.zero_le _) hj
  refine ⟨j, by omega, rfl, ?_, ws.own hr1 (fun o e => hqr (by cases e; rfl)), ws.sl (hw.sl hs hsd) hsq, (hw.after hb hrb (Nat.le_refl _)).setCell hqb _⟩
  rw [nk_div A D j hD, ← wd.xim_set]
  exact Own.set hq1 _ hj
theorem addr_ne {b c o o' : Nat} (h : b ≠ c) : (some ⟨b, o, none⟩ : Option Addr) ≠ some ⟨c, o', none⟩ := fun e => by
  simp only [Option.some.injEq, Addr.mk.injEq] at e
  exact h e.1
theorem scale_lt {x s v p : Nat} (hx : x < 2 ^ (32 - s)) (hs : s ≤ 32) (hv : v / 4294967296 ^ p = x) : 2 ^ s * v < 4294967296 ^ (p + 1) := by
  have h1 : v < (x + 1) * 4294967296 ^ p := by rw [← hv]; have := Nat.lt_div_mul_add (a := v) (wd.pow_nat p); rw [Nat.succ_mul]; exact this
  have h2 : (x + 1) * 4294967296 ^ p ≤ 2 ^ (32 - s) * 4294967296 ^ p := Nat.mul_le_mul_right _ hx
  have h3 : 2 ^ s * (2 ^ (32 - s) * 4294967296 ^ p) = 4294967296 ^ (p + 1) := by
    rw [← Nat.mul_assoc, ← Nat.pow_add, show s + (32 - s) = 32 by omega, show (4294967296 : Nat) ^ (p + 1) = 4294967296 ^ p * 4294967296 from Nat.pow_succ _ _, Nat.mul_comm]
  rw [← h3]
  exact Nat.mul_lt_mul_of_pos_left (by omega) (Nat.pow_pos (by decide))
theorem rk_start {A D m : Nat} (h : A < D * 4294967296 ^ m) : rk A D m = A := by
  unfold rk
  rw [Nat.mod_eq_of_lt (Nat.div_lt_of_lt_mul (by rw [Nat.mul_comm]; exact h)), Nat.mul_comm]
  exact Nat.div_add_mod A _
theorem rk_end (A D : Nat) : rk A D 0 = A % D := by
  unfold rk
  simp [Nat.mod_one]

theorem shiftUp_to (a : Option Addr) (l cap u s l1 X : Nat) (w : World) (ha : Sl w a l cap (wd.dcells l (u : Int))) (hu : u < 4294967296 ^ l) (hl : l ≤ 1000000000) (hs : s < 32) (h1 : l1 = l + 1) (hX : X = 2 ^ s * u) :
    Calls Tryd.prog 56 #[.slice a l cap, .int .i64 (s : Int)] w fun e w' => e = .returned (.slice (some ⟨w.heap.size, 0, none⟩) l1 l1) ∧ Own w' w.heap.size 44 (some ⟨w.heap.size, 0, none⟩) l1 l1 (wd.dcells l1 (X : Int)) ∧ Below w.heap.size w w' := by
  subst h1 hX
  exact shiftUp_any a l cap u s w ha hu hl hs
theorem takeOff_to (b o n n1 cs : Nat) (yb : Option Addr) (cy N D : Nat) (w : World) (hn1 : n1 = n + 1) (hb : b < w.heap.size) (hseg : Seg w b o (wd.dcells (n + 1) (N : Int))) (hN : N < D * 4294967296) (hcs : n + 1 ≤ cs) (hcs' : cs ≤ 1000000000000) (hy : Sl w yb n cy (wd.dcells n (D : Int))) (hD : D < 4294967296 ^ n) (hn : 2 ≤ n) (htop : 4294967296 ^ (n - 1) ≤ D) (hne : ∀ o, yb ≠ some ⟨b, o, none⟩) :
    Calls Tryd.prog 57 #[.slice (some ⟨b, o, none⟩) n1 cs, .slice yb n cy] w fun e w' => e = .returned (.int .u32 ((N / D : Nat) : Int)) ∧ Seg w' b o (wd.dcells (n + 1) ((N % D : Nat) : Int)) ∧ Wr w w' b o (o + (n + 1)) := by
  subst hn1
  exact takeOff_any b o n cs yb cy N D w hb hseg hN hcs hcs' hy hD hn htop hne
theorem shiftDown_to (b l l1 cap R s base X : Nat) (w : World) (h1 : l1 = l) (hX : R / 2 ^ s = X) (hown : Own w base 44 (some ⟨b, 0, none⟩) l cap (wd.dcells l (R : Int))) (hR : R < 4294967296 ^ l) (hs : s < 32) :
    Calls Tryd.prog 58 #[.slice (some ⟨b, 0, none⟩) l1 cap, .int .i64 (s : Int)] w fun e w' => e = .returned (.tuple #[]) ∧ Own w' base 44 (some ⟨b, 0, none⟩) l cap (wd.dcells l (X : Int)) ∧ Wr w w' b 0 l := by
  subst h1 hX
  exact shiftDown_any b l1 cap R s base w hown hR hs
set_option maxRecDepth 100000 in
set_option maxHeartbeats 1000000 in
theorem divideLong_any (a b : Option Addr) (la lb m ca cb u v : Nat) (w : World) (ha : Sl w a la ca (wd.dcells la (u : Int))) (hu : u < 4294967296 ^ la) (hla : la ≤ 100000000) (hb : Sl w b lb cb (wd.dcells lb (v : Int))) (hv : v < 4294967296 ^ lb) (hlb : 2 ≤ lb) (hm : m + lb = la + 1) (hm1 : 1 ≤ m) (htop : 4294967296 ^ (lb - 1) ≤ v) :
    Calls Tryd.prog 41 #[.slice a la ca, .slice b lb cb] w fun e w' => ∃ qb rb, e = .returned (.tuple #[.slice (some ⟨qb, 0, none⟩) m m, .slice (some ⟨rb, 0, none⟩) (la + 1) (la + 1)]) ∧
      Own w' w.heap.size 44 (some ⟨qb, 0, none⟩) m m (wd.dcells m ((u / v : Nat) : Int)) ∧ Own w' w.heap.size 44 (some ⟨rb, 0, none⟩) (la + 1) (la + 1) (wd.dcells (la + 1) ((u % v : Nat) : Int)) ∧ Below w.heap.size w w' := by
  obtain ⟨i0, hi0, hz0, hz1, hz2⟩ := info_parts infoWord
  have hz0' : wd.dcells m 0 = List.replicate m (.int .u32 0) := wd.dcells_zero _
  have hmax : m ≤ maxLen := by unfold maxLen; omega
  obtain ⟨p, hp⟩ : ∃ p, lb = p + 1 := ⟨lb - 1, by omega⟩
  have hpn := wd.pow_nat p
  obtain ⟨x, hx⟩ : ∃ x, x = v / 4294967296 ^ p := ⟨_, rfl⟩
  have x1 : x < 4294967296 := by rw [hx]; exact Nat.div_lt_of_lt_mul (by rw [hp, Nat.pow_succ] at hv; exact hv)
  have x0 : 0 < x := by
    rw [hx]
    rw [hp] at htop
    exact Nat.div_pos htop hpn
  have hxd : wd.dg (v : Int) p = (x : Int) := by
    unfold wd.dg
    rw [← wd.pow_cast, ← Int.natCast_ediv, ← hx]
    omega
  have nl1 : bt.nlen x ≤ 32 := bt.nlen_le (by simpa using x1)
  have nl2 := bt.nlen_lt x
  have nl3 : 1 ≤ bt.nlen x := by
    rcases Nat.eq_zero_or_pos (bt.nlen x) with e | e
    · rw [e] at nl2; simp at nl2; omega
    · exact e
  obtain ⟨s, hs⟩ : ∃ s, bt.nlen x = 32 - s ∧ s < 32 := ⟨32 - bt.nlen x, by omega, by omega⟩
  have hs2 := hs.2
  have hDl : 2 ^ s * v < 4294967296 ^ lb := by rw [hp]; exact scale_lt (by rw [← hs.1]; exact nl2) (by omega) hx.symm
  obtain ⟨D, hD⟩ : ∃ D, D = 2 ^ s * v := ⟨_, rfl⟩
  obtain ⟨A, hA⟩ : ∃ A, A = 2 ^ s * u := ⟨_, rfl⟩
  rw [← hD] at hDl
  have h2s : 0 < 2 ^ s := Nat.pow_pos (by decide)
  have hDt : 4294967296 ^ (lb - 1) ≤ D := by rw [hD]; exact Nat.le_trans htop (Nat.le_mul_of_pos_left _ h2s)
  have hD0 : 0 < D := Nat.lt_of_lt_of_le (wd.pow_nat _) hDt
  have hAD : A < D * 4294967296 ^ m := by
    rw [hA, hD, Nat.mul_assoc]
    refine Nat.mul_lt_mul_of_pos_left (Nat.lt_of_lt_of_le hu ?_) h2s
    have := Nat.mul_le_mul_right (4294967296 ^ m) htop
    rw [← Nat.pow_add, show lb - 1 + m = la by omega] at this
    exact this
  have HQ : Hid (A / D = u / v) := by unfold Hid; rw [hA, hD, Nat.mul_div_mul_left _ _ h2s]
  have HR : Hid (A % D / 2 ^ s = u % v) := by unfold Hid; rw [hA, hD, Nat.mul_mod_mul_left, Nat.mul_div_cancel_left _ h2s]
  have HRl : Hid (A % D < 4294967296 ^ (la + 1)) := by
    unfold Hid
    have := Nat.mod_lt A hD0
    have : (4294967296 : Nat) ^ lb ≤ 4294967296 ^ (la + 1) := Nat.pow_le_pow_right (by decide) (by omega)
    omega
  have HRS : Hid (rk A D m = A) := rk_start hAD
  have HLZ : Hid _ := fun w0 => leading_any x s (xv := (x : Int)) rfl x1 hs.1 (by omega) w0
  obtain ⟨lb1, hlb1⟩ : ∃ lb1, lb1 = lb + 1 := ⟨_, rfl⟩
  obtain ⟨la1, hla1⟩ : ∃ la1, la1 = la + 1 := ⟨_, rfl⟩
  have HB1 : Hid _ := hlb1
  have HA1 : Hid _ := hla1
  have HD1 : Hid _ := hD
  have HA2 : Hid _ := hA
  have HU : Hid _ := hu
  have HV : Hid _ := hv
  rw [← hla1]
  have c1 := hb.at (by omega)
  obtain ⟨bb, ob, rfl, hbb, hsb⟩ := c1
  have c1 := hsb.cell p _ (wd.dcells_at _ _ _ (by omega))
  rw [hxd] at c1
  have hcb := hb.big
  have hrb := hb.room
  unfold maxLen at hcb
  have e1 : (lb : Int) - 1 = (p : Int) := by omega
  have l1 : p < lb := by omega
  have l2 : lb < lb1 := by omega
  have l3 : la < la1 := by omega
  have l4 : lb1 ≤ 1000000000 := by omega
  have l5 : la1 ≤ 1000000000 := by omega
  have e2 : (la : Int) - (lb : Int) + 1 = (m : Int) := by omega
  have l6 : m ≤ la := by omega
  have HDt : Hid _ := hDt
  have HML : Hid _ := hm
  have HDl : Hid _ := hDl
  clear hm hx hs hD hA nl1 nl2 nl3 hlb1 hla1 hp htop hu hv hDt hAD hDl h2s hxd hpn hsb
  go_enter Tryd.func41, Tryd.ntmps41
  go_wp2_with (go_at_call 55; refine (HLZ.out _).mono ?_; rintro e w' ⟨rfl, hw⟩; subst hw)
  refine (shiftUp_to _ lb cb v s lb1 D _ hb HV.out (by omega) hs2 HB1.out HD1.out).mono ?_
  rintro e w1 ⟨rfl, hownD, hbel1⟩
  have ha1 := ha.below hbel1
  have HownD : Hid _ := hownD
  clear hownD
  go_wp2_with (go_at_call 56; fail)
  refine (shiftUp_to a la ca u s la1 A _ ha1 HU.out (by omega) hs2 HA1.out HA2.out).mono ?_
  rintro e w2 ⟨rfl, hownR, hbel2⟩
  have HownR : Hid _ := hownR
  clear hownR
  go_wp2_with (at_make; refine make_any _ rfl (.tmp 30) (.tmp 30) 23 rfl w2.heap.size 44 i0 (.int .u32 0) Tryd.underlying23 hi0 hz0 hz1 rfl .i64 .i64 _ _ m rfl rfl (by simp) (by simp) (by rw [hz2]; omega) (by omega) (Nat.le_refl _) ?_; intro w3 hownQ hbel3)
  have hz1' := (seg_of_own HownD.out).2.1
  have hz2' := (seg_of_own HownR.out).2.1
  have b12 : Below w.heap.size w w2 := hbel1.trans (hbel2.mono hbel1.size)
  have b13 : Below w.heap.size w w3 := b12.trans (hbel3.mono b12.size)
  rw [← hz0', ← wd.xim_full m ((A / D : Nat) : Int) 0] at hownQ
  have HST : Hid (LongRel w A D lb la m w1.heap.size w2.heap.size (some ⟨w.heap.size, 0, none⟩) (.int .i64 ((m : Int) - 1)) w3) := by
    refine ⟨m, Nat.le_refl _, rfl, Own.mono hownQ b12.size, ?_, ?_, b13⟩
    · rw [HRS.out, ← HA1.out]
      exact Own.mono (Own.below HownR.out hbel3) hbel1.size
    · have h := Sl.take (m := lb) (Own.sl (Own.below (Own.below HownD.out hbel2) hbel3)) (by omega)
      rw [wd.dcells_take _ _ _ (by omega), HB1.out] at h
      exact h
  have n1 : w2.heap.size ≠ w1.heap.size := by omega
  have n2 : w1.heap.size ≠ w.heap.size := by omega
  have n3 : w2.heap.size ≠ w.heap.size := by omega
  clear hownQ hbel1 hbel2 hbel3 b12 b13 HownD HownR ha1 hz1' hz2'
  obtain ⟨db, hdb⟩ : ∃ db, db = w.heap.size := ⟨_, rfl⟩
  obtain ⟨rb, hrb'⟩ : ∃ rb, rb = w1.heap.size := ⟨_, rfl⟩
  obtain ⟨qb, hqb⟩ : ∃ qb, qb = w2.heap.size := ⟨_, rfl⟩
  go_loopw [8] (fun i wr => LongRel w A D lb la m w1.heap.size w2.heap.size (some ⟨w.heap.size, 0, none⟩) i wr) (fun i _ => (intOf i + 1).toNat)
  case atStart => exact HST.out
  case round =>
    obtain ⟨k, hk, rfl, hq, hr, hs, hbel⟩ := hrel
    rcases k with _ | j
    · rw [rk_end] at hr
      rw [wd.xim_zero, HQ.out] at hq
      have HSD : Hid _ := hr
      have HSQ : Hid _ := hq
      have hr2 := hr
      rw [← HA1.out] at hr2
      have HSD2 : Hid _ := hr2
      have HSP : Hid (A % D < 4294967296 ^ la1) := by rw [HA1.out]; exact HRl.out
      clear hr hq hr2
      go_wp2_with (go_at_call 58; fail)
      refine (shiftDown_to w1.heap.size la1 la1 la1 (A % D) s w.heap.size (u % v) wr rfl HR.out HSD2.out HSP.out hs2).mono ?_
      rintro e wx ⟨rfl, hown2, hwx⟩
      have hq1 := hwx.own HSQ.out (fun o => addr_ne n1)
      have hb2 := hwx.after hbel (seg_of_own HSD2.out).2.2 (Nat.le_refl _)
      have HO1 : Hid _ := hq1
      have HO2 : Hid _ := hown2
      clear hq1 hown2
      go_wp2
      go_ret2
      exact ⟨_, _, rfl, HO1.out, HO2.out, hb2⟩
    · have hrb2 := seg_of_own hr
      have hsg := seg_part hrb2.1 j (lb + 1) (by have := HML.out; omega)
      rw [Nat.zero_add, rk_split, low_div] at hsg
      have HN : Hid _ := fun wx hh hw => long_next (w := w) (w1 := wx) (A := A) (D := D) (lb := lb) (la := la) (m := m) (rb := w1.heap.size) (qb := w2.heap.size) (j := j) hD0 (by omega) HML.out n1 (fun o => addr_ne (Ne.symm n2)) (fun o => addr_ne (Ne.symm n3)) HDl.out hq hr hs hbel hh hw
      have HQ1 : Hid _ := fun (wx : World) (hw : Wr wr wx w1.heap.size j (j + (lb + 1))) => hw.own hq (fun o => addr_ne n1)
      have e3 : ((j + 1 : Nat) : Int) - 1 = (j : Int) := by omega
      have e4 : (j : Int) + (lb : Int) + 1 = (j : Int) + (lb1 : Int) := by have := HB1.out; omega
      have l7 : j + lb1 ≤ la1 := by have := HB1.out; have := HA1.out; have := HML.out; omega
      have l8 : j < m := by omega
      have hs1 := hs
      rw [← HB1.out] at hs1
      have TO := takeOff_to w1.heap.size j lb lb1 (la1 - j) (some ⟨w.heap.size, 0, none⟩) lb1 (nk A D j) D wr HB1.out hrb2.2.1 hsg (nk_lt A D j hD0) (by have := HB1.out; omega) (by omega) hs1 HDl.out hlb HDt.out (fun o => addr_ne (Ne.symm n2))
      have HTO : Hid _ := TO
      clear hsg hq hr hrb2 hs1 hs TO
      go_wp2_with (go_at_call 57; fail)
      refine (show Calls _ _ _ _ _ from HTO.out).mono ?_
      rintro e wx ⟨rfl, hsg2, hwx⟩
      have hq1 := HQ1.out wx hwx
      have c3 : wx.cell? ⟨w2.heap.size, j, none⟩ = some (.int .u32 (wd.dg 0 j)) := Own.cell hq1 j _ (wd.xim_at _ _ _ _ _ (by omega) (by omega))
      have c4 : wx.frozen? ⟨w2.heap.size, j, none⟩ = false := Own.free hq1 j (by omega)
      have HN2 : Hid _ := HN.out wx hsg2 hwx
      have q1 : nk A D j / D < 4294967296 := Nat.div_lt_of_lt_mul (nk_lt A D j hD0)
      clear hq1 hsg2
      go_wp2
      go_roundw
      case rel => exact HN2.out
      case measure => simp [intOf]
end Go.Proofs.YteoepelmapjhcaaDoor
