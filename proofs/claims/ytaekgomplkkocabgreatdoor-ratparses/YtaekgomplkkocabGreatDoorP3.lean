/-
  Joined texts, part 3:
  What nat's divideLong answers, and DivMod where the divisor has two words at least.
  What nat's DivMod answers.
  slices.Backward over a nat: what a loop over it is handed.
  What nat's Cmp answers.
  What nat's Cmp answers where both numbers have the same length.
  What nat's Sub answers.
  Decimal digits of numbers of any length, and bytes of texts as numbers. It imports nothing of the program.
  Numbers as digits to the base 1000000000: which digits a sum, a difference, a product has. It imports nothing of the program.
  How many digits a number needs, to the base 1000000000, and its digits without noughts at the end. It imports nothing of the program.
  What nat's piecesOf answers.
  strings.TrimLeft at the cutset "0".
  What nat's Show answers.
  What nat answers, with letters for the lengths: the contracts of the other texts, said once more for those who call nat.
  Slices apart from a block, so that what is stored there leaves them as they are; and what nat answers, apart from all that was there before.
-/
import Derived.Test.YtaekgomplkkocabGreatDoorP2
import Derived.RangeFuncNested
import Derived.RangeFuncBound
import Derived.RangeFuncCalls
import Derived.RangeFuncLeaves
import Derived.RangeFuncBox
import Derived.Shelf.Abstract
import Derived.Shelf.RegionOpen
import Derived.WalkKit
import Derived.OwnWalkIn
import Derived.TacticsInMore
import Derived.LoopNIn
import Derived.LoopIn
import Derived.Test.YtaekgomplkkocabGreatDoorP1
import Derived.Laws.BytesArg
import Derived.Deep.AppendLies
import Derived.Lib.IndexBytes
namespace Go.Proofs.YtaekgomplkkocabGreatDoor
open Go.RowKit
set_option linter.unusedVariables false

/-- What is left of A when the quotient's words from k on are taken off. -/
def rk (A D k : Nat) : Nat := A / 4294967296 ^ k % D * 4294967296 ^ k + A % 4294967296 ^ k
/-- The words that the next word of the quotient is told by. -/
def nk (A D j : Nat) : Nat := A / 4294967296 ^ (j + 1) % D * 4294967296 + A / 4294967296 ^ j % 4294967296
theorem mod_more (A j : Nat) : A % 4294967296 ^ (j + 1) = A % 4294967296 ^ j + 4294967296 ^ j * (A / 4294967296 ^ j % 4294967296) := by
  rw [Nat.pow_succ, Nat.mod_mul]
theorem rk_split (A D j : Nat) : rk A D (j + 1) = A % 4294967296 ^ j + 4294967296 ^ j * nk A D j := by
  have e : ∀ P X Z : Nat, X * (P * 4294967296) + Z = Z + P * (X * 4294967296) := fun P X Z => by
    rw [Nat.mul_left_comm, Nat.add_comm]
  unfold rk nk
  rw [mod_more, Nat.pow_succ, Nat.mul_add, e]
  omega
theorem rk_here (A D j : Nat) : rk A D j = A % 4294967296 ^ j + 4294967296 ^ j * (A / 4294967296 ^ j % D) := by
  unfold rk
  rw [Nat.mul_comm (4294967296 ^ j)]
  omega
theorem nk_cast (A D j : Nat) : ((nk A D j : Nat) : Int) = (A : Int) / 4294967296 ^ (j + 1) % D * 4294967296 + wd.dg A j := by
  unfold nk wd.dg
  rw [Int.natCast_add, Int.natCast_mul, Int.natCast_emod, Int.natCast_ediv, Int.natCast_emod, Int.natCast_ediv, wd.pow_cast, wd.pow_cast]
  rfl
theorem nk_div (A D j : Nat) (hD : 0 < D) : ((nk A D j / D : Nat) : Int) = wd.dg ((A / D : Nat) : Int) j := by
  rw [Int.natCast_ediv, nk_cast, wd.quot_digit _ _ _ (by omega), Int.natCast_ediv]
theorem nk_mod (A D j : Nat) (hD : 0 < D) : nk A D j % D = A / 4294967296 ^ j % D := by
  have h : ((nk A D j % D : Nat) : Int) = ((A / 4294967296 ^ j % D : Nat) : Int) := by
    rw [Int.natCast_emod, nk_cast, (wd.long_div A D j (by omega)).2, Int.natCast_emod, Int.natCast_ediv, wd.pow_cast]
  exact Int.ofNat.inj h
theorem nk_lt (A D j : Nat) (hD : 0 < D) : nk A D j < D * 4294967296 := by
  unfold nk
  have h1 := Nat.mod_lt (A / 4294967296 ^ (j + 1)) hD
  have h2 := Nat.mod_lt (A / 4294967296 ^ j) (show 0 < 4294967296 by decide)
  omega
theorem low_div (A j X : Nat) : (((A % 4294967296 ^ j + 4294967296 ^ j * X : Nat)) : Int) / 4294967296 ^ j = (X : Int) := by
  rw [← wd.pow_cast, ← Int.natCast_ediv, Nat.add_mul_div_left _ _ (wd.pow_nat j), Nat.div_eq_of_lt (Nat.mod_lt _ (wd.pow_nat j)), Nat.zero_add]
/-- A part of what one owns, written over: below it nothing changes, above it are noughts. -/
theorem own_put {w w1 : World} {base b L cap j m A X Y : Nat} {T : TypeId} (hown : Own w base T (some ⟨b, 0, none⟩) L cap (wd.dcells L ((A % 4294967296 ^ j + 4294967296 ^ j * X : Nat) : Int))) (hL : j + m ≤ L) (hX : X < 4294967296 ^ m) (hY : Y < 4294967296 ^ m)
    (hseg : Seg w1 b j (wd.dcells m (Y : Int))) (hw : Wr w w1 b j (j + m)) : Own w1 base T (some ⟨b, 0, none⟩) L cap (wd.dcells L ((A % 4294967296 ^ j + 4294967296 ^ j * Y : Nat) : Int)) := by
  have hs0 := (seg_of_own hown).1
  have hpj := wd.p256 j
  refine hw.owned hown (wd.dcells_length _ _) ?_
  have cong : ∀ Z : Nat, wd.dcells j ((A % 4294967296 ^ j + 4294967296 ^ j * Z : Nat) : Int) = wd.dcells j ((A % 4294967296 ^ j : Nat) : Int) := fun Z => wd.dcells_congr (Z : Int) (by rw [Int.natCast_add, Int.natCast_mul, wd.pow_cast, Int.mul_comm (4294967296 ^ j)])
  have top : ∀ Z : Nat, Z < 4294967296 ^ m → (((A % 4294967296 ^ j + 4294967296 ^ j * Z : Nat)) : Int) / 4294967296 ^ (j + m) = 0 := fun Z hZ => by
    rw [Int.pow_add, ← Int.ediv_ediv_of_nonneg (Int.le_of_lt hpj), low_div]
    exact Int.ediv_eq_zero_of_lt (by omega) (by rw [← wd.pow_cast]; omega)
  have t1 : Seg w1 b 0 (wd.dcells j ((A % 4294967296 ^ j + 4294967296 ^ j * Y : Nat) : Int)) := by
    rw [cong, ← cong X]
    exact hw.out (seg_head hs0 j (by omega)) (by rw [wd.dcells_length]; omega)
  have t3 : Seg w1 b (j + m) (wd.dcells (L - (j + m)) 0) := by
    have := hw.out (seg_part hs0 (j + m) (L - (j + m)) (by omega)) (by omega)
    rwa [Nat.zero_add, top X hX] at this
  have t2 : Seg w1 b j (wd.dcells (m + (L - (j + m))) (Y : Int)) := seg_join hseg (by
    rw [Int.ediv_eq_zero_of_lt (by omega) (by rw [← wd.pow_cast]; omega)]
    exact t3)
  have s1 := seg_join t1 (m := m + (L - (j + m))) (by rw [Nat.zero_add, low_div]; exact t2)
  rwa [show j + (m + (L - (j + m))) = L by omega] at s1

/-- What holds at the head of each round. -/
def LongRel (w : World) (A D lb la m rb qb : Nat) (ds : Option Addr) (i : Value) (wr : World) : Prop := ∃ k : Nat, k ≤ m ∧ i = .int .i64 ((k : Int) - 1) ∧
  Own wr w.heap.size 65 (some ⟨qb, 0, none⟩) m m (wd.xim m k ((A / D : Nat) : Int) 0) ∧ Own wr w.heap.size 65 (some ⟨rb, 0, none⟩) (la + 1) (la + 1) (wd.dcells (la + 1) ((rk A D k : Nat) : Int)) ∧
  Sl wr ds lb (lb + 1) (wd.dcells lb (D : Int)) ∧ Below w.heap.size w wr
theorem long_next {w wr w1 : World} {A D lb la m rb qb j : Nat} {ds : Option Addr} (hD : 0 < D) (hj : j < m) (hm : m + lb = la + 1) (hqr : qb ≠ rb) (hsd : ∀ o, ds ≠ some ⟨rb, o, none⟩) (hsq : ∀ o, ds ≠ some ⟨qb, o, none⟩) (hDl : D < 4294967296 ^ lb)
    (hq : Own wr w.heap.size 65 (some ⟨qb, 0, none⟩) m m (wd.xim m (j + 1) ((A / D : Nat) : Int) 0)) (hr : Own wr w.heap.size 65 (some ⟨rb, 0, none⟩) (la + 1) (la + 1) (wd.dcells (la + 1) ((rk A D (j + 1) : Nat) : Int)))
    (hs : Sl wr ds lb (lb + 1) (wd.dcells lb (D : Int))) (hb : Below w.heap.size w wr) (hseg : Seg w1 rb j (wd.dcells (lb + 1) ((nk A D j % D : Nat) : Int))) (hw : Wr wr w1 rb j (j + (lb + 1))) :
    LongRel w A D lb la m rb qb ds (.int .i64 ((j : Int) - 1)) (w1.setCell ⟨qb, j, none⟩ (.int .u32 ((nk A D j / D : Nat) : Int))) := by
  have hq1 := hw.own hq (fun o e => hqr (by cases e; rfl))
  have hrb := (seg_of_own hr).2.2
  have hqb := (seg_of_own hq).2.2
  have hN : nk A D j < 4294967296 ^ (lb + 1) := by
    have h1 := nk_lt A D j hD
    have h2 : D * 4294967296 ≤ 4294967296 ^ (lb + 1) := by rw [Nat.pow_succ]; exact Nat.mul_le_mul_right _ (by omega)
    omega
  have hr1 := own_put (Y := nk A D j % D) (by rw [rk_split] at hr; exact hr) (by omega) hN (Nat.lt_of_le_of_lt (Nat.mod_le _ _) hN) hseg hw
  rw [nk_mod A D j hD, ← rk_here] at hr1
  have ws : Wr w1 (w1.setCell ⟨qb, j, none⟩ (.int .u32 ((nk A D j / D : Nat) : Int))) qb 0 m := (Wr.refl _ _ _ _).set _ (Nat.zero_le _) hj
  refine ⟨j, by omega, rfl, ?_, ws.own hr1 (fun o e => hqr (by cases e; rfl)), ws.sl (hw.sl hs hsd) hsq, (hw.after hb hrb (Nat.le_refl _)).setCell hqb _⟩
  rw [nk_div A D j hD, ← wd.xim_set]
  exact Own.set hq1 _ hj
theorem addr_ne {b c o o' : Nat} (h : b ≠ c) : (some ⟨b, o, none⟩ : Option Addr) ≠ some ⟨c, o', none⟩ := fun e => by
  simp only [Option.some.injEq, Addr.mk.injEq] at e
  exact h e.1
theorem scale_lt {x s v p : Nat} (hx : x < 2 ^ (32 - s)) (hs : s ≤ 32) (hv : v / 4294967296 ^ p = x) : 2 ^ s * v < 4294967296 ^ (p + 1) := by
  have h1 : v < (x + 1) * 4294967296 ^ p := by rw [← hv]; have := Nat.lt_div_mul_add (a := v) (wd.pow_nat p); rw [Nat.succ_mul]; exact this
  have h2 : (x + 1) * 4294967296 ^ p ≤ 2 ^ (32 - s) * 4294967296 ^ p := Nat.mul_le_mul_right _ hx
  have h3 : 2 ^ s * (2 ^ (32 - s) * 4294967296 ^ p) = 4294967296 ^ (p + 1) := by
    rw [← Nat.mul_assoc, ← Nat.pow_add, show s + (32 - s) = 32 by omega, show (4294967296 : Nat) ^ (p + 1) = 4294967296 ^ p * 4294967296 from Nat.pow_succ _ _, Nat.mul_comm]
  rw [← h3]
  exact Nat.mul_lt_mul_of_pos_left (by omega) (Nat.pow_pos (by decide))
theorem rk_start {A D m : Nat} (h : A < D * 4294967296 ^ m) : rk A D m = A := by
  unfold rk
  rw [Nat.mod_eq_of_lt (Nat.div_lt_of_lt_mul (by rw [Nat.mul_comm]; exact h)), Nat.mul_comm]
  exact Nat.div_add_mod A _
theorem rk_end (A D : Nat) : rk A D 0 = A % D := by
  unfold rk
  simp [Nat.mod_one]

theorem shiftUp_to (a : Option Addr) (l cap u s l1 X : Nat) (w : World) (ha : Sl w a l cap (wd.dcells l (u : Int))) (hu : u < 4294967296 ^ l) (hl : l ≤ 1000000000) (hs : s < 32) (h1 : l1 = l + 1) (hX : X = 2 ^ s * u) :
    Calls Tryz.prog 102 #[.slice a l cap, .int .i64 (s : Int)] w fun e w' => e = .returned (.slice (some ⟨w.heap.size, 0, none⟩) l1 l1) ∧ Own w' w.heap.size 65 (some ⟨w.heap.size, 0, none⟩) l1 l1 (wd.dcells l1 (X : Int)) ∧ Below w.heap.size w w' := by
  subst h1 hX
  exact shiftUp_any a l cap u s w ha hu hl hs
theorem takeOff_to (b o n n1 cs : Nat) (yb : Option Addr) (cy N D : Nat) (w : World) (hn1 : n1 = n + 1) (hb : b < w.heap.size) (hseg : Seg w b o (wd.dcells (n + 1) (N : Int))) (hN : N < D * 4294967296) (hcs : n + 1 ≤ cs) (hcs' : cs ≤ 1000000000000) (hy : Sl w yb n cy (wd.dcells n (D : Int))) (hD : D < 4294967296 ^ n) (hn : 2 ≤ n) (htop : 4294967296 ^ (n - 1) ≤ D) (hne : ∀ o, yb ≠ some ⟨b, o, none⟩) :
    Calls Tryz.prog 103 #[.slice (some ⟨b, o, none⟩) n1 cs, .slice yb n cy] w fun e w' => e = .returned (.int .u32 ((N / D : Nat) : Int)) ∧ Seg w' b o (wd.dcells (n + 1) ((N % D : Nat) : Int)) ∧ Wr w w' b o (o + (n + 1)) := by
  subst hn1
  exact takeOff_any b o n cs yb cy N D w hb hseg hN hcs hcs' hy hD hn htop hne
theorem shiftDown_to (b l l1 cap R s base X : Nat) (w : World) (h1 : l1 = l) (hX : R / 2 ^ s = X) (hown : Own w base 65 (some ⟨b, 0, none⟩) l cap (wd.dcells l (R : Int))) (hR : R < 4294967296 ^ l) (hs : s < 32) :
    Calls Tryz.prog 104 #[.slice (some ⟨b, 0, none⟩) l1 cap, .int .i64 (s : Int)] w fun e w' => e = .returned (.tuple #[]) ∧ Own w' base 65 (some ⟨b, 0, none⟩) l cap (wd.dcells l (X : Int)) ∧ Wr w w' b 0 l := by
  subst h1 hX
  exact shiftDown_any b l1 cap R s base w hown hR hs
set_option maxRecDepth 100000 in
set_option maxHeartbeats 1000000 in
theorem divideLong_any (a b : Option Addr) (la lb m ca cb u v : Nat) (w : World) (ha : Sl w a la ca (wd.dcells la (u : Int))) (hu : u < 4294967296 ^ la) (hla : la ≤ 100000000) (hb : Sl w b lb cb (wd.dcells lb (v : Int))) (hv : v < 4294967296 ^ lb) (hlb : 2 ≤ lb) (hm : m + lb = la + 1) (hm1 : 1 ≤ m) (htop : 4294967296 ^ (lb - 1) ≤ v) :
    Calls Tryz.prog 91 #[.slice a la ca, .slice b lb cb] w fun e w' => ∃ qb rb, e = .returned (.tuple #[.slice (some ⟨qb, 0, none⟩) m m, .slice (some ⟨rb, 0, none⟩) (la + 1) (la + 1)]) ∧
      Own w' w.heap.size 65 (some ⟨qb, 0, none⟩) m m (wd.dcells m ((u / v : Nat) : Int)) ∧ Own w' w.heap.size 65 (some ⟨rb, 0, none⟩) (la + 1) (la + 1) (wd.dcells (la + 1) ((u % v : Nat) : Int)) ∧ Below w.heap.size w w' := by
  obtain ⟨i0, hi0, hz0, hz1, hz2⟩ := info_parts infoWord
  have hz0' : wd.dcells m 0 = List.replicate m (.int .u32 0) := wd.dcells_zero _
  have hmax : m ≤ maxLen := by unfold maxLen; omega
  obtain ⟨p, hp⟩ : ∃ p, lb = p + 1 := ⟨lb - 1, by omega⟩
  have hpn := wd.pow_nat p
  obtain ⟨x, hx⟩ : ∃ x, x = v / 4294967296 ^ p := ⟨_, rfl⟩
  have x1 : x < 4294967296 := by rw [hx]; exact Nat.div_lt_of_lt_mul (by rw [hp, Nat.pow_succ] at hv; exact hv)
  have x0 : 0 < x := by
    rw [hx]
    rw [hp] at htop
    exact Nat.div_pos htop hpn
  have hxd : wd.dg (v : Int) p = (x : Int) := by
    unfold wd.dg
    rw [← wd.pow_cast, ← Int.natCast_ediv, ← hx]
    omega
  have nl1 : bt.nlen x ≤ 32 := bt.nlen_le (by simpa using x1)
  have nl2 := bt.nlen_lt x
  have nl3 : 1 ≤ bt.nlen x := by
    rcases Nat.eq_zero_or_pos (bt.nlen x) with e | e
    · rw [e] at nl2; simp at nl2; omega
    · exact e
  obtain ⟨s, hs⟩ : ∃ s, bt.nlen x = 32 - s ∧ s < 32 := ⟨32 - bt.nlen x, by omega, by omega⟩
  have hs2 := hs.2
  have hDl : 2 ^ s * v < 4294967296 ^ lb := by rw [hp]; exact scale_lt (by rw [← hs.1]; exact nl2) (by omega) hx.symm
  obtain ⟨D, hD⟩ : ∃ D, D = 2 ^ s * v := ⟨_, rfl⟩
  obtain ⟨A, hA⟩ : ∃ A, A = 2 ^ s * u := ⟨_, rfl⟩
  rw [← hD] at hDl
  have h2s : 0 < 2 ^ s := Nat.pow_pos (by decide)
  have hDt : 4294967296 ^ (lb - 1) ≤ D := by rw [hD]; exact Nat.le_trans htop (Nat.le_mul_of_pos_left _ h2s)
  have hD0 : 0 < D := Nat.lt_of_lt_of_le (wd.pow_nat _) hDt
  have hAD : A < D * 4294967296 ^ m := by
    rw [hA, hD, Nat.mul_assoc]
    refine Nat.mul_lt_mul_of_pos_left (Nat.lt_of_lt_of_le hu ?_) h2s
    have := Nat.mul_le_mul_right (4294967296 ^ m) htop
    rw [← Nat.pow_add, show lb - 1 + m = la by omega] at this
    exact this
  have HQ : Hid (A / D = u / v) := by unfold Hid; rw [hA, hD, Nat.mul_div_mul_left _ _ h2s]
  have HR : Hid (A % D / 2 ^ s = u % v) := by unfold Hid; rw [hA, hD, Nat.mul_mod_mul_left, Nat.mul_div_cancel_left _ h2s]
  have HRl : Hid (A % D < 4294967296 ^ (la + 1)) := by
    unfold Hid
    have := Nat.mod_lt A hD0
    have : (4294967296 : Nat) ^ lb ≤ 4294967296 ^ (la + 1) := Nat.pow_le_pow_right (by decide) (by omega)
    omega
  have HRS : Hid (rk A D m = A) := rk_start hAD
  have HLZ : Hid _ := fun w0 => leading_any x s (xv := (x : Int)) rfl x1 hs.1 (by omega) w0
  obtain ⟨lb1, hlb1⟩ : ∃ lb1, lb1 = lb + 1 := ⟨_, rfl⟩
  obtain ⟨la1, hla1⟩ : ∃ la1, la1 = la + 1 := ⟨_, rfl⟩
  have HB1 : Hid _ := hlb1
  have HA1 : Hid _ := hla1
  have HD1 : Hid _ := hD
  have HA2 : Hid _ := hA
  have HU : Hid _ := hu
  have HV : Hid _ := hv
  rw [← hla1]
  have c1 := hb.at (by omega)
  obtain ⟨bb, ob, rfl, hbb, hsb⟩ := c1
  have c1 := hsb.cell p _ (wd.dcells_at _ _ _ (by omega))
  rw [hxd] at c1
  have hcb := hb.big
  have hrb := hb.room
  unfold maxLen at hcb
  have e1 : (lb : Int) - 1 = (p : Int) := by omega
  have l1 : p < lb := by omega
  have l2 : lb < lb1 := by omega
  have l3 : la < la1 := by omega
  have l4 : lb1 ≤ 1000000000 := by omega
  have l5 : la1 ≤ 1000000000 := by omega
  have e2 : (la : Int) - (lb : Int) + 1 = (m : Int) := by omega
  have l6 : m ≤ la := by omega
  have HDt : Hid _ := hDt
  have HML : Hid _ := hm
  have HDl : Hid _ := hDl
  clear hm hx hs hD hA nl1 nl2 nl3 hlb1 hla1 hp htop hu hv hDt hAD hDl h2s hxd hpn hsb
  go_enter Tryz.func91, Tryz.ntmps91
  go_wp2_with (go_at_call 101; refine (HLZ.out _).mono ?_; rintro e w' ⟨rfl, hw⟩; subst hw)
  refine (shiftUp_to _ lb cb v s lb1 D _ hb HV.out (by omega) hs2 HB1.out HD1.out).mono ?_
  rintro e w1 ⟨rfl, hownD, hbel1⟩
  have ha1 := ha.below hbel1
  have HownD : Hid _ := hownD
  clear hownD
  go_wp2_with (go_at_call 102; fail)
  refine (shiftUp_to a la ca u s la1 A _ ha1 HU.out (by omega) hs2 HA1.out HA2.out).mono ?_
  rintro e w2 ⟨rfl, hownR, hbel2⟩
  have HownR : Hid _ := hownR
  clear hownR
  go_wp2_with (at_make; refine make_any _ rfl (.tmp 30) (.tmp 30) 23 rfl w2.heap.size 65 i0 (.int .u32 0) Tryz.underlying23 hi0 hz0 hz1 rfl .i64 .i64 _ _ m rfl rfl (by simp) (by simp) (by rw [hz2]; omega) (by omega) (Nat.le_refl _) ?_; intro w3 hownQ hbel3)
  have hz1' := (seg_of_own HownD.out).2.1
  have hz2' := (seg_of_own HownR.out).2.1
  have b12 : Below w.heap.size w w2 := hbel1.trans (hbel2.mono hbel1.size)
  have b13 : Below w.heap.size w w3 := b12.trans (hbel3.mono b12.size)
  rw [← hz0', ← wd.xim_full m ((A / D : Nat) : Int) 0] at hownQ
  have HST : Hid (LongRel w A D lb la m w1.heap.size w2.heap.size (some ⟨w.heap.size, 0, none⟩) (.int .i64 ((m : Int) - 1)) w3) := by
    refine ⟨m, Nat.le_refl _, rfl, Own.mono hownQ b12.size, ?_, ?_, b13⟩
    · rw [HRS.out, ← HA1.out]
      exact Own.mono (Own.below HownR.out hbel3) hbel1.size
    · have h := Sl.take (m := lb) (Own.sl (Own.below (Own.below HownD.out hbel2) hbel3)) (by omega)
      rw [wd.dcells_take _ _ _ (by omega), HB1.out] at h
      exact h
  have n1 : w2.heap.size ≠ w1.heap.size := by omega
  have n2 : w1.heap.size ≠ w.heap.size := by omega
  have n3 : w2.heap.size ≠ w.heap.size := by omega
  clear hownQ hbel1 hbel2 hbel3 b12 b13 HownD HownR ha1 hz1' hz2'
  obtain ⟨db, hdb⟩ : ∃ db, db = w.heap.size := ⟨_, rfl⟩
  obtain ⟨rb, hrb'⟩ : ∃ rb, rb = w1.heap.size := ⟨_, rfl⟩
  obtain ⟨qb, hqb⟩ : ∃ qb, qb = w2.heap.size := ⟨_, rfl⟩
  go_loopw [8] (fun i wr => LongRel w A D lb la m w1.heap.size w2.heap.size (some ⟨w.heap.size, 0, none⟩) i wr) (fun i _ => (intOf i + 1).toNat)
  case atStart => exact HST.out
  case round =>
    obtain ⟨k, hk, rfl, hq, hr, hs, hbel⟩ := hrel
    rcases k with _ | j
    · rw [rk_end] at hr
      rw [wd.xim_zero, HQ.out] at hq
      have HSD : Hid _ := hr
      have HSQ : Hid _ := hq
      have hr2 := hr
      rw [← HA1.out] at hr2
      have HSD2 : Hid _ := hr2
      have HSP : Hid (A % D < 4294967296 ^ la1) := by rw [HA1.out]; exact HRl.out
      clear hr hq hr2
      go_wp2_with (go_at_call 104; fail)
      refine (shiftDown_to w1.heap.size la1 la1 la1 (A % D) s w.heap.size (u % v) wr rfl HR.out HSD2.out HSP.out hs2).mono ?_
      rintro e wx ⟨rfl, hown2, hwx⟩
      have hq1 := hwx.own HSQ.out (fun o => addr_ne n1)
      have hb2 := hwx.after hbel (seg_of_own HSD2.out).2.2 (Nat.le_refl _)
      have HO1 : Hid _ := hq1
      have HO2 : Hid _ := hown2
      clear hq1 hown2
      go_wp2
      go_ret2
      exact ⟨_, _, rfl, HO1.out, HO2.out, hb2⟩
    · have hrb2 := seg_of_own hr
      have hsg := seg_part hrb2.1 j (lb + 1) (by have := HML.out; omega)
      rw [Nat.zero_add, rk_split, low_div] at hsg
      have HN : Hid _ := fun wx hh hw => long_next (w := w) (w1 := wx) (A := A) (D := D) (lb := lb) (la := la) (m := m) (rb := w1.heap.size) (qb := w2.heap.size) (j := j) hD0 (by omega) HML.out n1 (fun o => addr_ne (Ne.symm n2)) (fun o => addr_ne (Ne.symm n3)) HDl.out hq hr hs hbel hh hw
      have HQ1 : Hid _ := fun (wx : World) (hw : Wr wr wx w1.heap.size j (j + (lb + 1))) => hw.own hq (fun o => addr_ne n1)
      have e3 : ((j + 1 : Nat) : Int) - 1 = (j : Int) := by omega
      have e4 : (j : Int) + (lb : Int) + 1 = (j : Int) + (lb1 : Int) := by have := HB1.out; omega
      have l7 : j + lb1 ≤ la1 := by have := HB1.out; have := HA1.out; have := HML.out; omega
      have l8 : j < m := by omega
      have hs1 := hs
      rw [← HB1.out] at hs1
      have TO := takeOff_to w1.heap.size j lb lb1 (la1 - j) (some ⟨w.heap.size, 0, none⟩) lb1 (nk A D j) D wr HB1.out hrb2.2.1 hsg (nk_lt A D j hD0) (by have := HB1.out; omega) (by omega) hs1 HDl.out hlb HDt.out (fun o => addr_ne (Ne.symm n2))
      have HTO : Hid _ := TO
      clear hsg hq hr hrb2 hs1 hs TO
      go_wp2_with (go_at_call 103; fail)
      refine (show Calls _ _ _ _ _ from HTO.out).mono ?_
      rintro e wx ⟨rfl, hsg2, hwx⟩
      have hq1 := HQ1.out wx hwx
      have c3 : wx.cell? ⟨w2.heap.size, j, none⟩ = some (.int .u32 (wd.dg 0 j)) := Own.cell hq1 j _ (wd.xim_at _ _ _ _ _ (by omega) (by omega))
      have c4 : wx.frozen? ⟨w2.heap.size, j, none⟩ = false := Own.free hq1 j (by omega)
      have HN2 : Hid _ := HN.out wx hsg2 hwx
      have q1 : nk A D j / D < 4294967296 := Nat.div_lt_of_lt_mul (nk_lt A D j hD0)
      clear hq1 hsg2
      go_wp2
      go_roundw
      case rel => exact HN2.out
      case measure => simp [intOf]
end Go.Proofs.YtaekgomplkkocabGreatDoor

namespace Go.Proofs.YtaekgomplkkocabGreatDoor
open Go.RowKit
set_option linter.unusedVariables false

theorem top_le {v l : Nat} (h : wd.nlen v = l + 1) : 4294967296 ^ l ≤ v := by
  refine Nat.le_of_not_lt fun hlt => ?_
  have := wd.nlen_le hlt
  omega
set_option maxRecDepth 100000 in
set_option maxHeartbeats 1000000 in
theorem divMod_long (a b : Option Addr) (la lb ca cb u v : Nat) (w : World) (ha : Sl w a la ca (wd.dcells la (u : Int))) (hu : u < 4294967296 ^ la) (hla : la ≤ 100000000) (hb : Sl w b lb cb (wd.dcells lb (v : Int))) (hv : v < 4294967296 ^ lb) (hlb : 2 ≤ wd.nlen v) (hge : wd.nlen v ≤ wd.nlen u) :
    Calls Tryz.prog 65 #[.slice a la ca, .slice b lb cb] w (Both w (u / v) (u % v)) := by
  have hlu := wd.nlen_le hu
  have hu2 := wd.nlen_lt u
  have hv2 := wd.nlen_lt v
  obtain ⟨lu, hlu'⟩ : ∃ lu, lu = wd.nlen u := ⟨_, rfl⟩
  obtain ⟨lv, hlv'⟩ : ∃ lv, lv = wd.nlen v := ⟨_, rfl⟩
  obtain ⟨m, hm⟩ : ∃ m, m = lu - lv + 1 := ⟨_, rfl⟩
  rw [← hlu'] at hlu hu2 hge
  rw [← hlv'] at hv2 hlb hge
  have htop : 4294967296 ^ (lv - 1) ≤ v := top_le (by omega)
  have hv0 : 0 < v := Nat.lt_of_lt_of_le (wd.pow_nat _) htop
  have HT : Hid _ := htop
  have HQl : Hid (u / v < 4294967296 ^ m) := Nat.div_lt_of_lt_mul (by
    have := Nat.mul_le_mul_right (4294967296 ^ m) htop
    rw [← Nat.pow_add, show lv - 1 + m = lu by omega] at this
    omega)
  have HRl : Hid (u % v < 4294967296 ^ (lu + 1)) := by
    have := Nat.mod_lt u hv0
    have : (4294967296 : Nat) ^ lv ≤ 4294967296 ^ (lu + 1) := Nat.pow_le_pow_right (by decide) (by omega)
    unfold Hid
    omega
  have HM : Hid (m + lv = lu + 1) := by unfold Hid; omega
  have HU : Hid _ := hlu'.symm
  have HV : Hid _ := hlv'.symm
  have HU2 : Hid _ := hu2
  have HV2 : Hid _ := hv2
  have hm1 : 1 ≤ m := by omega
  clear hlu' hlv' hm htop hu2 hv2
  go_enter Tryz.func65, Tryz.ntmps65
  go_wp2_with (first
    | (go_at_call_of 32 [Value.slice a la ca]; refine (strip_to lu a la ca u _ ha hu HU.out).mono ?_; rintro e w' ⟨a1, ca1, rfl, hw, hcut1⟩; subst hw)
    | (go_at_call_of 32 [Value.slice b lb cb]; refine (strip_to lv b lb cb v _ hb hv HV.out).mono ?_; rintro e w' ⟨b1, cb1, rfl, hw, hcut2⟩; subst hw)
    | (go_at_call 91; fail))
  have sa : Sl w a1 lu ca1 (wd.dcells lu (u : Int)) := by have := hcut1.sl ha; exact this
  have sb : Sl w b1 lv cb1 (wd.dcells lv (v : Int)) := by have := hcut2.sl hb; exact this
  refine (divideLong_any a1 b1 lu lv m ca1 cb1 u v w sa HU2.out (by omega) sb HV2.out hlb HM.out hm1 HT.out).mono ?_
  rintro e w1 ⟨qb, rb, rfl, hq, hr, hbel⟩
  have HQ : Hid _ := hq
  have HR : Hid _ := hr
  clear hq hr
  obtain ⟨l1, hl1⟩ : ∃ l1, l1 = lu + 1 := ⟨_, rfl⟩
  have HL1 : Hid _ := hl1
  rw [← hl1]
  have HR1 : Hid (Own w1 w.heap.size 65 (some ⟨rb, 0, none⟩) l1 l1 (wd.dcells l1 ((u % v : Nat) : Int))) := by rw [hl1]; exact HR.out
  have HRl1 : Hid (u % v < 4294967296 ^ l1) := by rw [hl1]; exact HRl.out
  clear hl1
  go_wp2_with (go_at_call 32; fail)
  refine (strip_any (some ⟨qb, 0, none⟩) m m (u / v) w1 (Own.sl HQ.out) HQl.out).mono ?_
  rintro e w' ⟨a3, ca3, rfl, hw, hcut3⟩
  subst hw
  go_wp2_with (go_at_call 32; fail)
  refine (strip_any (some ⟨rb, 0, none⟩) l1 l1 (u % v) w1 (Own.sl HR1.out) HRl1.out).mono ?_
  rintro e w' ⟨a4, ca4, rfl, hw, hcut4⟩
  subst hw
  go_wp2
  go_ret3
  exact ⟨a3, ca3, a4, ca4, rfl, hcut3.own HQ.out, hcut4.own HR1.out, hbel⟩

/-- DivMod by a number that isn't nought. -/
theorem divMod_any (a b : Option Addr) (la lb ca cb u v : Nat) (w : World) (ha : Sl w a la ca (wd.dcells la (u : Int))) (hu : u < 4294967296 ^ la) (hla : la ≤ 100000000) (hb : Sl w b lb cb (wd.dcells lb (v : Int))) (hv : v < 4294967296 ^ lb) (h0 : 0 < v) :
    Calls Tryz.prog 65 #[.slice a la ca, .slice b lb cb] w (Both w (u / v) (u % v)) := by
  rcases Nat.lt_or_ge (wd.nlen u) (wd.nlen v) with h | h
  · exact divMod_less a b la lb ca cb u v w ha hu (by omega) hb hv h
  · rcases Nat.lt_or_ge (wd.nlen v) 2 with h2 | h2
    · have h1 : wd.nlen v = 1 := by
        rcases Nat.eq_zero_or_pos (wd.nlen v) with e | e
        · have := wd.nlen_lt v
          rw [e] at this
          simp at this
          omega
        · omega
      exact divMod_word a b la lb ca cb u v w ha hu (by omega) hb hv h1 (by omega)
    · exact divMod_long a b la lb ca cb u v w ha hu hla hb hv h2 h
end Go.Proofs.YtaekgomplkkocabGreatDoor

namespace Go.Proofs.YtaekgomplkkocabGreatDoor
open Go.RowKit Go.Shelf
set_option linter.unusedVariables false
attribute [local go_sem] Oper.semAt_some

/-- What has come when r are left: p, p - 1, .., r. -/
def dn (p r : Nat) : List (Fin (p + 1)) := (List.range (p + 1 - r)).map fun j => ⟨p - j, by omega⟩
theorem dn_start (p : Nat) : dn p (p + 1) = [] := by simp [dn]
theorem dn_next (p q : Nat) (h : q < p + 1) : dn p q = dn p (q + 1) ++ [⟨q, h⟩] := by
  unfold dn
  rw [show p + 1 - q = (p + 1 - (q + 1)) + 1 by omega, List.range_succ, List.map_append]
  congr 1
  simp
  omega
theorem dn_length (p r : Nat) : (dn p r).length = p + 1 - r := by simp [dn]
theorem dn_mem (p r : Nat) (x : Fin (p + 1)) : x ∈ dn p r ↔ r ≤ x.1 := by
  unfold dn
  simp only [List.mem_map, List.mem_range]
  refine ⟨fun ⟨j, hj, e⟩ => by rw [← e]; show r ≤ p - j; omega, fun h => ⟨p - x.1, by have := x.2; omega, by have := x.2; apply Fin.ext; show p - (p - x.1) = x.1; omega⟩⟩

set_option maxRecDepth 100000 in
set_option maxHeartbeats 2000000 in
theorem backward1_in (F : Fence) (n : Nat) (h7 : F.fn 77) (hro : F.round = none) (hn : 1 ≤ n) (l Bs n₀ b off p cap u : Nat) (hcap : p + 1 ≤ cap) (hreach : cap ≤ 9223372036854775807) (hb : b < n₀) (J Jx : List (Fin (p + 1)) → World → Prop)
    (hY : ∀ pre x W, J pre W → pre.length < p + 1 → YieldAt F (n - 1) Tryz.prog l #[.int .i64 ((x.1 : Nat) : Int), .int .u32 (wd.dg u x.1)] W fun e W' =>
      (e = .returned (.bool true) ∧ J (pre ++ [x]) W' ∧ Below n₀ W W') ∨ (e = .returned (.bool false) ∧ Jx (pre ++ [x]) W'))
    (W : World) (hBs : W.cell? ⟨Bs, 0, none⟩ = some (.slice (some ⟨b, off, none⟩) (p + 1) cap)) (hBn : Bs < n₀) (hc : Seg W b off (wd.dcells (p + 1) u)) (h0 : J [] W) :
    CallsIn F n Tryz.prog 77 #[.func (.yield l) #[] #[], .pointer (some ⟨Bs, 0, none⟩)] W fun e W' => (∃ v, e = .returned v) ∧
      ((∃ ys, ys = dn p 0 ∧ J ys W') ∨ (∃ pre, (∃ r, r ≤ p ∧ pre = dn p r) ∧ Jx pre W')) := by
  refine callsIn_of_wp Tryz.func77 rfl h7 ?_ hro
  simp only [Tryz.ntmps77, List.size_toArray, List.length_cons, List.length_nil, Nat.reduceAdd, Nat.reduceSub, Array.replicate_succ, Array.replicate_zero, List.push_toArray, List.append_toArray, List.nil_append, List.cons_append]
  gi_wp2
  gi_loopw [3] (fun i wr => ∃ r : Nat, r ≤ p + 1 ∧ i = .int .i64 ((r : Int) - 1) ∧ J (dn p r) wr ∧ Below n₀ W wr)
    (fun i _ => (intOf i + 1).toNat)
  case atStart => exact ⟨p + 1, Nat.le_refl _, by go_num, by rw [dn_start]; exact h0, Below.refl _ _⟩
  case round =>
    obtain ⟨r, hr, rfl, hJs, hnx⟩ := hrel
    have hBx : wr.cell? ⟨Bs, 0, none⟩ = some (.slice (some ⟨b, off, none⟩) (p + 1) cap) := (hnx.cell (p := ⟨Bs, 0, none⟩) hBn).trans hBs
    rcases r with _ | q
    · gi_wp2
      go_end0
      exact ⟨⟨_, rfl⟩, .inl ⟨_, rfl, hJs⟩⟩
    · have hcx : wr.cell? ⟨b, off + q, none⟩ = some (.int .u32 (wd.dg u q)) := (hnx.cell (p := ⟨b, off + q, none⟩) hb).trans (hc.cell q _ (wd.dcells_at _ _ _ (by omega)))
      obtain ⟨fn, tmps, assign, body, hy, hR⟩ := hY _ ⟨q, by omega⟩ wr hJs (by rw [dn_length]; omega)
      dsimp only at hy
      have e1 : ((q + 1 : Nat) : Int) - 1 = (q : Int) := by omega
      gi_wp2
      refine hR.mono ?_
      rintro e W3 (⟨rfl, hJ3, hk3⟩ | ⟨rfl, hJx3⟩)
      · -- THE ROUND GOES ON
        gi_wp2
        go_roundw
        case rel => exact ⟨q, by omega, by go_num, by rw [dn_next p q (by omega)]; exact hJ3, hnx.trans hk3⟩
        case measure => simp [intOf]
      · gi_wp2
        refine bodyPost_ret (results_none rfl _ _ _) rfl ?_
        exact ⟨⟨_, rfl⟩, .inr ⟨_, ⟨q, by omega, (dn_next p q (by omega)).symm⟩, hJx3⟩⟩

set_option maxHeartbeats 1000000 in
theorem backward_in (F : Fence) (n : Nat) (h5 : F.fn 54) (hro : F.round = none) (a : Option Addr) (len cap : Nat) (w : World) :
    CallsIn F n Tryz.prog 54 #[.slice a len cap] w fun e w' => e = .returned (.func (.func 77) #[] #[.pointer (some ⟨w.heap.size, 0, none⟩)]) ∧ w' = w.alloc (.cells #[.slice a len cap] 23) := by
  refine callsIn_of_wp Tryz.func54 rfl h5 ?_ hro
  simp only [Tryz.ntmps54, List.size_toArray, List.length_cons, List.length_nil, Nat.reduceAdd, Nat.reduceSub, Array.replicate_succ, Array.replicate_zero, List.push_toArray, List.append_toArray, List.nil_append, List.cons_append]
  gi_wp2
  go_ret
  exact ⟨rfl, rfl⟩

theorem backward_stops (F : Fence) (n : Nat) (h7 : F.fn 77) (hro : F.round = none) (hn : 1 ≤ n) (Bs n₀ p cap u : Nat) (a : Option Addr) (w : World) (hBs : Bs < w.heap.size) (hn₀ : n₀ ≤ w.heap.size) (hBn : Bs < n₀)
    (hc : w.cell? ⟨Bs, 0, none⟩ = some (.slice a (p + 1) cap)) (b off : Nat) (ha : a = some ⟨b, off, none⟩) (hb : b < n₀) (hcap : p + 1 ≤ cap) (hreach : cap ≤ 9223372036854775807) (hI : Seg w b off (wd.dcells (p + 1) u)) :
    SeqStopsK F n Tryz.prog 77 #[.pointer (some ⟨Bs, 0, none⟩)] (fun x : Fin (p + 1) => #[Value.int .i64 ((x.1 : Nat) : Int), Value.int .u32 (wd.dg u x.1)]) (Below n₀) (fun ys => ys = dn p 0)
      (fun pre => ∃ r, r ≤ p ∧ pre = dn p r) (p + 1) w := fun l J Jx W hW _ _ hY h0 => by
  subst ha
  have hc' := (hW.cell (p := ⟨Bs, 0, none⟩) hBs).trans hc
  exact backward1_in F n h7 hro hn l Bs n₀ b off p cap u hcap hreach hb J Jx hY W hc' hBn (hI.below hW (by omega)) h0
set_option maxRecDepth 100000 in
set_option maxHeartbeats 1000000 in
/-- .. at a slice without elements: no round. -/
theorem backward_nil_stops (F : Fence) (n : Nat) (h7 : F.fn 77) (hro : F.round = none) (Bs n₀ cap : Nat) (a : Option Addr) (w : World) (hBs : Bs < w.heap.size) (hc : w.cell? ⟨Bs, 0, none⟩ = some (.slice a 0 cap)) (enc : Empty → Array Value) :
    SeqStopsK F n Tryz.prog 77 #[.pointer (some ⟨Bs, 0, none⟩)] enc (Below n₀) (fun ys => ys = []) (fun _ => True) 0 w := fun l J Jx W hW _ _ hY h0 => by
  have hc' := (hW.cell (p := ⟨Bs, 0, none⟩) hBs).trans hc
  refine callsIn_of_wp Tryz.func77 rfl h7 ?_ hro
  simp only [Tryz.ntmps77, List.size_toArray, List.length_cons, List.length_nil, Nat.reduceAdd, Nat.reduceSub, Array.replicate_succ, Array.replicate_zero, List.push_toArray, List.append_toArray, List.nil_append, List.cons_append]
  gi_wp2
  gi_loopw [3] (fun i wr => i = .int .i64 (-1) ∧ J [] wr) (fun _ _ => 0)
  case atStart => exact ⟨rfl, h0⟩
  case round =>
    obtain ⟨rfl, hJs⟩ := hrel
    gi_wp2
    go_end0
    exact ⟨⟨_, rfl⟩, .inl ⟨_, rfl, hJs⟩⟩
end Go.Proofs.YtaekgomplkkocabGreatDoor

namespace Go.Proofs.YtaekgomplkkocabGreatDoor
open Go.RowKit Go.Shelf
set_option linter.unusedVariables false
attribute [local go_sem] Oper.semAt_some

/-- -1, 0 or 1. -/
def cmpI (x y : Int) : Int := if x < y then -1 else if y < x then 1 else 0
theorem cmpInt_any (x y : Int) (w : World) :
    Calls Tryz.prog 53 #[.int .i64 x, .int .i64 y] w fun e w' => e = .returned (.int .i64 (cmpI x y)) ∧ w = w' := by
  unfold cmpI
  go_enter Tryz.func53, Tryz.ntmps53
  go_wp2
  all_goals (go_ret; exact ⟨rfl, rfl⟩)
theorem cmpWord_any (x y : Int) (w : World) :
    Calls Tryz.prog 55 #[.int .u32 x, .int .u32 y] w fun e w' => e = .returned (.int .i64 (cmpI x y)) ∧ w = w' := by
  unfold cmpI
  go_enter Tryz.func55, Tryz.ntmps55
  go_wp2
  all_goals (go_ret; exact ⟨rfl, rfl⟩)
/-- Equal from place k on. -/
theorem top_eq {u v m k : Nat} (hk : k ≤ m) (hu : u < 4294967296 ^ m) (hv : v < 4294967296 ^ m) (h : ∀ j, k ≤ j → j < m → wd.dg (u : Int) j = wd.dg (v : Int) j) : u / 4294967296 ^ k = v / 4294967296 ^ k := by
  have hlt : ∀ x : Nat, x < 4294967296 ^ m → x / 4294967296 ^ k < 4294967296 ^ (m - k) := fun x hx => by
    refine Nat.div_lt_of_lt_mul ?_
    rw [← Nat.pow_add, show k + (m - k) = m by omega]
    exact hx
  refine wd.eq_of_dcells (m - k) _ _ (hlt u hu) (hlt v hv) fun j hj => ?_
  rw [Int.natCast_ediv, Int.natCast_ediv, wd.pow_cast, wd.dg_div, wd.dg_div]
  exact h _ (by omega) (by omega)

theorem strip_len (m : Nat) (a : Option Addr) (l cap u : Nat) (w : World) (hs : Sl w a l cap (wd.dcells l (u : Int))) (hu : u < 4294967296 ^ l) (hm : wd.nlen u = m) :
    Calls Tryz.prog 32 #[.slice a l cap] w fun e w' => ∃ a' cap', e = .returned (.slice a' m cap') ∧ w = w' ∧ Cut a l cap a' m cap' := by
  subst hm
  exact strip_any a l cap u w hs hu
set_option maxRecDepth 100000 in
set_option maxHeartbeats 2000000 in
theorem cmp_ne (a b : Option Addr) (la lb ca cb u v m1 m2 : Nat) (w : World) (ha : Sl w a la ca (wd.dcells la (u : Int))) (hu : u < 4294967296 ^ la) (hb : Sl w b lb cb (wd.dcells lb (v : Int))) (hv : v < 4294967296 ^ lb) (h1 : Hid (wd.nlen u = m1)) (h2 : Hid (wd.nlen v = m2)) (hne : m1 ≠ m2) (HC : Hid (cmpI (m1 : Int) m2 = cmpI u v)) :
    Calls Tryz.prog 36 #[.slice a la ca, .slice b lb cb] w fun e w' => e = .returned (.int .i64 (cmpI u v)) ∧ Below w.heap.size w w' := by
  refine callsIn_wide.1 (callsIn_of_wp_marks (F := Fence.wide) (n := 4) Tryz.func36 rfl trivial ?_ rfl)
  simp only [Tryz.ntmps36, List.size_toArray, List.length_cons, List.length_nil, Nat.reduceAdd, Nat.reduceSub, Array.replicate_succ, Array.replicate_zero, List.push_toArray, List.append_toArray, List.nil_append, List.cons_append]
  refine wpIn_wide.2 ?_
  have hB0 : Below w.heap.size w ((w.alloc (.cells #[.slice b lb cb] 23)).alloc (.cells #[.int .i64 0] 3)) := ((Below.refl _ _).alloc (Nat.le_refl _) _).alloc (by simp) _
  go_wp2
  refine wp_region_noPanic ?_
  go_region_with (first
    | (go_at_call_of 32 [Value.slice a la ca]; refine (strip_len m1 a la ca u _ (ha.below (by first | exact hB0 | exact hB0.drew | exact hB0.drew.drew)) hu h1.out).mono ?_; rintro e w' ⟨a1, ca1, rfl, hw, hcut1⟩; subst hw)
    | (go_at_call 32; refine (strip_len m2 b lb cb v _ (hb.below (by first | exact hB0 | exact hB0.drew | exact hB0.drew.drew)) hv h2.out).mono ?_; rintro e w' ⟨b1, cb1, rfl, hw, hcut2⟩; subst hw))
  all_goals
    refine NoPanic.normal ?_
    go_wp2_with (go_at_call 53; refine (cmpInt_any _ _ _).mono ?_; rintro e w' ⟨rfl, hw⟩; subst hw)
    refine ⟨.int .i64 (cmpI m1 m2), by simp [results, Tryz.results36, go_sem], by rw [HC.out], ?_⟩
    exact (((Below.refl _ _).alloc (Nat.le_refl _) _).alloc (by simp) _).drew

set_option maxRecDepth 100000 in
set_option maxHeartbeats 2000000 in
theorem cmp_zero (a b : Option Addr) (la lb ca cb u v : Nat) (w : World) (ha : Sl w a la ca (wd.dcells la (u : Int))) (hu : u < 4294967296 ^ la) (hb : Sl w b lb cb (wd.dcells lb (v : Int))) (hv : v < 4294967296 ^ lb) (h1 : Hid (wd.nlen u = 0)) (h2 : Hid (wd.nlen v = 0)) (HC : Hid (0 = cmpI u v)) :
    Calls Tryz.prog 36 #[.slice a la ca, .slice b lb cb] w fun e w' => e = .returned (.int .i64 (cmpI u v)) ∧ Below w.heap.size w w' := by
  refine callsIn_wide.1 (callsIn_of_wp_marks (F := Fence.wide) (n := 4) Tryz.func36 rfl trivial ?_ rfl)
  simp only [Tryz.ntmps36, List.size_toArray, List.length_cons, List.length_nil, Nat.reduceAdd, Nat.reduceSub, Array.replicate_succ, Array.replicate_zero, List.push_toArray, List.append_toArray, List.nil_append, List.cons_append]
  refine wpIn_wide.2 ?_
  have hB0 : Below w.heap.size w ((w.alloc (.cells #[.slice b lb cb] 23)).alloc (.cells #[.int .i64 0] 3)) := ((Below.refl _ _).alloc (Nat.le_refl _) _).alloc (by simp) _
  go_wp2
  refine wp_region_noPanic ?_
  go_region_with (first
    | (go_at_call_of 32 [Value.slice a la ca]; refine (strip_len 0 a la ca u _ (ha.below (by first | exact hB0 | exact hB0.drew | exact hB0.drew.drew)) hu h1.out).mono ?_; rintro e w' ⟨a1, ca1, rfl, hw, hcut1⟩; subst hw)
    | (go_at_call 32; refine (strip_len 0 b lb cb v _ (hb.below (by first | exact hB0 | exact hB0.drew | exact hB0.drew.drew)) hv h2.out).mono ?_; rintro e w' ⟨b1, cb1, rfl, hw, hcut2⟩; subst hw))
  all_goals
    refine NoPanic.normal ?_
    go_wp2_with (go_at_call 54; refine (callsIn_wide.1 (backward_in Fence.wide 3 trivial rfl _ _ _ _)).mono ?_; rintro e w' ⟨rfl, hw⟩; have hw := hw.symm; subst hw)
    have hB1 : Below w.heap.size w ((((w.alloc (.cells #[.slice b1 0 cb1] 23)).alloc (.cells #[.int .i64 0] 3)).alloc (.cells #[.slice a1 0 ca1] 23)).drew) := ((((Below.refl _ _).alloc (Nat.le_refl _) _).alloc (by simp) _).alloc (by simp; omega) _).drew
    have bR : Boxed ((((w.alloc (.cells #[.slice b1 0 cb1] 23)).alloc (.cells #[.int .i64 0] 3)).alloc (.cells #[.slice a1 0 ca1] 23)).drew) (w.heap.size + 1) 3 (.int .i64 0) := by
      have := (Boxed.new (w.alloc (.cells #[.slice b1 0 cb1] 23)) 3 (.int .i64 0)).alloc (.cells #[.slice a1 0 ca1] 23)
      rw [World.size_alloc] at this
      exact this
    have bA : Boxed ((((w.alloc (.cells #[.slice b1 0 cb1] 23)).alloc (.cells #[.int .i64 0] 3)).alloc (.cells #[.slice a1 0 ca1] 23)).drew) (w.heap.size + 1 + 1) 23 (.slice a1 0 ca1) := by
      have := Boxed.new ((w.alloc (.cells #[.slice b1 0 cb1] 23)).alloc (.cells #[.int .i64 0] 3)) 23 (.slice a1 0 ca1)
      rw [World.size_alloc, World.size_alloc] at this
      exact this
    refine (wpIn_wide (n := 4)).1 ?_
    refine wpIn_rangeFunc_ownG (α := Empty) rfl (by decide) (gf := 77) (lb := #[.pointer (some ⟨w.heap.size + 1 + 1, 0, none⟩)]) rfl trivial (enters_of Tryz.func77 (by kernel_rfl) rfl)
      (backward_nil_stops Fence.wide 3 trivial rfl (w.heap.size + 1 + 1) w.heap.size ca1 a1 _ (by simp) bA.cell (fun x => x.elim)) belowK_t (belowK_b (by simp; omega)) (Below.refl _ _) (fun x => x.elim)
      (fun _ W => (W.cell? ⟨w.heap.size + 1, 0, none⟩ = some (.int .i64 0) ∧ W.frozen? ⟨w.heap.size + 1, 0, none⟩ = false) ∧ Below w.heap.size w W)
      (fun _ _ _ => False)
      (OwnFrom.and (Own.from (fun s A B row hs hg hr => ⟨cell_kept hs.1 hg hr, (frozen_kept hs.1 hg hr).trans hs.2⟩) _) (ownFrom_below (Nat.le_refl _) (by simp; omega)))
      (fun _ _ _ _ _ hs _ _ => hs)
      ⟨⟨bR.cell, bR.frozen⟩, hB1⟩
      (fun x => x.elim) ?assign ?body ?done ?stop
    case assign => intro l x; exact x.elim
    case body => intro l pre x; exact x.elim
    case done =>
      rintro D ys W hD rfl ⟨⟨hcr, hfr⟩, hB⟩ hK
      go_wp2
      have hK' := (KeepsOthers.setCell W ⟨w.heap.size + 1, 0, none⟩ (.int .i64 0)).same D _ hK rfl
      refine ⟨by simp, .inl ⟨_, _, rfl, run_takeDeferred hK', ?_⟩⟩
      have hc5 := cell_kept (World.cell?_setCell_same' W ⟨w.heap.size + 1, 0, none⟩ (.int .i64 0) (by rw [hcr]; rfl)) (grownBy_putObj' _ D (.deferred none)) (fun r e => by cases e; exact ⟨_, hK', rfl⟩)
      refine ⟨.int .i64 0, ?_, by rw [← HC.out], (hB.setCell (p := ⟨w.heap.size + 1, 0, none⟩) (by simp) _).trans (belowK_b (w := w) (Nat.le_refl _) _ D _ _ (by simp at hD; omega) hK' rfl rfl)⟩
      simp [results, Tryz.results36, go_sem, hc5]
    case stop =>
      rintro D c pre W _ _ h _
      exact h.elim
end Go.Proofs.YtaekgomplkkocabGreatDoor

namespace Go.Proofs.YtaekgomplkkocabGreatDoor
open Go.RowKit Go.Shelf
set_option linter.unusedVariables false
attribute [local go_sem] Oper.semAt_some

theorem cmp_words {u v : Nat} {k : Nat} (h : u / 4294967296 ^ (k + 1) = v / 4294967296 ^ (k + 1)) (hne : wd.dg (u : Int) k ≠ wd.dg (v : Int) k) : cmpI (wd.dg (u : Int) k) (wd.dg (v : Int) k) = cmpI u v := by
  unfold cmpI
  rcases Int.lt_or_gt_of_ne hne with l | l
  · have := wd.lt_of_top h l
    rw [if_pos l, if_pos (by omega)]
  · have := wd.lt_of_top h.symm l
    rw [if_neg (by omega), if_pos l, if_neg (by omega), if_pos (by omega)]
theorem cmpI_self (x : Int) : cmpI x x = 0 := by unfold cmpI; simp

set_option maxRecDepth 100000 in
set_option maxHeartbeats 4000000 in
theorem cmp_eq (a b : Option Addr) (la lb ca cb u v p : Nat) (w : World) (ha : Sl w a la ca (wd.dcells la (u : Int))) (hu : u < 4294967296 ^ la) (hb : Sl w b lb cb (wd.dcells lb (v : Int))) (hv : v < 4294967296 ^ lb) (h1 : Hid (wd.nlen u = p + 1)) (h2 : Hid (wd.nlen v = p + 1)) :
    Calls Tryz.prog 36 #[.slice a la ca, .slice b lb cb] w fun e w' => e = .returned (.int .i64 (cmpI u v)) ∧ Below w.heap.size w w' := by
  have HU : Hid (u < 4294967296 ^ (p + 1)) := by have := wd.nlen_lt u; rwa [h1.out] at this
  have HV : Hid (v < 4294967296 ^ (p + 1)) := by have := wd.nlen_lt v; rwa [h2.out] at this
  refine callsIn_wide.1 (callsIn_of_wp_marks (F := Fence.wide) (n := 4) Tryz.func36 rfl trivial ?_ rfl)
  simp only [Tryz.ntmps36, List.size_toArray, List.length_cons, List.length_nil, Nat.reduceAdd, Nat.reduceSub, Array.replicate_succ, Array.replicate_zero, List.push_toArray, List.append_toArray, List.nil_append, List.cons_append]
  refine wpIn_wide.2 ?_
  have hB0 : Below w.heap.size w ((w.alloc (.cells #[.slice b lb cb] 23)).alloc (.cells #[.int .i64 0] 3)) := ((Below.refl _ _).alloc (Nat.le_refl _) _).alloc (by simp) _
  go_wp2
  refine wp_region_noPanic ?_
  go_region_with (first
    | (go_at_call_of 32 [Value.slice a la ca]; refine (strip_len (p + 1) a la ca u _ (ha.below (by first | exact hB0 | exact hB0.drew | exact hB0.drew.drew)) hu h1.out).mono ?_; rintro e w' ⟨a1, ca1, rfl, hw, hcut1⟩; subst hw)
    | (go_at_call 32; refine (strip_len (p + 1) b lb cb v _ (hb.below (by first | exact hB0 | exact hB0.drew | exact hB0.drew.drew)) hv h2.out).mono ?_; rintro e w' ⟨b1, cb1, rfl, hw, hcut2⟩; subst hw))
  all_goals
    refine NoPanic.normal ?_
    go_wp2_with (go_at_call 54; refine (callsIn_wide.1 (backward_in Fence.wide 3 trivial rfl _ _ _ _)).mono ?_; rintro e w' ⟨rfl, hw⟩; have hw := hw.symm; subst hw)
    have hs1 := hcut1.sl ha
    have hs2 := hcut2.sl hb
    obtain ⟨ba, oa, rfl, hba, hsa⟩ := hs1.at (by omega)
    obtain ⟨bb, ob, rfl, hbb, hsb⟩ := hs2.at (by omega)
    have k1 := hs1.room
    have k2 := hs1.big
    have k3 := hs2.room
    have k4 := hs2.big
    unfold maxLen at k2 k4
    clear hs1 hs2 hcut1 hcut2
    have hB1 : Below w.heap.size w ((((w.alloc (.cells #[.slice (some ⟨bb, ob, none⟩) (p + 1) cb1] 23)).alloc (.cells #[.int .i64 0] 3)).alloc (.cells #[.slice (some ⟨ba, oa, none⟩) (p + 1) ca1] 23)).drew) := ((((Below.refl _ _).alloc (Nat.le_refl _) _).alloc (by simp) _).alloc (by simp; omega) _).drew
    have bB : Boxed ((((w.alloc (.cells #[.slice (some ⟨bb, ob, none⟩) (p + 1) cb1] 23)).alloc (.cells #[.int .i64 0] 3)).alloc (.cells #[.slice (some ⟨ba, oa, none⟩) (p + 1) ca1] 23)).drew) w.heap.size 23 (.slice (some ⟨bb, ob, none⟩) (p + 1) cb1) :=
      ((Boxed.new w 23 (.slice (some ⟨bb, ob, none⟩) (p + 1) cb1)).alloc (.cells #[.int .i64 0] 3)).alloc (.cells #[.slice (some ⟨ba, oa, none⟩) (p + 1) ca1] 23)
    have bR : Boxed ((((w.alloc (.cells #[.slice (some ⟨bb, ob, none⟩) (p + 1) cb1] 23)).alloc (.cells #[.int .i64 0] 3)).alloc (.cells #[.slice (some ⟨ba, oa, none⟩) (p + 1) ca1] 23)).drew) (w.heap.size + 1) 3 (.int .i64 0) := by
      have := (Boxed.new (w.alloc (.cells #[.slice (some ⟨bb, ob, none⟩) (p + 1) cb1] 23)) 3 (.int .i64 0)).alloc (.cells #[.slice (some ⟨ba, oa, none⟩) (p + 1) ca1] 23)
      rw [World.size_alloc] at this
      exact this
    have bA : Boxed ((((w.alloc (.cells #[.slice (some ⟨bb, ob, none⟩) (p + 1) cb1] 23)).alloc (.cells #[.int .i64 0] 3)).alloc (.cells #[.slice (some ⟨ba, oa, none⟩) (p + 1) ca1] 23)).drew) (w.heap.size + 1 + 1) 23 (.slice (some ⟨ba, oa, none⟩) (p + 1) ca1) := by
      have := Boxed.new ((w.alloc (.cells #[.slice (some ⟨bb, ob, none⟩) (p + 1) cb1] 23)).alloc (.cells #[.int .i64 0] 3)) 23 (.slice (some ⟨ba, oa, none⟩) (p + 1) ca1)
      rw [World.size_alloc, World.size_alloc] at this
      exact this
    refine (wpIn_wide (n := 4)).1 ?_
    refine wpIn_rangeFunc_ownG (α := Fin (p + 1)) rfl (by decide) (gf := 77) (lb := #[.pointer (some ⟨w.heap.size + 1 + 1, 0, none⟩)]) rfl trivial (enters_of Tryz.func77 (by kernel_rfl) rfl)
      (backward_stops Fence.wide 3 trivial rfl (by decide) (w.heap.size + 1 + 1) (w.heap.size + 1 + 1 + 1) p ca1 u _ _ (by simp) (by simp) (by omega) bA.cell ba oa rfl (by omega) k1 (by omega) (hsa.below hB1 hba)) belowK_t (belowK_b (by simp)) (Below.refl _ _) (fun _ => rfl)
      (fun pre W => (W.cell? ⟨w.heap.size, 0, none⟩ = some (.slice (some ⟨bb, ob, none⟩) (p + 1) cb1) ∧ W.cell? ⟨w.heap.size + 1, 0, none⟩ = some (.int .i64 0) ∧ W.frozen? ⟨w.heap.size + 1, 0, none⟩ = false ∧ ∀ x ∈ pre, wd.dg (u : Int) x.1 = wd.dg (v : Int) x.1) ∧ Below w.heap.size w W)
      (fun c pre W => (c = .ret ∧ ∃ ini last, pre = ini ++ [last] ∧ (∀ x ∈ ini, wd.dg (u : Int) x.1 = wd.dg (v : Int) x.1) ∧ wd.dg (u : Int) last.1 ≠ wd.dg (v : Int) last.1 ∧ W.cell? ⟨w.heap.size + 1, 0, none⟩ = some (.int .i64 (cmpI (wd.dg (u : Int) last.1) (wd.dg (v : Int) last.1)))) ∧ Below w.heap.size w W)
      (OwnFrom.and (Own.from (fun s A B row hs hg hr => ⟨cell_kept hs.1 hg hr, cell_kept hs.2.1 hg hr, (frozen_kept hs.2.1 hg hr).trans hs.2.2.1, hs.2.2.2⟩) _) (ownFrom_below (Nat.le_refl _) (by simp; omega)))
      (fun c => OwnFrom.and (Own.from (fun s A B row hs hg hr => by obtain ⟨hc, ini, last, e1, e2, e3, e4⟩ := hs; exact ⟨hc, ini, last, e1, e2, e3, cell_kept e4 hg hr⟩) _) (ownFrom_below (Nat.le_refl _) (by simp; omega)))
      ⟨⟨bB.cell, bR.cell, bR.frozen, by simp⟩, hB1⟩
      (fun x => { tmps := #[.slice (some ⟨ba, oa, none⟩) (p + 1) ca1, .slice b lb cb, undef, .pointer (some ⟨w.heap.size, 0, none⟩), .pointer (some ⟨w.heap.size + 1, 0, none⟩), .int .i64 ((x.1 : Nat) : Int), .int .u32 (wd.dg u x.1), .slice a la ca,
        .slice (some ⟨ba, oa, none⟩) (p + 1) ca1, .slice b lb cb, .slice (some ⟨bb, ob, none⟩) (p + 1) cb1, .slice (some ⟨ba, oa, none⟩) (p + 1) ca1, .int .i64 ((p : Int) + 1), .slice (some ⟨bb, ob, none⟩) (p + 1) cb1, .int .i64 ((p : Int) + 1), .bool false, undef, undef, undef, undef, undef,
        .slice (some ⟨ba, oa, none⟩) (p + 1) ca1, .func (.func 77) #[] #[.pointer (some ⟨w.heap.size + 1 + 1, 0, none⟩)], .int .i64 ((x.1 : Nat) : Int), .int .u32 (wd.dg u x.1), undef, undef, undef, undef, undef, undef, undef, undef, undef, undef, undef, undef], defers := [] }) ?assign ?body ?done ?stop
    case assign =>
      intro l x W K hK
      gi_wp2
      exact hK
    case body =>
      rintro l pre x W ⟨⟨hcb, hcr, hfr, hp⟩, hB⟩ _
      have hx := x.2
      have c1 : W.cell? ⟨bb, ob + x.1, none⟩ = some (.int .u32 (wd.dg v x.1)) := (hB.cell (p := ⟨bb, ob + x.1, none⟩) hbb).trans (hsb.cell x.1 _ (wd.dcells_at _ _ _ hx))
      by_cases hd : wd.dg (u : Int) x.1 = wd.dg (v : Int) x.1
      · have hd' : (wd.dg (u : Int) x.1 != wd.dg (v : Int) x.1) = false := by rw [hd]; simp
        have HD : Hid _ := hd
        clear hd
        gi_wp2
        exact ⟨KeepsFrom.refl _ _, Below.refl _ _, ⟨hcb, hcr, hfr, fun y hy => (List.mem_append.1 hy).elim (hp y) (fun e => by simp at e; subst e; exact HD.out)⟩, hB⟩
      · have hd' : (wd.dg (u : Int) x.1 != wd.dg (v : Int) x.1) = true := by simpa using hd
        have HD : Hid _ := hd
        clear hd
        gi_wp2_with (refine ⟨trivial, ?_⟩; gi_at_call 55; refine (CallsIn.inRound l (callsIn_wide.2 (cmpWord_any _ _ _))).mono ?_; rintro e w' ⟨rfl, hw⟩; subst hw)
        exact ⟨(KeepsOthers.setCell _ _ _).from _, ⟨rfl, pre, x, rfl, hp, HD.out, World.cell?_setCell_same' _ _ _ (by rw [hcr]; rfl)⟩, hB.setCell (p := ⟨w.heap.size + 1, 0, none⟩) (by simp) _⟩
    case done =>
      rintro D ys W hD rfl ⟨⟨_, hcr, hfr, hp⟩, hB⟩ hK
      have huv : Hid (0 = cmpI (u : Int) v) := by
        obtain rfl : u = v := wd.eq_of_dcells (p + 1) u v HU.out HV.out (fun j hj => hp ⟨j, hj⟩ ((dn_mem p 0 ⟨j, hj⟩).2 (Nat.zero_le _)))
        exact (cmpI_self _).symm
      clear hp
      go_wp2
      have hK' := (KeepsOthers.setCell W ⟨w.heap.size + 1, 0, none⟩ (.int .i64 0)).same D _ hK rfl
      refine ⟨by simp, .inl ⟨_, _, rfl, run_takeDeferred hK', ?_⟩⟩
      have hc5 := cell_kept (World.cell?_setCell_same' W ⟨w.heap.size + 1, 0, none⟩ (.int .i64 0) (by rw [hcr]; rfl)) (grownBy_putObj' _ D (.deferred none)) (fun r e => by cases e; exact ⟨_, hK', rfl⟩)
      refine ⟨.int .i64 0, ?_, by rw [← huv.out], (hB.setCell (p := ⟨w.heap.size + 1, 0, none⟩) (by simp) _).trans (belowK_b (w := w) (Nat.le_refl _) _ D _ _ (by simp at hD; omega) hK' rfl rfl)⟩
      simp [results, Tryz.results36, go_sem, hc5]
    case stop =>
      rintro D c pre W hD ⟨r, hr, rfl⟩ ⟨⟨rfl, ini, last, e1, e2, e3, hcr⟩, hB⟩ hK
      have huv : Hid (cmpI (wd.dg (u : Int) last.1) (wd.dg (v : Int) last.1) = cmpI (u : Int) v) := by
        rw [dn_next p r (by omega)] at e1
        obtain ⟨rfl, e5⟩ := List.append_inj' e1 rfl
        obtain rfl : (⟨r, by omega⟩ : Fin (p + 1)) = last := by simpa using e5
        refine cmp_words (top_eq (by omega) HU.out HV.out fun j h1 h2 => e2 ⟨j, h2⟩ ((dn_mem p (r + 1) ⟨j, h2⟩).2 h1)) e3
      clear e1 e2 e3
      refine wpIn_wide.2 ?_
      go_wp2
      refine ⟨by simp, .inl ⟨_, _, rfl, run_takeDeferred hK, ?_⟩⟩
      have hc5 := cell_kept hcr (grownBy_putObj' _ D (.deferred none)) (fun r e => by cases e; exact ⟨_, hK, rfl⟩)
      refine ⟨.int .i64 (cmpI (wd.dg (u : Int) last.1) (wd.dg (v : Int) last.1)), ?_, by rw [← huv.out], hB.trans (belowK_b (w := w) (Nat.le_refl _) W D _ _ (by simp at hD; omega) hK rfl rfl)⟩
      simp [results, Tryz.results36, go_sem, hc5]

theorem cmp_any (a b : Option Addr) (la lb ca cb u v : Nat) (w : World) (ha : Sl w a la ca (wd.dcells la (u : Int))) (hu : u < 4294967296 ^ la) (hb : Sl w b lb cb (wd.dcells lb (v : Int))) (hv : v < 4294967296 ^ lb) :
    Calls Tryz.prog 36 #[.slice a la ca, .slice b lb cb] w fun e w' => e = .returned (.int .i64 (cmpI u v)) ∧ Below w.heap.size w w' := by
  by_cases h : wd.nlen u = wd.nlen v
  · rcases hp : wd.nlen u with _ | p
    · have e1 := wd.nlen_eq_zero.1 hp
      have e2 := wd.nlen_eq_zero.1 (h.symm.trans hp)
      exact cmp_zero a b la lb ca cb u v w ha hu hb hv hp (h.symm.trans hp) (by unfold Hid; rw [e1, e2, cmpI_self])
    · exact cmp_eq a b la lb ca cb u v p w ha hu hb hv hp (h.symm.trans hp)
  · refine cmp_ne a b la lb ca cb u v _ _ w ha hu hb hv rfl rfl h ?_
    unfold Hid cmpI
    rcases Nat.lt_or_gt_of_ne h with l | l
    · have := wd.lt_of_nlen l
      rw [if_pos (by omega), if_pos (by omega)]
    · have := wd.lt_of_nlen l
      rw [if_neg (by omega), if_pos (by omega), if_neg (by omega), if_pos (by omega)]
end Go.Proofs.YtaekgomplkkocabGreatDoor

namespace Go.Proofs.YtaekgomplkkocabGreatDoor
open Go.RowKit
set_option linter.unusedVariables false

/-- What holds at the head of each round of the difference's loop. -/
def NSubRel (w : World) (u v l b : Nat) (c i : Value) (wr : World) : Prop := ∃ k : Nat, k ≤ l ∧ i = .int .i64 (k : Int) ∧ c = .int .u32 (wd.bw u v k) ∧ Own wr w.heap.size 65 (some ⟨b, 0, none⟩) l l (wd.mix l k ((u : Int) - v) 0) ∧ Below w.heap.size w wr
theorem nsub_next (w wr : World) (u v l b k : Nat) (hk : k < l) (hown : Own wr w.heap.size 65 (some ⟨b, 0, none⟩) l l (wd.mix l k ((u : Int) - v) 0)) (hb : Below w.heap.size w wr) :
    NSubRel w u v l b (.int .u32 (wd.bor (wd.dg u k) (wd.dg v k + wd.bw u v k))) (.int .i64 ((k : Int) + 1)) (wr.setCell ⟨b, k, none⟩ (.int .u32 ((wd.dg u k - wd.dg v k - wd.bw u v k) % 4294967296))) := by
  refine ⟨k + 1, by omega, by simp, by rw [wd.bw_succ], ?_, hb.setCell (seg_of_own hown).2.2 _⟩
  rw [wd.sub_digit, ← wd.mix_set]
  exact Own.set hown _ (by omega)

set_option maxHeartbeats 1000000 in
theorem sub_no (a b : Option Addr) (la lb ca cb u v : Nat) (w : World) (ha : Sl w a la ca (wd.dcells la (u : Int))) (hu : u < 4294967296 ^ la) (hb : Sl w b lb cb (wd.dcells lb (v : Int))) (hv : v < 4294967296 ^ lb) (hlt : u < v) :
    Calls Tryz.prog 92 #[.slice a la ca, .slice b lb cb] w fun e w' => e = .returned (.tuple #[.slice none 0 0, .bool false]) ∧ Below w.heap.size w w' := by
  have HC : Hid (cmpI u v = -1) := by unfold Hid cmpI; rw [if_pos (by omega)]
  clear hlt
  go_enter Tryz.func92, Tryz.ntmps92
  go_wp2_with (go_at_call 36; refine (cmp_any a b la lb ca cb u v _ ha hu hb hv).mono ?_; rw [HC.out]; rintro e w1 ⟨rfl, hbel⟩)
  go_ret2
  exact ⟨rfl, hbel⟩

set_option maxRecDepth 100000 in
set_option maxHeartbeats 1000000 in
theorem sub_yes (a b : Option Addr) (la lb ca cb u v : Nat) (w : World) (ha : Sl w a la ca (wd.dcells la (u : Int))) (hu : u < 4294967296 ^ la) (hla : la ≤ 1000000000) (hb : Sl w b lb cb (wd.dcells lb (v : Int))) (hv : v < 4294967296 ^ lb) (hle : v ≤ u) :
    Calls Tryz.prog 92 #[.slice a la ca, .slice b lb cb] w fun e w' => ∃ a' cap', e = .returned (.tuple #[.slice a' (wd.nlen (u - v)) cap', .bool true]) ∧ Own w' w.heap.size 65 a' (wd.nlen (u - v)) cap' (wd.dcells (wd.nlen (u - v)) ((u - v : Nat) : Int)) ∧ Below w.heap.size w w' := by
  have HC : ∃ c, c = cmpI (u : Int) v ∧ 0 ≤ c := ⟨_, rfl, by unfold cmpI; rw [if_neg (by omega)]; split <;> decide⟩
  obtain ⟨c, hc, hc0⟩ := HC
  have HC : Hid _ := hc
  clear hc
  have hlu := wd.nlen_le hu
  obtain ⟨i0, hi0, hz0, hz1, hz2⟩ := info_parts infoWord
  have hz0' : wd.dcells (wd.nlen u) 0 = List.replicate (wd.nlen u) (.int .u32 0) := wd.dcells_zero _
  have hmax : wd.nlen u ≤ maxLen := by unfold maxLen; omega
  have HE : Hid ((u : Int) - v = ((u - v : Nat) : Int)) := by unfold Hid; omega
  have HS : Hid (u - v < 4294967296 ^ wd.nlen u) := by have := wd.nlen_lt u; unfold Hid; omega
  clear hle
  go_enter Tryz.func92, Tryz.ntmps92
  go_wp2_with (first
    | (go_at_call 36; refine (cmp_any a b la lb ca cb u v _ ha hu hb hv).mono ?_; rw [← HC.out]; rintro e w1 ⟨rfl, hbel0⟩; have hsz := hbel0.size)
    | (go_at_call 32; refine (strip_any a la ca u _ (ha.below hbel0) hu).mono ?_; rintro e w' ⟨a1, ca1, rfl, hw, hcut1⟩; subst hw)
    | (at_make; refine make_any _ rfl (.tmp 17) (.tmp 17) 23 rfl w.heap.size 65 i0 (.int .u32 0) Tryz.underlying23 hi0 hz0 hz1 rfl .i64 .i64 _ _ (wd.nlen u) rfl rfl (by simp) (by simp) (by rw [hz2]; omega) (by omega) hsz ?_; intro w2 hown hbel1))
  rw [← hz0', ← wd.mix_zero (wd.nlen u) ((u : Int) - v)] at hown
  have hbel := hbel0.trans (hbel1.mono hsz)
  clear hbel1
  go_loopw [7, 21] (fun c i wr => NSubRel w u v (wd.nlen u) w1.heap.size c i wr) (fun _ i _ => wd.nlen u - (intOf i).toNat)
  case atStart => exact ⟨0, by omega, rfl, by rw [wd.bw_zero], hown, hbel⟩
  case round =>
    clear hown hbel
    obtain ⟨k, hk, rfl, rfl, hown, hbel⟩ := hrel
    have hc1 := hcut1.sl ha
    by_cases hlt : k < wd.nlen u
    · obtain ⟨ba, oa, rfl, hba, hseg⟩ := hc1.at (by omega)
      have c1 : wr.cell? ⟨ba, oa + k, none⟩ = some (.int .u32 (wd.dg u k)) := (hbel.cell (p := ⟨ba, oa + k, none⟩) hba).trans (hseg.cell k _ (wd.dcells_at _ _ _ hlt))
      have c3 : wr.cell? ⟨w1.heap.size, k, none⟩ = some (.int .u32 (wd.dg 0 k)) := Own.cell hown k _ (wd.mix_at _ _ _ _ _ (by omega) (Nat.le_refl _))
      have c4 : wr.frozen? ⟨w1.heap.size, k, none⟩ = false := Own.free hown k (by omega)
      obtain ⟨d0, d1⟩ := wd.dg_range u k
      obtain ⟨e0, e1⟩ := wd.dg_range v k
      obtain ⟨f0, f1⟩ := wd.bw_range u v k
      have HN : Hid _ := nsub_next w wr u v (wd.nlen u) w1.heap.size k hlt hown hbel
      have hs2 := hb.below hbel
      clear hown
      go_wp2_with (first
        | (go_at_call 70; refine (wordAt_any _ _ _ v k _ hs2 hv rfl).mono ?_; rintro e w' ⟨rfl, hw⟩; subst hw)
        | (go_at_call 105; refine (sub32_any _ _ _ _ d0 d1 e0 e1 f0 f1).mono ?_; rintro e w' ⟨rfl, hw⟩; subst hw))
      go_roundw
      case rel => exact HN.out
      case measure => simp [intOf]; omega
    · obtain rfl : k = wd.nlen u := by omega
      rw [wd.mix_full, HE.out] at hown
      go_wp2_with (go_at_call 32; refine (strip_any _ _ _ (u - v) _ hown.sl HS.out).mono ?_; rintro e w' ⟨a3, c3', rfl, hw, hcut3⟩; subst hw)
      go_ret2
      exact ⟨a3, c3', rfl, hcut3.own hown, hbel⟩
end Go.Proofs.YtaekgomplkkocabGreatDoor

namespace Go.Proofs.YtaekgomplkkocabGreatDoor

/-- A text's bytes, as numbers. -/
def nums (s : ByteArray) : List Int := s.data.toList.map fun b => (b.toNat : Int)
theorem nums_length (s : ByteArray) : (nums s).length = s.size := by unfold nums; rw [List.length_map]; rfl
theorem nums_range (s : ByteArray) : ∀ c ∈ nums s, 0 ≤ c ∧ c < 256 := by
  intro c hc
  unfold nums at hc
  rw [List.mem_map] at hc
  obtain ⟨b, _, rfl⟩ := hc
  have := b.toNat_lt
  omega
theorem nums_at (s : ByteArray) (k : Nat) (h : k < s.size) : (nums s)[k]? = some ((s[k]).toNat : Int) := by
  have hk : k < s.data.toList.length := by simpa using h
  unfold nums
  rw [List.getElem?_map, List.getElem?_eq_getElem hk]
  rfl
theorem nums_take (s : ByteArray) (k : Nat) (h : k < s.size) : (nums s).take (k + 1) = (nums s).take k ++ [((s[k]).toNat : Int)] := by
  rw [List.take_add_one, nums_at s k h]; rfl
theorem nums_drop (s : ByteArray) (k : Nat) (h : k < s.size) : (nums s).drop k = ((s[k]).toNat : Int) :: (nums s).drop (k + 1) := by
  have hk : k < (nums s).length := by rw [nums_length]; exact h
  rw [List.drop_eq_getElem_cons hk]
  congr 1
  have := nums_at s k h
  rw [List.getElem?_eq_getElem hk] at this
  simpa using this
theorem nums_tail (s : ByteArray) : nums (s.extract 1 s.size) = (nums s).drop 1 := by
  unfold nums
  rw [← List.map_drop]
  congr 1
  simp [ByteArray.data_extract]
  rw [List.take_of_length_le (by simp)]
theorem nums_cons (s : ByteArray) (h0 : 0 < s.size) : nums s = (s[0].toNat : Int) :: nums (s.extract 1 s.size) := by
  have := nums_drop s 0 h0
  rw [List.drop_zero] at this
  rw [nums_tail]
  exact this
theorem str_nums (s : ByteArray) : strOfNums (nums s) = s := by
  unfold nums strOfNums
  apply ByteArray.ext
  simp only [List.map_map]
  have : (fun b : UInt8 => UInt8.ofNat ((b.toNat : Int)).toNat) = id := by funext b; simp
  show (List.map ((fun n => UInt8.ofNat n.toNat) ∘ fun b => (b.toNat : Int)) s.data.toList).toArray = s.data
  rw [show ((fun n : Int => UInt8.ofNat n.toNat) ∘ fun b : UInt8 => (b.toNat : Int)) = id from this]
  simp
theorem nums_str (l : List Int) (h : ∀ c ∈ l, 0 ≤ c ∧ c < 256) : nums (strOfNums l) = l := by
  unfold nums strOfNums
  simp only [List.map_map]
  conv => rhs; rw [← List.map_id l]
  refine List.map_congr_left fun c hc => ?_
  obtain ⟨a, b⟩ := h c hc
  simp only [Function.comp_apply, id]
  rw [UInt8.toNat_ofNat']
  omega
theorem strOfNums_append (a b : List Int) : strOfNums a ++ strOfNums b = strOfNums (a ++ b) := by
  apply ByteArray.ext
  rw [ByteArray.data_append]
  simp [strOfNums]

/-- The last k decimal digits of m, as bytes, the highest first. -/
def digs : Nat → Nat → List Int
  | 0, _ => []
  | k + 1, m => (48 + (m / 10 ^ k % 10 : Nat) : Int) :: digs k m
theorem digs_length (k m : Nat) : (digs k m).length = k := by induction k with | zero => rfl | succ k ih => simp [digs, ih]
theorem digs_snoc (k m : Nat) : digs (k + 1) m = digs k (m / 10) ++ [(48 + (m % 10 : Nat) : Int)] := by
  induction k with
  | zero => simp [digs]
  | succ k ih => rw [digs, ih, digs, List.cons_append, Nat.div_div_eq_div_mul, Nat.pow_succ, Nat.mul_comm 10]
theorem digs_bytes (k m : Nat) : ∀ c ∈ digs k m, 48 ≤ c ∧ c ≤ 57 := by
  induction k with
  | zero => intro c hc; simp [digs] at hc
  | succ k ih =>
    intro c hc
    rw [digs, List.mem_cons] at hc
    rcases hc with rfl | hc
    · have := Nat.mod_lt (m / 10 ^ k) (show 0 < 10 by decide); omega
    · exact ih c hc
/-- m has k digits: nought has one. -/
def IsDec (m k : Nat) : Prop := 1 ≤ k ∧ m < 10 ^ k ∧ (k = 1 ∨ 10 ^ (k - 1) ≤ m)
theorem isDec_one {m k k' : Nat} (h : IsDec m k) (h' : IsDec m k') : k = k' := by
  obtain ⟨a, b, c⟩ := h
  obtain ⟨a', b', c'⟩ := h'
  rcases Nat.lt_trichotomy k k' with e | e | e
  · rcases c' with c' | c'
    · omega
    · have := Nat.pow_le_pow_right (n := 10) (by decide) (show k ≤ k' - 1 by omega)
      omega
  · exact e
  · rcases c with c | c
    · omega
    · have := Nat.pow_le_pow_right (n := 10) (by decide) (show k' ≤ k - 1 by omega)
      omega
def dlenF : Nat → Nat → Nat
  | 0, _ => 1
  | f + 1, m => if m < 10 then 1 else dlenF f (m / 10) + 1
/-- How many decimal digits m has. -/
def dlen (m : Nat) : Nat := dlenF m m
theorem isDec_dlenF : ∀ f m : Nat, m < 10 ^ (f + 1) → IsDec m (dlenF f m)
  | 0, m, h => ⟨Nat.le_refl _, h, Or.inl rfl⟩
  | f + 1, m, h => by
    unfold dlenF
    by_cases hm : m < 10
    · rw [if_pos hm]; exact ⟨Nat.le_refl _, hm, Or.inl rfl⟩
    · rw [if_neg hm]
      obtain ⟨a, b, c⟩ := isDec_dlenF f (m / 10) (by rw [Nat.pow_succ] at h; omega)
      refine ⟨by omega, ?_, Or.inr ?_⟩
      · rw [Nat.pow_succ]; omega
      · rcases c with c | c
        · rw [c]; simp; omega
        · have e : dlenF f (m / 10) + 1 - 1 = dlenF f (m / 10) - 1 + 1 := by omega
          rw [e, Nat.pow_succ]; omega
theorem isDec_dlen (m : Nat) : IsDec m (dlen m) := isDec_dlenF m m (Nat.lt_of_lt_of_le (Nat.lt_pow_self (by decide)) (Nat.pow_le_pow_right (by decide) (by omega)))
theorem dlen_eq {m k : Nat} (h : IsDec m k) : dlen m = k := isDec_one (isDec_dlen m) h
/-- The text of a number. -/
def decS (m : Nat) : ByteArray := strOfNums (digs (dlen m) m)
theorem decS_nums (m : Nat) : nums (decS m) = digs (dlen m) m := nums_str _ fun c hc => by have := digs_bytes _ _ c hc; omega
theorem decS_size (m : Nat) : (decS m).size = dlen m := by rw [← nums_length, decS_nums, digs_length]
/-- Noughts ahead are dropped. -/
theorem digs_zero (k m : Nat) (h : m < 10 ^ k) : digs (k + 1) m = 48 :: digs k m := by
  rw [digs, Nat.div_eq_of_lt h]; rfl
theorem digs_drop : ∀ (j k m : Nat), 0 < m → IsDec m k → (digs (k + j) m).dropWhile (· == 48) = digs k m
  | 0, k, m, hm, h => by
    rw [Nat.add_zero]
    obtain ⟨h1, h2, h3⟩ := h
    rcases k with _ | k
    · omega
    · rw [digs]
      have hl : 10 ^ k ≤ m := by
        rcases h3 with h3 | h3
        · have : k = 0 := by omega
          subst this; simp; omega
        · simpa using h3
      have h4 : 1 ≤ m / 10 ^ k := (Nat.one_le_div_iff (Nat.pow_pos (by decide))).2 hl
      have h5 : m / 10 ^ k < 10 := by rw [Nat.pow_succ] at h2; exact Nat.div_lt_of_lt_mul h2
      have h6 : ((48 + ((m / 10 ^ k % 10 : Nat) : Int)) == 48) = false := by
        rw [Nat.mod_eq_of_lt h5]
        generalize m / 10 ^ k = c at h4
        rw [beq_eq_false_iff_ne]
        omega
      rw [List.dropWhile_cons, h6]; simp
  | j + 1, k, m, hm, h => by
    have h2 := h.2.1
    have : m < 10 ^ (k + j) := Nat.lt_of_lt_of_le h2 (Nat.pow_le_pow_right (by decide) (by omega))
    rw [show k + (j + 1) = (k + j) + 1 by omega, digs_zero _ _ this, List.dropWhile_cons]
    simp only [beq_self_eq_true, if_true]
    exact digs_drop j k m hm h
end Go.Proofs.YtaekgomplkkocabGreatDoor

namespace Go.Proofs.YtaekgomplkkocabGreatDoor.pc
open Go.RowKit

/-- Digit i of v, to the base 1000000000 (of a number below nought: of v modulo as many digits as you like). -/
def dg (v : Int) (i : Nat) : Int := v / 1000000000 ^ i % 1000000000
theorem dg_range (v : Int) (i : Nat) : 0 ≤ dg v i ∧ dg v i < 1000000000 := by unfold dg; omega
theorem p256 (i : Nat) : (0 : Int) < 1000000000 ^ i := Int.pow_pos (by decide)
/-- n digits: at the places that p names those of u, at the others those of v. -/
def fill (n : Nat) (p : Nat → Bool) (u v : Int) : List Value := (List.range n).map fun j => .int .u32 (if p j then dg u j else dg v j)
def dcells (n : Nat) (v : Int) : List Value := (List.range n).map fun j => .int .u32 (dg v j)
def mix (n i : Nat) (u v : Int) : List Value := fill n (fun j => decide (j < i)) u v
theorem fill_length (n : Nat) (p : Nat → Bool) (u v : Int) : (fill n p u v).length = n := by simp [fill]
theorem mix_length (n i : Nat) (u v : Int) : (mix n i u v).length = n := fill_length _ _ _ _
theorem dcells_length (n : Nat) (v : Int) : (dcells n v).length = n := by simp [dcells]
theorem dcells_at (n : Nat) (v : Int) (i : Nat) (h : i < n) : (dcells n v)[i]? = some (.int .u32 (dg v i)) := by simp [dcells, h]
theorem fill_at (n : Nat) (p : Nat → Bool) (u v : Int) (i : Nat) (h : i < n) : (fill n p u v)[i]? = some (.int .u32 (if p i then dg u i else dg v i)) := by simp [fill, h]
theorem mix_at (n k : Nat) (u v : Int) (i : Nat) (h : i < n) (hk : k ≤ i) : (mix n k u v)[i]? = some (.int .u32 (dg v i)) := by
  rw [mix, fill_at _ _ _ _ _ h]; simp; omega
theorem fill_congr {n : Nat} {p q : Nat → Bool} {u v u' v' : Int} (h : ∀ j, j < n → (if p j then dg u j else dg v j) = (if q j then dg u' j else dg v' j)) : fill n p u v = fill n q u' v' := by
  unfold fill
  refine List.map_congr_left fun j hj => ?_
  rw [h j (by simpa using hj)]
theorem fill_set (n : Nat) (p : Nat → Bool) (u v : Int) (i : Nat) : (fill n p u v).set i (.int .u32 (dg u i)) = fill n (fun j => p j || j == i) u v := by
  refine List.ext_getElem? fun j => ?_
  rw [List.getElem?_set]
  by_cases e : i = j
  · subst e
    by_cases h : i < n
    · rw [if_pos rfl, if_pos (by rw [fill_length]; exact h), fill_at _ _ _ _ _ h]; simp
    · rw [if_pos rfl, if_neg (by rw [fill_length]; exact h), List.getElem?_eq_none (by rw [fill_length]; omega)]
  · by_cases h : j < n
    · rw [if_neg e, fill_at _ _ _ _ _ h, fill_at _ _ _ _ _ h]
      have e' : (j == i) = false := by simp; omega
      simp [e']
    · rw [if_neg e, List.getElem?_eq_none (by simp [fill_length]; omega), List.getElem?_eq_none (by simp [fill_length]; omega)]
theorem mix_set (n i : Nat) (u v : Int) : (mix n i u v).set i (.int .u32 (dg u i)) = mix n (i + 1) u v := by
  unfold mix
  rw [fill_set]
  refine fill_congr fun j _ => ?_
  have : (decide (j < i) || j == i) = decide (j < i + 1) := by rw [Bool.eq_iff_iff]; simp; omega
  rw [this]
theorem mix_zero (n : Nat) (u v : Int) : mix n 0 u v = dcells n v := by unfold mix fill dcells; simp
theorem mix_full (n : Nat) (u v : Int) : mix n n u v = dcells n u := by
  unfold mix fill dcells
  refine List.map_congr_left fun j hj => ?_
  have : j < n := by simpa using hj
  simp [this]
/-- The digits of two numbers that are the same modulo 1000000000^i are the same below place i. -/
theorem dg_congr {u v : Int} {i j : Nat} (t : Int) (h : u = v + t * 1000000000 ^ i) (hj : j < i) : dg u j = dg v j := by
  unfold dg
  obtain ⟨d, rfl⟩ : ∃ d, i = j + 1 + d := ⟨i - (j + 1), by omega⟩
  have e : t * (1000000000 : Int) ^ (j + 1 + d) = (1000000000 * (t * 1000000000 ^ d)) * 1000000000 ^ j := by
    rw [show j + 1 + d = d + 1 + j by omega, Int.pow_add, Int.pow_succ, ← Int.mul_assoc, ← Int.mul_assoc, Int.mul_comm (t * 1000000000 ^ d) 1000000000]
  rw [h, e, Int.add_mul_ediv_right _ _ (Int.ne_of_gt (p256 j))]
  omega
theorem dcells_congr {n : Nat} {u v : Int} (t : Int) (h : u = v + t * 1000000000 ^ n) : dcells n u = dcells n v := by
  unfold dcells
  refine List.map_congr_left fun j hj => ?_
  rw [dg_congr t h (by simpa using hj)]
/-- The carry into place i when x and y are added. -/
def carry (x y : Int) (i : Nat) : Int := (x % 1000000000 ^ i + y % 1000000000 ^ i) / 1000000000 ^ i
theorem carry_zero (x y : Int) : carry x y 0 = 0 := by simp [carry]
theorem emod_succ (x : Int) (i : Nat) : x % 1000000000 ^ (i + 1) = dg x i * 1000000000 ^ i + x % 1000000000 ^ i := by
  unfold dg
  have hp := p256 i
  have h1 := Int.mul_ediv_add_emod x (1000000000 ^ i)
  have h2 := Int.mul_ediv_add_emod (x / 1000000000 ^ i) 1000000000
  have b := Int.emod_nonneg x (Int.ne_of_gt hp)
  have b' := Int.emod_lt_of_pos x hp
  have c := Int.emod_nonneg (x / 1000000000 ^ i) (show (1000000000 : Int) ≠ 0 by decide)
  have c' := Int.emod_lt_of_pos (x / 1000000000 ^ i) (show (0 : Int) < 1000000000 by decide)
  have e : x = (x / 1000000000 ^ i % 1000000000 * 1000000000 ^ i + x % 1000000000 ^ i) + (x / 1000000000 ^ i / 1000000000) * 1000000000 ^ (i + 1) := by
    have : (x / 1000000000 ^ i / 1000000000) * (1000000000 : Int) ^ (i + 1) = (1000000000 * (x / 1000000000 ^ i / 1000000000)) * 1000000000 ^ i := by rw [Int.pow_succ, Int.mul_comm ((1000000000 : Int) ^ i) 1000000000, ← Int.mul_assoc, Int.mul_comm _ 1000000000]
    rw [this]
    have h3 : (1000000000 * (x / 1000000000 ^ i / 1000000000)) * (1000000000 : Int) ^ i + x / 1000000000 ^ i % 1000000000 * 1000000000 ^ i = x / 1000000000 ^ i * 1000000000 ^ i := by rw [← Int.add_mul, h2]
    have h4 : x / 1000000000 ^ i * (1000000000 : Int) ^ i = 1000000000 ^ i * (x / 1000000000 ^ i) := Int.mul_comm _ _
    omega
  have l0 : 0 ≤ x / 1000000000 ^ i % 1000000000 * 1000000000 ^ i + x % 1000000000 ^ i := Int.add_nonneg (Int.mul_nonneg c (Int.le_of_lt hp)) b
  have l1 : x / 1000000000 ^ i % 1000000000 * 1000000000 ^ i + x % 1000000000 ^ i < 1000000000 ^ (i + 1) := by
    have : x / 1000000000 ^ i % 1000000000 * (1000000000 : Int) ^ i ≤ 999999999 * 1000000000 ^ i := Int.mul_le_mul_of_nonneg_right (by omega) (Int.le_of_lt hp)
    rw [Int.pow_succ]
    omega
  have key : x % 1000000000 ^ (i + 1) = (x / 1000000000 ^ i % 1000000000 * 1000000000 ^ i + x % 1000000000 ^ i) % 1000000000 ^ (i + 1) := by
    have := congrArg (· % (1000000000 : Int) ^ (i + 1)) e
    simpa [Int.add_mul_emod_self_right] using this
  rw [key, Int.emod_eq_of_lt l0 l1]
theorem carry_sum (x y : Int) (i : Nat) : (x % 1000000000 ^ (i + 1) + y % 1000000000 ^ (i + 1)) / 1000000000 ^ i = carry x y i + dg x i + dg y i := by
  rw [emod_succ, emod_succ]
  unfold carry
  have e : dg x i * 1000000000 ^ i + x % 1000000000 ^ i + (dg y i * 1000000000 ^ i + y % 1000000000 ^ i) = (x % 1000000000 ^ i + y % 1000000000 ^ i) + (dg x i + dg y i) * 1000000000 ^ i := by rw [Int.add_mul]; omega
  rw [e, Int.add_mul_ediv_right _ _ (Int.ne_of_gt (p256 i))]
  omega
theorem carry_succ (x y : Int) (i : Nat) : carry x y (i + 1) = (carry x y i + dg x i + dg y i) / 1000000000 := by
  rw [← carry_sum]
  show (x % 1000000000 ^ (i + 1) + y % 1000000000 ^ (i + 1)) / 1000000000 ^ (i + 1) = _
  have hp := p256 i
  rw [Int.pow_succ, Int.ediv_ediv, if_neg (by omega)]
  omega
theorem add_digit (x y : Int) (i : Nat) : (carry x y i + dg x i + dg y i) % 1000000000 = dg (x + y) i := by
  unfold dg carry
  have hp := p256 i
  have h1 := Int.mul_ediv_add_emod x (1000000000 ^ i)
  have h2 := Int.mul_ediv_add_emod y (1000000000 ^ i)
  have e : x + y = (x % 1000000000 ^ i + y % 1000000000 ^ i) + (x / 1000000000 ^ i + y / 1000000000 ^ i) * 1000000000 ^ i := by
    have a1 : x / 1000000000 ^ i * (1000000000 : Int) ^ i = 1000000000 ^ i * (x / 1000000000 ^ i) := Int.mul_comm _ _
    have a2 : y / 1000000000 ^ i * (1000000000 : Int) ^ i = 1000000000 ^ i * (y / 1000000000 ^ i) := Int.mul_comm _ _
    rw [Int.add_mul]; omega
  have e2 : (x + y) / 1000000000 ^ i = (x % 1000000000 ^ i + y % 1000000000 ^ i) / 1000000000 ^ i + (x / 1000000000 ^ i + y / 1000000000 ^ i) := by
    conv => lhs; rw [e]
    exact Int.add_mul_ediv_right _ _ (Int.ne_of_gt hp)
  rw [e2]
  omega
theorem carry_range (x y : Int) (i : Nat) : 0 ≤ carry x y i ∧ carry x y i ≤ 1 := by
  unfold carry
  have hp := p256 i
  have a := Int.emod_nonneg x (Int.ne_of_gt hp)
  have a' := Int.emod_lt_of_pos x hp
  have b := Int.emod_nonneg y (Int.ne_of_gt hp)
  have b' := Int.emod_lt_of_pos y hp
  refine ⟨Int.ediv_nonneg (by omega) (by omega), ?_⟩
  have : (x % 1000000000 ^ i + y % 1000000000 ^ i) / 1000000000 ^ i < 2 := Int.ediv_lt_of_lt_mul hp (by omega)
  omega
theorem neg_digit (x : Int) (i : Nat) : 999999999 - dg x i = dg (-1 - x) i := by
  unfold dg
  have hp := p256 i
  have h1 := Int.mul_ediv_add_emod x (1000000000 ^ i)
  have a := Int.emod_nonneg x (Int.ne_of_gt hp)
  have a' := Int.emod_lt_of_pos x hp
  have e : -1 - x = (1000000000 ^ i - 1 - x % 1000000000 ^ i) + (-1 - x / 1000000000 ^ i) * 1000000000 ^ i := by
    have a1 : x / 1000000000 ^ i * (1000000000 : Int) ^ i = 1000000000 ^ i * (x / 1000000000 ^ i) := Int.mul_comm _ _
    rw [Int.sub_mul]; omega
  have e2 : (-1 - x) / 1000000000 ^ i = -1 - x / 1000000000 ^ i := by
    conv => lhs; rw [e]
    rw [Int.add_mul_ediv_right _ _ (Int.ne_of_gt hp), Int.ediv_eq_zero_of_lt (by omega) (by omega)]
    omega
  rw [e2]
  omega
end Go.Proofs.YtaekgomplkkocabGreatDoor.pc

namespace Go.Proofs.YtaekgomplkkocabGreatDoor.pc
open Go.RowKit
set_option linter.unusedVariables false

/-- v needs n digits: none for nought. -/
def IsLen (v n : Nat) : Prop := v < 1000000000 ^ n ∧ (n = 0 ∨ 1000000000 ^ (n - 1) ≤ v)
theorem isLen_one {v n m : Nat} (h : IsLen v n) (h' : IsLen v m) : n = m := by
  obtain ⟨a, b⟩ := h
  obtain ⟨a', b'⟩ := h'
  rcases Nat.lt_trichotomy n m with e | e | e
  · rcases b' with b' | b'
    · omega
    · have := Nat.pow_le_pow_right (n := 1000000000) (by decide) (show n ≤ m - 1 by omega)
      omega
  · exact e
  · rcases b with b | b
    · omega
    · have := Nat.pow_le_pow_right (n := 1000000000) (by decide) (show m ≤ n - 1 by omega)
      omega
/-- A number below 1000000000^n has a length of n at most, and is found by cutting noughts off the end. -/
theorem isLen_cut : ∀ (n v : Nat), v < 1000000000 ^ n → ∃ m, m ≤ n ∧ IsLen v m
  | 0, v, h => ⟨0, Nat.le_refl _, h, Or.inl rfl⟩
  | n + 1, v, h => by
    by_cases c : v < 1000000000 ^ n
    · obtain ⟨m, h1, h2⟩ := isLen_cut n v c
      exact ⟨m, by omega, h2⟩
    · exact ⟨n + 1, Nat.le_refl _, h, Or.inr (by simp; omega)⟩
theorem lt_pow_self (v : Nat) : v < 1000000000 ^ v := Nat.lt_pow_self (by decide)
theorem isLen_ex (v : Nat) : ∃ m, IsLen v m := by
  obtain ⟨m, _, h⟩ := isLen_cut v v (lt_pow_self v)
  exact ⟨m, h⟩
/-- How many digits v needs. -/
def nlen (v : Nat) : Nat := if h : v = 0 then 0 else nlen (v / 1000000000) + 1
  termination_by v
  decreasing_by exact Nat.div_lt_self (Nat.pos_of_ne_zero h) (by decide)
theorem nlen_is (v : Nat) : IsLen v (nlen v) := by
  induction v using Nat.strongRecOn with
  | ind v ih =>
    unfold nlen
    split
    · rename_i h
      rw [h]
      exact ⟨by decide, Or.inl rfl⟩
    · rename_i h
      obtain ⟨h1, h2⟩ := ih (v / 1000000000) (Nat.div_lt_self (Nat.pos_of_ne_zero h) (by decide))
      refine ⟨?_, Or.inr ?_⟩
      · rw [Nat.pow_succ]
        exact (Nat.div_lt_iff_lt_mul (by decide)).1 h1
      · rw [Nat.add_sub_cancel]
        rcases h2 with h2 | h2
        · rw [h2]
          exact Nat.pos_of_ne_zero h
        · rcases Nat.eq_zero_or_pos (nlen (v / 1000000000)) with h3 | h3
          · rw [h3]
            exact Nat.pos_of_ne_zero h
          · have h4 := (Nat.le_div_iff_mul_le (by decide)).1 h2
            rw [← Nat.pow_succ] at h4
            rwa [show (nlen (v / 1000000000) - 1).succ = nlen (v / 1000000000) by omega] at h4
theorem nlen_eq {v n : Nat} (h : IsLen v n) : nlen v = n := isLen_one (nlen_is v) h
theorem nlen_le {v n : Nat} (h : v < 1000000000 ^ n) : nlen v ≤ n := by
  obtain ⟨m, h1, h2⟩ := isLen_cut n v h
  rw [nlen_eq h2]; exact h1
theorem nlen_zero : nlen 0 = 0 := nlen_eq ⟨by decide, Or.inl rfl⟩
theorem nlen_lt (v : Nat) : v < 1000000000 ^ nlen v := (nlen_is v).1
theorem nlen_pos {v : Nat} (h : 0 < v) : 0 < nlen v := by
  rcases Nat.lt_or_ge 0 (nlen v) with l | l
  · exact l
  · have := nlen_lt v
    rw [show nlen v = 0 by omega] at this
    simp at this
    omega
/-- The longer number is the greater. -/
theorem lt_of_nlen {u v : Nat} (h : nlen u < nlen v) : u < v := by
  obtain ⟨_, b⟩ := nlen_is v
  rcases b with b | b
  · omega
  · have := nlen_lt u
    have := Nat.pow_le_pow_right (n := 1000000000) (by decide) (show nlen u ≤ nlen v - 1 by omega)
    omega
theorem pow_cast (k : Nat) : ((1000000000 ^ k : Nat) : Int) = (1000000000 : Int) ^ k := by rw [Int.natCast_pow]; rfl
theorem dg_nat (v k : Nat) : dg (v : Int) k = ((v / 1000000000 ^ k % 1000000000 : Nat) : Int) := by
  unfold dg
  rw [← pow_cast]
  omega
/-- The digit at a place that a number does not reach is nought; the highest one that it has is not. -/
theorem dg_over {v k : Nat} (h : v < 1000000000 ^ k) : dg (v : Int) k = 0 := by rw [dg_nat, Nat.div_eq_of_lt h]; rfl
theorem dg_top {v n : Nat} (h : IsLen v (n + 1)) : dg (v : Int) n ≠ 0 := by
  obtain ⟨a, b⟩ := h
  have b : 1000000000 ^ n ≤ v := by
    rcases b with b | b
    · omega
    · exact b
  rw [dg_nat]
  have h1 : 1 ≤ v / 1000000000 ^ n := (Nat.one_le_div_iff (Nat.pow_pos (by decide))).2 b
  have h2 : v / 1000000000 ^ n < 1000000000 := by
    rw [Nat.pow_succ] at a
    exact Nat.div_lt_of_lt_mul a
  rw [Nat.mod_eq_of_lt h2]
  omega
/-- One nought at the end cut off. -/
theorem lt_of_dg_zero {v n : Nat} (h : v < 1000000000 ^ (n + 1)) (z : dg (v : Int) n = 0) : v < 1000000000 ^ n := by
  rcases Nat.lt_or_ge v (1000000000 ^ n) with l | l
  · exact l
  · exact absurd z (dg_top ⟨h, Or.inr (by simpa using l)⟩)
/-- Two numbers of n digits with the same digits are the same. -/
theorem eq_of_dcells : ∀ (n : Nat) (u v : Nat), u < 1000000000 ^ n → v < 1000000000 ^ n → (∀ j, j < n → dg (u : Int) j = dg (v : Int) j) → u = v := by
  intro n
  induction n with
  | zero => intro u v hu hv _; simp at hu hv; omega
  | succ n ih =>
    intro u v hu hv h
    have e := ih (u % 1000000000 ^ n) (v % 1000000000 ^ n) (Nat.mod_lt _ (Nat.pow_pos (by decide))) (Nat.mod_lt _ (Nat.pow_pos (by decide))) (fun j hj => by
      have a : ∀ x : Nat, dg ((x % 1000000000 ^ n : Nat) : Int) j = dg (x : Int) j := fun x => by
        refine dg_congr (i := n) (-((x / 1000000000 ^ n : Nat) : Int)) ?_ hj
        have := Nat.mod_add_div x (1000000000 ^ n)
        rw [← pow_cast, Int.neg_mul, ← Int.natCast_mul, Nat.mul_comm (x / 1000000000 ^ n)]
        omega
      rw [a, a]
      exact h j (by omega))
    have t := h n (by omega)
    rw [dg_nat, dg_nat] at t
    have du : u / 1000000000 ^ n < 1000000000 := by rw [Nat.pow_succ] at hu; exact Nat.div_lt_of_lt_mul hu
    have dv : v / 1000000000 ^ n < 1000000000 := by rw [Nat.pow_succ] at hv; exact Nat.div_lt_of_lt_mul hv
    rw [Nat.mod_eq_of_lt du, Nat.mod_eq_of_lt dv] at t
    have t' : u / 1000000000 ^ n = v / 1000000000 ^ n := by omega
    have h1 := Nat.mod_add_div u (1000000000 ^ n)
    have h2 := Nat.mod_add_div v (1000000000 ^ n)
    rw [e, t'] at h1
    omega
end Go.Proofs.YtaekgomplkkocabGreatDoor.pc

namespace Go.Proofs.YtaekgomplkkocabGreatDoor
open Go.RowKit
set_option linter.unusedVariables false

/-- How long a slice is. -/
def slen : Value → Nat
  | .slice _ n _ => n
  | _ => 0
theorem pc_succ (t : Nat) (a : Int) : pc.dcells (t + 1) a = pc.dcells t a ++ [.int .u32 (pc.dg a t)] := by
  unfold pc.dcells; rw [List.range_succ, List.map_append]; rfl
theorem pc_small {u t l : Nat} (h : 1000000000 ^ t ≤ u) (hu : u < 4294967296 ^ l) : t ≤ 2 * l := by
  rcases Nat.lt_or_ge (2 * l) t with h1 | h1
  · have h2 : 4294967296 ^ l ≤ (1000000000 ^ 2) ^ l := Nat.pow_le_pow_left (by decide) l
    rw [← Nat.pow_mul] at h2
    have h3 := Nat.pow_le_pow_right (n := 1000000000) (by decide) (show 2 * l ≤ t by omega)
    omega
  · exact h1
/-- What holds at the head of each round. -/
def PieceRel (w : World) (u la : Nat) (pv rv : Value) (wr : World) : Prop := ∃ (t U : Nat) (ap ar : Option Addr) (cp cr : Nat), t ≤ 2 * la + 1 ∧ (t = 0 ∨ 1000000000 ^ (t - 1) ≤ u) ∧ Hid (U = u / 1000000000 ^ t) ∧ pv = .slice ap t cp ∧ rv = .slice ar (wd.nlen U) cr ∧
  Own wr w.heap.size 65 ap t cp (pc.dcells t (u : Int)) ∧ Own wr w.heap.size 65 ar (wd.nlen U) cr (wd.dcells (wd.nlen U) (U : Int)) ∧
  (∀ b, ar = some b → (Value.slice ap t cp).ownBlock ≠ some b.block) ∧ Below w.heap.size w wr
theorem piece_dg (u t : Nat) : ((u / 1000000000 ^ t : Nat) : Int) % 1000000000 = pc.dg (u : Int) t := by
  rw [pc.dg_nat]; omega
theorem piece_next (u t : Nat) : ((u / 1000000000 ^ t : Nat) : Int) / 1000000000 = ((u / 1000000000 ^ (t + 1) : Nat) : Int) := by
  rw [Nat.pow_succ, ← Nat.div_div_eq_div_mul]; omega
theorem next_le (u t : Nat) : u / 1000000000 ^ (t + 1) ≤ u / 1000000000 ^ t := by
  rw [Nat.pow_succ, ← Nat.div_div_eq_div_mul]; exact Nat.div_le_self _ _
/-- The round's end. -/
theorem pieceRel_next {w wr w2 w4 : World} {u la t g cp cr g' cap' cr' U U' : Nat} {r : Int} {ap ar' : Option Addr} {T : TypeId} (hU' : U' = u / 1000000000 ^ (t + 1)) (hr : r = pc.dg u t) (hle : 1000000000 ^ t ≤ u) (hu : u < 4294967296 ^ la) (hbel : Below w.heap.size w wr) (hg : g < wr.heap.size) (hg2 : w.heap.size ≤ g)
    (hownp : Own wr w.heap.size 65 ap t cp (pc.dcells t (u : Int))) (hne : ∀ b, some (⟨g, 0, none⟩ : Addr) = some b → (Value.slice ap t cp).ownBlock ≠ some b.block)
    (hwr : Wr wr w2 g 0 (wd.nlen U)) (hownr2 : Own w2 w.heap.size 65 (some ⟨g, 0, none⟩) (wd.nlen U) cr (wd.dcells (wd.nlen U) (U' : Int)))
    (h4 : w4.ownsRow w.heap.size 65 1 (.slice (some ⟨g', 0, none⟩) (t + 1) cap') (t + 1) (pc.dcells t (u : Int) ++ [.int .u32 r])) (hgr : (w2.alloc (.cells #[.int .u32 r] T)).grownBy w4 (Value.slice ap t cp).ownBlock)
    (hat : (Value.slice ap t cp).ownBlock = some g' ∨ g' = (w2.alloc (.cells #[.int .u32 r] T)).heap.size) :
    Own w4 w.heap.size 65 (some ⟨g, 0, none⟩) (wd.nlen U) cr (wd.dcells (wd.nlen U) (U' : Int)) ∧
    (∀ cut : Cut (some ⟨g, 0, none⟩) (wd.nlen U) cr ar' (wd.nlen U') cr', PieceRel w u la (.slice (some ⟨g', 0, none⟩) (t + 1) cap') (.slice ar' (wd.nlen U') cr') w4) := by
  subst hr
  have hne' := hne _ rfl
  have hsz := hwr.grown.size
  have hr4 : Own w4 w.heap.size 65 (some ⟨g, 0, none⟩) (wd.nlen U) cr (wd.dcells (wd.nlen U) (U' : Int)) :=
    World.ownsRow.kept (World.ownsRow.alloc hownr2 _) hgr (Or.inr fun e => hne' (by rw [← e]; rfl))
  refine ⟨hr4, fun cut => ⟨t + 1, U', _, ar', cap', cr', by have := pc_small hle hu; omega, Or.inr (by simpa using hle), hU', rfl, rfl, ?_, cut.own hr4, ?_, ?_⟩⟩
  · rw [pc_succ]; exact h4
  · intro b hb e
    simp only [Value.ownBlock, Option.some.injEq] at e
    rcases cut with ⟨_, h, _⟩ | ⟨_, _, h, _⟩
    · rw [h] at hb; cases hb
    · rw [h] at hb
      cases hb
      dsimp only at e
      rcases hat with hat | hat
      · exact hne' (by rw [hat, e])
      · rw [World.size_alloc] at hat; omega
  · have hb2 := hwr.after hbel hg2 (Nat.le_refl _)
    refine ((hb2.alloc hb2.size _).grown hgr ?_ ?_)
    · rw [World.size_alloc]; have := hb2.size; omega
    · intro k hk
      exact (World.ownsRow.lt hownp k hk).1

set_option maxRecDepth 100000 in
set_option maxHeartbeats 2000000 in
theorem pieces_any (a : Option Addr) (la ca u : Nat) (w : World) (ha : Sl w a la ca (wd.dcells la (u : Int))) (hu : u < 4294967296 ^ la) (hla : la ≤ 1000000000) :
    Calls Tryz.prog 56 #[.slice a la ca] w fun e w' => ∃ ap cp, e = .returned (.slice ap (pc.nlen u) cp) ∧ Own w' w.heap.size 65 ap (pc.nlen u) cp (pc.dcells (pc.nlen u) (u : Int)) ∧ Below w.heap.size w w' := by
  obtain ⟨i0, hi0, hz0, hz1, hz2⟩ := info_parts infoWord
  go_enter Tryz.func56, Tryz.ntmps56
  go_wp2_with (go_at_call 79; refine (trim_any a la ca u _ ha hu hla).mono ?_; rintro e w1 ⟨a1, ca1, rfl, hown, hbel⟩)
  go_loopw [3, 4] (fun pv rv wr => PieceRel w u la pv rv wr) (fun pv _ _ => 2 * la + 3 - slen pv)
  case atStart =>
    exact ⟨0, u, none, a1, 0, ca1, by omega, Or.inl rfl, by unfold Hid; rw [Nat.pow_zero, Nat.div_one], rfl, rfl, World.ownsRow_nil _ _ _ _, hown, fun b e h => (by cases h), hbel⟩
  case round =>
    clear hown hbel
    obtain ⟨t, U, ap, ar, cp, cr, ht, hl, HU, rfl, rfl, hownp, hownr, hne, hbel⟩ := hrel
    by_cases hz : wd.nlen U = 0
    · have h0 := wd.nlen_eq_zero.1 hz
      have HL : Hid (pc.nlen u = t) := by
        refine pc.nlen_eq ⟨?_, hl⟩
        have hU := HU.out
        rcases Nat.div_eq_zero_iff.1 (hU.symm.trans h0) with h | h
        · have := Nat.pow_pos (n := t) (show 0 < 1000000000 by decide); omega
        · exact h
      have hz' : ¬ (0 : Int) < (wd.nlen U : Int) := by omega
      clear h0 hz
      go_wp2
      go_ret
      exact ⟨ap, cp, by rw [HL.out]; rfl, by rw [HL.out]; exact hownp, hbel⟩
    · obtain ⟨g, rfl, hg, hg2, _⟩ := Own.at hownr (by omega)
      have hle : 1000000000 ^ t ≤ u := by
        rcases Nat.lt_or_ge u (1000000000 ^ t) with h | h
        · exact absurd (by rw [HU.out, Nat.div_eq_of_lt h, wd.nlen_zero]) hz
        · exact h
      have ht2 := pc_small hle hu
      have hz' : (0 : Int) < (wd.nlen U : Int) := by omega
      obtain ⟨U', hU'⟩ : ∃ U', U' = u / 1000000000 ^ (t + 1) := ⟨_, rfl⟩
      obtain ⟨r, hr⟩ : ∃ r, r = pc.dg (u : Int) t := ⟨_, rfl⟩
      have HNX : Hid _ := fun w2 w4 g' cap' ar' cr' => pieceRel_next (T := 65) (U := U) (w2 := w2) (w4 := w4) (g' := g') (cap' := cap') (ar' := ar') (cr' := cr') (cr := cr) hU' hr hle hu hbel hg hg2 hownp hne
      have hsz := hbel.size
      have HX : Hid (U' < 4294967296 ^ wd.nlen U) := Nat.lt_of_le_of_lt (by rw [HU.out, hU']; exact next_le u t) (wd.nlen_lt _)
      have HP : Hid _ := fun (w2 : World) (h : Wr wr w2 g 0 (wd.nlen U)) => h.own hownp (fun o e => by have := hne _ rfl; rw [e] at this; exact this rfl)
      obtain ⟨p0, p1⟩ := pc.dg_range u t
      rw [← hr] at p0 p1
      have E1 : Hid ((U : Int) % 1000000000 = r) := by unfold Hid; rw [HU.out, hr]; exact piece_dg u t
      have E2 : Hid ((U : Int) / 1000000000 = (U' : Int)) := by unfold Hid; rw [HU.out, hU']; exact piece_next u t
      clear hU' hr hne hle hl hz
      go_wp2_with (first
        | (go_at_call 80; refine (divWord_any g _ cr U w.heap.size 1000000000 _ hownr (wd.nlen_lt _) (by decide) (by decide)).mono ?_; rw [E1.out, E2.out]; rintro e w2 ⟨rfl, hownr2, hwr2⟩; have hownp2 := HP.out w2 hwr2; have hsz2 := hwr2.grown.size)
        | (at_builtin; refine wpList_append_lies _ rfl (.tmp 10) (.tmp 13) 22 rfl w.heap.size 65 i0 (.int .u32 0) 1 4 Tryz.underlying22 hi0 hz0 hz1 hz2 rfl (by decide) (.slice ap t cp) t (pc.dcells t (u : Int)) rfl (World.ownsRow.alloc hownp2 _) ⟨w2.heap.size, 0, none⟩ 1 1 [.int .u32 r] rfl rfl (cell_one_new _ _ _) (ints_oneCell .u32 [r]) (by decide) (by unfold maxLen; omega) (by omega) (by simp; omega) _ rfl ?_; intro g' cap' w4 hown4 hgrow4 hat4 hlt4; have hr4 := (HNX.out w2 w4 g' cap' none 0 hwr2 hownr2 hown4 hgrow4 hat4).1)
        | (go_at_call 32; refine (strip_any _ _ _ U' _ hr4.sl HX.out).mono ?_; rintro e w' ⟨a3, c3, rfl, hw, hcut3⟩; subst hw))
      go_roundw
      case rel => exact (HNX.out w2 w4 g' cap' a3 c3 hwr2 hownr2 hown4 hgrow4 hat4).2 hcut3
      case measure => simp only [slen]; omega
end Go.Proofs.YtaekgomplkkocabGreatDoor

namespace Go.Proofs.YtaekgomplkkocabGreatDoor
open Go.RowKit
set_option linter.unusedVariables false

/-- What holds at the head of each round. -/
def TrimRel (s : ByteArray) (v : Value) : Prop := ∃ t : ByteArray, t.size ≤ s.size ∧ (nums t).dropWhile (· == 48) = (nums s).dropWhile (· == 48) ∧ v = .string t
def strLen : Value → Nat
  | .string s => s.size
  | _ => 0
theorem strLen_str (s : ByteArray) : strLen (.string s) = s.size := rfl
theorem str_of_nums {t : ByteArray} {l : List Int} (h : nums t = l) : t = strOfNums l := by rw [← h, str_nums]
theorem size_tail (t : ByteArray) : (t.extract 1 t.size).size = t.size - 1 := by simp

set_option maxRecDepth 100000 in
set_option maxHeartbeats 1000000 in
theorem trimByte_any (s : ByteArray) (w : World) (hs : s.size ≤ 9223372036854775807) :
    Calls Tryz.prog 81 #[.string s, .int .u8 48] w fun e w' => e = .returned (.string (strOfNums ((nums s).dropWhile (· == 48)))) ∧ w = w' := by
  go_enter Tryz.func81, Tryz.ntmps81
  go_wp2
  go_loop [0] (fun v => TrimRel s v) (fun v => strLen v)
  case atStart => exact ⟨s, Nat.le_refl _, rfl, rfl⟩
  case round =>
    obtain ⟨t, ht, hd, rfl⟩ := hrel
    have HD : Hid _ := hd
    clear hd
    by_cases h0 : 0 < t.size
    · have hc := nums_cons t h0
      have HC : Hid _ := hc
      clear hc
      by_cases h48 : (t[0].toNat : Int) = 48
      · have h48' : ((t[0].toNat : Int) == 48) = true := by simpa using h48
        have HE : Hid ((nums (t.extract 1 t.size)).dropWhile (· == 48) = (nums s).dropWhile (· == 48)) := by
          have := HD.out
          rw [HC.out, List.dropWhile_cons, h48', if_pos rfl] at this
          exact this
        clear h48
        go_wp2
        go_round
        case rel => exact ⟨t.extract 1 t.size, by rw [size_tail]; omega, HE.out, rfl⟩
        case measure => rw [strLen_str, strLen_str, size_tail]; omega
      · have h48' : ((t[0].toNat : Int) == 48) = false := by simpa using h48
        have HE : Hid (nums t = (nums s).dropWhile (· == 48)) := by
          have := HD.out
          rw [HC.out, List.dropWhile_cons, h48', if_neg (by simp), ← HC.out] at this
          exact this
        clear h48
        go_wp2
        go_ret
        exact ⟨by rw [← HE.out, str_nums]; rfl, rfl⟩
    · have HE : Hid (nums t = (nums s).dropWhile (· == 48)) := by
        have h1 : nums t = [] := List.length_eq_zero_iff.1 (by rw [nums_length]; omega)
        have := HD.out
        rw [h1] at this
        unfold Hid
        rw [h1, ← this]; rfl
      go_wp2
      go_ret
      exact ⟨by rw [← HE.out, str_nums]; rfl, rfl⟩
set_option maxRecDepth 100000 in
set_option maxHeartbeats 1000000 in
theorem trimLeft_any (s : ByteArray) (w : World) (hs : s.size ≤ 9223372036854775807) (h0 : s.toList.isEmpty = false) :
    Calls Tryz.prog 57 #[.string s, .string ⟨#[48]⟩] w fun e w' => e = .returned (.string (strOfNums ((nums s).dropWhile (· == 48)))) ∧ w = w' := by
  go_enter Tryz.func57, Tryz.ntmps57
  go_wp2_with (go_at_call 81; refine (trimByte_any s _ hs).mono ?_; rintro e w' ⟨rfl, hw⟩; subst hw)
  go_ret
  exact ⟨rfl, rfl⟩
end Go.Proofs.YtaekgomplkkocabGreatDoor

namespace Go.Proofs.YtaekgomplkkocabGreatDoor
open Go.RowKit
set_option linter.unusedVariables false

/-- Bytes written from place p on, noughts ahead. -/
def cellsD (p : Nat) (l : List Int) : List Value := List.replicate p (.int .u8 0) ++ l.map (Value.int .u8)
theorem cellsD_length (p : Nat) (l : List Int) : (cellsD p l).length = p + l.length := by simp [cellsD]
theorem set_replicate {α : Type} (z d : α) (n : Nat) (l : List α) : (List.replicate (n + 1) z ++ l).set n d = List.replicate n z ++ d :: l := by
  rw [List.replicate_succ', List.append_assoc, List.set_append_right _ _ (by simp)]
  simp
theorem cellsD_set (p : Nat) (l : List Int) (d : Int) : (cellsD (p + 1) l).set p (.int .u8 d) = cellsD p (d :: l) := by
  unfold cellsD
  rw [set_replicate, List.map_cons]
theorem cellsD_at (p : Nat) (l : List Int) : (cellsD (p + 1) l)[p]? = some (.int .u8 0) := by
  unfold cellsD
  rw [List.getElem?_append_left (by simp), List.getElem?_replicate, if_pos (by omega)]
theorem infoByte : (Tryz.prog.info? 5).map (fun i => (i.zero, i.size, i.bytes)) = some (some (.int .u8 0), 1, 1) := by kernel_rfl
/-- The digit at a place, out of a piece. -/
theorem piece_digit (u j k : Nat) (hk : k < 9) : ((u / 1000000000 ^ j % 1000000000 / 10 ^ k : Nat) : Int) % 10 = ((u / 10 ^ (9 * j + k) % 10 : Nat) : Int) := by
  have e1 : (1000000000 : Nat) ^ j = 10 ^ (9 * j) := by rw [Nat.pow_mul]
  have e2 : u / 10 ^ (9 * j + k) = u / 10 ^ (9 * j) / 10 ^ k := by rw [Nat.pow_add, Nat.div_div_eq_div_mul]
  rw [e1, e2]
  generalize u / 10 ^ (9 * j) = x
  have h : (1000000000 : Nat) = 10 ^ k * (10 * 10 ^ (8 - k)) := by
    rw [← Nat.pow_succ', ← Nat.pow_add, show k + (8 - k + 1) = 9 by omega]
  have h2 : x % 1000000000 / 10 ^ k = x / 10 ^ k % (10 * 10 ^ (8 - k)) := by rw [h, Nat.mod_mul_right_div_self]
  rw [h2]
  have h3 := Nat.mod_mul_right_mod (x / 10 ^ k) 10 (10 ^ (8 - k))
  omega
/-- What holds at the head of each round of the inner loop. -/
def TextIn (w2 : World) (base u c j b : Nat) (ev xv iv : Value) (wr : World) : Prop := ∃ (k p : Nat) (X : Int), k ≤ 9 ∧ k + p + 9 * j = 9 * c ∧ iv = .int .i64 (k : Int) ∧ ev = .int .i64 (p : Int) ∧ xv = .int .u32 X ∧ Hid (X = ((u / 1000000000 ^ j % 1000000000 / 10 ^ k : Nat) : Int)) ∧ 0 ≤ X ∧ X < 4294967296 ∧
  Own wr base 5 (some ⟨b, 0, none⟩) (9 * c) (9 * c) (cellsD p (digs (9 * j + k) u)) ∧ Wr w2 wr b 0 (9 * c)
def TextOut (w2 : World) (base u c b : Nat) (ev iv : Value) (wr : World) : Prop := ∃ (j p : Nat), j ≤ c ∧ p + 9 * j = 9 * c ∧ iv = .int .i64 (j : Int) ∧ ev = .int .i64 (p : Int) ∧
  Own wr base 5 (some ⟨b, 0, none⟩) (9 * c) (9 * c) (cellsD p (digs (9 * j) u)) ∧ Wr w2 wr b 0 (9 * c)
theorem textIn_next {w2 wr : World} {base u c j b k p : Nat} {X : Int} (hk : k < 9) (hp : k + (p + 1) + 9 * j = 9 * c) (hX : Hid (X = ((u / 1000000000 ^ j % 1000000000 / 10 ^ k : Nat) : Int))) (h0 : 0 ≤ X) (h1 : X < 4294967296)
    (hown : Own wr base 5 (some ⟨b, 0, none⟩) (9 * c) (9 * c) (cellsD (p + 1) (digs (9 * j + k) u))) (hw : Wr w2 wr b 0 (9 * c)) :
    TextIn w2 base u c j b (.int .i64 (p : Int)) (.int .u32 (X / 10)) (.int .i64 ((k : Int) + 1)) (wr.setCell ⟨b, p, none⟩ (.int .u8 (48 + X % 10))) := by
  refine ⟨k + 1, p, X / 10, by omega, by omega, by simp, rfl, rfl, ?_, by omega, by omega, ?_, hw.set _ (Nat.zero_le _) (by omega)⟩
  · unfold Hid
    rw [hX.out, Nat.pow_succ, ← Nat.div_div_eq_div_mul]
    omega
  · have := Own.set hown (i := p) (.int .u8 (48 + X % 10)) (by omega)
    rw [cellsD_set, hX.out, piece_digit u j k hk, show (48 + ((u / 10 ^ (9 * j + k) % 10 : Nat) : Int)) :: digs (9 * j + k) u = digs (9 * j + (k + 1)) u from rfl] at this
    rw [hX.out, piece_digit u j k hk]
    exact this
theorem pc_piece (u j : Nat) : pc.dg (u : Int) j = ((u / 1000000000 ^ j % 1000000000 : Nat) : Int) := pc.dg_nat u j
theorem digs_text (u : Nat) (hu : 0 < u) : strOfNums ((nums (strOfNums (digs (9 * pc.nlen u) u))).dropWhile (· == 48)) = decS u := by
  rw [nums_str _ fun c hc => by have := digs_bytes _ _ c hc; omega]
  have h1 := isDec_dlen u
  have h2 : dlen u ≤ 9 * pc.nlen u := by
    have hl := pc.nlen_lt u
    have e : (1000000000 : Nat) ^ pc.nlen u = 10 ^ (9 * pc.nlen u) := by rw [Nat.pow_mul]
    rw [e] at hl
    rcases Nat.lt_or_ge (9 * pc.nlen u) (dlen u) with h | h
    · rcases h1.2.2 with h3 | h3
      · have := pc.nlen_pos hu; omega
      · have := Nat.pow_le_pow_right (n := 10) (by decide) (show 9 * pc.nlen u ≤ dlen u - 1 by omega)
        omega
    · exact h
  have := digs_drop (9 * pc.nlen u - dlen u) (dlen u) u hu h1
  rw [show dlen u + (9 * pc.nlen u - dlen u) = 9 * pc.nlen u by omega] at this
  rw [this]
  rfl
theorem pc_few {u l : Nat} (h : u < 4294967296 ^ l) : pc.nlen u ≤ 2 * l + 1 := by
  rcases (pc.nlen_is u).2 with h1 | h1
  · omega
  · have := pc_small h1 h; omega

set_option maxRecDepth 100000 in
set_option maxHeartbeats 2000000 in
theorem show_any (a : Option Addr) (la ca u : Nat) (w : World) (ha : Sl w a la ca (wd.dcells la (u : Int))) (hu : u < 4294967296 ^ la) (hla : la ≤ 1000000000) :
    Calls Tryz.prog 38 #[.slice a la ca] w fun e w' => e = .returned (.string (decS u)) ∧ Below w.heap.size w w' := by
  by_cases h0 : u = 0
  · subst h0
    have hz : pc.nlen 0 = 0 := pc.nlen_zero
    have HP : Hid _ := fun ap cp => (show Value.slice ap (pc.nlen 0) cp = Value.slice ap 0 cp by rw [hz])
    clear hz
    go_enter Tryz.func38, Tryz.ntmps38
    go_wp2_with (go_at_call 56; refine (pieces_any a la ca 0 _ ha hu hla).mono ?_; rintro e w1 ⟨ap, cp, rfl, hown, hbel⟩; rw [HP.out ap cp])
    go_ret
    exact ⟨rfl, hbel⟩
  · have hpos : 0 < u := by omega
    have hc1 := pc.nlen_pos hpos
    have hc2 := pc_few hu
    have HT : Hid _ := digs_text u hpos
    obtain ⟨i0, hi0, hz0, hz1, hz2⟩ := info_parts infoByte
    obtain ⟨c, hc⟩ : ∃ c, pc.nlen u = c := ⟨_, rfl⟩
    have HC : Hid _ := hc
    rw [hc] at hc1 hc2
    have HP : Hid _ := fun (w : World) (ha : Sl w a la ca (wd.dcells la (u : Int))) => pieces_any a la ca u w ha hu hla
    rw [hc] at HT
    have hmax : 9 * c ≤ maxLen := by unfold maxLen; omega
    clear hc h0
    go_enter Tryz.func38, Tryz.ntmps38
    go_wp2_with (first
      | (go_at_call 56; refine (HP.out _ ha).mono ?_; rw [HC.out]; rintro e w1 ⟨ap, cp, rfl, hownp, hbel⟩; have hsz := hbel.size)
      | (at_make; refine make_any _ rfl (.tmp 15) (.tmp 15) 98 rfl w.heap.size 5 i0 (.int .u8 0) Tryz.underlying98 hi0 hz0 hz1 rfl .i64 .i64 _ _ (9 * c) rfl rfl (by omega) (by omega) (by rw [hz2]; omega) (by omega) hsz ?_; intro w2 hown hbel2))
    have hb1 : Below w.heap.size w w2 := hbel.trans (hbel2.mono hsz)
    have hown0 : Own w2 w.heap.size 5 (some ⟨w1.heap.size, 0, none⟩) (9 * c) (9 * c) (cellsD (9 * c) (digs (9 * 0) u)) := by
      have : cellsD (9 * c) (digs (9 * 0) u) = List.replicate (9 * c) (.int .u8 0) := by simp [cellsD, digs]
      rw [this]; exact hown
    have hpSl : Sl w2 ap c cp (pc.dcells c (u : Int)) := (Own.sl hownp).below hbel2
    have hpne : ∀ o, ap ≠ some ⟨w1.heap.size, o, none⟩ := fun o e => by
      obtain ⟨b', e', hb', _, _⟩ := Own.at hownp hc1
      rw [e'] at e
      cases e
      omega
    clear hown hownp hbel hbel2
    go_loopw [5, 21] (fun ev iv wr => TextOut w2 w.heap.size u c w1.heap.size ev iv wr) (fun _ iv _ => c - (intOf iv).toNat)
    case atStart => exact ⟨0, 9 * c, by omega, by omega, rfl, by go_num, hown0, Wr.refl _ _ _ _⟩
    case round =>
      clear hown0
      obtain ⟨j, p, hj, hp, rfl, rfl, hown, hwr⟩ := hrel
      by_cases hlt : j < c
      · obtain ⟨bp, op, rfl, hbp, hsp⟩ := hpSl.at hc1
        have hroom := hpSl.room
        have hne : bp ≠ w1.heap.size := fun e => hpne op (by rw [e])
        have c1 : wr.cell? ⟨bp, op + j, none⟩ = some (.int .u32 (pc.dg u j)) := (hwr.seg hsp hbp hne).cell j _ (pc.dcells_at _ _ _ hlt)
        obtain ⟨X, hX⟩ : ∃ X, X = pc.dg (u : Int) j := ⟨_, rfl⟩
        obtain ⟨x0, x1⟩ := pc.dg_range u j
        rw [← hX] at c1 x0 x1
        have HX : Hid (X = ((u / 1000000000 ^ j % 1000000000 / 10 ^ 0 : Nat) : Int)) := by unfold Hid; rw [hX, pc_piece, Nat.pow_zero, Nat.div_one]
        have HI : Hid (TextIn w2 w.heap.size u c j w1.heap.size (.int .i64 (p : Int)) (.int .u32 X) (.int .i64 0) wr) := ⟨0, p, X, by omega, by omega, rfl, rfl, rfl, HX, x0, by omega, by rw [Nat.add_zero]; exact hown, hwr⟩
        clear hown hwr hX HX
        go_wp2
        go_loopw [5, 7, 25] (fun ev xv iv wr => TextIn w2 w.heap.size u c j w1.heap.size ev xv iv wr) (fun _ _ iv _ => 9 - (intOf iv).toNat)
        case atStart => exact HI.out
        case round =>
          obtain ⟨k, p', Y, hk, hp', rfl, rfl, rfl, HY, y0, y1, hown, hwr⟩ := hrel
          by_cases hk9 : k < 9
          · obtain ⟨p', rfl⟩ : ∃ q, p' = q + 1 := ⟨p' - 1, by omega⟩
            have c3 := Own.cell hown p' _ (cellsD_at p' _)
            have c4 := Own.free hown p' (by omega)
            have HN : Hid _ := textIn_next hk9 hp' HY y0 y1 hown hwr
            have e1 : ((p' + 1 : Nat) : Int) - 1 = (p' : Int) := by omega
            clear hown
            go_wp2
            go_roundw
            case rel => exact HN.out
            case measure => simp [intOf]; omega
          · obtain rfl : k = 9 := by omega
            have HO : Hid (TextOut w2 w.heap.size u c w1.heap.size (.int .i64 (p' : Int)) (.int .i64 ((j : Int) + 1)) wr) := ⟨j + 1, p', by omega, by omega, by simp, rfl, by rw [show 9 * (j + 1) = 9 * j + 9 by omega]; exact hown, hwr⟩
            clear hown
            go_wp2
            go_roundw
            case rel => exact HO.out
            case measure => simp [intOf]; omega
      · obtain rfl : j = c := by omega
        obtain rfl : p = 0 := by omega
        have hconv : (convert 98 9 (.slice (some ⟨w1.heap.size, 0, none⟩) (9 * j) (9 * j))).run Tryz.prog wr = .ok (.string (strOfNums (digs (9 * j) u))) wr := by
          refine run_convert_bytes_arg wr 98 5 Tryz.underlying98 Tryz.underlying5 w1.heap.size 0 (9 * j) (9 * j) _ (digs_length _ _) (fun i hi => ?_) 9 Tryz.underlying9
          rw [Nat.zero_add]
          refine Own.cell hown i _ ?_
          unfold cellsD
          rw [List.replicate_zero, List.nil_append, List.getElem?_map, List.getElem?_eq_getElem (by rw [digs_length]; exact hi), List.getD, List.getElem?_eq_getElem (by rw [digs_length]; exact hi)]
          rfl
        have hbel := hwr.after hb1 hsz (Nat.le_refl _)
        have hsize : (strOfNums (digs (9 * j) u)).size ≤ 9223372036854775807 := by rw [strOfNums_size, digs_length]; omega
        have hne0 : (strOfNums (digs (9 * j) u)).toList.isEmpty = false := by
          rw [ByteArray.toList_eq, List.isEmpty_eq_false_iff, ← List.length_pos_iff]
          show 0 < (strOfNums (digs (9 * j) u)).size
          rw [strOfNums_size, digs_length]; omega
        clear hown
        go_wp2_with (go_at_call 57; refine (trimLeft_any _ _ hsize hne0).mono ?_; rintro e w' ⟨rfl, hw⟩; subst hw)
        go_ret
        exact ⟨by rw [← HT.out]; rfl, hbel⟩
end Go.Proofs.YtaekgomplkkocabGreatDoor

namespace Go.Proofs.YtaekgomplkkocabGreatDoor
open Go.RowKit
set_option linter.unusedVariables false

/-- The slice is the number u, without noughts at its end. -/
structure ND (w : World) (a : Option Addr) (l c u : Nat) : Prop where
  sl : Sl w a l c (wd.dcells l (u : Int))
  len : l = wd.nlen u
/-- The slice is the number u, and not too long. -/
structure NI (w : World) (a : Option Addr) (l c u : Nat) : Prop where
  sl : Sl w a l c (wd.dcells l (u : Int))
  lt : u < 4294967296 ^ l
  few : l ≤ 1000000
theorem ND.below {w w' : World} {a : Option Addr} {l c u : Nat} (h : ND w a l c u) (hb : Below w.heap.size w w') : ND w' a l c u := ⟨h.sl.below hb, h.len⟩
theorem NI.below {w w' : World} {a : Option Addr} {l c u : Nat} (h : NI w a l c u) (hb : Below w.heap.size w w') : NI w' a l c u := ⟨h.sl.below hb, h.lt, h.few⟩
theorem ND.lt {w : World} {a : Option Addr} {l c u : Nat} (h : ND w a l c u) : u < 4294967296 ^ l := by rw [h.len]; exact wd.nlen_lt u
theorem ND.ni {w : World} {a : Option Addr} {l c u : Nat} (h : ND w a l c u) (K : Nat) (hK : K ≤ 1000000) (hu : u < 4294967296 ^ K) : NI w a l c u := ⟨h.sl, h.lt, by rw [h.len]; exact Nat.le_trans (wd.nlen_le hu) hK⟩
theorem ND.to {w : World} {a : Option Addr} {l c u : Nat} (h : ND w a l c u) (hl : l ≤ 1000000) : NI w a l c u := ⟨h.sl, h.lt, hl⟩
theorem nd_nil (w : World) : ND w none 0 0 0 := ⟨sl_nil w, wd.nlen_zero.symm⟩
def GotN (w : World) (u : Nat) (e : Ending) (w' : World) : Prop := ∃ a l c, e = .returned (.slice a l c) ∧ ND w' a l c u ∧ Below w.heap.size w w'
theorem gotN {w w' : World} {u : Nat} {e : Ending} (h : ∃ a' cap', e = .returned (.slice a' (wd.nlen u) cap') ∧ Own w' w.heap.size 65 a' (wd.nlen u) cap' (wd.dcells (wd.nlen u) (u : Int)) ∧ Below w.heap.size w w') : GotN w u e w' := by
  obtain ⟨a, c, he, ho, hb⟩ := h
  exact ⟨a, _, c, he, ⟨Own.sl ho, rfl⟩, hb⟩
def GotB (w : World) (q r : Nat) (e : Ending) (w' : World) : Prop := ∃ aq lq cq ar lr cr, e = .returned (.tuple #[.slice aq lq cq, .slice ar lr cr, .int .i64 0]) ∧ ND w' aq lq cq q ∧ ND w' ar lr cr r ∧ Below w.heap.size w w'
def GotS (w : World) (u : Nat) (e : Ending) (w' : World) : Prop := ∃ a l c, e = .returned (.tuple #[.slice a l c, .bool true]) ∧ ND w' a l c u ∧ Below w.heap.size w w'
theorem nTrim (a : Option Addr) (l c u : Nat) (w : World) (h : NI w a l c u) : Calls Tryz.prog 79 #[.slice a l c] w (GotN w u) :=
  (trim_any a l c u w h.sl h.lt (by have := h.few; omega)).mono fun _ _ h => gotN h
theorem nOf (x : Nat) (hx : x < 18446744073709551616) {xv : Int} (hxv : xv = (x : Int)) (w : World) : Calls Tryz.prog 14 #[.int .u64 xv] w (GotN w x) :=
  (of_any x hx hxv w).mono fun _ _ h => gotN h
theorem nAdd (a b : Option Addr) (la lb ca cb u v : Nat) (w : World) (ha : NI w a la ca u) (hb : NI w b lb cb v) : Calls Tryz.prog 50 #[.slice a la ca, .slice b lb cb] w (GotN w (u + v)) :=
  (add_any a b la lb ca cb u v w ha.sl ha.lt (by have := ha.few; omega) hb.sl hb.lt (by have := hb.few; omega)).mono fun _ _ h => gotN h
theorem nSubY (a b : Option Addr) (la lb ca cb u v : Nat) (w : World) (ha : NI w a la ca u) (hb : NI w b lb cb v) (hle : v ≤ u) : Calls Tryz.prog 92 #[.slice a la ca, .slice b lb cb] w (GotS w (u - v)) :=
  (sub_yes a b la lb ca cb u v w ha.sl ha.lt (by have := ha.few; omega) hb.sl hb.lt hle).mono fun _ _ h => by
    obtain ⟨a, c, he, ho, hb⟩ := h
    exact ⟨a, _, c, he, ⟨Own.sl ho, rfl⟩, hb⟩
theorem nSubN (a b : Option Addr) (la lb ca cb u v : Nat) (w : World) (ha : NI w a la ca u) (hb : NI w b lb cb v) (hlt : u < v) : Calls Tryz.prog 92 #[.slice a la ca, .slice b lb cb] w fun e w' => e = .returned (.tuple #[.slice none 0 0, .bool false]) ∧ Below w.heap.size w w' :=
  sub_no a b la lb ca cb u v w ha.sl ha.lt hb.sl hb.lt hlt
theorem nDiv (a b : Option Addr) (la lb ca cb u v : Nat) (w : World) (ha : NI w a la ca u) (hb : NI w b lb cb v) (h0 : 0 < v) : Calls Tryz.prog 65 #[.slice a la ca, .slice b lb cb] w (GotB w (u / v) (u % v)) :=
  (divMod_any a b la lb ca cb u v w ha.sl ha.lt (by have := ha.few; omega) hb.sl hb.lt h0).mono fun _ _ h => by
    obtain ⟨aq, cq, ar, cr, he, hq, hr, hb⟩ := h
    exact ⟨aq, _, cq, ar, _, cr, he, ⟨Own.sl hq, rfl⟩, ⟨Own.sl hr, rfl⟩, hb⟩
theorem nDiv0 (a b : Option Addr) (la lb ca cb u v : Nat) (w : World) (ha : NI w a la ca u) (hb : NI w b lb cb v) (h0 : v = 0) : Calls Tryz.prog 65 #[.slice a la ca, .slice b lb cb] w fun e w' => e = .returned (.tuple #[.slice none 0 0, .slice none 0 0, .int .i64 3]) ∧ w = w' := by
  subst h0
  exact divMod_zero a b la lb ca cb u w ha.sl ha.lt hb.sl
theorem nCmp (a b : Option Addr) (la lb ca cb u v : Nat) (w : World) (ha : NI w a la ca u) (hb : NI w b lb cb v) {c : Int} (hc : c = cmpI u v) : Calls Tryz.prog 36 #[.slice a la ca, .slice b lb cb] w fun e w' => e = .returned (.int .i64 c) ∧ Below w.heap.size w w' := by
  subst hc
  exact cmp_any a b la lb ca cb u v w ha.sl ha.lt hb.sl hb.lt
theorem nBits (a : Option Addr) (la ca u : Nat) (w : World) (ha : NI w a la ca u) {n : Nat} (hn : n = bt.nlen u) : Calls Tryz.prog 63 #[.slice a la ca] w fun e w' => e = .returned (.int .i64 (n : Int)) ∧ w = w' := by
  subst hn
  exact bits_any a la ca u w ha.sl ha.lt (by have := ha.few; omega)
theorem nShow (a : Option Addr) (la ca u : Nat) (w : World) (ha : NI w a la ca u) {s : ByteArray} (hs : s = decS u) : Calls Tryz.prog 38 #[.slice a la ca] w fun e w' => e = .returned (.string s) ∧ Below w.heap.size w w' := by
  subst hs
  exact show_any a la ca u w ha.sl ha.lt (by have := ha.few; omega)
end Go.Proofs.YtaekgomplkkocabGreatDoor

namespace Go.Proofs.YtaekgomplkkocabGreatDoor
open Go.RowKit
set_option linter.unusedVariables false

/-- The slice has nothing in block k. -/
def NA (k : Nat) (a : Option Addr) (l : Nat) : Prop := l = 0 ∨ ∀ o, a ≠ some ⟨k, o, none⟩
/-- The slice has nothing in the blocks ahead of base. -/
def Far (base : Nat) (a : Option Addr) (l : Nat) : Prop := ∀ k, k < base → NA k a l
theorem Far.mono {base base' : Nat} {a : Option Addr} {l : Nat} (h : Far base a l) (hb : base' ≤ base) : Far base' a l := fun k hk => h k (by omega)
theorem far_nil (base : Nat) (a : Option Addr) : Far base a 0 := fun _ _ => Or.inl rfl
theorem Sl.na {w : World} {a : Option Addr} {l c k : Nat} {xs : List Value} (h : Sl w a l c xs) (hk : w.heap.size ≤ k) : NA k a l := by
  rcases Nat.eq_zero_or_pos l with e | e
  · exact Or.inl e
  · obtain ⟨b, o, rfl, hb, _⟩ := h.at e
    exact Or.inr fun o' e' => by cases e'; omega
theorem Sl.put {w : World} {a : Option Addr} {l c b : Nat} {xs : List Value} (h : Sl w a l c xs) (hn : NA b a l) (i : Nat) (v : Value) : Sl (w.setCell ⟨b, i, none⟩ v) a l c xs := by
  refine ⟨h.len, h.room, h.big, h.nil, ?_⟩
  rcases hn with e | hn
  · exact Or.inl e
  · refine h.seg.imp id ?_
    rintro ⟨k, o, e, hk, hs⟩
    exact ⟨k, o, e, by simpa using hk, hs.other v (by rintro rfl; exact hn o e)⟩
theorem Own.far {w : World} {base n cap : Nat} {T : TypeId} {a : Option Addr} {xs : List Value} (h : Own w base T a n cap xs) : Far base a n := by
  intro k hk
  right
  intro o e
  obtain ⟨hl, ⟨h1, _⟩ | ⟨g, cap', cur, hv, hb', r⟩⟩ := h
  · rw [e] at h1
    cases h1
  · rw [e] at hv
    cases hv
    omega
theorem ND.put {w : World} {a : Option Addr} {l c u b : Nat} (h : ND w a l c u) (hn : NA b a l) (i : Nat) (v : Value) : ND (w.setCell ⟨b, i, none⟩ v) a l c u := ⟨h.sl.put hn i v, h.len⟩
theorem NI.put {w : World} {a : Option Addr} {l c u b : Nat} (h : NI w a l c u) (hn : NA b a l) (i : Nat) (v : Value) : NI (w.setCell ⟨b, i, none⟩ v) a l c u := ⟨h.sl.put hn i v, h.lt, h.few⟩
def GotF (w : World) (u : Nat) (e : Ending) (w' : World) : Prop := ∃ a l c, e = .returned (.slice a l c) ∧ ND w' a l c u ∧ Far w.heap.size a l ∧ Below w.heap.size w w'
theorem gotF {w w' : World} {u : Nat} {e : Ending} (h : ∃ a' cap', e = .returned (.slice a' (wd.nlen u) cap') ∧ Own w' w.heap.size 65 a' (wd.nlen u) cap' (wd.dcells (wd.nlen u) (u : Int)) ∧ Below w.heap.size w w') : GotF w u e w' := by
  obtain ⟨a, c, he, ho, hb⟩ := h
  exact ⟨a, _, c, he, ⟨Own.sl ho, rfl⟩, Own.far ho, hb⟩
def GotBF (w : World) (q r : Nat) (e : Ending) (w' : World) : Prop := ∃ aq lq cq ar lr cr, e = .returned (.tuple #[.slice aq lq cq, .slice ar lr cr, .int .i64 0]) ∧ ND w' aq lq cq q ∧ ND w' ar lr cr r ∧ Far w.heap.size aq lq ∧ Far w.heap.size ar lr ∧ Below w.heap.size w w'
def GotSF (w : World) (u : Nat) (e : Ending) (w' : World) : Prop := ∃ a l c, e = .returned (.tuple #[.slice a l c, .bool true]) ∧ ND w' a l c u ∧ Far w.heap.size a l ∧ Below w.heap.size w w'
theorem fTrim (a : Option Addr) (l c u : Nat) (w : World) (h : NI w a l c u) : Calls Tryz.prog 79 #[.slice a l c] w (GotF w u) :=
  (trim_any a l c u w h.sl h.lt (by have := h.few; omega)).mono fun _ _ h => gotF h
theorem fOf (x : Nat) (hx : x < 18446744073709551616) {xv : Int} (hxv : xv = (x : Int)) (w : World) : Calls Tryz.prog 14 #[.int .u64 xv] w (GotF w x) :=
  (of_any x hx hxv w).mono fun _ _ h => gotF h
theorem fAdd (a b : Option Addr) (la lb ca cb u v : Nat) (w : World) (ha : NI w a la ca u) (hb : NI w b lb cb v) : Calls Tryz.prog 50 #[.slice a la ca, .slice b lb cb] w (GotF w (u + v)) :=
  (add_any a b la lb ca cb u v w ha.sl ha.lt (by have := ha.few; omega) hb.sl hb.lt (by have := hb.few; omega)).mono fun _ _ h => gotF h
theorem fSubY (a b : Option Addr) (la lb ca cb u v : Nat) (w : World) (ha : NI w a la ca u) (hb : NI w b lb cb v) (hle : v ≤ u) : Calls Tryz.prog 92 #[.slice a la ca, .slice b lb cb] w (GotSF w (u - v)) :=
  (sub_yes a b la lb ca cb u v w ha.sl ha.lt (by have := ha.few; omega) hb.sl hb.lt hle).mono fun _ _ h => by
    obtain ⟨a, c, he, ho, hb⟩ := h
    exact ⟨a, _, c, he, ⟨Own.sl ho, rfl⟩, Own.far ho, hb⟩
theorem fDiv (a b : Option Addr) (la lb ca cb u v : Nat) (w : World) (ha : NI w a la ca u) (hb : NI w b lb cb v) (h0 : 0 < v) : Calls Tryz.prog 65 #[.slice a la ca, .slice b lb cb] w (GotBF w (u / v) (u % v)) :=
  (divMod_any a b la lb ca cb u v w ha.sl ha.lt (by have := ha.few; omega) hb.sl hb.lt h0).mono fun _ _ h => by
    obtain ⟨aq, cq, ar, cr, he, hq, hr, hb⟩ := h
    exact ⟨aq, _, cq, ar, _, cr, he, ⟨Own.sl hq, rfl⟩, ⟨Own.sl hr, rfl⟩, Own.far hq, Own.far hr, hb⟩
theorem cell_on {w w' : World} {p : Addr} {v : Value} (hb : Below w.heap.size w w') (h : w.cell? p = some v) : w'.cell? p = some v := by
  refine (hb.cell (p := p) ?_).trans h
  refine Nat.lt_of_not_le fun hle => ?_
  unfold World.cell? at h
  rw [Array.getElem?_eq_none hle] at h
  simp at h
theorem free_on {w w' : World} {p : Addr} {v : Value} {f : Bool} (hb : Below w.heap.size w w') (h : w.cell? p = some v) (hf : w.frozen? p = f) : w'.frozen? p = f := by
  refine (hb.frozen (p := p) ?_).trans hf
  refine Nat.lt_of_not_le fun hle => ?_
  unfold World.cell? at h
  rw [Array.getElem?_eq_none hle] at h
  simp at h
/-- A block of two cells: what they hold, and that they can be written. -/
structure Bx (w : World) (b : Nat) (x y : Value) : Prop where
  c0 : w.cell? ⟨b, 0, none⟩ = some x
  c1 : w.cell? ⟨b, 1, none⟩ = some y
  f0 : w.frozen? ⟨b, 0, none⟩ = false
  f1 : w.frozen? ⟨b, 1, none⟩ = false
theorem Bx.on {w w' : World} {b : Nat} {x y : Value} (h : Bx w b x y) (hb : Below w.heap.size w w') : Bx w' b x y := ⟨cell_on hb h.c0, cell_on hb h.c1, free_on hb h.c0 h.f0, free_on hb h.c1 h.f1⟩
theorem bx_new (w : World) (x y : Value) (t : TypeId) : Bx (w.alloc (.cells #[x, y] t)) w.heap.size x y := by
  have h := Row.new w [x, y] t
  exact ⟨h.cell 0 _ rfl, h.cell 1 _ rfl, h.free 0 (by simp), h.free 1 (by simp)⟩
theorem bx_lt {w : World} {b : Nat} {x y : Value} (h : Bx w b x y) : b < w.heap.size := by
  refine Nat.lt_of_not_le fun hle => ?_
  have := h.c0
  unfold World.cell? at this
  rw [Array.getElem?_eq_none hle] at this
  simp at this
theorem Bx.put {w : World} {b k i : Nat} {x y v : Value} (h : Bx w b x y) (hk : k ≠ b) : Bx (w.setCell ⟨k, i, none⟩ v) b x y := by
  have hne : ∀ j, (⟨k, i, none⟩ : Addr) ≠ ⟨b, j, none⟩ := fun j e => by cases e; exact hk rfl
  refine ⟨?_, ?_, by rw [World.frozen?_setCell]; exact h.f0, by rw [World.frozen?_setCell]; exact h.f1⟩
  · rw [World.cell?_setCell_other _ _ _ _ (by intro q; simp only [Addr.mk.injEq] at q; omega)]; exact h.c0
  · rw [World.cell?_setCell_other _ _ _ _ (by intro q; simp only [Addr.mk.injEq] at q; omega)]; exact h.c1
theorem Bx.set {w : World} {b : Nat} {x y u v : Value} (h : Bx w b x y) : Bx ((w.setCell ⟨b, 0, none⟩ u).setCell ⟨b, 1, none⟩ v) b u v := by
  refine ⟨?_, ?_, by rw [World.frozen?_setCell, World.frozen?_setCell]; exact h.f0, by rw [World.frozen?_setCell, World.frozen?_setCell]; exact h.f1⟩
  · rw [World.cell?_setCell_other _ _ _ _ (by intro q; simp only [Addr.mk.injEq] at q; omega)]
    exact World.cell?_setCell_same _ _ _ h.c0
  · have h1 : (w.setCell ⟨b, 0, none⟩ u).cell? ⟨b, 1, none⟩ = some y := by
      rw [World.cell?_setCell_other _ _ _ _ (by intro q; simp only [Addr.mk.injEq] at q; omega)]
      exact h.c1
    exact World.cell?_setCell_same _ _ _ h1
end Go.Proofs.YtaekgomplkkocabGreatDoor
