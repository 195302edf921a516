
/-
  Joined texts, part 5:
  What zelligeref04's Of, Same, make1, Neg, Add, Sub, Mul and Cmp answer.
  What the calls of an open region may tell: a number of zelligeref04 (its digits lie in memory), or a value that is known.
  A region whose order is open and whose last operation writes what the others read: the condition S on the world is kept up to that operation, and not behind it. It imports nothing of the program.
  Numbers as digits to the base 256: which digits a sum, a difference, a product has. It imports nothing of the program.
  Numbers as digits to the base 18446744073709551616: which digits a sum, a difference, a product has. It imports nothing of the program.
  The arithmetic of a product, digit by digit. It imports nothing of the program.
  Plain arithmetic of numbers of two words: what word a sum, a difference and a product have. It imports nothing of the program.
  Plain arithmetic of numbers of four words. It imports nothing of the program.
  What package quad's sum, difference and negation answer, as words.
  What package quad's product answers, as words.
-/
import Derived.Test.YtlelbhiebmdnoaaP4
import Derived.Test.YtlelbhiebmdnoaaP2
import Derived.Test.YtlelbhiebmdnoaaP1
import Derived.WalkKit
import Derived.Laws.Bits64b
import Derived.Test.YtlelbhiebmdnoaaRows
import Derived.WalkSpells
import Derived.StillTactics
import Derived.Laws.Pointers
import Derived.Laws.Externs
import Derived.Shelf.Spec.BitsCarry
import Derived.RowKit3
import Derived.Deep.RegionHeld3
import Derived.Deep.QuietTactic
import Derived.BigQuiet
import Derived.RegionTactic
import Derived.Deep.RegionWith
namespace Go.Proofs.Ytlelbhiebmdnoaa
open Go.RowKit
set_option linter.unusedVariables false

/-- A whole number as a sign and digits. -/
structure RN (w : World) (s : Int) (d : Option Addr) (l c : Nat) (z : Int) : Prop where
  hd : HD w d l c z.natAbs
  sg : s = z.sign
theorem RN.below {w w' : World} {s : Int} {d : Option Addr} {l c : Nat} {z : Int} (h : RN w s d l c z) (hb : Below w.heap.size w w') : RN w' s d l c z := ⟨h.hd.below hb, h.sg⟩
theorem RN.put {w : World} {s : Int} {d : Option Addr} {l c b : Nat} {z : Int} (h : RN w s d l c z) (hn : NA b d l) (i : Nat) (v : Value) : RN (w.setCell ⟨b, i, none⟩ v) s d l c z := ⟨h.hd.put hn i v, h.sg⟩
theorem RN.put2 {w : World} {s : Int} {d : Option Addr} {l c b : Nat} {z : Int} (h : RN w s d l c z) (hn : NA b d l) (u v : Value) : RN ((w.setCell ⟨b, 0, none⟩ u).setCell ⟨b, 1, none⟩ v) s d l c z := (h.put hn 0 u).put hn 1 v
/-- What is told: apart from the blocks that were there before, as far as its arguments are so. -/
def GotR (w : World) (P : Nat → Prop) (z : Int) (e : Ending) (w' : World) : Prop := ∃ (s : Int) (d : Option Addr) (l c : Nat), e = .returned (.agg #[.int .i64 s, .slice d l c]) ∧ RN w' s d l c z ∧ (∀ k, k < w.heap.size → P k → NA k d l) ∧ Below w.heap.size w w'
theorem endR {w w2 : World} {s : Int} {d : Option Addr} {l c : Nat} {z : Int} {P : Nat → Prop} (k : Nat) (hk : w.heap.size ≤ k) (B : Below w.heap.size w w2) (h : RN w2 s d l c z) (hn : NA k d l) (hf : ∀ j, j < w.heap.size → P j → NA j d l) (u v : Value) :
    GotR w P z (.returned (.agg #[.int .i64 s, .slice d l c])) ((w2.setCell ⟨k, 0, none⟩ u).setCell ⟨k, 1, none⟩ v) :=
  ⟨s, d, l, c, rfl, h.put2 hn u v, hf, below_put2 B hk u v⟩
theorem rn_zero (w : World) (c : Nat) : RN w 0 none 0 0 0 := ⟨hd_nil w, rfl⟩
theorem HD.pos {w : World} {d : Option Addr} {l c u : Nat} (h : HD w d l c u) : l = 0 ↔ u = 0 := by
  rw [h.len]
  constructor
  · intro e
    rcases Nat.eq_zero_or_pos u with z | z
    · exact z
    · have := hf.nlen_pos z; omega
  · rintro rfl; exact hf.nlen_zero
theorem sign_pos {x : Int} (h : 0 < x) : x.sign = 1 := Int.sign_eq_one_of_pos h
theorem sign_neg {x : Int} (h : x < 0) : x.sign = -1 := Int.sign_eq_neg_one_of_neg h
theorem sign_nul {x : Int} : x.sign = 0 ↔ x = 0 := Int.sign_eq_zero_iff_zero
theorem sign_cases (x : Int) : (x < 0 ∧ x.sign = -1) ∨ (x = 0 ∧ x.sign = 0) ∨ (0 < x ∧ x.sign = 1) := by
  rcases Int.lt_trichotomy x 0 with h | h | h
  · exact Or.inl ⟨h, sign_neg h⟩
  · exact Or.inr (Or.inl ⟨h, sign_nul.2 h⟩)
  · exact Or.inr (Or.inr ⟨h, sign_pos h⟩)

set_option maxRecDepth 100000 in
set_option maxHeartbeats 1000000 in
theorem rwMake (s : Int) (d : Option Addr) (l c u : Nat) (z : Int) (w : World) (hd : HD w d l c u) (hu : u = z.natAbs) (hs : z ≠ 0 → s = z.sign) :
    Calls Try.prog 46 #[.int .i64 s, .slice d l c] w (GotR w (fun k => NA k d l) z) := by
  subst hu
  have B0 : Below w.heap.size w (w.alloc (.cells #[.int .i64 0, .slice none 0 0] 27)) := (Below.refl _ _).alloc (Nat.le_refl _) _
  have h0 := hd.below B0
  by_cases hz : z = 0
  · obtain rfl : l = 0 := hd.pos.2 (by rw [hz]; rfl)
    subst hz
    go_enter Try.func46, Try.ntmps46
    go_wp2
    exact bodyPost_ret (v := .agg #[.int .i64 0, .slice none 0 0]) (by simp [results, Try.results46, go_sem, *]) rfl ⟨0, none, 0, 0, rfl, rn_zero _ 0, fun _ _ _ => Or.inl rfl, (Below.refl _ _).alloc (Nat.le_refl _) _⟩
  · have hl : ¬ (l : Int) = 0 := by have := hd.pos; omega
    have hsz := hs hz
    go_enter Try.func46, Try.ntmps46
    have HS : Hid _ := hsz
    clear hs hsz
    go_wp2
    have B1 : Below w.heap.size w (w.alloc (.cells #[.int .i64 s, .slice d l c] 27)) := (Below.refl _ _).alloc (Nat.le_refl _) _
    exact bodyPost_ret (v := .agg #[.int .i64 s, .slice d l c]) (by simp [results, Try.results46, go_sem, *]) rfl ⟨s, d, l, c, rfl, ⟨hd.below B1, HS.out⟩, fun _ _ h => h, B1⟩

set_option maxRecDepth 100000 in
set_option maxHeartbeats 1000000 in
theorem rwNeg (s : Int) (d : Option Addr) (l c : Nat) (x z : Int) (w : World) (hd : RN w s d l c x) (hz : z = -x) :
    Calls Try.prog 55 #[.agg #[.int .i64 s, .slice d l c]] w (GotR w (fun k => NA k d l) z) := by
  have hs := hd.sg
  obtain ⟨t, ht⟩ : ∃ t, t = 0 - s := ⟨_, rfl⟩
  have hb : -1 ≤ s ∧ s ≤ 1 := by rcases sign_cases x with ⟨_, e⟩ | ⟨_, e⟩ | ⟨_, e⟩ <;> omega
  obtain ⟨hb1, hb2⟩ := hb
  have hh : HD w d l c z.natAbs := by rw [hz, Int.natAbs_neg]; exact hd.hd
  have HT : Hid (0 - s = z.sign) := by unfold Hid; rw [hz, Int.sign_neg, hs]; omega
  have B1 : Below w.heap.size w ((w.alloc (.cells #[.int .i64 s, .slice d l c] 27)).alloc (.cells #[.int .i64 (-s), .slice d l c] 27)) := ((Below.refl _ _).alloc (Nat.le_refl _) _).alloc (by simp) _
  clear ht hs
  go_enter Try.func55, Try.ntmps55
  go_wp2
  exact bodyPost_ret (v := .agg #[.int .i64 (-s), .slice d l c]) (by simp [results, Try.results55, go_sem, *]) rfl ⟨-s, d, l, c, rfl, ⟨hh.below B1, by have := HT.out; omega⟩, fun _ _ h => h, B1⟩

set_option maxRecDepth 100000 in
set_option maxHeartbeats 1000000 in
theorem rwAdd (s t : Int) (d e : Option Addr) (l c m k : Nat) (x y z : Int) (w : World) (hx : RN w s d l c x) (hy : RN w t e m k y) (fx : hf.nlen x.natAbs ≤ 1000000) (fy : hf.nlen y.natAbs ≤ 1000000) (hz : z = x + y) : Calls Try.prog 34 #[.agg #[.int .i64 s, .slice d l c], .agg #[.int .i64 t, .slice e m k]] w (GotR w (fun k' => NA k' d l ∧ NA k' e m) z) := by
  obtain ⟨B0, xa, xb, xz, hs⟩ := box2 w (.int .i64 s) (.slice d l c) (.int .i64 t) (.slice e m k) (.int .i64 0) (.slice none 0 0) 27 27 27
  have es := hx.sg
  have et := hy.sg
  by_cases h1 : x = 0
  · obtain rfl : s = 0 := by rw [es, h1]; rfl
    obtain rfl : z = y := by omega
    clear es et
    obtain ⟨k0, k1, k2, k3⟩ := xz
    go_enter Try.func34, Try.ntmps34
    go_wp2
    obtain ⟨B9, _, _, _, _⟩ := box2 w (.int .i64 0) (.slice d l c) (.int .i64 t) (.slice e m k) (.int .i64 t) (.slice e m k) 27 27 27
    exact bodyPost_ret (v := .agg #[.int .i64 t, .slice e m k]) (by simp [results, Try.results34, go_sem, *]) rfl ⟨t, e, m, k, rfl, hy.below B9, fun _ _ h => h.2, B9⟩
  have s0 : ¬ s = 0 := by rw [es, sign_nul]; exact h1
  by_cases h2 : y = 0
  · obtain rfl : t = 0 := by rw [et, h2]; rfl
    obtain rfl : z = x := by omega
    clear es et
    obtain ⟨k0, k1, k2, k3⟩ := xz
    go_enter Try.func34, Try.ntmps34
    go_wp2
    obtain ⟨B9, _, _, _, _⟩ := box2 w (.int .i64 s) (.slice d l c) (.int .i64 0) (.slice e m k) (.int .i64 s) (.slice d l c) 27 27 27
    exact bodyPost_ret (v := .agg #[.int .i64 s, .slice d l c]) (by simp [results, Try.results34, go_sem, *]) rfl ⟨s, d, l, c, rfl, hx.below B9, fun _ _ h => h.1, B9⟩
  have t0 : ¬ t = 0 := by rw [et, sign_nul]; exact h2
  by_cases h3 : s = t
  · have HU : Hid (x.natAbs + y.natAbs = z.natAbs) := by
      unfold Hid
      rcases sign_cases x with ⟨a, b⟩ | ⟨a, b⟩ | ⟨a, b⟩ <;> rcases sign_cases y with ⟨a', b'⟩ | ⟨a', b'⟩ | ⟨a', b'⟩ <;> omega
    have HS : Hid (s = z.sign) := by
      unfold Hid
      rcases sign_cases x with ⟨a, b⟩ | ⟨a, b⟩ | ⟨a, b⟩ <;> rcases sign_cases y with ⟨a', b'⟩ | ⟨a', b'⟩ | ⟨a', b'⟩ <;> rcases sign_cases z with ⟨a2, b2⟩ | ⟨a2, b2⟩ | ⟨a2, b2⟩ <;> omega
    clear es et hz
    subst h3
    replace B0 := B0.drew
    replace xa := xa.drew
    replace xb := xb.drew
    replace xz := xz.drew
    go_enter Try.func34, Try.ntmps34
    go_wp2
    refine wp_region_held_drew (S := (fun w' => w'.cell? ⟨w.heap.size, 0, none⟩ = some (.int .i64 s) ∧ w'.cell? ⟨w.heap.size, 1, none⟩ = some (.slice d l c) ∧ w'.cell? ⟨w.heap.size + 1, 0, none⟩ = some (.int .i64 s) ∧ w'.cell? ⟨w.heap.size + 1, 1, none⟩ = some (.slice e m k) ∧ Below w.heap.size w w')) (by kernel_rfl) ?_ (fun hHeld => ?_)
    · first | exact keepB2 hHeld b2 | exact keepB2 hHeld b1 | exact ⟨xa.c0, xa.c1, xb.c0, xb.c1, B0⟩ | exact keepS2 hHeld (by omega) (by omega) _ _
    refine take_yes (i := 0) (v := ?va0) rfl (by kernel_rfl) (by kernel_rfl) (by kernel_rfl) (fun _ _ _ h => h) (by rfl) (by assumption) ?hya0 ?resta0
    case hya0 => (intro w hSw; (try dsimp only at hSw); first | (go_simp; done) | (go_simp; with_reducible rfl))
    simp only [Act.put, List.setIfInBounds_toArray, List.set_cons_zero, List.set_cons_succ]
    refine take_yes (i := 1) (v := ?va1) rfl (by kernel_rfl) (by kernel_rfl) (by kernel_rfl) (fun _ _ _ h => h) (by rfl) (by assumption) ?hya1 ?resta1
    case hya1 => (intro w hSw; (try dsimp only at hSw); first | (go_simp; done) | (go_simp; with_reducible rfl))
    simp only [Act.put, List.setIfInBounds_toArray, List.set_cons_zero, List.set_cons_succ]
    refine take_yes (i := 2) (v := ?va2) rfl (by kernel_rfl) (by kernel_rfl) (by kernel_rfl) (fun _ _ _ h => h) (by rfl) (by assumption) ?hya2 ?resta2
    case hya2 => (intro w hSw; (try dsimp only at hSw); first | (go_simp; done) | (go_simp; with_reducible rfl))
    simp only [Act.put, List.setIfInBounds_toArray, List.set_cons_zero, List.set_cons_succ]
    refine take_yes (i := 3) (v := ?va3) rfl (by kernel_rfl) (by kernel_rfl) (by kernel_rfl) (fun _ _ _ h => h) (by rfl) (by assumption) ?hya3 ?resta3
    case hya3 => (intro w hSw; (try dsimp only at hSw); first | (go_simp; done) | (go_simp; with_reducible rfl))
    simp only [Act.put, List.setIfInBounds_toArray, List.set_cons_zero, List.set_cons_succ]
    refine take_yes (i := 4) (v := ?va4) rfl (by kernel_rfl) (by kernel_rfl) (by kernel_rfl) (fun _ _ _ h => h) (by rfl) (by assumption) ?hya4 ?resta4
    case hya4 => (intro w hSw; (try dsimp only at hSw); first | (go_simp; done) | (go_simp; with_reducible rfl))
    simp only [Act.put, List.setIfInBounds_toArray, List.set_cons_zero, List.set_cons_succ]
    refine take_yes (i := 5) (v := ?va5) rfl (by kernel_rfl) (by kernel_rfl) (by kernel_rfl) (fun _ _ _ h => h) (by rfl) (by assumption) ?hya5 ?resta5
    case hya5 => (intro w hSw; (try dsimp only at hSw); first | (go_simp; done) | (go_simp; with_reducible rfl))
    simp only [Act.put, List.setIfInBounds_toArray, List.set_cons_zero, List.set_cons_succ]
    refine take_call (i := 6) rfl (by kernel_rfl) (fun K hK => ?_)
    go_simp
    first
      | (go_at_call 56; refine (hfAdd d e l m c k _ _ _ (hx.hd.below hHeld.2.2.2.2) (hy.hd.below hHeld.2.2.2.2) fx fy).mono ?_; rintro e' w1 ⟨a1, l1, c1, rfl, h1, f1, b1⟩)
    refine hK.out _ _ ?_ (fun hHeld => ?_)
    · first | exact keepB2 hHeld b2 | exact keepB2 hHeld b1 | exact ⟨xa.c0, xa.c1, xb.c0, xb.c1, B0⟩ | exact keepS2 hHeld (by omega) (by omega) _ _
    clear hK K
    refine take_yes (i := 7) (v := ?va7) rfl (by kernel_rfl) (by kernel_rfl) (by kernel_rfl) (fun _ _ _ h => h) (by rfl) (by assumption) ?hya7 ?resta7
    case hya7 => (intro w hSw; (try dsimp only at hSw); first | (go_simp; done) | (go_simp; with_reducible rfl))
    simp only [Act.put, List.setIfInBounds_toArray, List.set_cons_zero, List.set_cons_succ]
    obtain ⟨k0, k1, k2, k3⟩ := xz.on b1
    refine take_call (i := 8) rfl (by kernel_rfl) (fun K hK => ?_)
    go_simp
    refine hK.out _ _ ?_ (fun hHeld => ?_)
    · first | exact keepB2 hHeld b2 | exact keepB2 hHeld b1 | exact ⟨xa.c0, xa.c1, xb.c0, xb.c1, B0⟩ | exact keepS2 hHeld (by omega) (by omega) _ _
    clear hK K
    refine wpAnyH_done (by kernel_rfl) ?_ _
    go_wp2
    rw [HU.out] at h1
    exact bodyPost_ret (v := .agg #[.int .i64 s, .slice a1 l1 c1]) (by simp [results, Try.results34, go_sem, *]) rfl (endR _ (by omega) (also B0 b1) ⟨h1, HS.out⟩ (f1 _ hs) (fun j hj _ => f1 j (Nat.lt_of_lt_of_le hj B0.size)) _ _)
  · have h3' : (s == t) = false := by simpa using h3
    have HC : ∃ c', c' = cmpI (x.natAbs : Int) y.natAbs := ⟨_, rfl⟩
    obtain ⟨g, hg⟩ := HC
    have HG : Hid _ := hg
    by_cases hle : y.natAbs ≤ x.natAbs
    · have g0 : 0 ≤ g := by rw [hg]; unfold cmpI; rw [if_neg (by omega)]; split <;> decide
      have HU : Hid (x.natAbs - y.natAbs = z.natAbs) := by
        unfold Hid
        rcases sign_cases x with ⟨a, b⟩ | ⟨a, b⟩ | ⟨a, b⟩ <;> rcases sign_cases y with ⟨a', b'⟩ | ⟨a', b'⟩ | ⟨a', b'⟩ <;> omega
      have HS : Hid (z ≠ 0 → s = z.sign) := fun hz0 => by
        rcases sign_cases x with ⟨a, b⟩ | ⟨a, b⟩ | ⟨a, b⟩ <;> rcases sign_cases y with ⟨a', b'⟩ | ⟨a', b'⟩ | ⟨a', b'⟩ <;> rcases sign_cases z with ⟨a2, b2⟩ | ⟨a2, b2⟩ | ⟨a2, b2⟩ <;> omega
      clear es et hz hg h3
      go_enter Try.func34, Try.ntmps34
      go_wp2_with (go_at_call 57; fail)
      refine (hCmp d e l m c k _ _ _ (hx.hd.below B0) (hy.hd.below B0) HG.out).mono ?_
      rintro e' w1 ⟨rfl, b1⟩
      replace B0 := (also B0 b1).drew
      replace xa := (xa.on b1).drew
      replace xb := (xb.on b1).drew
      replace xz := (xz.on b1).drew
      obtain ⟨k0, k1, k2, k3⟩ := xa
      obtain ⟨j0, j1, j2, j3⟩ := xb
      have xa : Bx _ _ _ _ := ⟨k0, k1, k2, k3⟩
      have xb : Bx _ _ _ _ := ⟨j0, j1, j2, j3⟩
      go_wp2
      refine wp_region_held_drew (S := (fun w' => w'.cell? ⟨w.heap.size, 0, none⟩ = some (.int .i64 s) ∧ w'.cell? ⟨w.heap.size, 1, none⟩ = some (.slice d l c) ∧ w'.cell? ⟨w.heap.size + 1, 0, none⟩ = some (.int .i64 t) ∧ w'.cell? ⟨w.heap.size + 1, 1, none⟩ = some (.slice e m k) ∧ Below w.heap.size w w')) (by kernel_rfl) ?_ (fun hHeld => ?_)
      · first | exact keepB2 hHeld b3 | exact keepB2 hHeld b2 | exact keepB2 hHeld b1 | exact ⟨xa.c0, xa.c1, xb.c0, xb.c1, B0⟩ | exact keepS2 hHeld (by omega) (by omega) _ _
      refine take_yes (i := 0) (v := ?vb0) rfl (by kernel_rfl) (by kernel_rfl) (by kernel_rfl) (fun _ _ _ h => h) (by rfl) (by assumption) ?hyb0 ?restb0
      case hyb0 => (intro w hSw; (try dsimp only at hSw); first | (go_simp; done) | (go_simp; with_reducible rfl))
      simp only [Act.put, List.setIfInBounds_toArray, List.set_cons_zero, List.set_cons_succ]
      refine take_yes (i := 1) (v := ?vb1) rfl (by kernel_rfl) (by kernel_rfl) (by kernel_rfl) (fun _ _ _ h => h) (by rfl) (by assumption) ?hyb1 ?restb1
      case hyb1 => (intro w hSw; (try dsimp only at hSw); first | (go_simp; done) | (go_simp; with_reducible rfl))
      simp only [Act.put, List.setIfInBounds_toArray, List.set_cons_zero, List.set_cons_succ]
      refine take_yes (i := 2) (v := ?vb2) rfl (by kernel_rfl) (by kernel_rfl) (by kernel_rfl) (fun _ _ _ h => h) (by rfl) (by assumption) ?hyb2 ?restb2
      case hyb2 => (intro w hSw; (try dsimp only at hSw); first | (go_simp; done) | (go_simp; with_reducible rfl))
      simp only [Act.put, List.setIfInBounds_toArray, List.set_cons_zero, List.set_cons_succ]
      refine take_yes (i := 3) (v := ?vb3) rfl (by kernel_rfl) (by kernel_rfl) (by kernel_rfl) (fun _ _ _ h => h) (by rfl) (by assumption) ?hyb3 ?restb3
      case hyb3 => (intro w hSw; (try dsimp only at hSw); first | (go_simp; done) | (go_simp; with_reducible rfl))
      simp only [Act.put, List.setIfInBounds_toArray, List.set_cons_zero, List.set_cons_succ]
      refine take_yes (i := 4) (v := ?vb4) rfl (by kernel_rfl) (by kernel_rfl) (by kernel_rfl) (fun _ _ _ h => h) (by rfl) (by assumption) ?hyb4 ?restb4
      case hyb4 => (intro w hSw; (try dsimp only at hSw); first | (go_simp; done) | (go_simp; with_reducible rfl))
      simp only [Act.put, List.setIfInBounds_toArray, List.set_cons_zero, List.set_cons_succ]
      refine take_yes (i := 5) (v := ?vb5) rfl (by kernel_rfl) (by kernel_rfl) (by kernel_rfl) (fun _ _ _ h => h) (by rfl) (by assumption) ?hyb5 ?restb5
      case hyb5 => (intro w hSw; (try dsimp only at hSw); first | (go_simp; done) | (go_simp; with_reducible rfl))
      simp only [Act.put, List.setIfInBounds_toArray, List.set_cons_zero, List.set_cons_succ]
      refine take_call (i := 6) rfl (by kernel_rfl) (fun K hK => ?_)
      go_simp
      first
      | (go_at_call 58; refine (hfSub d e l m c k _ _ _ (hx.hd.below hHeld.2.2.2.2) (hy.hd.below hHeld.2.2.2.2) fx fy hle).mono ?_; rintro e' w2 ⟨a1, l1, c1, rfl, h1, f1, b2⟩)
      | (go_at_call 46; refine (rwMake s a1 l1 c1 _ z _ h1 HU.out HS.out).mono ?_; rintro e' w3 ⟨s3, a3, l3, c3, rfl, h3, f3, b3⟩)
      refine hK.out _ _ ?_ (fun hHeld => ?_)
      · first | exact keepB2 hHeld b3 | exact keepB2 hHeld b2 | exact keepB2 hHeld b1 | exact ⟨xa.c0, xa.c1, xb.c0, xb.c1, B0⟩ | exact keepS2 hHeld (by omega) (by omega) _ _
      clear hK K
      refine take_call (i := 7) rfl (by kernel_rfl) (fun K hK => ?_)
      go_simp
      first
      | (go_at_call 58; refine (hfSub d e l m c k _ _ _ (hx.hd.below hHeld.2.2.2.2) (hy.hd.below hHeld.2.2.2.2) fx fy hle).mono ?_; rintro e' w2 ⟨a1, l1, c1, rfl, h1, f1, b2⟩)
      | (go_at_call 46; refine (rwMake s a1 l1 c1 _ z _ h1 HU.out HS.out).mono ?_; rintro e' w3 ⟨s3, a3, l3, c3, rfl, h3, f3, b3⟩)
      refine hK.out _ _ ?_ (fun hHeld => ?_)
      · first | exact keepB2 hHeld b3 | exact keepB2 hHeld b2 | exact keepB2 hHeld b1 | exact ⟨xa.c0, xa.c1, xb.c0, xb.c1, B0⟩ | exact keepS2 hHeld (by omega) (by omega) _ _
      clear hK K
      obtain ⟨k0, k1, k2, k3⟩ := (xz.on b2).on b3
      refine take_call (i := 8) rfl (by kernel_rfl) (fun K hK => ?_)
      go_simp
      refine hK.out _ _ ?_ (fun hHeld => ?_)
      · first | exact keepB2 hHeld b3 | exact keepB2 hHeld b2 | exact keepB2 hHeld b1 | exact ⟨xa.c0, xa.c1, xb.c0, xb.c1, B0⟩ | exact keepS2 hHeld (by omega) (by omega) _ _
      clear hK K
      refine wpAnyH_done (by kernel_rfl) ?_ _
      go_wp2
      exact bodyPost_ret (v := .agg #[.int .i64 s3, .slice a3 l3 c3]) (by simp [results, Try.results34, go_sem, *]) rfl (endR _ (by omega) (also (also B0 b2) b3) h3 (f3 _ (Nat.lt_of_lt_of_le (Nat.lt_of_lt_of_le hs b1.size) b2.size) (f1 _ (Nat.lt_of_lt_of_le hs b1.size))) (fun j hj _ => f3 j (Nat.lt_of_lt_of_le hj (Nat.le_trans B0.size b2.size)) (f1 j (Nat.lt_of_lt_of_le hj B0.size))) _ _)
    · have hlt : x.natAbs < y.natAbs := by omega
      replace hle : x.natAbs ≤ y.natAbs := by omega
      have g0 : ¬ 0 ≤ g := by rw [hg]; unfold cmpI; rw [if_pos (by omega)]; decide
      have HU : Hid (y.natAbs - x.natAbs = z.natAbs) := by
        unfold Hid
        rcases sign_cases x with ⟨a, b⟩ | ⟨a, b⟩ | ⟨a, b⟩ <;> rcases sign_cases y with ⟨a', b'⟩ | ⟨a', b'⟩ | ⟨a', b'⟩ <;> omega
      have HS : Hid (z ≠ 0 → t = z.sign) := fun hz0 => by
        rcases sign_cases x with ⟨a, b⟩ | ⟨a, b⟩ | ⟨a, b⟩ <;> rcases sign_cases y with ⟨a', b'⟩ | ⟨a', b'⟩ | ⟨a', b'⟩ <;> rcases sign_cases z with ⟨a2, b2⟩ | ⟨a2, b2⟩ | ⟨a2, b2⟩ <;> omega
      clear es et hz hg h3
      go_enter Try.func34, Try.ntmps34
      go_wp2_with (go_at_call 57; fail)
      refine (hCmp d e l m c k _ _ _ (hx.hd.below B0) (hy.hd.below B0) HG.out).mono ?_
      rintro e' w1 ⟨rfl, b1⟩
      replace B0 := (also B0 b1).drew
      replace xa := (xa.on b1).drew
      replace xb := (xb.on b1).drew
      replace xz := (xz.on b1).drew
      obtain ⟨k0, k1, k2, k3⟩ := xa
      obtain ⟨j0, j1, j2, j3⟩ := xb
      have xa : Bx _ _ _ _ := ⟨k0, k1, k2, k3⟩
      have xb : Bx _ _ _ _ := ⟨j0, j1, j2, j3⟩
      go_wp2
      refine wp_region_held_drew (S := (fun w' => w'.cell? ⟨w.heap.size, 0, none⟩ = some (.int .i64 s) ∧ w'.cell? ⟨w.heap.size, 1, none⟩ = some (.slice d l c) ∧ w'.cell? ⟨w.heap.size + 1, 0, none⟩ = some (.int .i64 t) ∧ w'.cell? ⟨w.heap.size + 1, 1, none⟩ = some (.slice e m k) ∧ Below w.heap.size w w')) (by kernel_rfl) ?_ (fun hHeld => ?_)
      · first | exact keepB2 hHeld b3 | exact keepB2 hHeld b2 | exact keepB2 hHeld b1 | exact ⟨xa.c0, xa.c1, xb.c0, xb.c1, B0⟩ | exact keepS2 hHeld (by omega) (by omega) _ _
      refine take_yes (i := 0) (v := ?vg0) rfl (by kernel_rfl) (by kernel_rfl) (by kernel_rfl) (fun _ _ _ h => h) (by rfl) (by assumption) ?hyg0 ?restg0
      case hyg0 => (intro w hSw; (try dsimp only at hSw); first | (go_simp; done) | (go_simp; with_reducible rfl))
      simp only [Act.put, List.setIfInBounds_toArray, List.set_cons_zero, List.set_cons_succ]
      refine take_yes (i := 1) (v := ?vg1) rfl (by kernel_rfl) (by kernel_rfl) (by kernel_rfl) (fun _ _ _ h => h) (by rfl) (by assumption) ?hyg1 ?restg1
      case hyg1 => (intro w hSw; (try dsimp only at hSw); first | (go_simp; done) | (go_simp; with_reducible rfl))
      simp only [Act.put, List.setIfInBounds_toArray, List.set_cons_zero, List.set_cons_succ]
      refine take_yes (i := 2) (v := ?vg2) rfl (by kernel_rfl) (by kernel_rfl) (by kernel_rfl) (fun _ _ _ h => h) (by rfl) (by assumption) ?hyg2 ?restg2
      case hyg2 => (intro w hSw; (try dsimp only at hSw); first | (go_simp; done) | (go_simp; with_reducible rfl))
      simp only [Act.put, List.setIfInBounds_toArray, List.set_cons_zero, List.set_cons_succ]
      refine take_yes (i := 3) (v := ?vg3) rfl (by kernel_rfl) (by kernel_rfl) (by kernel_rfl) (fun _ _ _ h => h) (by rfl) (by assumption) ?hyg3 ?restg3
      case hyg3 => (intro w hSw; (try dsimp only at hSw); first | (go_simp; done) | (go_simp; with_reducible rfl))
      simp only [Act.put, List.setIfInBounds_toArray, List.set_cons_zero, List.set_cons_succ]
      refine take_yes (i := 4) (v := ?vg4) rfl (by kernel_rfl) (by kernel_rfl) (by kernel_rfl) (fun _ _ _ h => h) (by rfl) (by assumption) ?hyg4 ?restg4
      case hyg4 => (intro w hSw; (try dsimp only at hSw); first | (go_simp; done) | (go_simp; with_reducible rfl))
      simp only [Act.put, List.setIfInBounds_toArray, List.set_cons_zero, List.set_cons_succ]
      refine take_yes (i := 5) (v := ?vg5) rfl (by kernel_rfl) (by kernel_rfl) (by kernel_rfl) (fun _ _ _ h => h) (by rfl) (by assumption) ?hyg5 ?restg5
      case hyg5 => (intro w hSw; (try dsimp only at hSw); first | (go_simp; done) | (go_simp; with_reducible rfl))
      simp only [Act.put, List.setIfInBounds_toArray, List.set_cons_zero, List.set_cons_succ]
      refine take_call (i := 6) rfl (by kernel_rfl) (fun K hK => ?_)
      go_simp
      first
      | (go_at_call 58; refine (hfSub e d m l k c _ _ _ (hy.hd.below hHeld.2.2.2.2) (hx.hd.below hHeld.2.2.2.2) fy fx hle).mono ?_; rintro e' w2 ⟨a1, l1, c1, rfl, h1, f1, b2⟩)
      | (go_at_call 46; refine (rwMake t a1 l1 c1 _ z _ h1 HU.out HS.out).mono ?_; rintro e' w3 ⟨s3, a3, l3, c3, rfl, h3, f3, b3⟩)
      refine hK.out _ _ ?_ (fun hHeld => ?_)
      · first | exact keepB2 hHeld b3 | exact keepB2 hHeld b2 | exact keepB2 hHeld b1 | exact ⟨xa.c0, xa.c1, xb.c0, xb.c1, B0⟩ | exact keepS2 hHeld (by omega) (by omega) _ _
      clear hK K
      refine take_call (i := 7) rfl (by kernel_rfl) (fun K hK => ?_)
      go_simp
      first
      | (go_at_call 58; refine (hfSub e d m l k c _ _ _ (hy.hd.below hHeld.2.2.2.2) (hx.hd.below hHeld.2.2.2.2) fy fx hle).mono ?_; rintro e' w2 ⟨a1, l1, c1, rfl, h1, f1, b2⟩)
      | (go_at_call 46; refine (rwMake t a1 l1 c1 _ z _ h1 HU.out HS.out).mono ?_; rintro e' w3 ⟨s3, a3, l3, c3, rfl, h3, f3, b3⟩)
      refine hK.out _ _ ?_ (fun hHeld => ?_)
      · first | exact keepB2 hHeld b3 | exact keepB2 hHeld b2 | exact keepB2 hHeld b1 | exact ⟨xa.c0, xa.c1, xb.c0, xb.c1, B0⟩ | exact keepS2 hHeld (by omega) (by omega) _ _
      clear hK K
      obtain ⟨k0, k1, k2, k3⟩ := (xz.on b2).on b3
      refine take_call (i := 8) rfl (by kernel_rfl) (fun K hK => ?_)
      go_simp
      refine hK.out _ _ ?_ (fun hHeld => ?_)
      · first | exact keepB2 hHeld b3 | exact keepB2 hHeld b2 | exact keepB2 hHeld b1 | exact ⟨xa.c0, xa.c1, xb.c0, xb.c1, B0⟩ | exact keepS2 hHeld (by omega) (by omega) _ _
      clear hK K
      refine wpAnyH_done (by kernel_rfl) ?_ _
      go_wp2
      exact bodyPost_ret (v := .agg #[.int .i64 s3, .slice a3 l3 c3]) (by simp [results, Try.results34, go_sem, *]) rfl (endR _ (by omega) (also (also B0 b2) b3) h3 (f3 _ (Nat.lt_of_lt_of_le (Nat.lt_of_lt_of_le hs b1.size) b2.size) (f1 _ (Nat.lt_of_lt_of_le hs b1.size))) (fun j hj _ => f3 j (Nat.lt_of_lt_of_le hj (Nat.le_trans B0.size b2.size)) (f1 j (Nat.lt_of_lt_of_le hj B0.size))) _ _)
set_option maxRecDepth 100000 in
set_option maxHeartbeats 1000000 in
theorem rwSub (s t : Int) (d e : Option Addr) (l c m k : Nat) (x y z : Int) (w : World) (hx : RN w s d l c x) (hy : RN w t e m k y) (fx : hf.nlen x.natAbs ≤ 1000000) (fy : hf.nlen y.natAbs ≤ 1000000) (hz : z = x - y) : Calls Try.prog 32 #[.agg #[.int .i64 s, .slice d l c], .agg #[.int .i64 t, .slice e m k]] w (GotR w (fun k' => NA k' d l ∧ NA k' e m) z) := by
  obtain ⟨B0, xa, xb, xz, hs⟩ := box2 w (.int .i64 s) (.slice d l c) (.int .i64 t) (.slice e m k) (.int .i64 0) (.slice none 0 0) 27 27 27
  have HZ : Hid (z = x + -y) := by unfold Hid; omega
  clear hz
  replace B0 := B0.drew
  replace xa := xa.drew
  replace xb := xb.drew
  replace xz := xz.drew
  go_enter Try.func32, Try.ntmps32
  go_wp2
  refine wp_region_held_drew (S := (fun w' => w'.cell? ⟨w.heap.size, 0, none⟩ = some (.int .i64 s) ∧ w'.cell? ⟨w.heap.size, 1, none⟩ = some (.slice d l c) ∧ w'.cell? ⟨w.heap.size + 1, 0, none⟩ = some (.int .i64 t) ∧ w'.cell? ⟨w.heap.size + 1, 1, none⟩ = some (.slice e m k) ∧ Below w.heap.size w w')) (by kernel_rfl) ?_ (fun hHeld => ?_)
  · first | exact keepB2 hHeld b2 | exact keepB2 hHeld b1 | exact ⟨xa.c0, xa.c1, xb.c0, xb.c1, B0⟩ | exact keepS2 hHeld (by omega) (by omega) _ _
  refine take_yes (i := 0) (v := ?vu0) rfl (by kernel_rfl) (by kernel_rfl) (by kernel_rfl) (fun _ _ _ h => h) (by rfl) (by assumption) ?hyu0 ?restu0
  case hyu0 => (intro w hSw; (try dsimp only at hSw); first | (go_simp; done) | (go_simp; with_reducible rfl))
  simp only [Act.put, List.setIfInBounds_toArray, List.set_cons_zero, List.set_cons_succ]
  refine take_yes (i := 1) (v := ?vu1) rfl (by kernel_rfl) (by kernel_rfl) (by kernel_rfl) (fun _ _ _ h => h) (by rfl) (by assumption) ?hyu1 ?restu1
  case hyu1 => (intro w hSw; (try dsimp only at hSw); first | (go_simp; done) | (go_simp; with_reducible rfl))
  simp only [Act.put, List.setIfInBounds_toArray, List.set_cons_zero, List.set_cons_succ]
  refine take_call (i := 2) rfl (by kernel_rfl) (fun K hK => ?_)
  go_simp
  first
      | (go_at_call 55; refine (rwNeg t e m k y (-y) _ (hy.below hHeld.2.2.2.2) rfl).mono ?_; rintro e' w1 ⟨s1, a1, l1, c1, rfl, h1, f1, b1⟩)
      | (go_at_call 34; refine (rwAdd s s1 d a1 l c l1 c1 x (-y) z _ (hx.below hHeld.2.2.2.2) h1 fx (by rw [Int.natAbs_neg]; exact fy) HZ.out).mono ?_; rintro e' w2 ⟨s2, a2, l2, c2, rfl, h2, f2, b2⟩)
  refine hK.out _ _ ?_ (fun hHeld => ?_)
  · first | exact keepB2 hHeld b2 | exact keepB2 hHeld b1 | exact ⟨xa.c0, xa.c1, xb.c0, xb.c1, B0⟩ | exact keepS2 hHeld (by omega) (by omega) _ _
  clear hK K
  refine take_call (i := 3) rfl (by kernel_rfl) (fun K hK => ?_)
  go_simp
  first
      | (go_at_call 55; refine (rwNeg t e m k y (-y) _ (hy.below hHeld.2.2.2.2) rfl).mono ?_; rintro e' w1 ⟨s1, a1, l1, c1, rfl, h1, f1, b1⟩)
      | (go_at_call 34; refine (rwAdd s s1 d a1 l c l1 c1 x (-y) z _ (hx.below hHeld.2.2.2.2) h1 fx (by rw [Int.natAbs_neg]; exact fy) HZ.out).mono ?_; rintro e' w2 ⟨s2, a2, l2, c2, rfl, h2, f2, b2⟩)
  refine hK.out _ _ ?_ (fun hHeld => ?_)
  · first | exact keepB2 hHeld b2 | exact keepB2 hHeld b1 | exact ⟨xa.c0, xa.c1, xb.c0, xb.c1, B0⟩ | exact keepS2 hHeld (by omega) (by omega) _ _
  clear hK K
  obtain ⟨k0, k1, k2, k3⟩ := (xz.on b1).on b2
  refine take_call (i := 4) rfl (by kernel_rfl) (fun K hK => ?_)
  go_simp
  refine hK.out _ _ ?_ (fun hHeld => ?_)
  · first | exact keepB2 hHeld b2 | exact keepB2 hHeld b1 | exact ⟨xa.c0, xa.c1, xb.c0, xb.c1, B0⟩ | exact keepS2 hHeld (by omega) (by omega) _ _
  clear hK K
  refine wpAnyH_done (by kernel_rfl) ?_ _
  go_wp2
  have nd : NA (w.heap.size + 1 + 1) d l := hx.hd.sl.na (by omega)
  have ne : NA (w.heap.size + 1 + 1) e m := hy.hd.sl.na (by omega)
  exact bodyPost_ret (v := .agg #[.int .i64 s2, .slice a2 l2 c2]) (by simp [results, Try.results32, go_sem, *]) rfl (endR _ (by omega) (also (also B0 b1) b2) h2 (f2 _ (Nat.lt_of_lt_of_le hs b1.size) ⟨nd, f1 _ hs ne⟩) (fun j hj hp => f2 j (Nat.lt_of_lt_of_le hj (Nat.le_trans B0.size b1.size)) ⟨hp.1, f1 j (Nat.lt_of_lt_of_le hj B0.size) hp.2⟩) _ _)
set_option maxRecDepth 100000 in
set_option maxHeartbeats 1000000 in
theorem rwMul (s t : Int) (d e : Option Addr) (l c m k : Nat) (x y z : Int) (w : World) (hx : RN w s d l c x) (hy : RN w t e m k y) (fx : hf.nlen x.natAbs ≤ 1000000) (fy : hf.nlen y.natAbs ≤ 1000000) (hz : z = x * y) : Calls Try.prog 35 #[.agg #[.int .i64 s, .slice d l c], .agg #[.int .i64 t, .slice e m k]] w (GotR w (fun _ => True) z) := by
  obtain ⟨B0, xa, xb, xz, hs⟩ := box2 w (.int .i64 s) (.slice d l c) (.int .i64 t) (.slice e m k) (.int .i64 0) (.slice none 0 0) 27 27 27
  have HU : Hid (x.natAbs * y.natAbs = z.natAbs) := by unfold Hid; rw [hz, Int.natAbs_mul]
  have HS : Hid (z ≠ 0 → s * t = z.sign) := fun _ => by rw [hz, Int.sign_mul, hx.sg, hy.sg]
  have es : -1 ≤ s ∧ s ≤ 1 := by rw [hx.sg]; rcases sign_cases x with ⟨_, e⟩ | ⟨_, e⟩ | ⟨_, e⟩ <;> omega
  have et : t = -1 ∨ t = 0 ∨ t = 1 := by rw [hy.sg]; rcases sign_cases y with ⟨_, e⟩ | ⟨_, e⟩ | ⟨_, e⟩ <;> omega
  have ew : IntKind.i64.wrap (s * t) = s * t := by
    rw [IntKind.wrap_i64]
    rcases et with e | e | e <;> rw [e] <;> omega
  have ew' : wrap64 (s * t) = s * t := by
    unfold wrap64
    rcases et with e | e | e <;> rw [e] <;> omega
  clear hz es et
  replace B0 := B0.drew
  replace xa := xa.drew
  replace xb := xb.drew
  replace xz := xz.drew
  go_enter Try.func35, Try.ntmps35
  go_wp2
  refine wp_region_held_drew (S := (fun w' => w'.cell? ⟨w.heap.size, 0, none⟩ = some (.int .i64 s) ∧ w'.cell? ⟨w.heap.size, 1, none⟩ = some (.slice d l c) ∧ w'.cell? ⟨w.heap.size + 1, 0, none⟩ = some (.int .i64 t) ∧ w'.cell? ⟨w.heap.size + 1, 1, none⟩ = some (.slice e m k) ∧ Below w.heap.size w w')) (by kernel_rfl) ?_ (fun hHeld => ?_)
  · first | exact keepB2 hHeld b2 | exact keepB2 hHeld b1 | exact ⟨xa.c0, xa.c1, xb.c0, xb.c1, B0⟩ | exact keepS2 hHeld (by omega) (by omega) _ _
  refine take_yes (i := 0) (v := ?vv0) rfl (by kernel_rfl) (by kernel_rfl) (by kernel_rfl) (fun _ _ _ h => h) (by rfl) (by assumption) ?hyv0 ?restv0
  case hyv0 => (intro w hSw; (try dsimp only at hSw); first | (go_simp; done) | (go_simp; with_reducible rfl))
  simp only [Act.put, List.setIfInBounds_toArray, List.set_cons_zero, List.set_cons_succ]
  refine take_yes (i := 1) (v := ?vv1) rfl (by kernel_rfl) (by kernel_rfl) (by kernel_rfl) (fun _ _ _ h => h) (by rfl) (by assumption) ?hyv1 ?restv1
  case hyv1 => (intro w hSw; (try dsimp only at hSw); first | (go_simp; done) | (go_simp; with_reducible rfl))
  simp only [Act.put, List.setIfInBounds_toArray, List.set_cons_zero, List.set_cons_succ]
  refine take_yes (i := 2) (v := ?vv2) rfl (by kernel_rfl) (by kernel_rfl) (by kernel_rfl) (fun _ _ _ h => h) (by rfl) (by assumption) ?hyv2 ?restv2
  case hyv2 => (intro w hSw; (try dsimp only at hSw); first | (go_simp; done) | (go_simp; with_reducible rfl))
  simp only [Act.put, List.setIfInBounds_toArray, List.set_cons_zero, List.set_cons_succ]
  refine take_yes (i := 3) (v := ?vv3) rfl (by kernel_rfl) (by kernel_rfl) (by kernel_rfl) (fun _ _ _ h => h) (by rfl) (by assumption) ?hyv3 ?restv3
  case hyv3 => (intro w hSw; (try dsimp only at hSw); first | (go_simp; done) | (go_simp; with_reducible rfl))
  simp only [Act.put, List.setIfInBounds_toArray, List.set_cons_zero, List.set_cons_succ]
  refine take_yes (i := 4) (v := ?vv4) rfl (by kernel_rfl) (by kernel_rfl) (by kernel_rfl) (fun _ _ _ h => h) (by rfl) (by assumption) ?hyv4 ?restv4
  case hyv4 => (intro w hSw; (try dsimp only at hSw); first | (go_simp; done) | (go_simp; with_reducible rfl))
  simp only [Act.put, List.setIfInBounds_toArray, List.set_cons_zero, List.set_cons_succ]
  refine take_yes (i := 5) (v := ?vv5) rfl (by kernel_rfl) (by kernel_rfl) (by kernel_rfl) (fun _ _ _ h => h) (by rfl) (by assumption) ?hyv5 ?restv5
  case hyv5 => (intro w hSw; (try dsimp only at hSw); first | (go_simp; done) | (go_simp; with_reducible rfl))
  simp only [Act.put, List.setIfInBounds_toArray, List.set_cons_zero, List.set_cons_succ]
  refine take_yes (i := 6) (v := ?vv6) rfl (by kernel_rfl) (by kernel_rfl) (by kernel_rfl) (fun _ _ _ h => h) (by rfl) (by assumption) ?hyv6 ?restv6
  case hyv6 => (intro w hSw; (try dsimp only at hSw); first | (go_simp; done) | (go_simp; with_reducible rfl))
  simp only [Act.put, List.setIfInBounds_toArray, List.set_cons_zero, List.set_cons_succ]
  refine take_yes (i := 7) (v := ?vv7) rfl (by kernel_rfl) (by kernel_rfl) (by kernel_rfl) (fun _ _ _ h => h) (by rfl) (by assumption) ?hyv7 ?restv7
  case hyv7 => (intro w hSw; (try dsimp only at hSw); first | (go_simp; done) | (go_simp; with_reducible rfl))
  simp only [Act.put, List.setIfInBounds_toArray, List.set_cons_zero, List.set_cons_succ]
  refine take_yes (i := 8) (v := ?vv8) rfl (by kernel_rfl) (by kernel_rfl) (by kernel_rfl) (fun _ _ _ h => h) (by rfl) (by assumption) ?hyv8 ?restv8
  case hyv8 => (intro w hSw; (try dsimp only at hSw); first | (go_simp; done) | (go_simp; with_reducible rfl))
  simp only [Act.put, List.setIfInBounds_toArray, List.set_cons_zero, List.set_cons_succ]
  refine take_call (i := 9) rfl (by kernel_rfl) (fun K hK => ?_)
  go_simp
  first
      | (go_at_call 59; refine (hfMul d e l m c k _ _ _ (hx.hd.below hHeld.2.2.2.2) (hy.hd.below hHeld.2.2.2.2) fx fy).mono ?_; rintro e' w1 ⟨a1, l1, c1, rfl, h1, f1, b1⟩)
      | (go_at_call 46; refine (rwMake _ a1 l1 c1 _ z _ h1 HU.out HS.out).mono ?_; rintro e' w2 ⟨s2, a2, l2, c2, rfl, h2, f2, b2⟩)
  refine hK.out _ _ ?_ (fun hHeld => ?_)
  · first | exact keepB2 hHeld b2 | exact keepB2 hHeld b1 | exact ⟨xa.c0, xa.c1, xb.c0, xb.c1, B0⟩ | exact keepS2 hHeld (by omega) (by omega) _ _
  clear hK K
  refine take_call (i := 10) rfl (by kernel_rfl) (fun K hK => ?_)
  go_simp
  first
      | (go_at_call 59; refine (hfMul d e l m c k _ _ _ (hx.hd.below hHeld.2.2.2.2) (hy.hd.below hHeld.2.2.2.2) fx fy).mono ?_; rintro e' w1 ⟨a1, l1, c1, rfl, h1, f1, b1⟩)
      | (go_at_call 46; refine (rwMake _ a1 l1 c1 _ z _ h1 HU.out HS.out).mono ?_; rintro e' w2 ⟨s2, a2, l2, c2, rfl, h2, f2, b2⟩)
  refine hK.out _ _ ?_ (fun hHeld => ?_)
  · first | exact keepB2 hHeld b2 | exact keepB2 hHeld b1 | exact ⟨xa.c0, xa.c1, xb.c0, xb.c1, B0⟩ | exact keepS2 hHeld (by omega) (by omega) _ _
  clear hK K
  obtain ⟨k0, k1, k2, k3⟩ := (xz.on b1).on b2
  refine take_call (i := 11) rfl (by kernel_rfl) (fun K hK => ?_)
  go_simp
  refine hK.out _ _ ?_ (fun hHeld => ?_)
  · first | exact keepB2 hHeld b2 | exact keepB2 hHeld b1 | exact ⟨xa.c0, xa.c1, xb.c0, xb.c1, B0⟩ | exact keepS2 hHeld (by omega) (by omega) _ _
  clear hK K
  refine wpAnyH_done (by kernel_rfl) ?_ _
  go_wp2
  exact bodyPost_ret (v := .agg #[.int .i64 s2, .slice a2 l2 c2]) (by simp [results, Try.results35, go_sem, *]) rfl (endR _ (by omega) (also (also B0 b1) b2) h2 (f2 _ (Nat.lt_of_lt_of_le hs b1.size) (f1 _ hs)) (fun j hj _ => f2 j (Nat.lt_of_lt_of_le hj (Nat.le_trans B0.size b1.size)) (f1 j (Nat.lt_of_lt_of_le hj B0.size))) _ _)
theorem field_int (s : Int) (d : Option Addr) (l c : Nat) (w : World) : (Instr.field 27 (.agg #[.int .i64 s, .slice d l c]) 0).run Try.prog w = .ok (.int .i64 s) w := by show _ = _; kernel_rfl
set_option maxRecDepth 100000 in
set_option maxHeartbeats 1000000 in
theorem rwCmp (s t : Int) (d e : Option Addr) (l c m k : Nat) (x y : Int) (w : World) (hx : RN w s d l c x) (hy : RN w t e m k y) (fx : hf.nlen x.natAbs ≤ 1000000) (fy : hf.nlen y.natAbs ≤ 1000000) {g : Int} (hg : g = (x - y).sign) : Calls Try.prog 14 #[.agg #[.int .i64 s, .slice d l c], .agg #[.int .i64 t, .slice e m k]] w fun e' w' => e' = .returned (.int .i64 g) ∧ Below w.heap.size w w' := by
  obtain ⟨B0, xa, xb, hs⟩ := box1 w (.int .i64 s) (.slice d l c) (.int .i64 t) (.slice e m k) 27 27
  have HG : Hid _ := hg
  clear hg
  go_enter Try.func14, Try.ntmps14
  go_wp2_with (go_at_call 32; fail)
  refine (rwSub s t d e l c m k x y (x - y) _ (hx.below B0) (hy.below B0) fx fy rfl).mono ?_
  rintro e' w1 ⟨s1, a1, l1, c1, rfl, h1, f1, b1⟩
  obtain rfl : s1 = g := by rw [h1.sg]; exact HG.out.symm
  have EF := field_int s1 a1 l1 c1
  go_wp2
  go_ret
  exact ⟨rfl, also B0 b1⟩
end Go.Proofs.Ytlelbhiebmdnoaa

namespace Go.Proofs.Ytlelbhiebmdnoaa
open Go.RowKit
set_option linter.unusedVariables false

def RNIs (X : Int) (x : Value) (R : World → Prop) (A : Nat → Prop) : Prop := ∃ (s : Int) (d : Option Addr) (l c : Nat), x = .agg #[.int .i64 s, .slice d l c] ∧ R = (fun w => RN w s d l c X) ∧ A = fun k => NA k d l
def ValIs (x0 : Value) (x : Value) (R : World → Prop) (A : Nat → Prop) : Prop := x = x0 ∧ R = (fun _ => True) ∧ A = fun _ => True
theorem RN.apart {w : World} {s : Int} {d : Option Addr} {l c k : Nat} {X : Int} (h : RN w s d l c X) (hk : w.heap.size ≤ k) : NA k d l := h.hd.sl.na hk
theorem rnIs_good {X : Int} {x : Value} {R : World → Prop} {A : Nat → Prop} (h : RNIs X x R A) : (∀ w w', R w → Below w.heap.size w w' → R w') ∧ ∀ w k, R w → w.heap.size ≤ k → A k := by
  obtain ⟨s, d, l, c, rfl, rfl, rfl⟩ := h
  exact ⟨fun w w' h hb => h.below hb, fun w k h hk => RN.apart h hk⟩
theorem valIs_good {x0 x : Value} {R : World → Prop} {A : Nat → Prop} (h : ValIs x0 x R A) : (∀ w w', R w → Below w.heap.size w w' → R w') ∧ ∀ w k, R w → w.heap.size ≤ k → A k := by
  obtain ⟨rfl, rfl, rfl⟩ := h
  exact ⟨fun _ _ _ _ => trivial, fun _ _ _ _ => trivial⟩
end Go.Proofs.Ytlelbhiebmdnoaa

namespace Go.Proofs.Ytlelbhiebmdnoaa
variable {P : Program} {md : Region.Mode} {Q : Exit → Act → World → Prop} {S : World → Prop} {z : Nat}

/-- Whatever order is picked from here on; S holds behind every operation but the last one, number z. -/
def anyL (P : Program) (md : Region.Mode) (ops : Array Oper) (Q : Exit → Act → World → Prop) (S : World → Prop) (z : Nat) : Nat → Array Bool → Act → World → Prop
  | 0, L, a, w => Region.ready md ops L = [] ∧ Q .normal a w
  | f + 1, L, a, w => (Region.ready md ops L = [] → Q .normal a w) ∧ ∀ i ∈ Region.ready md ops L, wpOp P ops Q i (fun a' w' => (i ≠ z → S w') ∧ anyL P md ops Q S z f (L.setIfInBounds i true) a' w') a w
theorem anyL_any {ops : Array Oper} : ∀ (f : Nat) (L : Array Bool) (a : Act) (w : World), anyL P md ops Q S z f L a w → wpAny P md ops Q f L a w
  | 0, _, _, _, h => h
  | f + 1, _, _, _, h => ⟨h.1, fun i hi => wpOp_mono (fun a' w' h' => anyL_any f _ a' w' h'.2) (h.2 i hi)⟩
/-- An operation for which the last one waits, and which yields its value in every world that meets S, may be taken first. -/
theorem anyL_first {ops : Array Oper} {i : Nat} {oi : Oper} {v : Value} (hi : ops[i]? = some oi) (hs : Region.noSelect ops = true)
    (hz : ∀ oz, ops[z]? = some oz → ∃ e ∈ oz.after, Region.binds md e = true ∧ e.on = i) (hzi : i ≠ z) (hQ : ∀ c a w, Q (.panic c) (a.put oi.dst v) w → Q (.panic c) a w) :
    ∀ (f : Nat) (L : Array Bool) (a : Act) (w : World), Region.free md ops L i = true → i ∈ Region.ready md ops L → YieldsIf P ops S oi v a → S w →
      anyL P md ops Q S z f (L.setIfInBounds i true) (a.put oi.dst v) w → anyL P md ops Q S z (f + 1) L a w := by
  suffices H : ∀ (f : Nat) (L : Array Bool) (a : Act) (w : World),
      (∀ j oj, ops[j]? = some oj → j ≠ i → L.getD j true = false → (∀ e ∈ oj.after, Region.binds md e = true → e.on ≠ i) → oi.apart ops oj = true) →
      i ∈ Region.ready md ops L → YieldsIf P ops S oi v a → S w → anyL P md ops Q S z f (L.setIfInBounds i true) (a.put oi.dst v) w → anyL P md ops Q S z (f + 1) L a w from
    fun f L a w hf hr hy hS h => H f L a w (Region.free_spec hi hf) hr hy hS h
  have sel := Region.noSelect_spec hs
  intro f
  induction f with
  | zero =>
    intro L a w _ hr hy hS h
    refine ⟨fun e => absurd hr (by rw [e]; exact List.not_mem_nil), fun j hj => ?_⟩
    rcases Decidable.em (j = i) with rfl | hne
    · exact hy.wpOp hi hS ⟨fun _ => hS, h⟩
    · exact absurd (ready_mono hj hne) (by rw [h.1]; exact List.not_mem_nil)
  | succ f ih =>
    intro L a w hfree hr hy hS h
    refine ⟨fun e => absurd hr (by rw [e]; exact List.not_mem_nil), fun j hj => ?_⟩
    rcases Decidable.em (j = i) with rfl | hne
    · exact hy.wpOp hi hS ⟨fun _ => hS, h⟩
    obtain ⟨hun, oj, hoj, hall⟩ := mem_ready.1 hj
    have hi0 := (mem_ready.1 hr).1
    have hno : ∀ e ∈ oj.after, Region.binds md e = true → e.on ≠ i := by
      intro e he hb q
      have h1 := hall e he hb
      rw [q] at h1
      rcases Nat.lt_or_ge i L.size with g | g
      · simp [g] at hi0 h1
        rw [hi0] at h1
        cases h1
      · simp [Array.getElem?_eq_none g] at h1
    have hjz : j ≠ z := by
      rintro rfl
      obtain ⟨e, he, hb, q⟩ := hz oj hoj
      exact hno e he hb q
    have h2 := wpOp_putIf hoj (hfree j oj hoj hne hun hno) (fun cs b => sel i oi cs b hi) (fun cs b => sel j oj cs b hoj) hQ hy (h.2 j (ready_mono hj hne))
    refine wpOp_mono (fun a' w' h3 => ⟨h3.2.1, ih _ a' w' (fun k ok hk hki hku hkn => hfree k ok hk hki ?_ hkn) (ready_mono hr (Ne.symm hne)) h3.1 (h3.2.1 hjz) ?_⟩) h2
    · rcases Decidable.em (j = k) with rfl | q
      · exact hun
      · rwa [getD_set_ne true q] at hku
    · rw [Array.setIfInBounds_comm _ _ hne]
      exact h3.2.2
def waitsFor (md : Region.Mode) (ops : Array Oper) (z i : Nat) : Bool := ((ops[z]?).map fun o => o.after.any fun e => Region.binds md e && e.on == i).getD true
theorem waits_spec {ops : Array Oper} {i : Nat} (h : waitsFor md ops z i = true) : ∀ oz, ops[z]? = some oz → ∃ e ∈ oz.after, Region.binds md e = true ∧ e.on = i := by
  intro oz ho
  unfold waitsFor at h
  rw [ho] at h
  simp only [Option.map_some, Option.getD_some] at h
  obtain ⟨k, hk, hp⟩ := Array.any_eq_true.1 h
  rw [Bool.and_eq_true_iff] at hp
  exact ⟨_, Array.getElem_mem hk, hp.1, by simpa using hp.2⟩
theorem takeL_yes {l : List Oper} {i : Nat} {oi : Oper} {v : Value} {f : Nat} {L : Array Bool} {a : Act} {w : World} (hi : l[i]? = some oi)
    (hs : Region.noSelect l.toArray = true) (hf : Region.free md l.toArray L i = true) (hr : (Region.ready md l.toArray L).contains i = true) (hz : waitsFor md l.toArray z i = true) (hzi : i ≠ z)
    (hQ : ∀ c a w, Q (.panic c) (a.put oi.dst v) w → Q (.panic c) a w) (hw : Region.wanted oi (yielded l.toArray a.tmps) = true) (hS : S w)
    (hy : ∀ w, S w → (execOp a.eval oi).run P w = .ok (.value v) w)
    (h : anyL P md l.toArray Q S z f (L.setIfInBounds i true) (a.put oi.dst v) w) : anyL P md l.toArray Q S z (f + 1) L a w :=
  anyL_first (by simpa using hi) hs (waits_spec hz) hzi hQ f L a w hf (by simpa using hr) (Or.inl ⟨hw, hy⟩) hS h
theorem takeL_call {l : List Oper} {i : Nat} {o : Oper} {f : Nat} {L : Array Bool} {a : Act} {w : World} (ho : l[i]? = some o) (hr : Region.ready md l.toArray L = [i])
    (h : ∀ K' : Act → World → Prop, Shut (∀ a w, S w → (S w → anyL P md l.toArray Q S z f (L.setIfInBounds i true) a w) → K' a w) → if Region.wanted o (yielded l.toArray a.tmps) = true then Oper.wp P o a w K' Q else K' (a.put o.dst undef) w) :
    anyL P md l.toArray Q S z (f + 1) L a w := by
  refine ⟨fun e => (by rw [hr] at e; cases e), fun j hj => ?_⟩
  rw [hr, List.mem_singleton] at hj
  subst hj
  exact wpOp_step (by simpa using ho) (fun K' hK => h K' (fun a w hS hW => hK a w ⟨fun _ => hS, hW hS⟩))
theorem takeL_last {l : List Oper} {o : Oper} {f : Nat} {L : Array Bool} {a : Act} {w : World} (ho : l[z]? = some o) (hr : Region.ready md l.toArray L = [z])
    (h : ∀ K' : Act → World → Prop, Shut (∀ a w, anyL P md l.toArray Q S z f (L.setIfInBounds z true) a w → K' a w) → if Region.wanted o (yielded l.toArray a.tmps) = true then Oper.wp P o a w K' Q else K' (a.put o.dst undef) w) :
    anyL P md l.toArray Q S z (f + 1) L a w := by
  refine ⟨fun e => (by rw [hr] at e; cases e), fun j hj => ?_⟩
  rw [hr, List.mem_singleton] at hj
  subst hj
  exact wpOp_step (by simpa using ho) (fun K' hK => h K' (fun a w hW => hK a w ⟨fun q => absurd rfl q, hW⟩))
theorem anyL_done {l : List Oper} {L : Array Bool} {a : Act} {w : World} (hr : Region.ready md l.toArray L = []) (h : Q .normal a w) : ∀ f, anyL P md l.toArray Q S z f L a w
  | 0 => ⟨hr, h⟩
  | _ + 1 => ⟨fun _ => h, by rw [hr]; exact fun _ h => absurd h List.not_mem_nil⟩
theorem regionL {l : List Oper} (z : Nat) {id : Nat} {a : Act} {w : World} (hm : P.follows .mixedOrders = true) (hS : S w.drew)
    (h : S w.drew → anyL P .any l.toArray Q S z l.toArray.size (Array.replicate l.toArray.size false) a w.drew) : (Code.region id l.toArray true).wp P Q a w :=
  wp_region_any hm (anyL_any _ _ _ _ (h hS))
end Go.Proofs.Ytlelbhiebmdnoaa

namespace Go.Proofs.Ytlelbhiebmdnoaa.lq
open Go.RowKit

/-- Digit i of v, to the base 256 (of a number below nought: of v modulo as many digits as you like). -/
def dg (v : Int) (i : Nat) : Int := v / 256 ^ i % 256
theorem dg_range (v : Int) (i : Nat) : 0 ≤ dg v i ∧ dg v i < 256 := by unfold dg; omega
theorem p256 (i : Nat) : (0 : Int) < 256 ^ i := Int.pow_pos (by decide)
/-- n digits: at the places that p names those of u, at the others those of v. -/
def fill (n : Nat) (p : Nat → Bool) (u v : Int) : List Value := (List.range n).map fun j => .int .i64 (if p j then dg u j else dg v j)
def dcells (n : Nat) (v : Int) : List Value := (List.range n).map fun j => .int .i64 (dg v j)
def mix (n i : Nat) (u v : Int) : List Value := fill n (fun j => decide (j < i)) u v
theorem fill_length (n : Nat) (p : Nat → Bool) (u v : Int) : (fill n p u v).length = n := by simp [fill]
theorem mix_length (n i : Nat) (u v : Int) : (mix n i u v).length = n := fill_length _ _ _ _
theorem dcells_length (n : Nat) (v : Int) : (dcells n v).length = n := by simp [dcells]
theorem dcells_at (n : Nat) (v : Int) (i : Nat) (h : i < n) : (dcells n v)[i]? = some (.int .i64 (dg v i)) := by simp [dcells, h]
theorem fill_at (n : Nat) (p : Nat → Bool) (u v : Int) (i : Nat) (h : i < n) : (fill n p u v)[i]? = some (.int .i64 (if p i then dg u i else dg v i)) := by simp [fill, h]
theorem mix_at (n k : Nat) (u v : Int) (i : Nat) (h : i < n) (hk : k ≤ i) : (mix n k u v)[i]? = some (.int .i64 (dg v i)) := by
  rw [mix, fill_at _ _ _ _ _ h]; simp; omega
theorem fill_congr {n : Nat} {p q : Nat → Bool} {u v u' v' : Int} (h : ∀ j, j < n → (if p j then dg u j else dg v j) = (if q j then dg u' j else dg v' j)) : fill n p u v = fill n q u' v' := by
  unfold fill
  refine List.map_congr_left fun j hj => ?_
  rw [h j (by simpa using hj)]
theorem fill_set (n : Nat) (p : Nat → Bool) (u v : Int) (i : Nat) : (fill n p u v).set i (.int .i64 (dg u i)) = fill n (fun j => p j || j == i) u v := by
  refine List.ext_getElem? fun j => ?_
  rw [List.getElem?_set]
  by_cases e : i = j
  · subst e
    by_cases h : i < n
    · rw [if_pos rfl, if_pos (by rw [fill_length]; exact h), fill_at _ _ _ _ _ h]; simp
    · rw [if_pos rfl, if_neg (by rw [fill_length]; exact h), List.getElem?_eq_none (by rw [fill_length]; omega)]
  · by_cases h : j < n
    · rw [if_neg e, fill_at _ _ _ _ _ h, fill_at _ _ _ _ _ h]
      have e' : (j == i) = false := by simp; omega
      simp [e']
    · rw [if_neg e, List.getElem?_eq_none (by simp [fill_length]; omega), List.getElem?_eq_none (by simp [fill_length]; omega)]
theorem mix_set (n i : Nat) (u v : Int) : (mix n i u v).set i (.int .i64 (dg u i)) = mix n (i + 1) u v := by
  unfold mix
  rw [fill_set]
  refine fill_congr fun j _ => ?_
  have : (decide (j < i) || j == i) = decide (j < i + 1) := by rw [Bool.eq_iff_iff]; simp; omega
  rw [this]
theorem mix_zero (n : Nat) (u v : Int) : mix n 0 u v = dcells n v := by unfold mix fill dcells; simp
theorem mix_full (n : Nat) (u v : Int) : mix n n u v = dcells n u := by
  unfold mix fill dcells
  refine List.map_congr_left fun j hj => ?_
  have : j < n := by simpa using hj
  simp [this]
/-- The digits of two numbers that are the same modulo 256^i are the same below place i. -/
theorem dg_congr {u v : Int} {i j : Nat} (t : Int) (h : u = v + t * 256 ^ i) (hj : j < i) : dg u j = dg v j := by
  unfold dg
  obtain ⟨d, rfl⟩ : ∃ d, i = j + 1 + d := ⟨i - (j + 1), by omega⟩
  have e : t * (256 : Int) ^ (j + 1 + d) = (256 * (t * 256 ^ d)) * 256 ^ j := by
    rw [show j + 1 + d = d + 1 + j by omega, Int.pow_add, Int.pow_succ, ← Int.mul_assoc, ← Int.mul_assoc, Int.mul_comm (t * 256 ^ d) 256]
  rw [h, e, Int.add_mul_ediv_right _ _ (Int.ne_of_gt (p256 j))]
  omega
/-- The carry into place i when x and y are added. -/
def carry (x y : Int) (i : Nat) : Int := (x % 256 ^ i + y % 256 ^ i) / 256 ^ i
theorem carry_zero (x y : Int) : carry x y 0 = 0 := by simp [carry]
theorem emod_succ (x : Int) (i : Nat) : x % 256 ^ (i + 1) = dg x i * 256 ^ i + x % 256 ^ i := by
  unfold dg
  have hp := p256 i
  have h1 := Int.mul_ediv_add_emod x (256 ^ i)
  have h2 := Int.mul_ediv_add_emod (x / 256 ^ i) 256
  have b := Int.emod_nonneg x (Int.ne_of_gt hp)
  have b' := Int.emod_lt_of_pos x hp
  have c := Int.emod_nonneg (x / 256 ^ i) (show (256 : Int) ≠ 0 by decide)
  have c' := Int.emod_lt_of_pos (x / 256 ^ i) (show (0 : Int) < 256 by decide)
  have e : x = (x / 256 ^ i % 256 * 256 ^ i + x % 256 ^ i) + (x / 256 ^ i / 256) * 256 ^ (i + 1) := by
    have : (x / 256 ^ i / 256) * (256 : Int) ^ (i + 1) = (256 * (x / 256 ^ i / 256)) * 256 ^ i := by rw [Int.pow_succ, Int.mul_comm ((256 : Int) ^ i) 256, ← Int.mul_assoc, Int.mul_comm _ 256]
    rw [this]
    have h3 : (256 * (x / 256 ^ i / 256)) * (256 : Int) ^ i + x / 256 ^ i % 256 * 256 ^ i = x / 256 ^ i * 256 ^ i := by rw [← Int.add_mul, h2]
    have h4 : x / 256 ^ i * (256 : Int) ^ i = 256 ^ i * (x / 256 ^ i) := Int.mul_comm _ _
    omega
  have l0 : 0 ≤ x / 256 ^ i % 256 * 256 ^ i + x % 256 ^ i := Int.add_nonneg (Int.mul_nonneg c (Int.le_of_lt hp)) b
  have l1 : x / 256 ^ i % 256 * 256 ^ i + x % 256 ^ i < 256 ^ (i + 1) := by
    have : x / 256 ^ i % 256 * (256 : Int) ^ i ≤ 255 * 256 ^ i := Int.mul_le_mul_of_nonneg_right (by omega) (Int.le_of_lt hp)
    rw [Int.pow_succ]
    omega
  have key : x % 256 ^ (i + 1) = (x / 256 ^ i % 256 * 256 ^ i + x % 256 ^ i) % 256 ^ (i + 1) := by
    have := congrArg (· % (256 : Int) ^ (i + 1)) e
    simpa [Int.add_mul_emod_self_right] using this
  rw [key, Int.emod_eq_of_lt l0 l1]
theorem carry_sum (x y : Int) (i : Nat) : (x % 256 ^ (i + 1) + y % 256 ^ (i + 1)) / 256 ^ i = carry x y i + dg x i + dg y i := by
  rw [emod_succ, emod_succ]
  unfold carry
  have e : dg x i * 256 ^ i + x % 256 ^ i + (dg y i * 256 ^ i + y % 256 ^ i) = (x % 256 ^ i + y % 256 ^ i) + (dg x i + dg y i) * 256 ^ i := by rw [Int.add_mul]; omega
  rw [e, Int.add_mul_ediv_right _ _ (Int.ne_of_gt (p256 i))]
  omega
theorem carry_succ (x y : Int) (i : Nat) : carry x y (i + 1) = (carry x y i + dg x i + dg y i) / 256 := by
  rw [← carry_sum]
  show (x % 256 ^ (i + 1) + y % 256 ^ (i + 1)) / 256 ^ (i + 1) = _
  have hp := p256 i
  rw [Int.pow_succ, Int.ediv_ediv, if_neg (by omega)]
  omega
theorem add_digit (x y : Int) (i : Nat) : (carry x y i + dg x i + dg y i) % 256 = dg (x + y) i := by
  unfold dg carry
  have hp := p256 i
  have h1 := Int.mul_ediv_add_emod x (256 ^ i)
  have h2 := Int.mul_ediv_add_emod y (256 ^ i)
  have e : x + y = (x % 256 ^ i + y % 256 ^ i) + (x / 256 ^ i + y / 256 ^ i) * 256 ^ i := by
    have a1 : x / 256 ^ i * (256 : Int) ^ i = 256 ^ i * (x / 256 ^ i) := Int.mul_comm _ _
    have a2 : y / 256 ^ i * (256 : Int) ^ i = 256 ^ i * (y / 256 ^ i) := Int.mul_comm _ _
    rw [Int.add_mul]; omega
  have e2 : (x + y) / 256 ^ i = (x % 256 ^ i + y % 256 ^ i) / 256 ^ i + (x / 256 ^ i + y / 256 ^ i) := by
    conv => lhs; rw [e]
    exact Int.add_mul_ediv_right _ _ (Int.ne_of_gt hp)
  rw [e2]
  omega
theorem carry_range (x y : Int) (i : Nat) : 0 ≤ carry x y i ∧ carry x y i ≤ 1 := by
  unfold carry
  have hp := p256 i
  have a := Int.emod_nonneg x (Int.ne_of_gt hp)
  have a' := Int.emod_lt_of_pos x hp
  have b := Int.emod_nonneg y (Int.ne_of_gt hp)
  have b' := Int.emod_lt_of_pos y hp
  refine ⟨Int.ediv_nonneg (by omega) (by omega), ?_⟩
  have : (x % 256 ^ i + y % 256 ^ i) / 256 ^ i < 2 := Int.ediv_lt_of_lt_mul hp (by omega)
  omega
theorem neg_digit (x : Int) (i : Nat) : 255 - dg x i = dg (-1 - x) i := by
  unfold dg
  have hp := p256 i
  have h1 := Int.mul_ediv_add_emod x (256 ^ i)
  have a := Int.emod_nonneg x (Int.ne_of_gt hp)
  have a' := Int.emod_lt_of_pos x hp
  have e : -1 - x = (256 ^ i - 1 - x % 256 ^ i) + (-1 - x / 256 ^ i) * 256 ^ i := by
    have a1 : x / 256 ^ i * (256 : Int) ^ i = 256 ^ i * (x / 256 ^ i) := Int.mul_comm _ _
    rw [Int.sub_mul]; omega
  have e2 : (-1 - x) / 256 ^ i = -1 - x / 256 ^ i := by
    conv => lhs; rw [e]
    rw [Int.add_mul_ediv_right _ _ (Int.ne_of_gt hp), Int.ediv_eq_zero_of_lt (by omega) (by omega)]
    omega
  rw [e2]
  omega
end Go.Proofs.Ytlelbhiebmdnoaa.lq

namespace Go.Proofs.Ytlelbhiebmdnoaa.lq.q
open Go.RowKit

/-- Digit i of v, to the base 18446744073709551616 (of a number below nought: of v modulo as many digits as you like). -/
def dg (v : Int) (i : Nat) : Int := v / 18446744073709551616 ^ i % 18446744073709551616
theorem dg_range (v : Int) (i : Nat) : 0 ≤ dg v i ∧ dg v i < 18446744073709551616 := by unfold dg; omega
theorem p256 (i : Nat) : (0 : Int) < 18446744073709551616 ^ i := Int.pow_pos (by decide)
/-- n digits: at the places that p names those of u, at the others those of v. -/
def fill (n : Nat) (p : Nat → Bool) (u v : Int) : List Value := (List.range n).map fun j => .int .u64 (if p j then dg u j else dg v j)
def dcells (n : Nat) (v : Int) : List Value := (List.range n).map fun j => .int .u64 (dg v j)
def mix (n i : Nat) (u v : Int) : List Value := fill n (fun j => decide (j < i)) u v
theorem fill_length (n : Nat) (p : Nat → Bool) (u v : Int) : (fill n p u v).length = n := by simp [fill]
theorem mix_length (n i : Nat) (u v : Int) : (mix n i u v).length = n := fill_length _ _ _ _
theorem dcells_length (n : Nat) (v : Int) : (dcells n v).length = n := by simp [dcells]
theorem dcells_at (n : Nat) (v : Int) (i : Nat) (h : i < n) : (dcells n v)[i]? = some (.int .u64 (dg v i)) := by simp [dcells, h]
theorem fill_at (n : Nat) (p : Nat → Bool) (u v : Int) (i : Nat) (h : i < n) : (fill n p u v)[i]? = some (.int .u64 (if p i then dg u i else dg v i)) := by simp [fill, h]
theorem mix_at (n k : Nat) (u v : Int) (i : Nat) (h : i < n) (hk : k ≤ i) : (mix n k u v)[i]? = some (.int .u64 (dg v i)) := by
  rw [mix, fill_at _ _ _ _ _ h]; simp; omega
theorem fill_congr {n : Nat} {p q : Nat → Bool} {u v u' v' : Int} (h : ∀ j, j < n → (if p j then dg u j else dg v j) = (if q j then dg u' j else dg v' j)) : fill n p u v = fill n q u' v' := by
  unfold fill
  refine List.map_congr_left fun j hj => ?_
  rw [h j (by simpa using hj)]
theorem fill_set (n : Nat) (p : Nat → Bool) (u v : Int) (i : Nat) : (fill n p u v).set i (.int .u64 (dg u i)) = fill n (fun j => p j || j == i) u v := by
  refine List.ext_getElem? fun j => ?_
  rw [List.getElem?_set]
  by_cases e : i = j
  · subst e
    by_cases h : i < n
    · rw [if_pos rfl, if_pos (by rw [fill_length]; exact h), fill_at _ _ _ _ _ h]; simp
    · rw [if_pos rfl, if_neg (by rw [fill_length]; exact h), List.getElem?_eq_none (by rw [fill_length]; omega)]
  · by_cases h : j < n
    · rw [if_neg e, fill_at _ _ _ _ _ h, fill_at _ _ _ _ _ h]
      have e' : (j == i) = false := by simp; omega
      simp [e']
    · rw [if_neg e, List.getElem?_eq_none (by simp [fill_length]; omega), List.getElem?_eq_none (by simp [fill_length]; omega)]
theorem mix_set (n i : Nat) (u v : Int) : (mix n i u v).set i (.int .u64 (dg u i)) = mix n (i + 1) u v := by
  unfold mix
  rw [fill_set]
  refine fill_congr fun j _ => ?_
  have : (decide (j < i) || j == i) = decide (j < i + 1) := by rw [Bool.eq_iff_iff]; simp; omega
  rw [this]
theorem mix_zero (n : Nat) (u v : Int) : mix n 0 u v = dcells n v := by unfold mix fill dcells; simp
theorem mix_full (n : Nat) (u v : Int) : mix n n u v = dcells n u := by
  unfold mix fill dcells
  refine List.map_congr_left fun j hj => ?_
  have : j < n := by simpa using hj
  simp [this]
/-- The digits of two numbers that are the same modulo 18446744073709551616^i are the same below place i. -/
theorem dg_congr {u v : Int} {i j : Nat} (t : Int) (h : u = v + t * 18446744073709551616 ^ i) (hj : j < i) : dg u j = dg v j := by
  unfold dg
  obtain ⟨d, rfl⟩ : ∃ d, i = j + 1 + d := ⟨i - (j + 1), by omega⟩
  have e : t * (18446744073709551616 : Int) ^ (j + 1 + d) = (18446744073709551616 * (t * 18446744073709551616 ^ d)) * 18446744073709551616 ^ j := by
    rw [show j + 1 + d = d + 1 + j by omega, Int.pow_add, Int.pow_succ, ← Int.mul_assoc, ← Int.mul_assoc, Int.mul_comm (t * 18446744073709551616 ^ d) 18446744073709551616]
  rw [h, e, Int.add_mul_ediv_right _ _ (Int.ne_of_gt (p256 j))]
  omega
/-- The carry into place i when x and y are added. -/
def carry (x y : Int) (i : Nat) : Int := (x % 18446744073709551616 ^ i + y % 18446744073709551616 ^ i) / 18446744073709551616 ^ i
theorem carry_zero (x y : Int) : carry x y 0 = 0 := by simp [carry]
theorem emod_succ (x : Int) (i : Nat) : x % 18446744073709551616 ^ (i + 1) = dg x i * 18446744073709551616 ^ i + x % 18446744073709551616 ^ i := by
  unfold dg
  have hp := p256 i
  have h1 := Int.mul_ediv_add_emod x (18446744073709551616 ^ i)
  have h2 := Int.mul_ediv_add_emod (x / 18446744073709551616 ^ i) 18446744073709551616
  have b := Int.emod_nonneg x (Int.ne_of_gt hp)
  have b' := Int.emod_lt_of_pos x hp
  have c := Int.emod_nonneg (x / 18446744073709551616 ^ i) (show (18446744073709551616 : Int) ≠ 0 by decide)
  have c' := Int.emod_lt_of_pos (x / 18446744073709551616 ^ i) (show (0 : Int) < 18446744073709551616 by decide)
  have e : x = (x / 18446744073709551616 ^ i % 18446744073709551616 * 18446744073709551616 ^ i + x % 18446744073709551616 ^ i) + (x / 18446744073709551616 ^ i / 18446744073709551616) * 18446744073709551616 ^ (i + 1) := by
    have : (x / 18446744073709551616 ^ i / 18446744073709551616) * (18446744073709551616 : Int) ^ (i + 1) = (18446744073709551616 * (x / 18446744073709551616 ^ i / 18446744073709551616)) * 18446744073709551616 ^ i := by rw [Int.pow_succ, Int.mul_comm ((18446744073709551616 : Int) ^ i) 18446744073709551616, ← Int.mul_assoc, Int.mul_comm _ 18446744073709551616]
    rw [this]
    have h3 : (18446744073709551616 * (x / 18446744073709551616 ^ i / 18446744073709551616)) * (18446744073709551616 : Int) ^ i + x / 18446744073709551616 ^ i % 18446744073709551616 * 18446744073709551616 ^ i = x / 18446744073709551616 ^ i * 18446744073709551616 ^ i := by rw [← Int.add_mul, h2]
    have h4 : x / 18446744073709551616 ^ i * (18446744073709551616 : Int) ^ i = 18446744073709551616 ^ i * (x / 18446744073709551616 ^ i) := Int.mul_comm _ _
    omega
  have l0 : 0 ≤ x / 18446744073709551616 ^ i % 18446744073709551616 * 18446744073709551616 ^ i + x % 18446744073709551616 ^ i := Int.add_nonneg (Int.mul_nonneg c (Int.le_of_lt hp)) b
  have l1 : x / 18446744073709551616 ^ i % 18446744073709551616 * 18446744073709551616 ^ i + x % 18446744073709551616 ^ i < 18446744073709551616 ^ (i + 1) := by
    have : x / 18446744073709551616 ^ i % 18446744073709551616 * (18446744073709551616 : Int) ^ i ≤ 18446744073709551615 * 18446744073709551616 ^ i := Int.mul_le_mul_of_nonneg_right (by omega) (Int.le_of_lt hp)
    rw [Int.pow_succ]
    omega
  have key : x % 18446744073709551616 ^ (i + 1) = (x / 18446744073709551616 ^ i % 18446744073709551616 * 18446744073709551616 ^ i + x % 18446744073709551616 ^ i) % 18446744073709551616 ^ (i + 1) := by
    have := congrArg (· % (18446744073709551616 : Int) ^ (i + 1)) e
    simpa [Int.add_mul_emod_self_right] using this
  rw [key, Int.emod_eq_of_lt l0 l1]
theorem carry_sum (x y : Int) (i : Nat) : (x % 18446744073709551616 ^ (i + 1) + y % 18446744073709551616 ^ (i + 1)) / 18446744073709551616 ^ i = carry x y i + dg x i + dg y i := by
  rw [emod_succ, emod_succ]
  unfold carry
  have e : dg x i * 18446744073709551616 ^ i + x % 18446744073709551616 ^ i + (dg y i * 18446744073709551616 ^ i + y % 18446744073709551616 ^ i) = (x % 18446744073709551616 ^ i + y % 18446744073709551616 ^ i) + (dg x i + dg y i) * 18446744073709551616 ^ i := by rw [Int.add_mul]; omega
  rw [e, Int.add_mul_ediv_right _ _ (Int.ne_of_gt (p256 i))]
  omega
theorem carry_succ (x y : Int) (i : Nat) : carry x y (i + 1) = (carry x y i + dg x i + dg y i) / 18446744073709551616 := by
  rw [← carry_sum]
  show (x % 18446744073709551616 ^ (i + 1) + y % 18446744073709551616 ^ (i + 1)) / 18446744073709551616 ^ (i + 1) = _
  have hp := p256 i
  rw [Int.pow_succ, Int.ediv_ediv, if_neg (by omega)]
  omega
theorem add_digit (x y : Int) (i : Nat) : (carry x y i + dg x i + dg y i) % 18446744073709551616 = dg (x + y) i := by
  unfold dg carry
  have hp := p256 i
  have h1 := Int.mul_ediv_add_emod x (18446744073709551616 ^ i)
  have h2 := Int.mul_ediv_add_emod y (18446744073709551616 ^ i)
  have e : x + y = (x % 18446744073709551616 ^ i + y % 18446744073709551616 ^ i) + (x / 18446744073709551616 ^ i + y / 18446744073709551616 ^ i) * 18446744073709551616 ^ i := by
    have a1 : x / 18446744073709551616 ^ i * (18446744073709551616 : Int) ^ i = 18446744073709551616 ^ i * (x / 18446744073709551616 ^ i) := Int.mul_comm _ _
    have a2 : y / 18446744073709551616 ^ i * (18446744073709551616 : Int) ^ i = 18446744073709551616 ^ i * (y / 18446744073709551616 ^ i) := Int.mul_comm _ _
    rw [Int.add_mul]; omega
  have e2 : (x + y) / 18446744073709551616 ^ i = (x % 18446744073709551616 ^ i + y % 18446744073709551616 ^ i) / 18446744073709551616 ^ i + (x / 18446744073709551616 ^ i + y / 18446744073709551616 ^ i) := by
    conv => lhs; rw [e]
    exact Int.add_mul_ediv_right _ _ (Int.ne_of_gt hp)
  rw [e2]
  omega
theorem carry_range (x y : Int) (i : Nat) : 0 ≤ carry x y i ∧ carry x y i ≤ 1 := by
  unfold carry
  have hp := p256 i
  have a := Int.emod_nonneg x (Int.ne_of_gt hp)
  have a' := Int.emod_lt_of_pos x hp
  have b := Int.emod_nonneg y (Int.ne_of_gt hp)
  have b' := Int.emod_lt_of_pos y hp
  refine ⟨Int.ediv_nonneg (by omega) (by omega), ?_⟩
  have : (x % 18446744073709551616 ^ i + y % 18446744073709551616 ^ i) / 18446744073709551616 ^ i < 2 := Int.ediv_lt_of_lt_mul hp (by omega)
  omega
theorem neg_digit (x : Int) (i : Nat) : 18446744073709551615 - dg x i = dg (-1 - x) i := by
  unfold dg
  have hp := p256 i
  have h1 := Int.mul_ediv_add_emod x (18446744073709551616 ^ i)
  have a := Int.emod_nonneg x (Int.ne_of_gt hp)
  have a' := Int.emod_lt_of_pos x hp
  have e : -1 - x = (18446744073709551616 ^ i - 1 - x % 18446744073709551616 ^ i) + (-1 - x / 18446744073709551616 ^ i) * 18446744073709551616 ^ i := by
    have a1 : x / 18446744073709551616 ^ i * (18446744073709551616 : Int) ^ i = 18446744073709551616 ^ i * (x / 18446744073709551616 ^ i) := Int.mul_comm _ _
    rw [Int.sub_mul]; omega
  have e2 : (-1 - x) / 18446744073709551616 ^ i = -1 - x / 18446744073709551616 ^ i := by
    conv => lhs; rw [e]
    rw [Int.add_mul_ediv_right _ _ (Int.ne_of_gt hp), Int.ediv_eq_zero_of_lt (by omega) (by omega)]
    omega
  rw [e2]
  omega
end Go.Proofs.Ytlelbhiebmdnoaa.lq.q

namespace Go.Proofs.Ytlelbhiebmdnoaa.lq.q
set_option linter.unusedVariables false

/-- What stands below place i + k, and over it, when k digits of y have been taken times digit i of x. -/
def tk (O xi y : Int) (i k : Nat) : Int := O % 18446744073709551616 ^ (i + k) + xi * 18446744073709551616 ^ i * (y % 18446744073709551616 ^ k)
def cy (O xi y : Int) (i k : Nat) : Int := tk O xi y i k / 18446744073709551616 ^ (i + k)
theorem pow_ik (i k : Nat) : (18446744073709551616 : Int) ^ (i + k) = 18446744073709551616 ^ i * 18446744073709551616 ^ k := Int.pow_add _ _ _
theorem tk_succ (O xi y : Int) (i k : Nat) : tk O xi y i (k + 1) = tk O xi y i k + (dg O (i + k) + xi * dg y k) * 18446744073709551616 ^ (i + k) := by
  unfold tk
  rw [← Nat.add_assoc, emod_succ, emod_succ, Int.add_mul, Int.mul_add, pow_ik]
  have e : xi * 18446744073709551616 ^ i * (dg y k * 18446744073709551616 ^ k) = xi * dg y k * (18446744073709551616 ^ i * 18446744073709551616 ^ k) := by
    rw [Int.mul_assoc xi, Int.mul_left_comm (18446744073709551616 ^ i) (dg y k), Int.mul_assoc xi (dg y k)]
  rw [e]; omega
theorem cy_sum (O xi y : Int) (i k : Nat) : tk O xi y i (k + 1) / 18446744073709551616 ^ (i + k) = cy O xi y i k + dg O (i + k) + xi * dg y k := by
  rw [tk_succ, Int.add_mul_ediv_right _ _ (Int.ne_of_gt (p256 _))]; unfold cy; omega
theorem cy_succ (O xi y : Int) (i k : Nat) : cy O xi y i (k + 1) = (cy O xi y i k + dg O (i + k) + xi * dg y k) / 18446744073709551616 := by
  rw [← cy_sum]
  show tk O xi y i (k + 1) / 18446744073709551616 ^ (i + k + 1) = _
  have hp := p256 (i + k)
  rw [Int.pow_succ, Int.ediv_ediv, if_neg (by omega)]; omega
theorem mul_digit (O xi y : Int) (i k : Nat) : (cy O xi y i k + dg O (i + k) + xi * dg y k) % 18446744073709551616 = dg (O + xi * 18446744073709551616 ^ i * y) (i + k) := by
  rw [← cy_sum]
  show dg (tk O xi y i (k + 1)) (i + k) = _
  refine (dg_congr (i := i + k + 1) (O / 18446744073709551616 ^ (i + k + 1) + xi * (y / 18446744073709551616 ^ (k + 1))) ?_ (by omega)).symm
  unfold tk
  have h1 := Int.mul_ediv_add_emod O (18446744073709551616 ^ (i + k + 1))
  have h2 := Int.mul_ediv_add_emod y (18446744073709551616 ^ (k + 1))
  have e0 : i + (k + 1) = i + k + 1 := by omega
  rw [e0, Int.add_mul]
  have e1 : O / 18446744073709551616 ^ (i + k + 1) * (18446744073709551616 : Int) ^ (i + k + 1) = 18446744073709551616 ^ (i + k + 1) * (O / 18446744073709551616 ^ (i + k + 1)) := Int.mul_comm _ _
  have e2 : xi * (y / 18446744073709551616 ^ (k + 1)) * (18446744073709551616 : Int) ^ (i + k + 1) = xi * 18446744073709551616 ^ i * (18446744073709551616 ^ (k + 1) * (y / 18446744073709551616 ^ (k + 1))) := by
    rw [← e0, pow_ik i (k + 1)]
    generalize (18446744073709551616 : Int) ^ (k + 1) = K
    rw [Int.mul_assoc xi, Int.mul_assoc xi, Int.mul_left_comm (y / K) (18446744073709551616 ^ i) K, Int.mul_comm (y / K) K]
  have e3 : xi * 18446744073709551616 ^ i * y = xi * 18446744073709551616 ^ i * (18446744073709551616 ^ (k + 1) * (y / 18446744073709551616 ^ (k + 1))) + xi * 18446744073709551616 ^ i * (y % 18446744073709551616 ^ (k + 1)) := by rw [← Int.mul_add, h2]
  rw [e1, e2, e3]; omega
theorem cy_zero (O xi y : Int) (i : Nat) : cy O xi y i 0 = 0 := by
  unfold cy tk
  have hp := p256 i
  have a := Int.emod_nonneg O (Int.ne_of_gt hp)
  have a' := Int.emod_lt_of_pos O hp
  have e : y % (18446744073709551616 : Int) ^ 0 = 0 := by simp [Int.emod_one]
  rw [e]
  simp only [Nat.add_zero, Int.mul_zero, Int.add_zero]
  exact Int.ediv_eq_zero_of_lt a a'
theorem cy_range (O xi y : Int) (i k : Nat) (h0 : 0 ≤ xi) (h1 : xi < 18446744073709551616) : 0 ≤ cy O xi y i k ∧ cy O xi y i k ≤ 18446744073709551615 := by
  unfold cy tk
  have hp := p256 (i + k)
  have hi := p256 i
  have hk := p256 k
  have a := Int.emod_nonneg O (Int.ne_of_gt hp)
  have a' := Int.emod_lt_of_pos O hp
  have b := Int.emod_nonneg y (Int.ne_of_gt hk)
  have b' := Int.emod_lt_of_pos y hk
  have c : 0 ≤ xi * 18446744073709551616 ^ i * (y % 18446744073709551616 ^ k) := Int.mul_nonneg (Int.mul_nonneg h0 (Int.le_of_lt hi)) b
  have c' : xi * 18446744073709551616 ^ i * (y % 18446744073709551616 ^ k) ≤ 18446744073709551615 * 18446744073709551616 ^ (i + k) := by
    rw [pow_ik, ← Int.mul_assoc]
    exact Int.mul_le_mul (Int.mul_le_mul_of_nonneg_right (by omega) (Int.le_of_lt hi)) (by omega) b (Int.mul_nonneg (by decide) (Int.le_of_lt hi))
  refine ⟨Int.ediv_nonneg (by omega) (by omega), ?_⟩
  have : (O % 18446744073709551616 ^ (i + k) + xi * 18446744073709551616 ^ i * (y % 18446744073709551616 ^ k)) / 18446744073709551616 ^ (i + k) < 18446744073709551616 := Int.ediv_lt_of_lt_mul hp (by omega)
  omega
theorem mul_next (x y : Int) (i : Nat) : x % 18446744073709551616 ^ i * y + dg x i * 18446744073709551616 ^ i * y = x % 18446744073709551616 ^ (i + 1) * y := by rw [emod_succ, Int.add_mul]; omega
theorem mix_start (n i : Nat) (O xi y : Int) : mix n i (O + xi * 18446744073709551616 ^ i * y) O = dcells n O := by
  rw [← mix_zero n O O]
  refine fill_congr fun j _ => ?_
  by_cases h : j < i
  · have e : dg (O + xi * 18446744073709551616 ^ i * y) j = dg O j := dg_congr (i := i) (xi * y) (by rw [Int.mul_assoc, Int.mul_comm (18446744073709551616 ^ i) y, ← Int.mul_assoc]) h
    simp [h, e]
  · simp [h]
end Go.Proofs.Ytlelbhiebmdnoaa.lq.q

namespace Go.Proofs.Ytlelbhiebmdnoaa.lq
open Go.RowKit

/-- The high word, with its sign, of a number taken modulo 2^128. -/
def hi (v : Int) : Int := (v / 18446744073709551616 + 9223372036854775808) % 18446744073709551616 - 9223372036854775808
/-- The low word, without a sign. -/
def lo (v : Int) : Int := v % 18446744073709551616

theorem lo_range (v : Int) : 0 ≤ lo v ∧ lo v < 18446744073709551616 := by unfold lo; omega
/-- The borrow, under a name. -/
def bor (x y : Int) : Int := if x < y then 1 else 0
theorem bor_range (x y : Int) : 0 ≤ bor x y ∧ bor x y ≤ 1 := by unfold bor; split <;> decide

theorem hi_0 : (0 : Int) = hi 0 := by decide
theorem lo_0 : (0 : Int) = lo 0 := by decide
theorem add_lo (a b : Int) : (lo a + lo b) % 18446744073709551616 = lo (a + b) := by unfold lo; omega
theorem add_hi (a b : Int) : wrap64 ((IntKind.u64.wrap (hi a) + IntKind.u64.wrap (hi b) + (lo a + lo b) / 18446744073709551616) % 18446744073709551616) = hi (a + b) := by
  rw [IntKind.wrap_u64, IntKind.wrap_u64]; unfold hi lo wrap64; omega
theorem sub_lo (a b : Int) : (lo a - lo b) % 18446744073709551616 = lo (a - b) := by unfold lo; omega
theorem sub_hi (a b : Int) : wrap64 ((IntKind.u64.wrap (hi a) - IntKind.u64.wrap (hi b) - bor (lo a) (lo b)) % 18446744073709551616) = hi (a - b) := by
  rw [IntKind.wrap_u64, IntKind.wrap_u64]; unfold bor wrap64; split <;> (simp only [hi, lo] at *; omega)
theorem mask32 (x : Int) (h0 : 0 ≤ x) (h1 : x < 18446744073709551616) : bits .and .u64 x 4294967295 = x % 4294967296 := by
  obtain ⟨n, rfl⟩ := Int.eq_ofNat_of_zero_le h0
  have h := bits_and_u64_nat n 4294967295 (by omega) (by omega)
  have e : n &&& 4294967295 = n % 4294967296 := Nat.and_two_pow_sub_one_eq_mod n 32
  rw [e] at h
  exact h.trans (by omega)
theorem half_mul (a b : Int) (a0 : 0 ≤ a) (a1 : a < 4294967296) (b0 : 0 ≤ b) (b1 : b < 4294967296) : 0 ≤ a * b ∧ a * b ≤ 18446744065119617025 := by
  refine ⟨Int.mul_nonneg a0 b0, ?_⟩
  have := Int.mul_le_mul (show a ≤ 4294967295 by omega) (show b ≤ 4294967295 by omega) b0 (by decide)
  omega
theorem school (a b c d : Int) : (a * 4294967296 + b) * (c * 4294967296 + d) = a * c * 18446744073709551616 + a * d * 4294967296 + b * c * 4294967296 + b * d := by
  have h1 : a * 4294967296 * (c * 4294967296) = a * c * (4294967296 * 4294967296) := by rw [Int.mul_assoc a, Int.mul_left_comm 4294967296 c, ← Int.mul_assoc]
  have h2 : a * 4294967296 * d = a * d * 4294967296 := by rw [Int.mul_assoc a, Int.mul_comm 4294967296 d, ← Int.mul_assoc]
  have h3 : b * (c * 4294967296) = b * c * 4294967296 := (Int.mul_assoc b c _).symm
  rw [Int.add_mul, Int.mul_add, Int.mul_add, h1, h2, h3]
  omega
theorem mul64_hi (x y : Int) (x0 : 0 ≤ x) (x1 : x < 18446744073709551616) (y0 : 0 ≤ y) (y1 : y < 18446744073709551616) :
    IntKind.u64.wrap (IntKind.u64.wrap (IntKind.u64.wrap (x / 4294967296 * (y / 4294967296)) + IntKind.u64.wrap (IntKind.u64.wrap (x / 4294967296 * bits .and .u64 y 4294967295) + IntKind.u64.wrap (bits .and .u64 x 4294967295 * bits .and .u64 y 4294967295) / 4294967296) / 4294967296) +
      IntKind.u64.wrap (bits .and .u64 (IntKind.u64.wrap (IntKind.u64.wrap (x / 4294967296 * bits .and .u64 y 4294967295) + IntKind.u64.wrap (bits .and .u64 x 4294967295 * bits .and .u64 y 4294967295) / 4294967296)) 4294967295 + IntKind.u64.wrap (bits .and .u64 x 4294967295 * (y / 4294967296))) / 4294967296) = x * y / 18446744073709551616 := by
  rw [mask32 x x0 x1, mask32 y y0 y1, mask32 (IntKind.u64.wrap _) (wrap_u64_nonneg _) (by rw [IntKind.wrap_u64]; omega)]
  have e := school (x / 4294967296) (x % 4294967296) (y / 4294967296) (y % 4294967296)
  have ex : x / 4294967296 * 4294967296 + x % 4294967296 = x := by omega
  have ey : y / 4294967296 * 4294967296 + y % 4294967296 = y := by omega
  rw [ex, ey] at e
  rw [e]
  have b1 := half_mul (x / 4294967296) (y / 4294967296) (by omega) (by omega) (by omega) (by omega)
  have b2 := half_mul (x / 4294967296) (y % 4294967296) (by omega) (by omega) (by omega) (by omega)
  have b3 := half_mul (x % 4294967296) (y / 4294967296) (by omega) (by omega) (by omega) (by omega)
  have b4 := half_mul (x % 4294967296) (y % 4294967296) (by omega) (by omega) (by omega) (by omega)
  clear e ex ey
  generalize x / 4294967296 * (y / 4294967296) = p1 at *
  generalize x / 4294967296 * (y % 4294967296) = p2 at *
  generalize x % 4294967296 * (y / 4294967296) = p3 at *
  generalize x % 4294967296 * (y % 4294967296) = p4 at *
  simp only [IntKind.wrap_u64]
  omega

/-- What is left of a product of two words that were taken without their signs. -/
theorem mul_lo (a b : Int) : IntKind.u64.wrap a * IntKind.u64.wrap b % 18446744073709551616 = lo (a * b) := by
  rw [IntKind.wrap_u64, IntKind.wrap_u64]; unfold lo; exact (Int.mul_emod a b _).symm
theorem ret_tup2 {k l : IntKind} {a b c d : Int} (h : a = c) (h' : b = d) : Ending.returned (.tuple #[.int k a, .int l b]) = .returned (.tuple #[.int k c, .int l d]) := by rw [h, h']
theorem ret_int {k : IntKind} {a b : Int} (h : a = b) : Ending.returned (.int k a) = .returned (.int k b) := by rw [h]

theorem bd_i64 {x : Int} (h : (Lit.int .i64 x).wf = true) : -9223372036854775808 ≤ x ∧ x ≤ 9223372036854775807 := by
  simp [Lit.wf, IntKind.min, IntKind.max, IntKind.signed, IntKind.bits] at h
  exact ⟨by omega, by omega⟩
/-- -1, 0, 1: how two numbers lie. -/
def cmpI (x y : Int) : Int := if x < y then -1 else if y < x then 1 else 0
end Go.Proofs.Ytlelbhiebmdnoaa.lq

namespace Go.Proofs.Ytlelbhiebmdnoaa.lq
open Go.RowKit
set_option linter.unusedVariables false

/-- The four words of a number, modulo 2^256. -/
def Wd (a a0 a1 a2 a3 : Int) : Prop := a0 = q.dg a 0 ∧ a1 = q.dg a 1 ∧ a2 = q.dg a 2 ∧ a3 = q.dg a 3
theorem wd_self (a : Int) : Wd a (q.dg a 0) (q.dg a 1) (q.dg a 2) (q.dg a 3) := ⟨rfl, rfl, rfl, rfl⟩
theorem qdg_0 (j : Nat) : q.dg 0 j = 0 := by simp [q.dg]
theorem qcells (a : Int) : q.dcells 4 a = [.int .u64 (q.dg a 0), .int .u64 (q.dg a 1), .int .u64 (q.dg a 2), .int .u64 (q.dg a 3)] := by simp [q.dcells, List.range, List.range.loop]
theorem qcells_0 : q.dcells 4 0 = [.int .u64 0, .int .u64 0, .int .u64 0, .int .u64 0] := by rw [qcells]; simp [qdg_0]
/-- A row of four. -/
theorem row4 {w : World} {b : Nat} {v0 v1 v2 v3 : Value} (h : Row w b [v0, v1, v2, v3]) : w.cell? ⟨b, 0, none⟩ = some v0 ∧ w.cell? ⟨b, 1, none⟩ = some v1 ∧ w.cell? ⟨b, 2, none⟩ = some v2 ∧ w.cell? ⟨b, 3, none⟩ = some v3 ∧
    w.frozen? ⟨b, 0, none⟩ = false ∧ w.frozen? ⟨b, 1, none⟩ = false ∧ w.frozen? ⟨b, 2, none⟩ = false ∧ w.frozen? ⟨b, 3, none⟩ = false :=
  ⟨h.cell 0 _ rfl, h.cell 1 _ rfl, h.cell 2 _ rfl, h.cell 3 _ rfl, h.free 0 (by simp), h.free 1 (by simp), h.free 2 (by simp), h.free 3 (by simp)⟩
theorem _root_.Go.Proofs.Ytlelbhiebmdnoaa.Row.cells {w : World} {b : Nat} {xs ys : List Value} (h : Row w b xs) (e : xs = ys) : Row w b ys := e ▸ h
/-- The borrow out of the places below i when y is taken off x. -/
def bw (x y : Int) (i : Nat) : Int := -((x % 18446744073709551616 ^ i - y % 18446744073709551616 ^ i) / 18446744073709551616 ^ i)
theorem bw_zero (x y : Int) : bw x y 0 = 0 := by simp [bw, Int.emod_one]
theorem bw_sum (x y : Int) (i : Nat) : (x % 18446744073709551616 ^ (i + 1) - y % 18446744073709551616 ^ (i + 1)) / 18446744073709551616 ^ i = q.dg x i - q.dg y i - bw x y i := by
  rw [q.emod_succ, q.emod_succ]
  unfold bw
  have e : q.dg x i * 18446744073709551616 ^ i + x % 18446744073709551616 ^ i - (q.dg y i * 18446744073709551616 ^ i + y % 18446744073709551616 ^ i) = (x % 18446744073709551616 ^ i - y % 18446744073709551616 ^ i) + (q.dg x i - q.dg y i) * 18446744073709551616 ^ i := by rw [Int.sub_mul]; omega
  rw [e, Int.add_mul_ediv_right _ _ (Int.ne_of_gt (q.p256 i))]
  omega
theorem bw_range (x y : Int) (i : Nat) : 0 ≤ bw x y i ∧ bw x y i ≤ 1 := by
  unfold bw
  have hp := q.p256 i
  have a := Int.emod_nonneg x (Int.ne_of_gt hp)
  have a' := Int.emod_lt_of_pos x hp
  have b := Int.emod_nonneg y (Int.ne_of_gt hp)
  have b' := Int.emod_lt_of_pos y hp
  have h1 : (x % 18446744073709551616 ^ i - y % 18446744073709551616 ^ i) / 18446744073709551616 ^ i < 1 := Int.ediv_lt_of_lt_mul hp (by omega)
  have h2 : -1 ≤ (x % 18446744073709551616 ^ i - y % 18446744073709551616 ^ i) / 18446744073709551616 ^ i := Int.le_ediv_of_mul_le hp (by omega)
  omega
theorem bw_succ (x y : Int) (i : Nat) : bor (q.dg x i) (q.dg y i + bw x y i) = bw x y (i + 1) := by
  have e : bw x y (i + 1) = -((q.dg x i - q.dg y i - bw x y i) / 18446744073709551616) := by
    rw [← bw_sum]
    show -((x % 18446744073709551616 ^ (i + 1) - y % 18446744073709551616 ^ (i + 1)) / 18446744073709551616 ^ (i + 1)) = _
    have hp := q.p256 i
    rw [Int.pow_succ, Int.ediv_ediv, if_neg (by omega)]
    omega
  rw [e]
  have h := bw_range x y i
  have a := q.dg_range x i
  have b := q.dg_range y i
  unfold bor
  split <;> omega
theorem sub_digit (x y : Int) (i : Nat) : (q.dg x i - q.dg y i - bw x y i) % 18446744073709551616 = q.dg (x - y) i := by
  unfold q.dg bw
  have hp := q.p256 i
  have h1 := Int.mul_ediv_add_emod x (18446744073709551616 ^ i)
  have h2 := Int.mul_ediv_add_emod y (18446744073709551616 ^ i)
  have e : x - y = (x % 18446744073709551616 ^ i - y % 18446744073709551616 ^ i) + (x / 18446744073709551616 ^ i - y / 18446744073709551616 ^ i) * 18446744073709551616 ^ i := by
    have a1 : x / 18446744073709551616 ^ i * (18446744073709551616 : Int) ^ i = 18446744073709551616 ^ i * (x / 18446744073709551616 ^ i) := Int.mul_comm _ _
    have a2 : y / 18446744073709551616 ^ i * (18446744073709551616 : Int) ^ i = 18446744073709551616 ^ i * (y / 18446744073709551616 ^ i) := Int.mul_comm _ _
    rw [Int.sub_mul]; omega
  have e2 : (x - y) / 18446744073709551616 ^ i = (x % 18446744073709551616 ^ i - y % 18446744073709551616 ^ i) / 18446744073709551616 ^ i + (x / 18446744073709551616 ^ i - y / 18446744073709551616 ^ i) := by
    conv => lhs; rw [e]
    exact Int.add_mul_ediv_right _ _ (Int.ne_of_gt hp)
  rw [e2]
  omega
end Go.Proofs.Ytlelbhiebmdnoaa.lq

namespace Go.Proofs.Ytlelbhiebmdnoaa.lq
open Go.RowKit
set_option linter.unusedVariables false

theorem add64 (x y c : Int) (hx : 0 ≤ x) (hy : 0 ≤ y) (hc0 : 0 ≤ c) (hc : c ≤ 1) (w : World) : (callFunc 63 #[.int .u64 x, .int .u64 y, .int .u64 c]).run Try.prog w =
    .ok (.value (.tuple #[.int .u64 ((x + y + c) % 18446744073709551616), .int .u64 ((x + y + c) / 18446744073709551616)])) w := by
  rw [run_callFunc_extern Try.func63 (by kernel_rfl) (by kernel_rfl) (by kernel_rfl) (e := add64Entry) (by kernel_rfl), run_add64 x y c hx hy hc0 hc]
  rfl
theorem add64_0 (x y : Int) (hx : 0 ≤ x) (hy : 0 ≤ y) (w : World) : (callFunc 63 #[.int .u64 x, .int .u64 y, .int .u64 0]).run Try.prog w =
    .ok (.value (.tuple #[.int .u64 ((x + y) % 18446744073709551616), .int .u64 ((x + y) / 18446744073709551616)])) w := by
  simpa using add64 x y 0 hx hy (Int.le_refl 0) (by decide) w
theorem sub64 (x y b : Int) (hx : 0 ≤ x) (hy : 0 ≤ y) (hy' : y < 18446744073709551616) (hb0 : 0 ≤ b) (hb : b ≤ 1) (w : World) : (callFunc 67 #[.int .u64 x, .int .u64 y, .int .u64 b]).run Try.prog w =
    .ok (.value (.tuple #[.int .u64 ((x - y - b) % 18446744073709551616), .int .u64 (bor x (y + b))])) w := by
  obtain ⟨x, rfl⟩ := Int.eq_ofNat_of_zero_le hx
  obtain ⟨y, rfl⟩ := Int.eq_ofNat_of_zero_le hy
  obtain ⟨b, rfl⟩ := Int.eq_ofNat_of_zero_le hb0
  have e1 : (((x + 18446744073709551616 - y - b) % 18446744073709551616 : Nat) : Int) = ((x : Int) - y - b) % 18446744073709551616 := by omega
  have e2 : ((if x < y + b then 1 else 0 : Nat) : Int) = bor x (y + b) := by unfold bor; split <;> split <;> omega
  rw [← e1, ← e2, run_callFunc_extern Try.func67 (by kernel_rfl) (by kernel_rfl) (by kernel_rfl) (e := sub64Entry) (by kernel_rfl), run_sub64 x y b (by omega)]
  rfl

theorem keep_other {w : World} {b c i k : Nat} {u v : Value} (h : w.cell? ⟨b, k, none⟩ = some u) (hne : c ≠ b) : ((w.setCell ⟨c, i, none⟩ v).drew).cell? ⟨b, k, none⟩ = some u :=
  (World.cell?_setCell_other _ _ _ _ (by intro q; simp only [Addr.mk.injEq] at q; omega)).trans h

/-- What holds at the head of each round of the sum's loop: both arguments, the answer's place, the sum so far. -/
structure AddRel (w : World) (x y z : Int) (k : Nat) (wr : World) : Prop where
  ra : Row wr w.heap.size (q.dcells 4 x)
  rb : Row wr (w.heap.size + 1) (q.dcells 4 y)
  rz : Row wr (w.heap.size + 1 + 1) (q.dcells 4 0)
  rs : Row wr (w.heap.size + 1 + 1 + 1) (q.mix 4 k z 0)
  bel : Below w.heap.size w wr
  size : w.heap.size + 1 + 1 + 1 < wr.heap.size
theorem addRel_start (w : World) (x y z : Int) (t : TypeId) : AddRel w x y z 0 ((((w.alloc (.cells #[.int .u64 (q.dg x 0), .int .u64 (q.dg x 1), .int .u64 (q.dg x 2), .int .u64 (q.dg x 3)] t)).alloc (.cells #[.int .u64 (q.dg y 0), .int .u64 (q.dg y 1), .int .u64 (q.dg y 2), .int .u64 (q.dg y 3)] t)).alloc
    (.cells #[.int .u64 0, .int .u64 0, .int .u64 0, .int .u64 0] t)).alloc (.cells #[.int .u64 0, .int .u64 0, .int .u64 0, .int .u64 0] t)) := by
  have h0 := (((Row.new w (q.dcells 4 x) t).alloc (.cells (q.dcells 4 y).toArray t) (by simp <;> omega)).alloc (.cells (q.dcells 4 0).toArray t) (by simp <;> omega)).alloc (.cells (q.dcells 4 0).toArray t) (by simp <;> omega)
  have h1 := ((Row.new (w.alloc (.cells (q.dcells 4 x).toArray t)) (q.dcells 4 y) t).alloc (.cells (q.dcells 4 0).toArray t) (by simp <;> omega)).alloc (.cells (q.dcells 4 0).toArray t) (by simp <;> omega)
  have h2 := (Row.new ((w.alloc (.cells (q.dcells 4 x).toArray t)).alloc (.cells (q.dcells 4 y).toArray t)) (q.dcells 4 0) t).alloc (.cells (q.dcells 4 0).toArray t) (by simp <;> omega)
  have h3 := Row.new (((w.alloc (.cells (q.dcells 4 x).toArray t)).alloc (.cells (q.dcells 4 y).toArray t)).alloc (.cells (q.dcells 4 0).toArray t)) (q.dcells 4 0) t
  simp only [World.size_alloc] at h1 h2 h3
  rw [qcells_0, qcells x, qcells y] at h0 h1 h2 h3
  refine ⟨by rw [qcells]; exact h0, by rw [qcells]; exact h1, by rw [qcells_0]; exact h2, by rw [q.mix_zero, qcells_0]; exact h3, ?_, by simp⟩
  exact ((((Below.refl _ _).alloc (Nat.le_refl _) _).alloc (by simp <;> omega) _).alloc (by simp <;> omega) _).alloc (by simp <;> omega) _
theorem addRel_next {w wr : World} {x y z d : Int} {k : Nat} (h : AddRel w x y z k wr) (hk : k < 4) (e : d = q.dg z k) :
    AddRel w x y z (k + 1) ((wr.setCell ⟨w.heap.size + 1 + 1 + 1, k, none⟩ (.int .u64 d)).drew) := by
  refine ⟨(h.ra.other _ (by omega)).drew, (h.rb.other _ (by omega)).drew, (h.rz.other _ (by omega)).drew, ?_, (h.bel.setCell (by show _ ≤ w.heap.size + 1 + 1 + 1; omega) _).drew, by simpa using h.size⟩
  rw [e, ← q.mix_set]
  exact (h.rs.set k _ (by rw [q.mix_length]; exact hk)).drew

set_option maxHeartbeats 1000000 in
theorem qadd_any {a0 a1 a2 a3 b0 b1 b2 b3 : Int} (a b : Int) (ha : Wd a a0 a1 a2 a3) (hb : Wd b b0 b1 b2 b3) (w : World) :
    Calls Try.prog 39 #[.agg #[.int .u64 a0, .int .u64 a1, .int .u64 a2, .int .u64 a3], .agg #[.int .u64 b0, .int .u64 b1, .int .u64 b2, .int .u64 b3]] w fun e w' =>
      e = .returned (.agg #[.int .u64 (q.dg (a + b) 0), .int .u64 (q.dg (a + b) 1), .int .u64 (q.dg (a + b) 2), .int .u64 (q.dg (a + b) 3)]) ∧ Below w.heap.size w w' := by
  obtain ⟨rfl, rfl, rfl, rfl⟩ := ha
  obtain ⟨rfl, rfl, rfl, rfl⟩ := hb
  go_enter Try.func39, Try.ntmps39
  go_wp2
  go_loopw [6, 8] (fun c i wr => ∃ k : Nat, k ≤ 4 ∧ i = .int .i64 (k : Int) ∧ c = .int .u64 (q.carry a b k) ∧ AddRel w a b (a + b) k wr) (fun _ i _ => 4 - (intOf i).toNat)
  case atStart => exact ⟨0, by omega, rfl, by rw [q.carry_zero], addRel_start w a b _ _⟩
  case round =>
    obtain ⟨k, hk, rfl, rfl, hr⟩ := hrel
    by_cases hlt : k < 4
    · have c1 : wr.cell? ⟨w.heap.size, k, none⟩ = some (.int .u64 (q.dg a k)) := hr.ra.cell k _ (q.dcells_at _ _ _ hlt)
      have c2 : wr.cell? ⟨w.heap.size + 1, k, none⟩ = some (.int .u64 (q.dg b k)) := hr.rb.cell k _ (q.dcells_at _ _ _ hlt)
      have c3 : wr.cell? ⟨w.heap.size + 1 + 1 + 1, k, none⟩ = some (.int .u64 (q.dg 0 k)) := hr.rs.cell k _ (q.mix_at _ _ _ _ _ hlt (Nat.le_refl _))
      have c4 : wr.frozen? ⟨w.heap.size + 1 + 1 + 1, k, none⟩ = false := hr.rs.free k (by rw [q.mix_length]; exact hlt)
      have hl : (k : Int) < 4 := by omega
      obtain ⟨d0, d1⟩ := q.dg_range a k
      obtain ⟨e0, e1⟩ := q.dg_range b k
      obtain ⟨f0, f1⟩ := q.carry_range a b k
      have hn := fun d e => addRel_next (d := d) hr hlt e
      go_wp2
      go_region_held3 (fun w' => w'.cell? ⟨w.heap.size, k, none⟩ = some (.int .u64 (q.dg a k)) ∧ w'.cell? ⟨w.heap.size + 1, k, none⟩ = some (.int .u64 (q.dg b k))) (first | exact ⟨c1, c2⟩ | exact ⟨keep_other c1 (by omega), keep_other c2 (by omega)⟩)
        (simp only [add64 _ _ _ d0 e0 f0 f1])
      go_wp2
      go_roundw
      case rel => exact ⟨k + 1, by omega, by simp, by rw [q.carry_succ, Int.add_comm (q.dg a k + q.dg b k), ← Int.add_assoc], hn _ (by rw [← q.add_digit]; congr 1; omega)⟩
      case measure => simp [intOf]; omega
    · obtain rfl : k = 4 := by omega
      obtain ⟨ra, rb, rz, rs, bel, size⟩ := hr
      rw [q.mix_full, qcells] at rs
      rw [qcells_0] at rz
      obtain ⟨c0, c1, c2, c3, _, _, _, _⟩ := row4 rs
      obtain ⟨z0, z1, z2, z3, y0, y1, y2, y3⟩ := row4 rz
      clear ra rb rs rz
      go_wp2
      refine bodyPost_ret (v := .agg #[.int .u64 (q.dg (a + b) 0), .int .u64 (q.dg (a + b) 1), .int .u64 (q.dg (a + b) 2), .int .u64 (q.dg (a + b) 3)]) (by simp [results, Try.results39, go_sem, *]) rfl ⟨rfl, ?_⟩
      exact (((bel.setCell (by show _ ≤ w.heap.size + 1 + 1; omega) _).setCell (by show _ ≤ w.heap.size + 1 + 1; omega) _).setCell (by show _ ≤ w.heap.size + 1 + 1; omega) _).setCell (by show _ ≤ w.heap.size + 1 + 1; omega) _

set_option maxHeartbeats 1000000 in
theorem qsub_any {a0 a1 a2 a3 b0 b1 b2 b3 : Int} (a b : Int) (ha : Wd a a0 a1 a2 a3) (hb : Wd b b0 b1 b2 b3) (w : World) :
    Calls Try.prog 61 #[.agg #[.int .u64 a0, .int .u64 a1, .int .u64 a2, .int .u64 a3], .agg #[.int .u64 b0, .int .u64 b1, .int .u64 b2, .int .u64 b3]] w fun e w' =>
      e = .returned (.agg #[.int .u64 (q.dg (a - b) 0), .int .u64 (q.dg (a - b) 1), .int .u64 (q.dg (a - b) 2), .int .u64 (q.dg (a - b) 3)]) ∧ Below w.heap.size w w' := by
  obtain ⟨rfl, rfl, rfl, rfl⟩ := ha
  obtain ⟨rfl, rfl, rfl, rfl⟩ := hb
  go_enter Try.func61, Try.ntmps61
  go_wp2
  go_loopw [6, 8] (fun c i wr => ∃ k : Nat, k ≤ 4 ∧ i = .int .i64 (k : Int) ∧ c = .int .u64 (bw a b k) ∧ AddRel w a b (a - b) k wr) (fun _ i _ => 4 - (intOf i).toNat)
  case atStart => exact ⟨0, by omega, rfl, by rw [bw_zero], addRel_start w a b _ _⟩
  case round =>
    obtain ⟨k, hk, rfl, rfl, hr⟩ := hrel
    by_cases hlt : k < 4
    · have c1 : wr.cell? ⟨w.heap.size, k, none⟩ = some (.int .u64 (q.dg a k)) := hr.ra.cell k _ (q.dcells_at _ _ _ hlt)
      have c2 : wr.cell? ⟨w.heap.size + 1, k, none⟩ = some (.int .u64 (q.dg b k)) := hr.rb.cell k _ (q.dcells_at _ _ _ hlt)
      have c3 : wr.cell? ⟨w.heap.size + 1 + 1 + 1, k, none⟩ = some (.int .u64 (q.dg 0 k)) := hr.rs.cell k _ (q.mix_at _ _ _ _ _ hlt (Nat.le_refl _))
      have c4 : wr.frozen? ⟨w.heap.size + 1 + 1 + 1, k, none⟩ = false := hr.rs.free k (by rw [q.mix_length]; exact hlt)
      have hl : (k : Int) < 4 := by omega
      obtain ⟨d0, d1⟩ := q.dg_range a k
      obtain ⟨e0, e1⟩ := q.dg_range b k
      obtain ⟨f0, f1⟩ := bw_range a b k
      have hn := fun d e => addRel_next (d := d) hr hlt e
      go_wp2
      go_region_held3 (fun w' => w'.cell? ⟨w.heap.size, k, none⟩ = some (.int .u64 (q.dg a k)) ∧ w'.cell? ⟨w.heap.size + 1, k, none⟩ = some (.int .u64 (q.dg b k))) (first | exact ⟨c1, c2⟩ | exact ⟨keep_other c1 (by omega), keep_other c2 (by omega)⟩)
        (simp only [sub64 _ _ _ d0 e0 e1 f0 f1])
      go_wp2
      go_roundw
      case rel => exact ⟨k + 1, by omega, by simp, by rw [bw_succ], hn _ (sub_digit _ _ _)⟩
      case measure => simp [intOf]; omega
    · obtain rfl : k = 4 := by omega
      obtain ⟨ra, rb, rz, rs, bel, size⟩ := hr
      rw [q.mix_full, qcells] at rs
      rw [qcells_0] at rz
      obtain ⟨c0, c1, c2, c3, _, _, _, _⟩ := row4 rs
      obtain ⟨z0, z1, z2, z3, y0, y1, y2, y3⟩ := row4 rz
      clear ra rb rs rz
      go_wp2
      refine bodyPost_ret (v := .agg #[.int .u64 (q.dg (a - b) 0), .int .u64 (q.dg (a - b) 1), .int .u64 (q.dg (a - b) 2), .int .u64 (q.dg (a - b) 3)]) (by simp [results, Try.results61, go_sem, *]) rfl ⟨rfl, ?_⟩
      exact (((bel.setCell (by show _ ≤ w.heap.size + 1 + 1; omega) _).setCell (by show _ ≤ w.heap.size + 1 + 1; omega) _).setCell (by show _ ≤ w.heap.size + 1 + 1; omega) _).setCell (by show _ ≤ w.heap.size + 1 + 1; omega) _

end Go.Proofs.Ytlelbhiebmdnoaa.lq

namespace Go.Proofs.Ytlelbhiebmdnoaa.lq
open Go.RowKit
set_option linter.unusedVariables false

theorem pw1 : (18446744073709551616 : Int) ^ 1 = 18446744073709551616 := rfl
theorem pw2 : (18446744073709551616 : Int) ^ 2 = 340282366920938463463374607431768211456 := rfl
theorem pw3 : (18446744073709551616 : Int) ^ 3 = 6277101735386680763835789423207666416102355444464034512896 := rfl
theorem qdg0 (a : Int) : q.dg a 0 = a % 18446744073709551616 := by simp [q.dg]
theorem qdg1 (a : Int) : q.dg a 1 = a / 18446744073709551616 % 18446744073709551616 := by unfold q.dg; rw [pw1]
theorem qdg2 (a : Int) : q.dg a 2 = a / 340282366920938463463374607431768211456 % 18446744073709551616 := by unfold q.dg; rw [pw2]
theorem qdg3 (a : Int) : q.dg a 3 = a / 6277101735386680763835789423207666416102355444464034512896 % 18446744073709551616 := by unfold q.dg; rw [pw3]
theorem hi_q (a : Int) : IntKind.u64.wrap (hi a) = q.dg a 1 := by rw [qdg1, IntKind.wrap_u64]; unfold hi; omega
theorem ret_quad {a0 a1 a2 a3 b0 b1 b2 b3 : Int} (h0 : a0 = b0) (h1 : a1 = b1) (h2 : a2 = b2) (h3 : a3 = b3) : Value.agg #[.int .u64 a0, .int .u64 a1, .int .u64 a2, .int .u64 a3] = .agg #[.int .u64 b0, .int .u64 b1, .int .u64 b2, .int .u64 b3] := by rw [h0, h1, h2, h3]

theorem up_q0 (a : Int) : (0 : Int) = q.dg (a * 340282366920938463463374607431768211456) 0 := by rw [qdg0]; omega
theorem up_q1 (a : Int) : (0 : Int) = q.dg (a * 340282366920938463463374607431768211456) 1 := by rw [qdg1]; omega
theorem up_q2 (a : Int) : lo a = q.dg (a * 340282366920938463463374607431768211456) 2 := by rw [qdg2]; unfold lo; omega
theorem up_q3 (a : Int) : IntKind.u64.wrap (hi a) = q.dg (a * 340282366920938463463374607431768211456) 3 := by rw [qdg3, IntKind.wrap_u64]; unfold hi; omega
theorem upper_any {ah al : Int} (a : Int) (ha : ah = hi a) (hl : al = lo a) (w : World) :
    Calls Try.prog 62 #[.agg #[.int .i64 ah, .int .u64 al]] w fun e w' => e = .returned (.agg #[.int .u64 (q.dg (a * 340282366920938463463374607431768211456) 0), .int .u64 (q.dg (a * 340282366920938463463374607431768211456) 1), .int .u64 (q.dg (a * 340282366920938463463374607431768211456) 2), .int .u64 (q.dg (a * 340282366920938463463374607431768211456) 3)]) ∧ Below w.heap.size w w' := by
  subst ha hl
  have R := ret_quad (up_q0 a) (up_q1 a) (up_q2 a) (up_q3 a)
  rw [← R]
  clear R
  go_enter Try.func62, Try.ntmps62
  go_wp2
  refine bodyPost_ret (v := .agg #[.int .u64 0, .int .u64 0, .int .u64 (lo a), .int .u64 (IntKind.u64.wrap (hi a))]) (by simp [results, Try.results62, go_sem]) rfl ⟨rfl, ?_⟩
  exact ((Below.refl _ _).alloc (Nat.le_refl _) _).alloc (by simp) _

theorem mul64_any (x y : Int) (x0 : 0 ≤ x) (x1 : x < 18446744073709551616) (y0 : 0 ≤ y) (y1 : y < 18446744073709551616) (w : World) :
    Calls Try.prog 68 #[.int .u64 x, .int .u64 y] w fun e w' => e = .returned (.tuple #[.int .u64 (x * y / 18446744073709551616), .int .u64 (x * y % 18446744073709551616)]) ∧ w' = w := by
  go_enter Try.func68, Try.ntmps68
  go_wp2
  go_ret2
  exact ⟨ret_tup2 (mul64_hi x y x0 x1 y0 y1) (IntKind.wrap_u64 _), rfl⟩
theorem prod_range (x y : Int) (x0 : 0 ≤ x) (x1 : x < 18446744073709551616) (y0 : 0 ≤ y) (y1 : y < 18446744073709551616) : 0 ≤ x * y ∧ x * y ≤ 340282366920938463426481119284349108225 := by
  refine ⟨Int.mul_nonneg x0 y0, ?_⟩
  have := Int.mul_le_mul (show x ≤ 18446744073709551615 by omega) (show y ≤ 18446744073709551615 by omega) y0 (by decide)
  omega
theorem mulAdd_hi (p m c : Int) (p0 : 0 ≤ p) (p1 : p ≤ 340282366920938463426481119284349108225) (m0 : 0 ≤ m) (m1 : m < 18446744073709551616) (c0 : 0 ≤ c) (c1 : c < 18446744073709551616) :
    (p / 18446744073709551616 + (p % 18446744073709551616 + m) / 18446744073709551616 + ((p + m) % 18446744073709551616 + c) / 18446744073709551616) = (p + m + c) / 18446744073709551616 := by omega
set_option maxHeartbeats 1000000 in
theorem mulAdd_any (x y m c : Int) (x0 : 0 ≤ x) (x1 : x < 18446744073709551616) (y0 : 0 ≤ y) (y1 : y < 18446744073709551616) (m0 : 0 ≤ m) (m1 : m < 18446744073709551616) (c0 : 0 ≤ c) (c1 : c < 18446744073709551616) (w : World) :
    Calls Try.prog 71 #[.int .u64 x, .int .u64 y, .int .u64 m, .int .u64 c] w fun e w' => e = .returned (.tuple #[.int .u64 ((x * y + m + c) / 18446744073709551616), .int .u64 ((x * y + m + c) % 18446744073709551616)]) ∧ w' = w := by
  obtain ⟨p0, p1⟩ := prod_range x y x0 x1 y0 y1
  have E : Hid _ := mulAdd_hi (x * y) m c p0 p1 m0 m1 c0 c1
  have k0 : 0 ≤ x * y % 18446744073709551616 := by omega
  have k1 : 0 ≤ (x * y + m) % 18446744073709551616 := by omega
  go_enter Try.func71, Try.ntmps71
  go_wp2_with (first
    | (go_at_call 68; refine (mul64_any x y x0 x1 y0 y1 _).mono ?_; rintro e w' ⟨rfl, hw⟩; have hw := hw.symm; subst hw)
    | simp only [add64_0 _ _ k0 m0] | simp only [add64_0 _ _ k1 c0])
  go_ret2
  exact ⟨ret_tup2 E.out rfl, rfl⟩

theorem qdg_high {v : Int} {n j : Nat} (h0 : 0 ≤ v) (h1 : v < 18446744073709551616 ^ n) (hj : n ≤ j) : q.dg v j = 0 := by
  unfold q.dg
  have : v < (18446744073709551616 : Int) ^ j := by
    obtain ⟨d, rfl⟩ : ∃ d, j = n + d := ⟨j - n, by omega⟩
    rw [Int.pow_add]
    have hp := q.p256 n
    have hd := q.p256 d
    have := Int.mul_le_mul_of_nonneg_left (show (1 : Int) ≤ 18446744073709551616 ^ d by omega) (Int.le_of_lt hp)
    omega
  rw [Int.ediv_eq_zero_of_lt h0 this]
  rfl
theorem low_mul {X Y : Int} (i : Nat) (y0 : 0 ≤ Y) (y1 : Y < 340282366920938463463374607431768211456) : 0 ≤ X % 18446744073709551616 ^ i * Y ∧ X % 18446744073709551616 ^ i * Y < 18446744073709551616 ^ (i + 2) := by
  have hp := q.p256 i
  have a := Int.emod_nonneg X (Int.ne_of_gt hp)
  have a' := Int.emod_lt_of_pos X hp
  refine ⟨Int.mul_nonneg a y0, ?_⟩
  rw [Int.pow_add, pw2]
  have h1 := Int.mul_le_mul (show X % 18446744073709551616 ^ i ≤ 18446744073709551616 ^ i by omega) (Int.le_of_lt y1) y0 (Int.le_of_lt hp)
  rcases Int.lt_or_eq_of_le h1 with h | h
  · exact h
  · exfalso
    have h2 := Int.mul_lt_mul_of_pos_left y1 hp
    have h3 := Int.mul_le_mul_of_nonneg_right (show X % 18446744073709551616 ^ i ≤ 18446744073709551616 ^ i by omega) y0
    omega
/-- The last carry of a round is the digit over the round's digits. -/
theorem cy_last {X Y : Int} (i : Nat) (y0 : 0 ≤ Y) (y1 : Y < 340282366920938463463374607431768211456) :
    q.cy (X % 18446744073709551616 ^ i * Y) (q.dg X i) Y i 2 = q.dg (X % 18446744073709551616 ^ i * Y + q.dg X i * 18446744073709551616 ^ i * Y) (i + 2) := by
  obtain ⟨o0, o1⟩ := low_mul (X := X) i y0 y1
  obtain ⟨d0, d1⟩ := q.dg_range X i
  obtain ⟨r0, r1⟩ := q.cy_range (X % 18446744073709551616 ^ i * Y) (q.dg X i) Y i 2 d0 d1
  unfold q.cy q.tk at r0 r1 ⊢
  rw [Int.emod_eq_of_lt o0 o1, Int.emod_eq_of_lt (b := 18446744073709551616 ^ 2) y0 (by rw [pw2]; exact y1)] at r0 r1 ⊢
  generalize hV : X % 18446744073709551616 ^ i * Y + q.dg X i * 18446744073709551616 ^ i * Y = V at *
  show V / 18446744073709551616 ^ (i + 2) = V / 18446744073709551616 ^ (i + 2) % 18446744073709551616
  omega
theorem mix_done {X Y : Int} (i : Nat) (hi : i < 2) (y0 : 0 ≤ Y) (y1 : Y < 340282366920938463463374607431768211456) :
    (q.mix 4 (i + 2) (X % 18446744073709551616 ^ i * Y + q.dg X i * 18446744073709551616 ^ i * Y) (X % 18446744073709551616 ^ i * Y)).set (i + 2) (.int .u64 (q.cy (X % 18446744073709551616 ^ i * Y) (q.dg X i) Y i 2)) = q.dcells 4 (X % 18446744073709551616 ^ (i + 1) * Y) := by
  rw [cy_last i y0 y1, q.mix_set, q.mul_next, ← q.mix_full 4 _ 0]
  obtain ⟨o0, o1⟩ := low_mul (X := X) i y0 y1
  obtain ⟨s0, s1⟩ := low_mul (X := X) (i + 1) y0 y1
  refine q.fill_congr fun j hj => ?_
  by_cases h : j < i + 2 + 1
  · simp [h, hj]
  · simp [h, hj]
    rw [qdg_high o0 o1 (by omega), qdg_high s0 s1 (by omega)]

/-- What holds at the head of each round of both loops of the product: both factors' words in blocks of their own, and a row at the product's. -/
structure MulRel (w : World) (X Y : Int) (bx by' : Nat) (cs : List Value) (wr : World) : Prop where
  rx : Row wr bx (q.dcells 2 X)
  ry : Row wr by' (q.dcells 2 Y)
  rz : Row wr (w.heap.size + 1 + 1) (q.dcells 4 0)
  rp : Row wr (w.heap.size + 1 + 1 + 1 + 1 + 1) cs
  bel : Below w.heap.size w wr
  size : w.heap.size + 1 + 1 + 1 + 1 + 1 < wr.heap.size
theorem MulRel.set {w wr : World} {X Y : Int} {bx by' : Nat} {cs : List Value} (h : MulRel w X Y bx by' cs wr) (hx : bx ≠ w.heap.size + 1 + 1 + 1 + 1 + 1) (hy : by' ≠ w.heap.size + 1 + 1 + 1 + 1 + 1) (i : Nat) (hi : i < cs.length) (v : Value) :
    MulRel w X Y bx by' (cs.set i v) (wr.setCell ⟨w.heap.size + 1 + 1 + 1 + 1 + 1, i, none⟩ v) :=
  ⟨h.rx.other _ (Ne.symm hx), h.ry.other _ (Ne.symm hy), h.rz.other _ (by omega), h.rp.set i v hi, h.bel.setCell (by show _ ≤ w.heap.size + 1 + 1 + 1 + 1 + 1; omega) _, by simpa using h.size⟩
theorem MulRel.drewN {w wr : World} {X Y : Int} {bx by' : Nat} {cs : List Value} (h : MulRel w X Y bx by' cs wr) (n : Nat) : MulRel w X Y bx by' cs (wr.drewN n) :=
  ⟨h.rx.drewN n, h.ry.drewN n, h.rz.drewN n, h.rp.drewN n, below_drewN h.bel n, h.size⟩

end Go.Proofs.Ytlelbhiebmdnoaa.lq
