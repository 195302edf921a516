/-
  Joined texts, part 6:
  What zelligeref04's Of, Same, make1, Neg, Add, Sub, Mul and Cmp answer.
  What zelligeref03's DivMod answers: bit by bit.
  What zelligeref04's Long and Floor answer.
  What zelligeref03's Gcd answers: the greatest common divisor, by halves and differences.
  What zelligeref05's functions answer: fractions as two whole numbers, the lower above nought.
  Fractions behind a store into a block that they do not lie in; the laws' cut of two fractions.
  What package rat's Of, Make, Div, Floor, Round, Sign and Cmp answer.
-/
import Derived.Test.YtaekgomplkkocabGreatDoorP5
import Derived.Test.YtaekgomplkkocabGreatDoorP4
import Derived.Deep.LoopGhost
namespace Go.Proofs.YtaekgomplkkocabGreatDoor
open Go.RowKit
set_option linter.unusedVariables false

/-- A whole number as a sign and digits. -/
structure RN (w : World) (s : Int) (d : Option Addr) (l c : Nat) (z : Int) : Prop where
  hd : HD w d l c z.natAbs
  sg : s = z.sign
theorem RN.below {w w' : World} {s : Int} {d : Option Addr} {l c : Nat} {z : Int} (h : RN w s d l c z) (hb : Below w.heap.size w w') : RN w' s d l c z := ⟨h.hd.below hb, h.sg⟩
theorem RN.put {w : World} {s : Int} {d : Option Addr} {l c b : Nat} {z : Int} (h : RN w s d l c z) (hn : NA b d l) (i : Nat) (v : Value) : RN (w.setCell ⟨b, i, none⟩ v) s d l c z := ⟨h.hd.put hn i v, h.sg⟩
theorem RN.put2 {w : World} {s : Int} {d : Option Addr} {l c b : Nat} {z : Int} (h : RN w s d l c z) (hn : NA b d l) (u v : Value) : RN ((w.setCell ⟨b, 0, none⟩ u).setCell ⟨b, 1, none⟩ v) s d l c z := (h.put hn 0 u).put hn 1 v
/-- What is told: apart from the blocks that were there before, as far as its arguments are so. -/
def GotR (w : World) (P : Nat → Prop) (z : Int) (e : Ending) (w' : World) : Prop := ∃ (s : Int) (d : Option Addr) (l c : Nat), e = .returned (.agg #[.int .i64 s, .slice d l c]) ∧ RN w' s d l c z ∧ (∀ k, k < w.heap.size → P k → NA k d l) ∧ Below w.heap.size w w'
theorem endR {w w2 : World} {s : Int} {d : Option Addr} {l c : Nat} {z : Int} {P : Nat → Prop} (k : Nat) (hk : w.heap.size ≤ k) (B : Below w.heap.size w w2) (h : RN w2 s d l c z) (hn : NA k d l) (hf : ∀ j, j < w.heap.size → P j → NA j d l) (u v : Value) :
    GotR w P z (.returned (.agg #[.int .i64 s, .slice d l c])) ((w2.setCell ⟨k, 0, none⟩ u).setCell ⟨k, 1, none⟩ v) :=
  ⟨s, d, l, c, rfl, h.put2 hn u v, hf, below_put2 B hk u v⟩
theorem rn_zero (w : World) (c : Nat) : RN w 0 none 0 0 0 := ⟨hd_nil w, rfl⟩
theorem HD.pos {w : World} {d : Option Addr} {l c u : Nat} (h : HD w d l c u) : l = 0 ↔ u = 0 := by
  rw [h.len]
  constructor
  · intro e
    rcases Nat.eq_zero_or_pos u with z | z
    · exact z
    · have := hf.nlen_pos z; omega
  · rintro rfl; exact hf.nlen_zero
theorem sign_pos {x : Int} (h : 0 < x) : x.sign = 1 := Int.sign_eq_one_of_pos h
theorem sign_neg {x : Int} (h : x < 0) : x.sign = -1 := Int.sign_eq_neg_one_of_neg h
theorem sign_nul {x : Int} : x.sign = 0 ↔ x = 0 := Int.sign_eq_zero_iff_zero
theorem sign_cases (x : Int) : (x < 0 ∧ x.sign = -1) ∨ (x = 0 ∧ x.sign = 0) ∨ (0 < x ∧ x.sign = 1) := by
  rcases Int.lt_trichotomy x 0 with h | h | h
  · exact Or.inl ⟨h, sign_neg h⟩
  · exact Or.inr (Or.inl ⟨h, sign_nul.2 h⟩)
  · exact Or.inr (Or.inr ⟨h, sign_pos h⟩)

set_option maxRecDepth 100000 in
set_option maxHeartbeats 1000000 in
theorem rwSame (n : Bool) (s : Int) (a d : Option Addr) (la ca l c : Nat) (z : Int) (w : World) (ha : WN w n a la ca z) (hd : RN w s d l c z) (fz : hf.nlen z.natAbs ≤ 1000000) :
    Calls Tryz.prog 24 #[.agg #[.bool n, .slice a la ca], .agg #[.int .i64 s, .slice d l c]] w fun e w' => e = .returned (.bool true) ∧ Below w.heap.size w w' := by
  obtain ⟨B0, xa, xd, hs⟩ := box1 w (.bool n) (.slice a la ca) (.int .i64 s) (.slice d l c) 25 34
  have na := ha.nd.below B0
  have nd := hd.hd.below B0
  have hn : n = decide (s < 0) := by
    rw [ha.sg, hd.sg]
    rcases sign_cases z with ⟨h, e⟩ | ⟨h, e⟩ | ⟨h, e⟩ <;> rw [e] <;> simp <;> omega
  by_cases h0 : s < 0
  · obtain rfl : n = true := by rw [hn]; simpa using h0
    clear hn
    go_enter Tryz.func24, Tryz.ntmps24
    go_wp2_with (go_at_call 25; fail)
    refine (hSame a d la l ca c _ _ na.sl na.len nd fz).mono ?_
    rintro e w1 ⟨rfl, b1⟩
    obtain ⟨k0, k1, k2, k3⟩ := xd.on b1
    obtain ⟨j0, j1, j2, j3⟩ := xa.on b1
    go_wp2
    go_ret
    exact ⟨rfl, also B0 b1⟩
  · obtain rfl : n = false := by rw [hn]; simpa using h0
    have h0' : decide (s < 0) = false := by simpa using h0
    clear hn
    go_enter Tryz.func24, Tryz.ntmps24
    go_wp2_with (go_at_call 25; fail)
    refine (hSame a d la l ca c _ _ na.sl na.len nd fz).mono ?_
    rintro e w1 ⟨rfl, b1⟩
    obtain ⟨k0, k1, k2, k3⟩ := xd.on b1
    obtain ⟨j0, j1, j2, j3⟩ := xa.on b1
    go_wp2
    go_ret
    exact ⟨rfl, also B0 b1⟩

set_option maxRecDepth 100000 in
set_option maxHeartbeats 1000000 in
theorem rwMake (s : Int) (d : Option Addr) (l c u : Nat) (z : Int) (w : World) (hd : HD w d l c u) (hu : u = z.natAbs) (hs : z ≠ 0 → s = z.sign) :
    Calls Tryz.prog 85 #[.int .i64 s, .slice d l c] w (GotR w (fun k => NA k d l) z) := by
  subst hu
  have B0 : Below w.heap.size w (w.alloc (.cells #[.int .i64 0, .slice none 0 0] 34)) := (Below.refl _ _).alloc (Nat.le_refl _) _
  have h0 := hd.below B0
  by_cases hz : z = 0
  · obtain rfl : l = 0 := hd.pos.2 (by rw [hz]; rfl)
    subst hz
    go_enter Tryz.func85, Tryz.ntmps85
    go_wp2
    exact bodyPost_ret (v := .agg #[.int .i64 0, .slice none 0 0]) (by simp [results, Tryz.results85, go_sem, *]) rfl ⟨0, none, 0, 0, rfl, rn_zero _ 0, fun _ _ _ => Or.inl rfl, (Below.refl _ _).alloc (Nat.le_refl _) _⟩
  · have hl : ¬ (l : Int) = 0 := by have := hd.pos; omega
    have hsz := hs hz
    go_enter Tryz.func85, Tryz.ntmps85
    have HS : Hid _ := hsz
    clear hs hsz
    go_wp2
    have B1 : Below w.heap.size w (w.alloc (.cells #[.int .i64 s, .slice d l c] 34)) := (Below.refl _ _).alloc (Nat.le_refl _) _
    exact bodyPost_ret (v := .agg #[.int .i64 s, .slice d l c]) (by simp [results, Tryz.results85, go_sem, *]) rfl ⟨s, d, l, c, rfl, ⟨hd.below B1, HS.out⟩, fun _ _ h => h, B1⟩

set_option maxRecDepth 100000 in
set_option maxHeartbeats 1000000 in
theorem rwNeg (s : Int) (d : Option Addr) (l c : Nat) (x z : Int) (w : World) (hd : RN w s d l c x) (hz : z = -x) :
    Calls Tryz.prog 62 #[.agg #[.int .i64 s, .slice d l c]] w (GotR w (fun k => NA k d l) z) := by
  have hs := hd.sg
  obtain ⟨t, ht⟩ : ∃ t, t = 0 - s := ⟨_, rfl⟩
  have hb : -1 ≤ s ∧ s ≤ 1 := by rcases sign_cases x with ⟨_, e⟩ | ⟨_, e⟩ | ⟨_, e⟩ <;> omega
  obtain ⟨hb1, hb2⟩ := hb
  have hh : HD w d l c z.natAbs := by rw [hz, Int.natAbs_neg]; exact hd.hd
  have HT : Hid (0 - s = z.sign) := by unfold Hid; rw [hz, Int.sign_neg, hs]; omega
  have B1 : Below w.heap.size w ((w.alloc (.cells #[.int .i64 s, .slice d l c] 34)).alloc (.cells #[.int .i64 (-s), .slice d l c] 34)) := ((Below.refl _ _).alloc (Nat.le_refl _) _).alloc (by simp) _
  clear ht hs
  go_enter Tryz.func62, Tryz.ntmps62
  go_wp2
  exact bodyPost_ret (v := .agg #[.int .i64 (-s), .slice d l c]) (by simp [results, Tryz.results62, go_sem, *]) rfl ⟨-s, d, l, c, rfl, ⟨hh.below B1, by have := HT.out; omega⟩, fun _ _ h => h, B1⟩

set_option maxRecDepth 100000 in
set_option maxHeartbeats 1000000 in
theorem rwAdd (s t : Int) (d e : Option Addr) (l c m k : Nat) (x y z : Int) (w : World) (hx : RN w s d l c x) (hy : RN w t e m k y) (fx : hf.nlen x.natAbs ≤ 1000000) (fy : hf.nlen y.natAbs ≤ 1000000) (hz : z = x + y) : Calls Tryz.prog 61 #[.agg #[.int .i64 s, .slice d l c], .agg #[.int .i64 t, .slice e m k]] w (GotR w (fun k' => NA k' d l ∧ NA k' e m) z) := by
  obtain ⟨B0, xa, xb, xz, hs⟩ := box2 w (.int .i64 s) (.slice d l c) (.int .i64 t) (.slice e m k) (.int .i64 0) (.slice none 0 0) 34 34 34
  have es := hx.sg
  have et := hy.sg
  by_cases h1 : x = 0
  · obtain rfl : s = 0 := by rw [es, h1]; rfl
    obtain rfl : z = y := by omega
    clear es et
    obtain ⟨k0, k1, k2, k3⟩ := xz
    go_enter Tryz.func61, Tryz.ntmps61
    go_wp2
    obtain ⟨B9, _, _, _, _⟩ := box2 w (.int .i64 0) (.slice d l c) (.int .i64 t) (.slice e m k) (.int .i64 t) (.slice e m k) 34 34 34
    exact bodyPost_ret (v := .agg #[.int .i64 t, .slice e m k]) (by simp [results, Tryz.results61, go_sem, *]) rfl ⟨t, e, m, k, rfl, hy.below B9, fun _ _ h => h.2, B9⟩
  have s0 : ¬ s = 0 := by rw [es, sign_nul]; exact h1
  by_cases h2 : y = 0
  · obtain rfl : t = 0 := by rw [et, h2]; rfl
    obtain rfl : z = x := by omega
    clear es et
    obtain ⟨k0, k1, k2, k3⟩ := xz
    go_enter Tryz.func61, Tryz.ntmps61
    go_wp2
    obtain ⟨B9, _, _, _, _⟩ := box2 w (.int .i64 s) (.slice d l c) (.int .i64 0) (.slice e m k) (.int .i64 s) (.slice d l c) 34 34 34
    exact bodyPost_ret (v := .agg #[.int .i64 s, .slice d l c]) (by simp [results, Tryz.results61, go_sem, *]) rfl ⟨s, d, l, c, rfl, hx.below B9, fun _ _ h => h.1, B9⟩
  have t0 : ¬ t = 0 := by rw [et, sign_nul]; exact h2
  by_cases h3 : s = t
  · have HU : Hid (x.natAbs + y.natAbs = z.natAbs) := by
      unfold Hid
      rcases sign_cases x with ⟨a, b⟩ | ⟨a, b⟩ | ⟨a, b⟩ <;> rcases sign_cases y with ⟨a', b'⟩ | ⟨a', b'⟩ | ⟨a', b'⟩ <;> omega
    have HS : Hid (s = z.sign) := by
      unfold Hid
      rcases sign_cases x with ⟨a, b⟩ | ⟨a, b⟩ | ⟨a, b⟩ <;> rcases sign_cases y with ⟨a', b'⟩ | ⟨a', b'⟩ | ⟨a', b'⟩ <;> rcases sign_cases z with ⟨a2, b2⟩ | ⟨a2, b2⟩ | ⟨a2, b2⟩ <;> omega
    clear es et hz
    subst h3
    replace B0 := B0.drew
    replace xa := xa.drew
    replace xb := xb.drew
    replace xz := xz.drew
    go_enter Tryz.func61, Tryz.ntmps61
    go_wp2
    refine wp_region_held_drew (S := (fun w' => w'.cell? ⟨w.heap.size, 0, none⟩ = some (.int .i64 s) ∧ w'.cell? ⟨w.heap.size, 1, none⟩ = some (.slice d l c) ∧ w'.cell? ⟨w.heap.size + 1, 0, none⟩ = some (.int .i64 s) ∧ w'.cell? ⟨w.heap.size + 1, 1, none⟩ = some (.slice e m k) ∧ Below w.heap.size w w')) (by kernel_rfl) ?_ (fun hHeld => ?_)
    · first | exact keepB2 hHeld b2 | exact keepB2 hHeld b1 | exact ⟨xa.c0, xa.c1, xb.c0, xb.c1, B0⟩ | exact keepS2 hHeld (by omega) (by omega) _ _
    refine take_yes (i := 0) (v := ?va0) rfl (by kernel_rfl) (by kernel_rfl) (by kernel_rfl) (fun _ _ _ h => h) (by rfl) (by assumption) ?hya0 ?resta0
    case hya0 => (intro w hSw; (try dsimp only at hSw); first | (go_simp; done) | (go_simp; with_reducible rfl))
    simp only [Act.put, List.setIfInBounds_toArray, List.set_cons_zero, List.set_cons_succ]
    refine take_yes (i := 1) (v := ?va1) rfl (by kernel_rfl) (by kernel_rfl) (by kernel_rfl) (fun _ _ _ h => h) (by rfl) (by assumption) ?hya1 ?resta1
    case hya1 => (intro w hSw; (try dsimp only at hSw); first | (go_simp; done) | (go_simp; with_reducible rfl))
    simp only [Act.put, List.setIfInBounds_toArray, List.set_cons_zero, List.set_cons_succ]
    refine take_yes (i := 2) (v := ?va2) rfl (by kernel_rfl) (by kernel_rfl) (by kernel_rfl) (fun _ _ _ h => h) (by rfl) (by assumption) ?hya2 ?resta2
    case hya2 => (intro w hSw; (try dsimp only at hSw); first | (go_simp; done) | (go_simp; with_reducible rfl))
    simp only [Act.put, List.setIfInBounds_toArray, List.set_cons_zero, List.set_cons_succ]
    refine take_yes (i := 3) (v := ?va3) rfl (by kernel_rfl) (by kernel_rfl) (by kernel_rfl) (fun _ _ _ h => h) (by rfl) (by assumption) ?hya3 ?resta3
    case hya3 => (intro w hSw; (try dsimp only at hSw); first | (go_simp; done) | (go_simp; with_reducible rfl))
    simp only [Act.put, List.setIfInBounds_toArray, List.set_cons_zero, List.set_cons_succ]
    refine take_yes (i := 4) (v := ?va4) rfl (by kernel_rfl) (by kernel_rfl) (by kernel_rfl) (fun _ _ _ h => h) (by rfl) (by assumption) ?hya4 ?resta4
    case hya4 => (intro w hSw; (try dsimp only at hSw); first | (go_simp; done) | (go_simp; with_reducible rfl))
    simp only [Act.put, List.setIfInBounds_toArray, List.set_cons_zero, List.set_cons_succ]
    refine take_yes (i := 5) (v := ?va5) rfl (by kernel_rfl) (by kernel_rfl) (by kernel_rfl) (fun _ _ _ h => h) (by rfl) (by assumption) ?hya5 ?resta5
    case hya5 => (intro w hSw; (try dsimp only at hSw); first | (go_simp; done) | (go_simp; with_reducible rfl))
    simp only [Act.put, List.setIfInBounds_toArray, List.set_cons_zero, List.set_cons_succ]
    refine take_call (i := 6) rfl (by kernel_rfl) (fun K hK => ?_)
    go_simp
    first
      | (go_at_call 17; refine (hfAdd d e l m c k _ _ _ (hx.hd.below hHeld.2.2.2.2) (hy.hd.below hHeld.2.2.2.2) fx fy).mono ?_; rintro e' w1 ⟨a1, l1, c1, rfl, h1, f1, b1⟩)
    refine hK.out _ _ ?_ (fun hHeld => ?_)
    · first | exact keepB2 hHeld b2 | exact keepB2 hHeld b1 | exact ⟨xa.c0, xa.c1, xb.c0, xb.c1, B0⟩ | exact keepS2 hHeld (by omega) (by omega) _ _
    clear hK K
    refine take_yes (i := 7) (v := ?va7) rfl (by kernel_rfl) (by kernel_rfl) (by kernel_rfl) (fun _ _ _ h => h) (by rfl) (by assumption) ?hya7 ?resta7
    case hya7 => (intro w hSw; (try dsimp only at hSw); first | (go_simp; done) | (go_simp; with_reducible rfl))
    simp only [Act.put, List.setIfInBounds_toArray, List.set_cons_zero, List.set_cons_succ]
    obtain ⟨k0, k1, k2, k3⟩ := xz.on b1
    refine take_call (i := 8) rfl (by kernel_rfl) (fun K hK => ?_)
    go_simp
    refine hK.out _ _ ?_ (fun hHeld => ?_)
    · first | exact keepB2 hHeld b2 | exact keepB2 hHeld b1 | exact ⟨xa.c0, xa.c1, xb.c0, xb.c1, B0⟩ | exact keepS2 hHeld (by omega) (by omega) _ _
    clear hK K
    refine wpAnyH_done (by kernel_rfl) ?_ _
    go_wp2
    rw [HU.out] at h1
    exact bodyPost_ret (v := .agg #[.int .i64 s, .slice a1 l1 c1]) (by simp [results, Tryz.results61, go_sem, *]) rfl (endR _ (by omega) (also B0 b1) ⟨h1, HS.out⟩ (f1 _ hs) (fun j hj _ => f1 j (Nat.lt_of_lt_of_le hj B0.size)) _ _)
  · have h3' : (s == t) = false := by simpa using h3
    have HC : ∃ c', c' = cmpI (x.natAbs : Int) y.natAbs := ⟨_, rfl⟩
    obtain ⟨g, hg⟩ := HC
    have HG : Hid _ := hg
    by_cases hle : y.natAbs ≤ x.natAbs
    · have g0 : 0 ≤ g := by rw [hg]; unfold cmpI; rw [if_neg (by omega)]; split <;> decide
      have HU : Hid (x.natAbs - y.natAbs = z.natAbs) := by
        unfold Hid
        rcases sign_cases x with ⟨a, b⟩ | ⟨a, b⟩ | ⟨a, b⟩ <;> rcases sign_cases y with ⟨a', b'⟩ | ⟨a', b'⟩ | ⟨a', b'⟩ <;> omega
      have HS : Hid (z ≠ 0 → s = z.sign) := fun hz0 => by
        rcases sign_cases x with ⟨a, b⟩ | ⟨a, b⟩ | ⟨a, b⟩ <;> rcases sign_cases y with ⟨a', b'⟩ | ⟨a', b'⟩ | ⟨a', b'⟩ <;> rcases sign_cases z with ⟨a2, b2⟩ | ⟨a2, b2⟩ | ⟨a2, b2⟩ <;> omega
      clear es et hz hg h3
      go_enter Tryz.func61, Tryz.ntmps61
      go_wp2_with (go_at_call 59; fail)
      refine (hCmp d e l m c k _ _ _ (hx.hd.below B0) (hy.hd.below B0) HG.out).mono ?_
      rintro e' w1 ⟨rfl, b1⟩
      replace B0 := (also B0 b1).drew
      replace xa := (xa.on b1).drew
      replace xb := (xb.on b1).drew
      replace xz := (xz.on b1).drew
      obtain ⟨k0, k1, k2, k3⟩ := xa
      obtain ⟨j0, j1, j2, j3⟩ := xb
      have xa : Bx _ _ _ _ := ⟨k0, k1, k2, k3⟩
      have xb : Bx _ _ _ _ := ⟨j0, j1, j2, j3⟩
      go_wp2
      refine wp_region_held_drew (S := (fun w' => w'.cell? ⟨w.heap.size, 0, none⟩ = some (.int .i64 s) ∧ w'.cell? ⟨w.heap.size, 1, none⟩ = some (.slice d l c) ∧ w'.cell? ⟨w.heap.size + 1, 0, none⟩ = some (.int .i64 t) ∧ w'.cell? ⟨w.heap.size + 1, 1, none⟩ = some (.slice e m k) ∧ Below w.heap.size w w')) (by kernel_rfl) ?_ (fun hHeld => ?_)
      · first | exact keepB2 hHeld b3 | exact keepB2 hHeld b2 | exact keepB2 hHeld b1 | exact ⟨xa.c0, xa.c1, xb.c0, xb.c1, B0⟩ | exact keepS2 hHeld (by omega) (by omega) _ _
      refine take_yes (i := 0) (v := ?vb0) rfl (by kernel_rfl) (by kernel_rfl) (by kernel_rfl) (fun _ _ _ h => h) (by rfl) (by assumption) ?hyb0 ?restb0
      case hyb0 => (intro w hSw; (try dsimp only at hSw); first | (go_simp; done) | (go_simp; with_reducible rfl))
      simp only [Act.put, List.setIfInBounds_toArray, List.set_cons_zero, List.set_cons_succ]
      refine take_yes (i := 1) (v := ?vb1) rfl (by kernel_rfl) (by kernel_rfl) (by kernel_rfl) (fun _ _ _ h => h) (by rfl) (by assumption) ?hyb1 ?restb1
      case hyb1 => (intro w hSw; (try dsimp only at hSw); first | (go_simp; done) | (go_simp; with_reducible rfl))
      simp only [Act.put, List.setIfInBounds_toArray, List.set_cons_zero, List.set_cons_succ]
      refine take_yes (i := 2) (v := ?vb2) rfl (by kernel_rfl) (by kernel_rfl) (by kernel_rfl) (fun _ _ _ h => h) (by rfl) (by assumption) ?hyb2 ?restb2
      case hyb2 => (intro w hSw; (try dsimp only at hSw); first | (go_simp; done) | (go_simp; with_reducible rfl))
      simp only [Act.put, List.setIfInBounds_toArray, List.set_cons_zero, List.set_cons_succ]
      refine take_yes (i := 3) (v := ?vb3) rfl (by kernel_rfl) (by kernel_rfl) (by kernel_rfl) (fun _ _ _ h => h) (by rfl) (by assumption) ?hyb3 ?restb3
      case hyb3 => (intro w hSw; (try dsimp only at hSw); first | (go_simp; done) | (go_simp; with_reducible rfl))
      simp only [Act.put, List.setIfInBounds_toArray, List.set_cons_zero, List.set_cons_succ]
      refine take_yes (i := 4) (v := ?vb4) rfl (by kernel_rfl) (by kernel_rfl) (by kernel_rfl) (fun _ _ _ h => h) (by rfl) (by assumption) ?hyb4 ?restb4
      case hyb4 => (intro w hSw; (try dsimp only at hSw); first | (go_simp; done) | (go_simp; with_reducible rfl))
      simp only [Act.put, List.setIfInBounds_toArray, List.set_cons_zero, List.set_cons_succ]
      refine take_yes (i := 5) (v := ?vb5) rfl (by kernel_rfl) (by kernel_rfl) (by kernel_rfl) (fun _ _ _ h => h) (by rfl) (by assumption) ?hyb5 ?restb5
      case hyb5 => (intro w hSw; (try dsimp only at hSw); first | (go_simp; done) | (go_simp; with_reducible rfl))
      simp only [Act.put, List.setIfInBounds_toArray, List.set_cons_zero, List.set_cons_succ]
      refine take_call (i := 6) rfl (by kernel_rfl) (fun K hK => ?_)
      go_simp
      first
      | (go_at_call 60; refine (hfSub d e l m c k _ _ _ (hx.hd.below hHeld.2.2.2.2) (hy.hd.below hHeld.2.2.2.2) fx fy hle).mono ?_; rintro e' w2 ⟨a1, l1, c1, rfl, h1, f1, b2⟩)
      | (go_at_call 85; refine (rwMake s a1 l1 c1 _ z _ h1 HU.out HS.out).mono ?_; rintro e' w3 ⟨s3, a3, l3, c3, rfl, h3, f3, b3⟩)
      refine hK.out _ _ ?_ (fun hHeld => ?_)
      · first | exact keepB2 hHeld b3 | exact keepB2 hHeld b2 | exact keepB2 hHeld b1 | exact ⟨xa.c0, xa.c1, xb.c0, xb.c1, B0⟩ | exact keepS2 hHeld (by omega) (by omega) _ _
      clear hK K
      refine take_call (i := 7) rfl (by kernel_rfl) (fun K hK => ?_)
      go_simp
      first
      | (go_at_call 60; refine (hfSub d e l m c k _ _ _ (hx.hd.below hHeld.2.2.2.2) (hy.hd.below hHeld.2.2.2.2) fx fy hle).mono ?_; rintro e' w2 ⟨a1, l1, c1, rfl, h1, f1, b2⟩)
      | (go_at_call 85; refine (rwMake s a1 l1 c1 _ z _ h1 HU.out HS.out).mono ?_; rintro e' w3 ⟨s3, a3, l3, c3, rfl, h3, f3, b3⟩)
      refine hK.out _ _ ?_ (fun hHeld => ?_)
      · first | exact keepB2 hHeld b3 | exact keepB2 hHeld b2 | exact keepB2 hHeld b1 | exact ⟨xa.c0, xa.c1, xb.c0, xb.c1, B0⟩ | exact keepS2 hHeld (by omega) (by omega) _ _
      clear hK K
      obtain ⟨k0, k1, k2, k3⟩ := (xz.on b2).on b3
      refine take_call (i := 8) rfl (by kernel_rfl) (fun K hK => ?_)
      go_simp
      refine hK.out _ _ ?_ (fun hHeld => ?_)
      · first | exact keepB2 hHeld b3 | exact keepB2 hHeld b2 | exact keepB2 hHeld b1 | exact ⟨xa.c0, xa.c1, xb.c0, xb.c1, B0⟩ | exact keepS2 hHeld (by omega) (by omega) _ _
      clear hK K
      refine wpAnyH_done (by kernel_rfl) ?_ _
      go_wp2
      exact bodyPost_ret (v := .agg #[.int .i64 s3, .slice a3 l3 c3]) (by simp [results, Tryz.results61, go_sem, *]) rfl (endR _ (by omega) (also (also B0 b2) b3) h3 (f3 _ (Nat.lt_of_lt_of_le (Nat.lt_of_lt_of_le hs b1.size) b2.size) (f1 _ (Nat.lt_of_lt_of_le hs b1.size))) (fun j hj _ => f3 j (Nat.lt_of_lt_of_le hj (Nat.le_trans B0.size b2.size)) (f1 j (Nat.lt_of_lt_of_le hj B0.size))) _ _)
    · have hlt : x.natAbs < y.natAbs := by omega
      replace hle : x.natAbs ≤ y.natAbs := by omega
      have g0 : ¬ 0 ≤ g := by rw [hg]; unfold cmpI; rw [if_pos (by omega)]; decide
      have HU : Hid (y.natAbs - x.natAbs = z.natAbs) := by
        unfold Hid
        rcases sign_cases x with ⟨a, b⟩ | ⟨a, b⟩ | ⟨a, b⟩ <;> rcases sign_cases y with ⟨a', b'⟩ | ⟨a', b'⟩ | ⟨a', b'⟩ <;> omega
      have HS : Hid (z ≠ 0 → t = z.sign) := fun hz0 => by
        rcases sign_cases x with ⟨a, b⟩ | ⟨a, b⟩ | ⟨a, b⟩ <;> rcases sign_cases y with ⟨a', b'⟩ | ⟨a', b'⟩ | ⟨a', b'⟩ <;> rcases sign_cases z with ⟨a2, b2⟩ | ⟨a2, b2⟩ | ⟨a2, b2⟩ <;> omega
      clear es et hz hg h3
      go_enter Tryz.func61, Tryz.ntmps61
      go_wp2_with (go_at_call 59; fail)
      refine (hCmp d e l m c k _ _ _ (hx.hd.below B0) (hy.hd.below B0) HG.out).mono ?_
      rintro e' w1 ⟨rfl, b1⟩
      replace B0 := (also B0 b1).drew
      replace xa := (xa.on b1).drew
      replace xb := (xb.on b1).drew
      replace xz := (xz.on b1).drew
      obtain ⟨k0, k1, k2, k3⟩ := xa
      obtain ⟨j0, j1, j2, j3⟩ := xb
      have xa : Bx _ _ _ _ := ⟨k0, k1, k2, k3⟩
      have xb : Bx _ _ _ _ := ⟨j0, j1, j2, j3⟩
      go_wp2
      refine wp_region_held_drew (S := (fun w' => w'.cell? ⟨w.heap.size, 0, none⟩ = some (.int .i64 s) ∧ w'.cell? ⟨w.heap.size, 1, none⟩ = some (.slice d l c) ∧ w'.cell? ⟨w.heap.size + 1, 0, none⟩ = some (.int .i64 t) ∧ w'.cell? ⟨w.heap.size + 1, 1, none⟩ = some (.slice e m k) ∧ Below w.heap.size w w')) (by kernel_rfl) ?_ (fun hHeld => ?_)
      · first | exact keepB2 hHeld b3 | exact keepB2 hHeld b2 | exact keepB2 hHeld b1 | exact ⟨xa.c0, xa.c1, xb.c0, xb.c1, B0⟩ | exact keepS2 hHeld (by omega) (by omega) _ _
      refine take_yes (i := 0) (v := ?vg0) rfl (by kernel_rfl) (by kernel_rfl) (by kernel_rfl) (fun _ _ _ h => h) (by rfl) (by assumption) ?hyg0 ?restg0
      case hyg0 => (intro w hSw; (try dsimp only at hSw); first | (go_simp; done) | (go_simp; with_reducible rfl))
      simp only [Act.put, List.setIfInBounds_toArray, List.set_cons_zero, List.set_cons_succ]
      refine take_yes (i := 1) (v := ?vg1) rfl (by kernel_rfl) (by kernel_rfl) (by kernel_rfl) (fun _ _ _ h => h) (by rfl) (by assumption) ?hyg1 ?restg1
      case hyg1 => (intro w hSw; (try dsimp only at hSw); first | (go_simp; done) | (go_simp; with_reducible rfl))
      simp only [Act.put, List.setIfInBounds_toArray, List.set_cons_zero, List.set_cons_succ]
      refine take_yes (i := 2) (v := ?vg2) rfl (by kernel_rfl) (by kernel_rfl) (by kernel_rfl) (fun _ _ _ h => h) (by rfl) (by assumption) ?hyg2 ?restg2
      case hyg2 => (intro w hSw; (try dsimp only at hSw); first | (go_simp; done) | (go_simp; with_reducible rfl))
      simp only [Act.put, List.setIfInBounds_toArray, List.set_cons_zero, List.set_cons_succ]
      refine take_yes (i := 3) (v := ?vg3) rfl (by kernel_rfl) (by kernel_rfl) (by kernel_rfl) (fun _ _ _ h => h) (by rfl) (by assumption) ?hyg3 ?restg3
      case hyg3 => (intro w hSw; (try dsimp only at hSw); first | (go_simp; done) | (go_simp; with_reducible rfl))
      simp only [Act.put, List.setIfInBounds_toArray, List.set_cons_zero, List.set_cons_succ]
      refine take_yes (i := 4) (v := ?vg4) rfl (by kernel_rfl) (by kernel_rfl) (by kernel_rfl) (fun _ _ _ h => h) (by rfl) (by assumption) ?hyg4 ?restg4
      case hyg4 => (intro w hSw; (try dsimp only at hSw); first | (go_simp; done) | (go_simp; with_reducible rfl))
      simp only [Act.put, List.setIfInBounds_toArray, List.set_cons_zero, List.set_cons_succ]
      refine take_yes (i := 5) (v := ?vg5) rfl (by kernel_rfl) (by kernel_rfl) (by kernel_rfl) (fun _ _ _ h => h) (by rfl) (by assumption) ?hyg5 ?restg5
      case hyg5 => (intro w hSw; (try dsimp only at hSw); first | (go_simp; done) | (go_simp; with_reducible rfl))
      simp only [Act.put, List.setIfInBounds_toArray, List.set_cons_zero, List.set_cons_succ]
      refine take_call (i := 6) rfl (by kernel_rfl) (fun K hK => ?_)
      go_simp
      first
      | (go_at_call 60; refine (hfSub e d m l k c _ _ _ (hy.hd.below hHeld.2.2.2.2) (hx.hd.below hHeld.2.2.2.2) fy fx hle).mono ?_; rintro e' w2 ⟨a1, l1, c1, rfl, h1, f1, b2⟩)
      | (go_at_call 85; refine (rwMake t a1 l1 c1 _ z _ h1 HU.out HS.out).mono ?_; rintro e' w3 ⟨s3, a3, l3, c3, rfl, h3, f3, b3⟩)
      refine hK.out _ _ ?_ (fun hHeld => ?_)
      · first | exact keepB2 hHeld b3 | exact keepB2 hHeld b2 | exact keepB2 hHeld b1 | exact ⟨xa.c0, xa.c1, xb.c0, xb.c1, B0⟩ | exact keepS2 hHeld (by omega) (by omega) _ _
      clear hK K
      refine take_call (i := 7) rfl (by kernel_rfl) (fun K hK => ?_)
      go_simp
      first
      | (go_at_call 60; refine (hfSub e d m l k c _ _ _ (hy.hd.below hHeld.2.2.2.2) (hx.hd.below hHeld.2.2.2.2) fy fx hle).mono ?_; rintro e' w2 ⟨a1, l1, c1, rfl, h1, f1, b2⟩)
      | (go_at_call 85; refine (rwMake t a1 l1 c1 _ z _ h1 HU.out HS.out).mono ?_; rintro e' w3 ⟨s3, a3, l3, c3, rfl, h3, f3, b3⟩)
      refine hK.out _ _ ?_ (fun hHeld => ?_)
      · first | exact keepB2 hHeld b3 | exact keepB2 hHeld b2 | exact keepB2 hHeld b1 | exact ⟨xa.c0, xa.c1, xb.c0, xb.c1, B0⟩ | exact keepS2 hHeld (by omega) (by omega) _ _
      clear hK K
      obtain ⟨k0, k1, k2, k3⟩ := (xz.on b2).on b3
      refine take_call (i := 8) rfl (by kernel_rfl) (fun K hK => ?_)
      go_simp
      refine hK.out _ _ ?_ (fun hHeld => ?_)
      · first | exact keepB2 hHeld b3 | exact keepB2 hHeld b2 | exact keepB2 hHeld b1 | exact ⟨xa.c0, xa.c1, xb.c0, xb.c1, B0⟩ | exact keepS2 hHeld (by omega) (by omega) _ _
      clear hK K
      refine wpAnyH_done (by kernel_rfl) ?_ _
      go_wp2
      exact bodyPost_ret (v := .agg #[.int .i64 s3, .slice a3 l3 c3]) (by simp [results, Tryz.results61, go_sem, *]) rfl (endR _ (by omega) (also (also B0 b2) b3) h3 (f3 _ (Nat.lt_of_lt_of_le (Nat.lt_of_lt_of_le hs b1.size) b2.size) (f1 _ (Nat.lt_of_lt_of_le hs b1.size))) (fun j hj _ => f3 j (Nat.lt_of_lt_of_le hj (Nat.le_trans B0.size b2.size)) (f1 j (Nat.lt_of_lt_of_le hj B0.size))) _ _)
set_option maxRecDepth 100000 in
set_option maxHeartbeats 1000000 in
theorem rwSub (s t : Int) (d e : Option Addr) (l c m k : Nat) (x y z : Int) (w : World) (hx : RN w s d l c x) (hy : RN w t e m k y) (fx : hf.nlen x.natAbs ≤ 1000000) (fy : hf.nlen y.natAbs ≤ 1000000) (hz : z = x - y) : Calls Tryz.prog 42 #[.agg #[.int .i64 s, .slice d l c], .agg #[.int .i64 t, .slice e m k]] w (GotR w (fun k' => NA k' d l ∧ NA k' e m) z) := by
  obtain ⟨B0, xa, xb, xz, hs⟩ := box2 w (.int .i64 s) (.slice d l c) (.int .i64 t) (.slice e m k) (.int .i64 0) (.slice none 0 0) 34 34 34
  have HZ : Hid (z = x + -y) := by unfold Hid; omega
  clear hz
  replace B0 := B0.drew
  replace xa := xa.drew
  replace xb := xb.drew
  replace xz := xz.drew
  go_enter Tryz.func42, Tryz.ntmps42
  go_wp2
  refine wp_region_held_drew (S := (fun w' => w'.cell? ⟨w.heap.size, 0, none⟩ = some (.int .i64 s) ∧ w'.cell? ⟨w.heap.size, 1, none⟩ = some (.slice d l c) ∧ w'.cell? ⟨w.heap.size + 1, 0, none⟩ = some (.int .i64 t) ∧ w'.cell? ⟨w.heap.size + 1, 1, none⟩ = some (.slice e m k) ∧ Below w.heap.size w w')) (by kernel_rfl) ?_ (fun hHeld => ?_)
  · first | exact keepB2 hHeld b2 | exact keepB2 hHeld b1 | exact ⟨xa.c0, xa.c1, xb.c0, xb.c1, B0⟩ | exact keepS2 hHeld (by omega) (by omega) _ _
  refine take_yes (i := 0) (v := ?vu0) rfl (by kernel_rfl) (by kernel_rfl) (by kernel_rfl) (fun _ _ _ h => h) (by rfl) (by assumption) ?hyu0 ?restu0
  case hyu0 => (intro w hSw; (try dsimp only at hSw); first | (go_simp; done) | (go_simp; with_reducible rfl))
  simp only [Act.put, List.setIfInBounds_toArray, List.set_cons_zero, List.set_cons_succ]
  refine take_yes (i := 1) (v := ?vu1) rfl (by kernel_rfl) (by kernel_rfl) (by kernel_rfl) (fun _ _ _ h => h) (by rfl) (by assumption) ?hyu1 ?restu1
  case hyu1 => (intro w hSw; (try dsimp only at hSw); first | (go_simp; done) | (go_simp; with_reducible rfl))
  simp only [Act.put, List.setIfInBounds_toArray, List.set_cons_zero, List.set_cons_succ]
  refine take_call (i := 2) rfl (by kernel_rfl) (fun K hK => ?_)
  go_simp
  first
      | (go_at_call 62; refine (rwNeg t e m k y (-y) _ (hy.below hHeld.2.2.2.2) rfl).mono ?_; rintro e' w1 ⟨s1, a1, l1, c1, rfl, h1, f1, b1⟩)
      | (go_at_call 61; refine (rwAdd s s1 d a1 l c l1 c1 x (-y) z _ (hx.below hHeld.2.2.2.2) h1 fx (by rw [Int.natAbs_neg]; exact fy) HZ.out).mono ?_; rintro e' w2 ⟨s2, a2, l2, c2, rfl, h2, f2, b2⟩)
  refine hK.out _ _ ?_ (fun hHeld => ?_)
  · first | exact keepB2 hHeld b2 | exact keepB2 hHeld b1 | exact ⟨xa.c0, xa.c1, xb.c0, xb.c1, B0⟩ | exact keepS2 hHeld (by omega) (by omega) _ _
  clear hK K
  refine take_call (i := 3) rfl (by kernel_rfl) (fun K hK => ?_)
  go_simp
  first
      | (go_at_call 62; refine (rwNeg t e m k y (-y) _ (hy.below hHeld.2.2.2.2) rfl).mono ?_; rintro e' w1 ⟨s1, a1, l1, c1, rfl, h1, f1, b1⟩)
      | (go_at_call 61; refine (rwAdd s s1 d a1 l c l1 c1 x (-y) z _ (hx.below hHeld.2.2.2.2) h1 fx (by rw [Int.natAbs_neg]; exact fy) HZ.out).mono ?_; rintro e' w2 ⟨s2, a2, l2, c2, rfl, h2, f2, b2⟩)
  refine hK.out _ _ ?_ (fun hHeld => ?_)
  · first | exact keepB2 hHeld b2 | exact keepB2 hHeld b1 | exact ⟨xa.c0, xa.c1, xb.c0, xb.c1, B0⟩ | exact keepS2 hHeld (by omega) (by omega) _ _
  clear hK K
  obtain ⟨k0, k1, k2, k3⟩ := (xz.on b1).on b2
  refine take_call (i := 4) rfl (by kernel_rfl) (fun K hK => ?_)
  go_simp
  refine hK.out _ _ ?_ (fun hHeld => ?_)
  · first | exact keepB2 hHeld b2 | exact keepB2 hHeld b1 | exact ⟨xa.c0, xa.c1, xb.c0, xb.c1, B0⟩ | exact keepS2 hHeld (by omega) (by omega) _ _
  clear hK K
  refine wpAnyH_done (by kernel_rfl) ?_ _
  go_wp2
  have nd : NA (w.heap.size + 1 + 1) d l := hx.hd.sl.na (by omega)
  have ne : NA (w.heap.size + 1 + 1) e m := hy.hd.sl.na (by omega)
  exact bodyPost_ret (v := .agg #[.int .i64 s2, .slice a2 l2 c2]) (by simp [results, Tryz.results42, go_sem, *]) rfl (endR _ (by omega) (also (also B0 b1) b2) h2 (f2 _ (Nat.lt_of_lt_of_le hs b1.size) ⟨nd, f1 _ hs ne⟩) (fun j hj hp => f2 j (Nat.lt_of_lt_of_le hj (Nat.le_trans B0.size b1.size)) ⟨hp.1, f1 j (Nat.lt_of_lt_of_le hj B0.size) hp.2⟩) _ _)
theorem field_int (s : Int) (d : Option Addr) (l c : Nat) (w : World) : (Instr.field 34 (.agg #[.int .i64 s, .slice d l c]) 0).run Tryz.prog w = .ok (.int .i64 s) w := by show _ = _; kernel_rfl
set_option maxRecDepth 100000 in
set_option maxHeartbeats 1000000 in
theorem rwCmp (s t : Int) (d e : Option Addr) (l c m k : Nat) (x y : Int) (w : World) (hx : RN w s d l c x) (hy : RN w t e m k y) (fx : hf.nlen x.natAbs ≤ 1000000) (fy : hf.nlen y.natAbs ≤ 1000000) {g : Int} (hg : g = (x - y).sign) : Calls Tryz.prog 22 #[.agg #[.int .i64 s, .slice d l c], .agg #[.int .i64 t, .slice e m k]] w fun e' w' => e' = .returned (.int .i64 g) ∧ Below w.heap.size w w' := by
  obtain ⟨B0, xa, xb, hs⟩ := box1 w (.int .i64 s) (.slice d l c) (.int .i64 t) (.slice e m k) 34 34
  have HG : Hid _ := hg
  clear hg
  go_enter Tryz.func22, Tryz.ntmps22
  go_wp2_with (go_at_call 42; fail)
  refine (rwSub s t d e l c m k x y (x - y) _ (hx.below B0) (hy.below B0) fx fy rfl).mono ?_
  rintro e' w1 ⟨s1, a1, l1, c1, rfl, h1, f1, b1⟩
  obtain rfl : s1 = g := by rw [h1.sg]; exact HG.out.symm
  have EF := field_int s1 a1 l1 c1
  go_wp2
  go_ret
  exact ⟨rfl, also B0 b1⟩
end Go.Proofs.YtaekgomplkkocabGreatDoor

namespace Go.Proofs.YtaekgomplkkocabGreatDoor
open Go.RowKit
set_option linter.unusedVariables false

theorem new_one (w : World) (x : Int) (T : TypeId) : Sl (w.alloc (.cells #[.int .i64 x] T)) (some ⟨w.heap.size, 0, none⟩) 1 1 [.int .i64 x] := Own.sl (World.ownsRow_lit (base := w.heap.size) (e := T) (size := 1) w #[.int .i64 x] 1 (Nat.le_refl _) (by decide) rfl)
theorem cell_one (x : Nat) (h : x < 65536) : hf.dcells 1 (x : Int) = [.int .i64 (x : Int)] := by
  simp [hf.dcells, List.range_succ, hf.dg]
  omega
theorem pow_bits (j : Nat) : 2 ^ j = 2 ^ (j % 16) * 65536 ^ (j / 16) := by
  rw [show (65536 : Nat) = 2 ^ 16 from rfl, ← Nat.pow_mul, ← Nat.pow_add]
  congr 1
  omega
theorem bit_of (u j : Nat) : (hf.dg (u : Int) (j / 16)) / 2 ^ (j % 16) % 2 = ((u / 2 ^ j % 2 : Nat) : Int) := by
  have e : u / 2 ^ j = u / 65536 ^ (j / 16) / 2 ^ (j % 16) := by rw [pow_bits, Nat.mul_comm, Nat.div_div_eq_div_mul]
  have e2 : hf.dg (u : Int) (j / 16) = ((u / 65536 ^ (j / 16) % 65536 : Nat) : Int) := by
    unfold hf.dg
    rw [Int.natCast_emod, Int.natCast_ediv, hf.pow_cast]
    rfl
  rw [e, e2]
  generalize u / 65536 ^ (j / 16) = X
  obtain ⟨b, hb⟩ : ∃ b, b = j % 16 := ⟨_, rfl⟩
  have hb16 : b < 16 := by omega
  rw [← hb]
  have e3 : X % 65536 / 2 ^ b % 2 = X / 2 ^ b % 2 := by
    have h1 : 65536 = 2 ^ b * (2 * 2 ^ (15 - b)) := by rw [← Nat.mul_assoc, Nat.mul_comm (2 ^ b) 2, ← Nat.pow_succ', ← Nat.pow_add, show b + 1 + (15 - b) = 16 by omega]
    rw [h1, Nat.mod_mul_right_div_self, Nat.mod_mul_right_mod]
  have e4 : ((X % 65536 / 2 ^ b % 2 : Nat) : Int) = ((X % 65536 : Nat) : Int) / 2 ^ b % 2 := by
    rw [Int.natCast_emod (X % 65536 / 2 ^ b), Int.natCast_ediv, Int.natCast_pow]; rfl
  rw [← e4, e3]
/-- A bit more in what has none there. -/
theorem bit_set (l j Q : Nat) (h : 2 ^ (j + 1) ∣ Q) : (hf.dcells l (Q : Int)).set (j / 16) (.int .i64 (hf.dg (Q : Int) (j / 16) + 2 ^ (j % 16))) = hf.dcells l ((Q + 2 ^ j : Nat) : Int) := by
  obtain ⟨b, hb⟩ : ∃ b, b = j % 16 := ⟨_, rfl⟩
  obtain ⟨a, ha⟩ : ∃ a, a = j / 16 := ⟨_, rfl⟩
  rw [← ha, ← hb]
  have hp := hf.pow_nat a
  have e1 : 2 ^ j = 2 ^ b * 65536 ^ a := by rw [ha, hb]; exact pow_bits j
  have e2 : (Q + 2 ^ j) / 65536 ^ a = Q / 65536 ^ a + 2 ^ b := by rw [e1, Nat.add_mul_div_right _ _ hp]
  obtain ⟨X, hX⟩ : ∃ X, X = Q / 65536 ^ a := ⟨_, rfl⟩
  have hd : 2 ^ (b + 1) ∣ X := by
    obtain ⟨c, rfl⟩ := h
    refine ⟨c, ?_⟩
    rw [hX, Nat.pow_succ, e1, show 2 ^ b * 65536 ^ a * 2 * c = 2 ^ b * 2 * c * 65536 ^ a by rw [Nat.mul_right_comm (2 ^ b), Nat.mul_right_comm _ (65536 ^ a) c], Nat.mul_div_cancel _ hp, Nat.pow_succ]
  have hb16 : b < 16 := by omega
  have hX2 : (X + 2 ^ b) / 65536 = X / 65536 ∧ (X + 2 ^ b) % 65536 = X % 65536 + 2 ^ b := by
    obtain ⟨c, rfl⟩ := hd
    have h1 : 65536 = 2 ^ (b + 1) * 2 ^ (15 - b) := by rw [← Nat.pow_add, show b + 1 + (15 - b) = 16 by omega]
    have h3 : 2 ^ (b + 1) * c % 65536 = 2 ^ (b + 1) * (c % 2 ^ (15 - b)) := by rw [h1, Nat.mul_mod_mul_left]
    have h4 : c % 2 ^ (15 - b) + 1 ≤ 2 ^ (15 - b) := Nat.mod_lt _ (Nat.pow_pos (by decide))
    have h5 : 2 ^ (b + 1) * (c % 2 ^ (15 - b)) + 2 ^ (b + 1) ≤ 65536 := by
      have := Nat.mul_le_mul_left (2 ^ (b + 1)) h4
      rw [← h1, Nat.mul_add, Nat.mul_one] at this
      exact this
    have h6 : 2 ^ (b + 1) = 2 * 2 ^ b := by rw [Nat.pow_succ, Nat.mul_comm]
    have h7 : 0 < 2 ^ b := Nat.pow_pos (by decide)
    rw [← h3] at h5
    generalize 2 ^ (b + 1) * c = Y at *
    omega
  refine List.ext_getElem? fun i => ?_
  rw [List.getElem?_set]
  by_cases hi : i < l
  · have hdg : ∀ Z : Nat, hf.dg (Z : Int) i = ((Z / 65536 ^ i % 65536 : Nat) : Int) := fun Z => by
      unfold hf.dg
      rw [Int.natCast_emod, Int.natCast_ediv, hf.pow_cast]
      rfl
    by_cases hai : a = i
    · subst hai
      rw [if_pos rfl, if_pos (by rw [hf.dcells_length]; exact hi), hf.dcells_at _ _ _ hi, hdg, hdg, e2, ← hX, hX2.2]
      simp
    · rw [if_neg hai, hf.dcells_at _ _ _ hi, hf.dcells_at _ _ _ hi, hdg, hdg]
      rcases Nat.lt_or_ge i a with h1 | h1
      · have e3 : (Q + 2 ^ j) / 65536 ^ i % 65536 = Q / 65536 ^ i % 65536 := by
          have e4 : 2 ^ j = 2 ^ b * 65536 ^ (a - i - 1) * 65536 * 65536 ^ i := by
            rw [e1, Nat.mul_assoc, Nat.mul_assoc, ← Nat.pow_succ', ← Nat.pow_add, show a - i - 1 + (i + 1) = a by omega]
          rw [e4, Nat.add_mul_div_right _ _ (hf.pow_nat i), Nat.add_mul_mod_self_right]
        rw [e3]
      · have e3 : ∀ Z : Nat, Z / 65536 ^ i = Z / 65536 ^ a / 65536 / 65536 ^ (i - a - 1) := fun Z => by
          rw [Nat.div_div_eq_div_mul, Nat.div_div_eq_div_mul, ← Nat.pow_succ', ← Nat.pow_add, show a + (i - a - 1 + 1) = i by omega]
        rw [e3 (Q + 2 ^ j), e2, ← hX, hX2.1, hX, ← e3]
  · have hl1 : ∀ Z : Int, (hf.dcells l Z)[i]? = none := fun Z => List.getElem?_eq_none (by rw [hf.dcells_length]; omega)
    rw [hl1, hl1, hf.dcells_length]
    by_cases hai : a = i
    · rw [if_pos hai, if_neg (by omega)]
    · rw [if_neg hai]

/-- One bit more of a division. -/
theorem bit_step (X v c : Nat) (hv : 0 < v) (hc : c < 2) :
    (v ≤ X % v + X % v + c → (2 * X + c) % v = X % v + X % v + c - v ∧ (2 * X + c) / v = 2 * (X / v) + 1) ∧ (¬ v ≤ X % v + X % v + c → (2 * X + c) % v = X % v + X % v + c ∧ (2 * X + c) / v = 2 * (X / v)) := by
  have hr := Nat.mod_lt X hv
  have hd := Nat.div_add_mod X v
  obtain ⟨q, hq⟩ : ∃ q, q = X / v := ⟨_, rfl⟩
  obtain ⟨r, hr'⟩ : ∃ r, r = X % v := ⟨_, rfl⟩
  rw [← hq, ← hr'] at hd
  rw [← hr'] at hr
  rw [← hq, ← hr']
  refine ⟨fun h => ?_, fun h => ?_⟩
  · have e : 2 * X + c = (r + r + c - v) + v * (2 * q + 1) := by rw [Nat.mul_add, Nat.mul_left_comm]; omega
    rw [e, Nat.add_mul_mod_self_left, Nat.add_mul_div_left _ _ hv, Nat.mod_eq_of_lt (by omega), Nat.div_eq_of_lt (by omega)]
    omega
  · have e : 2 * X + c = (r + r + c) + v * (2 * q) := by rw [Nat.mul_left_comm]; omega
    rw [e, Nat.add_mul_mod_self_left, Nat.add_mul_div_left _ _ hv, Nat.mod_eq_of_lt (by omega), Nat.div_eq_of_lt (by omega)]
    omega
theorem half_bit (u j : Nat) : u / 2 ^ j = 2 * (u / 2 ^ (j + 1)) + u / 2 ^ j % 2 := by
  rw [Nat.pow_succ, ← Nat.div_div_eq_div_mul]
  omega
theorem add1 (a : Option Addr) (ca N B : Nat) (w : World) (ha : Sl w a (hf.nlen N) ca (hf.dcells (hf.nlen N) (N : Int))) (hlu : hf.nlen N ≤ 1000000000) (hb : Sl w (some ⟨B, 0, none⟩) 1 1 [.int .i64 1]) :
    Calls Tryz.prog 17 #[.slice a (hf.nlen N) ca, .slice (some ⟨B, 0, none⟩) 1 1] w fun e w' => ∃ a' cap', e = .returned (.slice a' (hf.nlen (N + 1)) cap') ∧ Own w' w.heap.size 3 a' (hf.nlen (N + 1)) cap' (hf.dcells (hf.nlen (N + 1)) ((N + 1 : Nat) : Int)) ∧ Below w.heap.size w w' := by
  have n1 : hf.nlen 1 = 1 := hf.nlen_eq ⟨by decide, Or.inr (by decide)⟩
  have h := radd_any a (some ⟨B, 0, none⟩) ca 1 N 1 w ha (by rw [n1]; rw [cell_one 1 (by decide)]; exact hb) hlu (by rw [n1]; decide)
  rw [n1] at h
  exact h
theorem few2 {R v X : Nat} (h : R < v) (hv : hf.nlen v ≤ 10000000) (hX : X ≤ R + R + 1) : hf.nlen X ≤ 1000000000 := by
  have h1 := hf.nlen_lt v
  have : hf.nlen X ≤ hf.nlen v + 1 := hf.nlen_le (by rw [Nat.pow_succ]; omega)
  omega
/-- What holds at the head of each round. -/
def BitwRel (w : World) (u v l qb : Nat) (r i : Value) (wr : World) : Prop := ∃ (t R cap : Nat) (ar : Option Addr), t ≤ 16 * l ∧ i = .int .i64 ((t : Int) - 1) ∧ r = .slice ar (hf.nlen R) cap ∧ Hid (R = u / 2 ^ t % v) ∧
  Own wr w.heap.size 3 (some ⟨qb, 0, none⟩) l l (hf.dcells l ((u / 2 ^ t / v * 2 ^ t : Nat) : Int)) ∧ Own wr w.heap.size 3 ar (hf.nlen R) cap (hf.dcells (hf.nlen R) (R : Int)) ∧ Below w.heap.size w wr
theorem own_ne {w : World} {base n cap qb : Nat} {T : TypeId} {a : Option Addr} {xs : List Value} (h : Own w base T a n cap xs) (hb : qb < base) : ∀ o, a ≠ some ⟨qb, o, none⟩ := by
  intro o e
  obtain ⟨hl, ⟨h1, _⟩ | ⟨g, cap', cur, hv, hb', r⟩⟩ := h
  · rw [e] at h1
    cases h1
  · rw [e] at hv
    cases hv
    omega
theorem bitw_less {w w3 : World} {u v l qb j R2 c2 c : Nat} {a2 : Option Addr} (ht : j ≤ 16 * l) (hv : 0 < v) (hc : c < 2) (HX : u / 2 ^ j = 2 * (u / 2 ^ (j + 1)) + c) (hR2 : R2 = u / 2 ^ (j + 1) % v + u / 2 ^ (j + 1) % v + c) (hlt : ¬ v ≤ R2)
    (hq : Own w3 w.heap.size 3 (some ⟨qb, 0, none⟩) l l (hf.dcells l ((u / 2 ^ (j + 1) / v * 2 ^ (j + 1) : Nat) : Int))) (hr : Own w3 w.heap.size 3 a2 (hf.nlen R2) c2 (hf.dcells (hf.nlen R2) (R2 : Int))) (hb : Below w.heap.size w w3) :
    BitwRel w u v l qb (.slice a2 (hf.nlen R2) c2) (.int .i64 ((j : Int) - 1)) w3 := by
  obtain ⟨h1, h2⟩ := (bit_step (u / 2 ^ (j + 1)) v c hv hc).2 (by rw [← hR2]; exact hlt)
  rw [← HX] at h1 h2
  refine ⟨j, R2, c2, a2, ht, rfl, rfl, by unfold Hid; rw [h1, hR2], ?_, hr, hb⟩
  rw [h2, show 2 * (u / 2 ^ (j + 1) / v) * 2 ^ j = u / 2 ^ (j + 1) / v * 2 ^ (j + 1) by rw [Nat.pow_succ, Nat.mul_comm 2, Nat.mul_assoc, Nat.mul_comm 2]]
  exact hq
theorem bitw_more {w w4 : World} {u v l qb j A R2 c3 c base : Nat} {a3 : Option Addr} {P : Int} (ht : j < 16 * l) (hv : 0 < v) (hc : c < 2) (HX : u / 2 ^ j = 2 * (u / 2 ^ (j + 1)) + c) (hR2 : R2 = u / 2 ^ (j + 1) % v + u / 2 ^ (j + 1) % v + c) (hge : v ≤ R2) (hA : A = j / 16) (hP : P = 2 ^ (j % 16))
    (hq : Own w4 w.heap.size 3 (some ⟨qb, 0, none⟩) l l (hf.dcells l ((u / 2 ^ (j + 1) / v * 2 ^ (j + 1) : Nat) : Int))) (hr : Own w4 base 3 a3 (hf.nlen (R2 - v)) c3 (hf.dcells (hf.nlen (R2 - v)) ((R2 - v : Nat) : Int))) (hbase : qb < base) (hwb : w.heap.size ≤ base) (hqw : w.heap.size ≤ qb) (hb : Below w.heap.size w w4) :
    BitwRel w u v l qb (.slice a3 (hf.nlen (R2 - v)) c3) (.int .i64 ((j : Int) - 1)) (w4.setCell ⟨qb, A, none⟩ (.int .i64 (hf.dg ((u / 2 ^ (j + 1) / v * 2 ^ (j + 1) : Nat) : Int) A + P))) := by
  subst hA hP
  obtain ⟨h1, h2⟩ := (bit_step (u / 2 ^ (j + 1)) v c hv hc).1 (by rw [← hR2]; exact hge)
  rw [← HX] at h1 h2
  have ws : Wr w4 (w4.setCell ⟨qb, j / 16, none⟩ (.int .i64 (hf.dg ((u / 2 ^ (j + 1) / v * 2 ^ (j + 1) : Nat) : Int) (j / 16) + 2 ^ (j % 16)))) qb 0 l := (Wr.refl _ _ _ _).set _ (Nat.zero_le _) (by omega)
  refine ⟨j, R2 - v, c3, a3, by omega, rfl, rfl, by unfold Hid; rw [h1, hR2], ?_, Own.mono (ws.own hr (own_ne hr hbase)) hwb, hb.setCell hqw _⟩
  rw [h2, show (2 * (u / 2 ^ (j + 1) / v) + 1) * 2 ^ j = u / 2 ^ (j + 1) / v * 2 ^ (j + 1) + 2 ^ j by rw [Nat.add_mul, Nat.pow_succ, Nat.mul_comm 2, Nat.mul_assoc, Nat.mul_comm 2, Nat.one_mul], ← bit_set _ _ _ (Nat.dvd_mul_left _ _)]
  exact Own.set hq _ (by omega)

set_option maxRecDepth 100000 in
set_option maxHeartbeats 2000000 in
theorem rdivMod_own (a b : Option Addr) (ca cb u v : Nat) (w : World) (ha : Sl w a (hf.nlen u) ca (hf.dcells (hf.nlen u) (u : Int))) (hb : Sl w b (hf.nlen v) cb (hf.dcells (hf.nlen v) (v : Int))) (hlu : hf.nlen u ≤ 10000000) (hlv : hf.nlen v ≤ 10000000) (hv : 0 < v) :
    Calls Tryz.prog 41 #[.slice a (hf.nlen u) ca, .slice b (hf.nlen v) cb] w fun e w' => ∃ aq cq ar cr, e = .returned (.tuple #[.slice aq (hf.nlen (u / v)) cq, .slice ar (hf.nlen (u % v)) cr]) ∧
      Own w' w.heap.size 3 aq (hf.nlen (u / v)) cq (hf.dcells (hf.nlen (u / v)) ((u / v : Nat) : Int)) ∧ Own w' w.heap.size 3 ar (hf.nlen (u % v)) cr (hf.dcells (hf.nlen (u % v)) ((u % v : Nat) : Int)) ∧ Below w.heap.size w w' := by
  obtain ⟨i0, hi0, hz0, hz1, hz2⟩ := info_parts infoInt
  obtain ⟨l, hl⟩ : ∃ l, l = hf.nlen u := ⟨_, rfl⟩
  rw [← hl] at ha hlu
  have hul : u < 65536 ^ l := by rw [hl]; exact hf.nlen_lt u
  rw [← hl]
  clear hl
  have hz0' : hf.dcells l 0 = List.replicate l (.int .i64 0) := hf.dcells_zero _
  have hmax : l ≤ maxLen := by unfold maxLen; omega
  go_enter Tryz.func41, Tryz.ntmps41
  go_wp2_with (at_make; refine make_any _ rfl (.tmp 10) (.tmp 10) 31 rfl w.heap.size 3 i0 (.int .i64 0) Tryz.underlying31 hi0 hz0 hz1 rfl .i64 .i64 _ _ l rfl rfl (by simp) (by simp) (by rw [hz2]; omega) (by omega) (Nat.le_refl _) ?_; intro w1 hownQ hbel1)
  have hownR : Own (w1.alloc (.cells #[] 3)) w.heap.size 3 (some ⟨w1.heap.size, 0, none⟩) 0 0 [] := own_empty w1 w.heap.size 3 hbel1.size
  have b2 : Below w1.heap.size w1 (w1.alloc (.cells #[] 3)) := (Below.refl _ _).alloc (Nat.le_refl _) _
  have hz16 : u / 2 ^ (16 * l) = 0 := Nat.div_eq_of_lt (by rw [Nat.pow_mul]; exact hul)
  have HST : Hid (BitwRel w u v l w.heap.size (.slice (some ⟨w1.heap.size, 0, none⟩) 0 0) (.int .i64 ((16 : Int) * (l : Int) - 1)) (w1.alloc (.cells #[] 3))) := by
    refine ⟨16 * l, 0, 0, some ⟨w1.heap.size, 0, none⟩, Nat.le_refl _, by simp, by rw [hf.nlen_zero], by unfold Hid; rw [hz16, Nat.zero_mod], ?_, by rw [hf.nlen_zero]; exact hownR, hbel1.trans (b2.mono hbel1.size)⟩
    rw [hz16, Nat.zero_div, Nat.zero_mul]
    rw [← hz0'] at hownQ
    exact Own.below hownQ b2
  clear hownQ hownR hbel1 b2 hz16
  have hcapA := ha.big
  have hroomA := ha.room
  unfold maxLen at hcapA
  have HB : Hid _ := hb
  have fv : hf.nlen v ≤ 1000000000 := by omega
  go_loopw [7, 8] (fun r i wr => BitwRel w u v l w.heap.size r i wr) (fun _ i _ => (intOf i + 1).toNat)
  case atStart => exact HST.out
  case round =>
    obtain ⟨t, R, cap, ar, ht, rfl, rfl, HR, hq, hr, hbel⟩ := hrel
    rcases t with _ | j
    · have hR : R = u % v := by have := HR.out; simpa using this
      have hq' : Own wr w.heap.size 3 (some ⟨w.heap.size, 0, none⟩) l l (hf.dcells l ((u / v : Nat) : Int)) := by simpa using hq
      have hQl : Hid (u / v < 65536 ^ l) := Nat.lt_of_le_of_lt (Nat.div_le_self _ _) hul
      have HQ : Hid _ := hq'
      have HRR : Hid _ := hr
      have HRe : Hid _ := hR
      clear hq hq' hr hR
      go_wp2_with (go_at_call 19; fail)
      refine (rtrim_own _ l l (u / v) w.heap.size wr HQ.out hQl.out).mono ?_
      rintro e w' ⟨rfl, hw, hq2⟩
      subst hw
      have hq3 : Hid _ := hq2
      clear hq2
      go_wp2
      go_ret2
      rw [← HRe.out]
      exact ⟨_, _, ar, cap, rfl, hq3.out, HRR.out, hbel⟩
    · obtain ⟨A, hA⟩ : ∃ A, A = j / 16 := ⟨_, rfl⟩
      obtain ⟨B, hB⟩ : ∃ B, B = j % 16 := ⟨_, rfl⟩
      have hAl : A < l := by omega
      obtain ⟨ba, oa, rfl, hba, hsg⟩ := ha.at (by omega)
      have c1 : wr.cell? ⟨ba, oa + A, none⟩ = some (.int .i64 (hf.dg u A)) := (hbel.cell (p := ⟨ba, oa + A, none⟩) hba).trans (hsg.cell A _ (hf.dcells_at _ _ _ hAl))
      have e1 : ((j + 1 : Nat) : Int) - 1 = (j : Int) := by omega
      have e2 : (j : Int) / 16 = (A : Int) := by omega
      have e3 : (j : Int) % 16 = (B : Int) := by omega
      have hB16 : B < 16 := by omega
      have sR := Own.sl hr
      have HO : Hid _ := hq
      have hRv : R < v := by rw [HR.out]; exact Nat.mod_lt _ hv
      clear hq hr
      have fR : hf.nlen R ≤ 1000000000 := Nat.le_trans (hf.nlen_le (Nat.lt_trans hRv (hf.nlen_lt v))) fv
      have HBits : Hid ((hf.dg (u : Int) A) / 2 ^ B % 2 = ((u / 2 ^ j % 2 : Nat) : Int)) := by unfold Hid; rw [hA, hB]; exact bit_of u j
      have hc2 : u / 2 ^ j % 2 < 2 := Nat.mod_lt _ (by decide)
      have HX : Hid _ := half_bit u j
      have HSt : Hid _ := bit_step (u / 2 ^ (j + 1)) v (u / 2 ^ j % 2) hv hc2
      obtain ⟨d0, d1⟩ := hf.dg_range u A
      rw [e1]
      go_wp2_with (go_at_call 17; fail)
      refine (radd_any ar ar cap cap R R wr sR sR fR fR).mono ?_
      rintro e w2 ⟨a2, c2, rfl, ho2, hb2⟩
      have c1 : w2.cell? ⟨ba, oa + A, none⟩ = some (.int .i64 (hf.dg u A)) := (hb2.cell (p := ⟨ba, oa + A, none⟩) (Nat.lt_of_lt_of_le hba hbel.size)).trans c1
      obtain ⟨c, hc⟩ : ∃ c, c = u / 2 ^ j % 2 := ⟨_, rfl⟩
      rw [← hc] at HBits HSt HX hc2
      have HC : Hid _ := hc
      clear hc
      have HA : Hid _ := hA
      have hj16 : j < 16 * l := by omega
      obtain ⟨P2, hP2⟩ : ∃ P2 : Nat, P2 = 2 ^ B := ⟨_, rfl⟩
      have HP2 : Hid ((P2 : Int) = 2 ^ (j % 16)) := by unfold Hid; rw [hP2, hB, Int.natCast_pow]; rfl
      have fP : (2 : Int) ^ B = (P2 : Int) := by rw [hP2, Int.natCast_pow]; rfl
      have P2b : P2 ≤ 32768 := by rw [hP2]; exact Nat.le_trans (Nat.pow_le_pow_right (by decide) (show B ≤ 15 by omega)) (by decide)
      have P2p : 0 < P2 := by rw [hP2]; exact Nat.pow_pos (by decide)
      rw [fP] at HBits
      clear hA hB hP2
      obtain ⟨x, hx⟩ : ∃ x : Int, x = hf.dg (u : Int) A := ⟨_, rfl⟩
      rw [← hx] at d0 d1 HBits c1
      clear hx hsg
      rcases Nat.eq_zero_or_pos c with h0 | h0
      · subst h0
        have fB : (x / (P2 : Int)).tmod 2 = 0 := by rw [Int.tmod_eq_emod_of_nonneg (Int.ediv_nonneg d0 (by omega))]; exact HBits.out
        go_wp2_with (go_at_call 59; fail)
        have sr2 := Own.sl ho2
        have sb2 := (HB.out.below hbel).below hb2
        have bel2 := hbel.trans (hb2.mono hbel.size)
        have hq2 := Own.below HO.out hb2
        have fR2 : hf.nlen (R + R) ≤ 1000000000 := few2 hRv hlv (by omega)
        have HQ2 : Hid _ := hq2
        have HR2 : Hid (R + R = u / 2 ^ (j + 1) % v + u / 2 ^ (j + 1) % v + 0) := by unfold Hid; first | (rw [← HR.out]; done) | (rw [← HR.out]; rfl)
        by_cases hge : v ≤ R + R
        · obtain ⟨k, hk, hk0⟩ : ∃ k, k = cmpI ((R + R : Nat) : Int) (v : Int) ∧ 0 ≤ k := ⟨_, rfl, by unfold cmpI; rw [if_neg (by omega)]; split <;> decide⟩
          have HK : Hid _ := hk.symm
          clear hk hq2
          have hwsz := bel2.size
          refine (rcmp_any a2 b c2 cb (R + R) v w2 sr2 sb2).mono ?_
          rw [HK.out]
          rintro e w5 ⟨rfl, hb5⟩
          have sr5 := sr2.below hb5
          have sb5 := sb2.below hb5
          have hq5 := Own.below HQ2.out hb5
          have bel5 := bel2.trans (hb5.mono bel2.size)
          have HQ5 : Hid _ := hq5
          clear hq5
          go_wp2_with (go_at_call 60; fail)
          refine (rsub_any a2 b c2 cb (R + R) v w5 sr5 sb5 fR2 fv hge).mono ?_
          rintro e w6 ⟨a6, c6, rfl, ho6, hb6⟩
          have hq6 := Own.below HQ5.out hb6
          have bel6 := bel5.trans (hb6.mono bel5.size)
          have c3 : w6.cell? ⟨w.heap.size, A, none⟩ = some (.int .i64 (hf.dg ((u / 2 ^ (j + 1) / v * 2 ^ (j + 1) : Nat) : Int) A)) := Own.cell hq6 A _ (hf.dcells_at _ _ _ hAl)
          have c4 : w6.frozen? ⟨w.heap.size, A, none⟩ = false := Own.free hq6 A hAl
          obtain ⟨g0, g1⟩ := hf.dg_range ((u / 2 ^ (j + 1) / v * 2 ^ (j + 1) : Nat) : Int) A
          have HN : Hid _ := bitw_more (P := (P2 : Int)) hj16 hv (by omega) HX.out HR2.out hge HA.out HP2.out hq6 ho6 (Nat.lt_of_lt_of_le (seg_of_own HQ5.out).2.1 (Nat.le_refl _)) bel5.size (Nat.le_refl _) bel6
          obtain ⟨dq, hdq⟩ : ∃ dq : Int, dq = hf.dg ((u / 2 ^ (j + 1) / v * 2 ^ (j + 1) : Nat) : Int) A := ⟨_, rfl⟩
          rw [← hdq] at c3 g0 g1 HN
          clear hq6 ho6 hdq
          go_wp2
          go_roundw
          case rel => exact HN.out
          case measure => simp [intOf]
        · obtain ⟨k, hk, hk0⟩ : ∃ k, k = cmpI ((R + R : Nat) : Int) (v : Int) ∧ k < 0 := ⟨_, rfl, by unfold cmpI; rw [if_pos (by omega)]; decide⟩
          have HK : Hid _ := hk.symm
          clear hk hq2
          refine (rcmp_any a2 b c2 cb (R + R) v w2 sr2 sb2).mono ?_
          rw [HK.out]
          rintro e w5 ⟨rfl, hb5⟩
          have hq5 := Own.below HQ2.out hb5
          have bel5 := bel2.trans (hb5.mono bel2.size)
          have HN : Hid _ := bitw_less (by omega) hv (by omega) HX.out HR2.out hge hq5 (Own.below (Own.mono ho2 (Nat.le_trans hbel.size (Nat.le_refl _))) hb5) bel5
          clear hq5
          go_wp2
          go_roundw
          case rel => exact HN.out
          case measure => simp [intOf]
      · obtain rfl : c = 1 := by omega
        have fB : (x / (P2 : Int)).tmod 2 = 1 := by rw [Int.tmod_eq_emod_of_nonneg (Int.ediv_nonneg d0 (by omega))]; exact HBits.out
        go_wp2_with (go_at_call 17; fail)
        refine (add1 a2 c2 (R + R) w2.heap.size _ ((Own.sl ho2).below ((Below.refl _ _).alloc (Nat.le_refl _) _)) (few2 hRv hlv (by omega)) (new_one w2 1 3)).mono ?_
        rintro e w4 ⟨a4, c4', rfl, ho4, hb4⟩
        have hb4x : Below wr.heap.size wr w4 := (hb2.alloc hb2.size _).trans (hb4.mono (by have := hb2.size; simp; omega))
        go_wp2_with (go_at_call 59; fail)
        have sr2 := Own.sl ho4
        have sb2 := (HB.out.below hbel).below hb4x
        have bel2 := hbel.trans (hb4x.mono hbel.size)
        have hq2 := Own.below HO.out hb4x
        have fR2 : hf.nlen (R + R + 1) ≤ 1000000000 := few2 hRv hlv (by omega)
        have HQ2 : Hid _ := hq2
        have HR2 : Hid (R + R + 1 = u / 2 ^ (j + 1) % v + u / 2 ^ (j + 1) % v + 1) := by unfold Hid; first | (rw [← HR.out]; done) | (rw [← HR.out]; rfl)
        by_cases hge : v ≤ R + R + 1
        · obtain ⟨k, hk, hk0⟩ : ∃ k, k = cmpI ((R + R + 1 : Nat) : Int) (v : Int) ∧ 0 ≤ k := ⟨_, rfl, by unfold cmpI; rw [if_neg (by omega)]; split <;> decide⟩
          have HK : Hid _ := hk.symm
          clear hk hq2
          have hwsz := bel2.size
          refine (rcmp_any a4 b c4' cb (R + R + 1) v w4 sr2 sb2).mono ?_
          rw [HK.out]
          rintro e w5 ⟨rfl, hb5⟩
          have sr5 := sr2.below hb5
          have sb5 := sb2.below hb5
          have hq5 := Own.below HQ2.out hb5
          have bel5 := bel2.trans (hb5.mono bel2.size)
          have HQ5 : Hid _ := hq5
          clear hq5
          go_wp2_with (go_at_call 60; fail)
          refine (rsub_any a4 b c4' cb (R + R + 1) v w5 sr5 sb5 fR2 fv hge).mono ?_
          rintro e w6 ⟨a6, c6, rfl, ho6, hb6⟩
          have hq6 := Own.below HQ5.out hb6
          have bel6 := bel5.trans (hb6.mono bel5.size)
          have c3 : w6.cell? ⟨w.heap.size, A, none⟩ = some (.int .i64 (hf.dg ((u / 2 ^ (j + 1) / v * 2 ^ (j + 1) : Nat) : Int) A)) := Own.cell hq6 A _ (hf.dcells_at _ _ _ hAl)
          have c4 : w6.frozen? ⟨w.heap.size, A, none⟩ = false := Own.free hq6 A hAl
          obtain ⟨g0, g1⟩ := hf.dg_range ((u / 2 ^ (j + 1) / v * 2 ^ (j + 1) : Nat) : Int) A
          have HN : Hid _ := bitw_more (P := (P2 : Int)) hj16 hv (by omega) HX.out HR2.out hge HA.out HP2.out hq6 ho6 (Nat.lt_of_lt_of_le (seg_of_own HQ5.out).2.1 (Nat.le_refl _)) bel5.size (Nat.le_refl _) bel6
          obtain ⟨dq, hdq⟩ : ∃ dq : Int, dq = hf.dg ((u / 2 ^ (j + 1) / v * 2 ^ (j + 1) : Nat) : Int) A := ⟨_, rfl⟩
          rw [← hdq] at c3 g0 g1 HN
          clear hq6 ho6 hdq
          go_wp2
          go_roundw
          case rel => exact HN.out
          case measure => simp [intOf]
        · obtain ⟨k, hk, hk0⟩ : ∃ k, k = cmpI ((R + R + 1 : Nat) : Int) (v : Int) ∧ k < 0 := ⟨_, rfl, by unfold cmpI; rw [if_pos (by omega)]; decide⟩
          have HK : Hid _ := hk.symm
          clear hk hq2
          refine (rcmp_any a4 b c4' cb (R + R + 1) v w4 sr2 sb2).mono ?_
          rw [HK.out]
          rintro e w5 ⟨rfl, hb5⟩
          have hq5 := Own.below HQ2.out hb5
          have bel5 := bel2.trans (hb5.mono bel2.size)
          have HN : Hid _ := bitw_less (by omega) hv (by omega) HX.out HR2.out hge hq5 (Own.below (Own.mono ho4 (Nat.le_trans hbel.size (Nat.le_trans hb2.size (by simp)))) hb5) bel5
          clear hq5
          go_wp2
          go_roundw
          case rel => exact HN.out
          case measure => simp [intOf]
theorem rdivMod_any (a b : Option Addr) (ca cb u v : Nat) (w : World) (ha : Sl w a (hf.nlen u) ca (hf.dcells (hf.nlen u) (u : Int))) (hb : Sl w b (hf.nlen v) cb (hf.dcells (hf.nlen v) (v : Int))) (hlu : hf.nlen u ≤ 10000000) (hlv : hf.nlen v ≤ 10000000) (hv : 0 < v) :
    Calls Tryz.prog 41 #[.slice a (hf.nlen u) ca, .slice b (hf.nlen v) cb] w fun e w' => ∃ aq cq ar cr, e = .returned (.tuple #[.slice aq (hf.nlen (u / v)) cq, .slice ar (hf.nlen (u % v)) cr]) ∧
      Sl w' aq (hf.nlen (u / v)) cq (hf.dcells (hf.nlen (u / v)) ((u / v : Nat) : Int)) ∧ Sl w' ar (hf.nlen (u % v)) cr (hf.dcells (hf.nlen (u % v)) ((u % v : Nat) : Int)) ∧ Below w.heap.size w w' := by
  refine (rdivMod_own a b ca cb u v w ha hb hlu hlv hv).mono ?_
  rintro e w' ⟨aq, cq, ar, cr, he, hq, hr, hbel⟩
  exact ⟨aq, cq, ar, cr, he, Own.sl hq, Own.sl hr, hbel⟩
end Go.Proofs.YtaekgomplkkocabGreatDoor

namespace Go.Proofs.YtaekgomplkkocabGreatDoor
open Go.RowKit
set_option linter.unusedVariables false

def GotHB (w : World) (q r : Nat) (e : Ending) (w' : World) : Prop := ∃ aq lq cq ar lr cr, e = .returned (.tuple #[.slice aq lq cq, .slice ar lr cr]) ∧ HD w' aq lq cq q ∧ HD w' ar lr cr r ∧ Far w.heap.size aq lq ∧ Far w.heap.size ar lr ∧ Below w.heap.size w w'
theorem hfDiv (a b : Option Addr) (la lb ca cb u v : Nat) (w : World) (ha : HD w a la ca u) (hb : HD w b lb cb v) (fu : hf.nlen u ≤ 1000000) (fv : hf.nlen v ≤ 1000000) (hv : 0 < v) : Calls Tryz.prog 41 #[.slice a la ca, .slice b lb cb] w (GotHB w (u / v) (u % v)) := by
  obtain ⟨ha, rfl⟩ := ha
  obtain ⟨hb, rfl⟩ := hb
  refine (rdivMod_own a b ca cb u v w ha hb (by omega) (by omega) hv).mono ?_
  rintro e w' ⟨aq, cq, ar, cr, he, hq, hr, hbel⟩
  exact ⟨aq, _, cq, ar, _, cr, he, ⟨Own.sl hq, rfl⟩, ⟨Own.sl hr, rfl⟩, Own.far hq, Own.far hr, hbel⟩

set_option maxRecDepth 100000 in
set_option maxHeartbeats 1000000 in
theorem rwLong (x : Int) (w : World) (h1 : -9223372036854775808 ≤ x) (h2 : x ≤ 9223372036854775807) : Calls Tryz.prog 20 #[.int .i64 x] w (GotR w (fun _ => True) x) := by
  by_cases hx : x = 0
  · subst hx
    go_enter Tryz.func20, Tryz.ntmps20
    go_wp2
    exact bodyPost_ret (v := .agg #[.int .i64 0, .slice none 0 0]) (by simp [results, Tryz.results20, go_sem, *]) rfl ⟨0, none, 0, 0, rfl, rn_zero _ 0, fun _ _ _ => Or.inl rfl, (Below.refl _ _).alloc (Nat.le_refl _) _⟩
  have B0 : Below w.heap.size w (w.alloc (.cells #[.int .i64 0, .slice none 0 0] 34)) := (Below.refl _ _).alloc (Nat.le_refl _) _
  have x0 := bx_new w (.int .i64 0) (.slice none 0 0) 34
  obtain ⟨u, hu⟩ : ∃ u, u = x.natAbs := ⟨_, rfl⟩
  have hul : u < 18446744073709551616 := by omega
  have ho := own_two (w.alloc (.cells #[.int .i64 0, .slice none 0 0] 34)) u hul
  have hb1 : Below (w.alloc (.cells #[.int .i64 0, .slice none 0 0] 34)).heap.size (w.alloc (.cells #[.int .i64 0, .slice none 0 0] 34)) ((w.alloc (.cells #[.int .i64 0, .slice none 0 0] 34)).alloc (.cells #[.int .u32 ((u : Int) % 4294967296), .int .u32 ((u : Int) / 4294967296)] 65)) := (Below.refl _ _).alloc (Nat.le_refl _) _
  have hni : NI _ _ 2 2 u := ⟨Own.sl ho, by omega, by decide⟩
  rw [World.size_alloc] at hni
  have x1 := x0.on hb1
  have E2 : (u : Int) / 4294967296 % 4294967296 = (u : Int) / 4294967296 := by omega
  by_cases hn : x < 0
  · have E : IntKind.u64.wrap (-IntKind.u64.wrap x) = (u : Int) := by rw [IntKind.wrap_u64, IntKind.wrap_u64]; omega
    have HR : Hid ((-1 : Int) = x.sign) := (sign_neg hn).symm
    have HU : Hid _ := hu
    clear hu ho
    go_enter Tryz.func20, Tryz.ntmps20
    go_wp2_with (go_at_call 39; fail)
    refine (hfOf _ 2 2 u _ hni).mono ?_
    rintro e w2 ⟨d, l, c, rfl, hd, fd, b2⟩
    obtain ⟨k0, k1, k2, k3⟩ := x1.on b2
    go_wp2
    exact bodyPost_ret (v := .agg #[.int .i64 (-1), .slice d l c]) (by simp [results, Tryz.results20, go_sem, *]) rfl (endR _ (by omega) (also (also B0 hb1) b2) ⟨HU.out ▸ hd, HR.out⟩ (fd _ (by simp; omega)) (fun j hj _ => fd j (by simp; omega)) _ _)
  · obtain ⟨y, rfl⟩ := Int.eq_ofNat_of_zero_le (show 0 ≤ x by omega)
    obtain rfl : u = y := by omega
    have HR : Hid ((1 : Int) = ((u : Nat) : Int).sign) := (sign_pos (by omega)).symm
    have HU : Hid (u = ((u : Nat) : Int).natAbs) := hu
    clear hu ho
    go_enter Tryz.func20, Tryz.ntmps20
    go_wp2_with (go_at_call 39; fail)
    refine (hfOf _ 2 2 u _ hni).mono ?_
    rintro e w2 ⟨d, l, c, rfl, hd, fd, b2⟩
    obtain ⟨k0, k1, k2, k3⟩ := x1.on b2
    go_wp2
    exact bodyPost_ret (v := .agg #[.int .i64 (1), .slice d l c]) (by simp [results, Tryz.results20, go_sem, *]) rfl (endR _ (by omega) (also (also B0 hb1) b2) ⟨HU.out ▸ hd, HR.out⟩ (fd _ (by simp; omega)) (fun j hj _ => fd j (by simp; omega)) _ _)

theorem one_few : hf.nlen (1 : Int).natAbs ≤ 1000000 := Nat.le_trans (hf.nlen_le (n := 1) (by decide)) (by decide)
theorem sg_mul (x y : Int) : x.sign * y.sign = (x * y).sign := (Int.sign_mul x y).symm
theorem keepC3 {p q r : Nat} {v1 v2 v3 v4 v5 v6 : Value} {w0 w w' : World} (h : w.cell? ⟨p, 0, none⟩ = some v1 ∧ w.cell? ⟨p, 1, none⟩ = some v2 ∧ w.cell? ⟨q, 0, none⟩ = some v3 ∧ w.cell? ⟨q, 1, none⟩ = some v4 ∧ w.cell? ⟨r, 0, none⟩ = some v5 ∧ w.cell? ⟨r, 1, none⟩ = some v6 ∧ Below w0.heap.size w0 w) (hb : Below w.heap.size w w') :
    w'.cell? ⟨p, 0, none⟩ = some v1 ∧ w'.cell? ⟨p, 1, none⟩ = some v2 ∧ w'.cell? ⟨q, 0, none⟩ = some v3 ∧ w'.cell? ⟨q, 1, none⟩ = some v4 ∧ w'.cell? ⟨r, 0, none⟩ = some v5 ∧ w'.cell? ⟨r, 1, none⟩ = some v6 ∧ Below w0.heap.size w0 w' :=
  ⟨cell_on hb h.1, cell_on hb h.2.1, cell_on hb h.2.2.1, cell_on hb h.2.2.2.1, cell_on hb h.2.2.2.2.1, cell_on hb h.2.2.2.2.2.1, also h.2.2.2.2.2.2 hb⟩
theorem keepP3 {p q r k : Nat} {v1 v2 v3 v4 v5 v6 : Value} {w0 w : World} (h : w.cell? ⟨p, 0, none⟩ = some v1 ∧ w.cell? ⟨p, 1, none⟩ = some v2 ∧ w.cell? ⟨q, 0, none⟩ = some v3 ∧ w.cell? ⟨q, 1, none⟩ = some v4 ∧ w.cell? ⟨r, 0, none⟩ = some v5 ∧ w.cell? ⟨r, 1, none⟩ = some v6 ∧ Below w0.heap.size w0 w) (hp : k ≠ p) (hq : k ≠ q) (hr : k ≠ r) (hB : w0.heap.size ≤ k) (u v : Value) :
    ((w.setCell ⟨k, 0, none⟩ u).setCell ⟨k, 1, none⟩ v).cell? ⟨p, 0, none⟩ = some v1 ∧ ((w.setCell ⟨k, 0, none⟩ u).setCell ⟨k, 1, none⟩ v).cell? ⟨p, 1, none⟩ = some v2 ∧ ((w.setCell ⟨k, 0, none⟩ u).setCell ⟨k, 1, none⟩ v).cell? ⟨q, 0, none⟩ = some v3 ∧ ((w.setCell ⟨k, 0, none⟩ u).setCell ⟨k, 1, none⟩ v).cell? ⟨q, 1, none⟩ = some v4 ∧ ((w.setCell ⟨k, 0, none⟩ u).setCell ⟨k, 1, none⟩ v).cell? ⟨r, 0, none⟩ = some v5 ∧ ((w.setCell ⟨k, 0, none⟩ u).setCell ⟨k, 1, none⟩ v).cell? ⟨r, 1, none⟩ = some v6 ∧ Below w0.heap.size w0 ((w.setCell ⟨k, 0, none⟩ u).setCell ⟨k, 1, none⟩ v) := by
  have hne : ∀ i j b : Nat, k ≠ b → (⟨k, i, none⟩ : Addr) ≠ ⟨b, j, none⟩ := fun i j b hb e => by simp only [Addr.mk.injEq] at e; omega
  have g : ∀ (b j : Nat) (x : Value), k ≠ b → w.cell? ⟨b, j, none⟩ = some x → ((w.setCell ⟨k, 0, none⟩ u).setCell ⟨k, 1, none⟩ v).cell? ⟨b, j, none⟩ = some x := fun b j x hb hc => by
    rw [World.cell?_setCell_other _ _ _ _ (hne _ _ _ hb), World.cell?_setCell_other _ _ _ _ (hne _ _ _ hb)]; exact hc
  exact ⟨g _ _ _ hp h.1, g _ _ _ hp h.2.1, g _ _ _ hq h.2.2.1, g _ _ _ hq h.2.2.2.1, g _ _ _ hr h.2.2.2.2.1, g _ _ _ hr h.2.2.2.2.2.1, below_put2 h.2.2.2.2.2.2 hB u v⟩
def GotRF (w : World) (q r : Int) (e : Ending) (w' : World) : Prop := ∃ (s1 : Int) (d1 : Option Addr) (l1 c1 : Nat) (s2 : Int) (d2 : Option Addr) (l2 c2 : Nat), e = .returned (.tuple #[.agg #[.int .i64 s1, .slice d1 l1 c1], .agg #[.int .i64 s2, .slice d2 l2 c2]]) ∧ RN w' s1 d1 l1 c1 q ∧ RN w' s2 d2 l2 c2 r ∧ Below w.heap.size w w'
def GotRFF (w : World) (q r : Int) (e : Ending) (w' : World) : Prop := ∃ (s1 : Int) (d1 : Option Addr) (l1 c1 : Nat) (s2 : Int) (d2 : Option Addr) (l2 c2 : Nat), e = .returned (.tuple #[.agg #[.int .i64 s1, .slice d1 l1 c1], .agg #[.int .i64 s2, .slice d2 l2 c2]]) ∧ RN w' s1 d1 l1 c1 q ∧ RN w' s2 d2 l2 c2 r ∧ Far w.heap.size d1 l1 ∧ Below w.heap.size w w'
theorem endRF {w w6 : World} {s1 s2 : Int} {d1 d2 : Option Addr} {l1 c1 l2 c2 : Nat} {Q R : Int} (hq : RN w6 s1 d1 l1 c1 Q) (hr : RN w6 s2 d2 l2 c2 R) (B : Below w.heap.size w w6) (a1 : NA (w.heap.size + 1 + 1) d1 l1) (a2 : NA (w.heap.size + 1 + 1 + 1) d1 l1) (a3 : NA (w.heap.size + 1 + 1) d2 l2) (a4 : NA (w.heap.size + 1 + 1 + 1) d2 l2) (fa : Far w.heap.size d1 l1) (u v u' v' : Value) :
    GotRFF w Q R (.returned (.tuple #[.agg #[.int .i64 s1, .slice d1 l1 c1], .agg #[.int .i64 s2, .slice d2 l2 c2]])) ((((w6.setCell ⟨w.heap.size + 1 + 1, 0, none⟩ u).setCell ⟨w.heap.size + 1 + 1, 1, none⟩ v).setCell ⟨w.heap.size + 1 + 1 + 1, 0, none⟩ u').setCell ⟨w.heap.size + 1 + 1 + 1, 1, none⟩ v') :=
  ⟨s1, d1, l1, c1, s2, d2, l2, c2, rfl, (hq.put2 a1 u v).put2 a2 u' v', (hr.put2 a3 u v).put2 a4 u' v', fa, below_put2 (below_put2 B (by omega) u v) (by omega) u' v'⟩
end Go.Proofs.YtaekgomplkkocabGreatDoor

namespace Go.Proofs.YtaekgomplkkocabGreatDoor
open Go.RowKit
set_option linter.unusedVariables false

theorem gcd_half {X Y G : Nat} (h : Nat.gcd X Y = G) (hG : G % 2 = 1) (hX : X % 2 = 0) : Nat.gcd (X / 2) Y = G := by
  have hX2 : X = 2 * (X / 2) := by omega
  have hc : Nat.Coprime G 2 := by
    unfold Nat.Coprime
    rw [Nat.gcd_comm, Nat.gcd_rec, hG]
    decide
  have h1 : G ∣ X / 2 := by
    have : G ∣ 2 * (X / 2) := by rw [← hX2, ← h]; exact Nat.gcd_dvd_left X Y
    exact hc.dvd_of_dvd_mul_left this
  have h2 : G ∣ Y := by rw [← h]; exact Nat.gcd_dvd_right X Y
  refine Nat.dvd_antisymm ?_ (Nat.dvd_gcd h1 h2)
  rw [← h]
  exact Nat.dvd_gcd (Nat.dvd_trans (Nat.gcd_dvd_left _ _) ⟨2, by omega⟩) (Nat.gcd_dvd_right _ _)
theorem gcd_both {X Y : Nat} (hX : X % 2 = 0) (hY : Y % 2 = 0) : Nat.gcd X Y = Nat.gcd (X / 2) (Y / 2) * 2 := by
  have h1 : X = 2 * (X / 2) := by omega
  have h2 : Y = 2 * (Y / 2) := by omega
  conv => lhs; rw [h1, h2]
  rw [Nat.gcd_mul_left, Nat.mul_comm]
theorem gcd_odd {X Y : Nat} (h : ¬ (X % 2 = 0 ∧ Y % 2 = 0)) : Nat.gcd X Y % 2 = 1 := by
  rcases Nat.mod_two_eq_zero_or_one (Nat.gcd X Y) with e | e
  · exfalso
    have h2 : 2 ∣ Nat.gcd X Y := Nat.dvd_of_mod_eq_zero e
    exact h ⟨Nat.mod_eq_zero_of_dvd (Nat.dvd_trans h2 (Nat.gcd_dvd_left _ _)), Nat.mod_eq_zero_of_dvd (Nat.dvd_trans h2 (Nat.gcd_dvd_right _ _))⟩
  · exact e
theorem gcd_less {X Y : Nat} (h : Y ≤ X) : Nat.gcd (X - Y) Y = Nat.gcd X Y := by
  have e : X = X - Y + Y := by omega
  conv => rhs; rw [e]
  rw [Nat.gcd_add_self_left]
theorem mono_hf {u v : Nat} (h : u ≤ v) : hf.nlen u ≤ hf.nlen v := hf.nlen_le (Nat.lt_of_le_of_lt h (hf.nlen_lt v))
/-- The lowest digit tells whether a number is even. -/
theorem low_even (X : Nat) : hf.dg (X : Int) 0 % 2 = ((X % 2 : Nat) : Int) := by
  rw [hf.dg_nat, Nat.pow_zero, Nat.div_one]
  omega
/-- A number that isn't nought has a first digit. -/
theorem HD.first {w : World} {a : Option Addr} {l c u : Nat} (h : HD w a l c u) (hu : 0 < u) : 0 < l ∧ ∃ b o, a = some ⟨b, o, none⟩ ∧ w.cell? ⟨b, o, none⟩ = some (.int .i64 (hf.dg (u : Int) 0)) ∧ l ≤ 9223372036854775807 := by
  have hl : 0 < l := by rw [h.len]; exact hf.nlen_pos hu
  obtain ⟨b, o, e, hb, hs⟩ := h.sl.at hl
  have := h.sl.big
  have := h.sl.room
  unfold maxLen at *
  exact ⟨hl, b, o, e, by have := hs.cell 0 _ (hf.dcells_at _ _ _ hl); simpa using this, by omega⟩

/-- Both are halved: k is the first number. -/
def G1 (w : World) (u v : Nat) (k : Nat) (x y t : Value) (wr : World) : Prop := ∃ (a : Option Addr) (la ca : Nat) (b : Option Addr) (lb cb Y T : Nat), x = .slice a la ca ∧ y = .slice b lb cb ∧ t = .int .i64 (T : Int) ∧ HD wr a la ca k ∧ HD wr b lb cb Y ∧ 0 < k ∧ 0 < Y ∧ k * 2 ^ T ≤ u ∧ Y ≤ v ∧ Nat.gcd k Y * 2 ^ T = Nat.gcd u v ∧ Below w.heap.size w wr
/-- One is taken off the other. -/
def G2 (w : World) (u v G : Nat) (k : Nat) (x y : Value) (wr : World) : Prop := ∃ (a : Option Addr) (la ca : Nat) (b : Option Addr) (lb cb X Y : Nat), x = .slice a la ca ∧ y = .slice b lb cb ∧ HD wr a la ca X ∧ HD wr b lb cb Y ∧ X + Y = k ∧ 0 < Y ∧ k ≤ u + v ∧ Nat.gcd X Y = G ∧ Below w.heap.size w wr
/-- One is halved. -/
def G3 (w : World) (Y G M : Nat) (k : Nat) (x : Value) (wr : World) : Prop := ∃ (a : Option Addr) (la ca : Nat), x = .slice a la ca ∧ HD wr a la ca k ∧ 0 < k ∧ k ≤ M ∧ Nat.gcd k Y = G ∧ Below w.heap.size w wr
/-- Two is doubled. -/
def G5 (w : World) (T k : Nat) (one i : Value) (wr : World) : Prop := ∃ (a : Option Addr) (la ca I : Nat), one = .slice a la ca ∧ i = .int .i64 (I : Int) ∧ HD wr a la ca (2 ^ I) ∧ I + k = T ∧ Below w.heap.size w wr

set_option maxRecDepth 100000 in
set_option maxHeartbeats 4000000 in
theorem hGcd (a b : Option Addr) (la lb ca cb u v : Nat) (w : World) (ha : HD w a la ca u) (hb : HD w b lb cb v) (fu : hf.nlen (u + v) ≤ 1000000) :
    Calls Tryz.prog 40 #[.slice a la ca, .slice b lb cb] w (GotH w (Nat.gcd u v)) := by
  obtain ⟨g, hg⟩ : ∃ g, g = Nat.gcd u v := ⟨_, rfl⟩
  have hb0 : Below w.heap.size w (w.alloc (.cells #[.int .i64 1] 3)) := (Below.refl _ _).alloc (Nat.le_refl _) _
  have h1 : HD (w.alloc (.cells #[.int .i64 1] 3)) (some ⟨w.heap.size, 0, none⟩) 1 1 (2 ^ 0) := by
    have e : hf.dcells 1 ((2 ^ 0 : Nat) : Int) = [.int .i64 1] := by simp [hf.dcells, hf.dg]
    refine ⟨?_, (hf.nlen_eq ⟨by decide, Or.inr (by decide)⟩).symm⟩
    rw [e]
    exact Own.sl (World.ownsRow_lit w #[.int .i64 1] 1 (Nat.le_refl _) (by decide) rfl)
  have ha0 := ha.below hb0
  have hb0' := hb.below hb0
  obtain ⟨w0, hw0⟩ : ∃ w0, w0 = w.alloc (.cells #[.int .i64 1] 3) := ⟨_, rfl⟩
  rw [← hw0] at hb0 h1 ha0 hb0'
  have HG : Hid _ := hg.symm
  rw [← hg]
  clear hg ha hb
  rcases Nat.eq_zero_or_pos u with hu | hu
  · subst hu
    obtain rfl : la = 0 := by rw [ha0.len, hf.nlen_zero]
    obtain rfl : v = g := by have := HG.out; simpa using this
    go_enter Tryz.func40, Tryz.ntmps40
    go_wp2
    go_ret
    exact ⟨b, lb, cb, rfl, hw0 ▸ hb0', hw0 ▸ hb0⟩
  rcases Nat.eq_zero_or_pos v with hv | hv
  · subst hv
    obtain rfl : lb = 0 := by rw [hb0'.len, hf.nlen_zero]
    obtain rfl : u = g := by have := HG.out; simpa using this
    obtain ⟨hl, _⟩ := ha0.first hu
    have hl' : ¬ (la : Int) = 0 := by omega
    go_enter Tryz.func40, Tryz.ntmps40
    go_wp2
    go_ret
    exact ⟨a, la, ca, rfl, hw0 ▸ ha0, hw0 ▸ hb0⟩
  have hla : ¬ (la : Int) = 0 := by have := (ha0.first hu).1; omega
  have hlb : ¬ (lb : Int) = 0 := by have := (hb0'.first hv).1; omega
  have HST : Hid (G1 w0 u v u (.slice a la ca) (.slice b lb cb) (.int .i64 0) w0) := ⟨a, la, ca, b, lb, cb, v, 0, rfl, rfl, rfl, ha0, hb0', hu, hv, by simp, Nat.le_refl _, by simp, Below.refl _ _⟩
  clear ha0 hb0'
  have fu1 : ∀ x, x ≤ u + v → hf.nlen x ≤ 1000000 := fun x hx => Nat.le_trans (mono_hf hx) fu
  have FU : Hid _ := fu1
  obtain ⟨K, hK, hKu⟩ : ∃ K, K ≤ 16000000 ∧ u < 2 ^ K := by
    have h2 := hf.nlen_lt (u + v)
    rw [show (65536 : Nat) = 2 ^ 16 from rfl, ← Nat.pow_mul] at h2
    exact ⟨16 * hf.nlen (u + v), by omega, by omega⟩
  have HUB : Hid _ := hKu
  have H1 : Hid _ := h1
  clear hKu fu fu1 h1
  go_enter Tryz.func40, Tryz.ntmps40
  go_wp2
  rw [← hw0]
  simp only [show ((la : Int) == 0) = false by simpa using hla, show ((lb : Int) == 0) = false by simpa using hlb]
  clear hw0
  go_loopg [6, 7, 8] u (fun k x y t wr => G1 w0 u v k x y t wr)
  case atStart => exact HST.out
  case round =>
    clear HST hla hlb
    obtain ⟨a, la, ca, b, lb, cb, Y, T, rfl, rfl, rfl, ha, hb, hX0, hY0, hXu, hYv, hgg, hbel⟩ := hrel
    have hT : T < K := by
      refine Nat.lt_of_not_le fun h => ?_
      have h2 := Nat.pow_le_pow_right (n := 2) (by decide) h
      have h3 : 1 * 2 ^ T ≤ gk * 2 ^ T := Nat.mul_le_mul_right _ hX0
      have := HUB.out
      omega
    have hXu' : gk ≤ u := Nat.le_trans (Nat.le_mul_of_pos_right _ (Nat.pow_pos (by decide))) hXu
    have hPu : 2 ^ T ≤ u := Nat.le_trans (Nat.le_mul_of_pos_left _ hX0) hXu
    obtain ⟨hl, ba, oa, rfl, c0, hlm⟩ := ha.first hX0
    obtain ⟨hl2, bb, ob, rfl, c1, hlm2⟩ := hb.first hY0
    have hl' : (0 : Int) < la := by omega
    have hl2' : (0 : Int) < lb := by omega
    obtain ⟨p, hp⟩ : ∃ p, p = hf.dg (gk : Int) 0 := ⟨_, rfl⟩
    obtain ⟨q, hq⟩ : ∃ q, q = hf.dg (Y : Int) 0 := ⟨_, rfl⟩
    have ep := low_even gk
    have eq := low_even Y
    have rp := hf.dg_range (gk : Int) 0
    have rq := hf.dg_range (Y : Int) 0
    rw [← hp] at c0 ep rp
    rw [← hq] at c1 eq rq
    obtain ⟨rp0, rp1⟩ := rp
    obtain ⟨rq0, rq1⟩ := rq
    have HGG : Hid _ := hgg
    have HXU : Hid _ := hXu
    have HPU : Hid _ := hPu
    clear hp hq hgg hXu hPu
    by_cases hx : gk % 2 = 0
    · rw [hx] at ep
      replace ep : p % 2 = 0 := ep
      by_cases hy : Y % 2 = 0
      · rw [hy] at eq
        replace eq : q % 2 = 0 := eq
        clear hlm hlm2
        go_wp2_with (go_at_call 58; fail)
        refine (hHalf _ la ca gk wr ha (FU.out _ (by omega))).mono ?_
        rintro e w3 ⟨a3, la3, ca3, rfl, ha3, hb3⟩
        go_wp2_with (go_at_call 58; fail)
        refine (hHalf _ lb cb Y w3 (hb.below hb3) (FU.out _ (by omega))).mono ?_
        rintro e w4 ⟨a4, la4, ca4, rfl, ha4, hb4⟩
        go_wp2
        go_roundg (gk / 2)
        case measure => omega
        case rel =>
          refine ⟨a3, la3, ca3, a4, la4, ca4, Y / 2, T + 1, rfl, rfl, by simp, ha3.below hb4, ha4, by omega, by omega, ?_, by omega, ?_, hbel.trans ((hb3.trans (hb4.mono hb3.size)).mono hbel.size)⟩
          · have := HXU.out
            rw [Nat.pow_succ, Nat.mul_comm (2 ^ T), ← Nat.mul_assoc, show gk / 2 * 2 = gk by omega]
            exact this
          · rw [Nat.pow_succ, Nat.mul_comm (2 ^ T), ← Nat.mul_assoc, ← gcd_both hx hy]
            exact HGG.out
      · replace eq : q % 2 = 1 := by rw [eq]; omega
        have hne : ¬ (gk % 2 = 0 ∧ Y % 2 = 0) := by omega
        have hodd := gcd_odd hne
        obtain ⟨G, hG⟩ : ∃ G, G = Nat.gcd gk Y := ⟨_, rfl⟩
        rw [← hG] at hodd
        have HO : Hid _ := hodd
        have HT : Hid (G * 2 ^ T = g) := by unfold Hid; rw [hG, HGG.out]; exact HG.out
        have HST : Hid (G2 w0 u v G (gk + Y) (.slice (some ⟨ba, oa, none⟩) la ca) (.slice (some ⟨bb, ob, none⟩) lb cb) wr) := ⟨_, la, ca, _, lb, cb, gk, Y, rfl, rfl, ha, hb, rfl, hY0, by omega, hG.symm, hbel⟩
        clear hG hodd hne HGG HXU hlm hlm2
        go_wp2
        clear c0 c1 ha hb hbel hl hl2 hl' hl2' ep eq rp0 rp1 rq0 rq1
        go_loopg [6, 7] (gk + Y) (fun k x y wr => G2 w0 u v G k x y wr)
        case atStart => exact HST.out
        case round =>
          clear HST hX0 hY0 hXu' hYv
          obtain ⟨a, la, ca, b, lb, cb, X, Y, rfl, rfl, ha, hb, hk, hY0, hku, hgc, hbel⟩ := hrel
          subst hk

          rcases Nat.eq_zero_or_pos X with hX0 | hX0
          · subst hX0
            obtain rfl : la = 0 := by rw [ha.len, hf.nlen_zero]
            obtain rfl : Y = G := by simpa using hgc
            have h1 := H1.out.below hbel
            have HST : Hid (G5 wr T T (.slice (some ⟨w.heap.size, 0, none⟩) 1 1) (.int .i64 0) wr) := ⟨_, 1, 1, 0, rfl, rfl, h1, by omega, Below.refl _ _⟩
            clear h1 hgc
            go_wp2
            go_loopg [5, 9] T (fun k one i wr' => G5 wr T k one i wr')
            case atStart => exact HST.out
            case round =>
              clear HST
              obtain ⟨a5, l5, c5, I, rfl, rfl, h5, hI, hb5⟩ := hrel
              rcases Nat.eq_zero_or_pos gk with h0 | h0
              · subst h0
                obtain rfl : I = T := by omega
                have HP : Hid _ := h5
                obtain ⟨P, hP⟩ : ∃ P, P = 2 ^ I := ⟨_, rfl⟩
                have h5 : HD _ a5 l5 c5 P := hP ▸ h5
                have hPu : P ≤ u := hP ▸ HPU.out
                have HT' : Hid (Y * P = g) := by rw [hP]; exact HT.out
                clear hP HP HPU HT
                go_wp2_with (go_at_call 18; fail)
                have H := hMul b a5 lb l5 cb c5 Y P _ (hb.below hb5) h5 (FU.out _ (by omega)) (FU.out _ (by omega))
                rw [HT'.out] at H
                refine H.mono ?_
                rintro e w9 ⟨a9, l9, c9, rfl, h9, hb9⟩
                go_wp2
                go_ret
                have B1 := hb0.trans (hbel.mono hb0.size)
                have B2 := B1.trans (hb5.mono B1.size)
                exact ⟨a9, l9, c9, rfl, h9, B2.trans (hb9.mono B2.size)⟩
              · have hlt : (I : Int) < T := by omega
                have hIT : 2 ^ I ≤ u := Nat.le_trans (Nat.pow_le_pow_right (by decide) (by omega)) HPU.out
                obtain ⟨P, hP⟩ : ∃ P, P = 2 ^ I := ⟨_, rfl⟩
                rw [← hP] at h5 hIT
                have HP : Hid (P + P = 2 ^ (I + 1)) := by unfold Hid; rw [hP, Nat.pow_succ]; omega
                clear hP
                go_wp2_with (go_at_call 17; fail)
                refine (hAdd a5 a5 l5 l5 c5 c5 P P _ h5 h5 (FU.out _ (by omega)) (FU.out _ (by omega))).mono ?_
                rw [HP.out]
                rintro e w9 ⟨a9, l9, c9, rfl, h9, hb9⟩
                go_wp2
                go_roundg (gk - 1)
                case measure => omega
                case rel => exact ⟨a9, l9, c9, I + 1, rfl, by simp, h9, by omega, hb5.trans (hb9.mono hb5.size)⟩
          · have hl : 0 < la := (ha.first hX0).1
            have hl' : (0 : Int) < la := by omega
            have HST : Hid (G3 wr Y G X X (.slice a la ca) wr) := ⟨a, la, ca, rfl, ha, hX0, Nat.le_refl _, hgc, Below.refl _ _⟩
            clear ha hgc
            go_wp2
            go_loopg [6] X (fun k x wr' => G3 wr Y G X k x wr')
            case atStart => exact HST.out
            case round =>
              clear HST hl hl'
              obtain ⟨a, la, ca, rfl, ha, hk0, hkX, hgc, hb3⟩ := hrel
              have k3e : True := trivial
              obtain ⟨hl, ba, oa, rfl, c0, hlm⟩ := ha.first hk0
              have hl' : (0 : Int) < la := by omega
              obtain ⟨p, hp⟩ : ∃ p, p = hf.dg (gk : Int) 0 := ⟨_, rfl⟩
              have ep := low_even gk
              have rp := hf.dg_range (gk : Int) 0
              rw [← hp] at c0 ep rp
              obtain ⟨rp0, rp1⟩ := rp
              clear hp hlm
              by_cases hx : gk % 2 = 0
              · rw [hx] at ep
                replace ep : p % 2 = 0 := ep
                have HGC : Hid _ := gcd_half hgc HO.out hx
                clear hgc
                go_wp2_with (go_at_call 58; fail)
                refine (hHalf _ la ca gk _ ha (FU.out _ (by omega))).mono ?_
                rintro e w4 ⟨a4, la4, ca4, rfl, ha4, hb4⟩
                go_wp2
                go_roundg (gk / 2)
                case measure => omega
                case rel => exact ⟨a4, la4, ca4, rfl, ha4, by omega, by omega, HGC.out, hb3.trans (hb4.mono hb3.size)⟩
              · replace ep : p % 2 = 1 := by rw [ep]; omega
                have hb3' := hb.below hb3
                have hl2 : 0 < lb := (hb.first hY0).1
                have hl2' : (0 : Int) < lb := by omega
                obtain ⟨X3, hX3⟩ : ∃ X3, X3 = gk := ⟨_, rfl⟩
                rw [← hX3] at ha hk0 hkX hgc
                have HST : Hid (G3 wr X3 G Y Y (.slice b lb cb) wr) := ⟨b, lb, cb, rfl, hb3', hY0, Nat.le_refl _, by rw [Nat.gcd_comm]; exact hgc, Below.refl _ _⟩
                clear hgc hb hb3' hl2 hX3
                go_wp2
                clear c0 hl hl' ep rp0 rp1 hl2'
                go_loopg [7] Y (fun k y wr' => G3 wr X3 G Y k y wr')
                case atStart => exact HST.out
                case round =>
                  clear HST
                  obtain ⟨b, lb, cb, rfl, hb, hj0, hjY, hgc, hb4⟩ := hrel
                  obtain ⟨hl, bb, ob, rfl, c0, hlm⟩ := hb.first hj0
                  have hl' : (0 : Int) < lb := by omega
                  obtain ⟨q, hq⟩ : ∃ q, q = hf.dg (gk : Int) 0 := ⟨_, rfl⟩
                  have eq := low_even gk
                  have rq := hf.dg_range (gk : Int) 0
                  rw [← hq] at c0 eq rq
                  obtain ⟨rq0, rq1⟩ := rq
                  clear hq hlm
                  by_cases hy : gk % 2 = 0
                  · rw [hy] at eq
                    replace eq : q % 2 = 0 := eq
                    have HGC : Hid _ := gcd_half hgc HO.out hy
                    clear hgc
                    go_wp2_with (go_at_call 58; fail)
                    refine (hHalf _ lb cb gk _ hb (FU.out _ (by omega))).mono ?_
                    rintro e w5 ⟨a5, la5, ca5, rfl, ha5, hb5⟩
                    go_wp2
                    go_roundg (gk / 2)
                    case measure => omega
                    case rel => exact ⟨a5, la5, ca5, rfl, ha5, by omega, by omega, HGC.out, hb4.trans (hb5.mono hb4.size)⟩
                  · replace eq : q % 2 = 1 := by rw [eq]; omega
                    have ha4 := ha.below hb4
                    have B1 := hbel.trans (hb3.mono hbel.size)
                    have B2 := B1.trans (hb4.mono B1.size)
                    obtain ⟨c, hc⟩ : ∃ c, c = cmpI (X3 : Int) gk := ⟨_, rfl⟩
                    have HC : Hid _ := hc
                    have HGC : Hid _ := hgc
                    rcases Nat.lt_or_ge X3 gk with hlt | hge
                    · have hc0 : c < 0 := by rw [hc]; unfold cmpI; rw [if_pos (by omega)]; decide
                      clear hc hgc
                      go_wp2_with (go_at_call 59; fail)
                      refine (hCmp _ _ la lb ca cb X3 gk _ ha4 hb HC.out).mono ?_
                      rintro e w5 ⟨rfl, hb5⟩
                      go_wp2_with (go_at_call 60; fail)
                      refine (hSub _ _ lb la cb ca gk X3 _ (hb.below hb5) (ha4.below hb5) (FU.out _ (by omega)) (FU.out _ (by omega)) (by omega)).mono ?_
                      rintro e w6 ⟨a6, l6, c6, rfl, h6, hb6⟩
                      go_wp2
                      go_roundg gk
                      case measure => omega
                      case rel => exact ⟨a6, l6, c6, _, la, ca, gk - X3, X3, rfl, rfl, h6, (ha4.below hb5).below hb6, by omega, hk0, by omega, by rw [gcd_less (by omega)]; exact HGC.out, B2.trans ((hb5.trans (hb6.mono hb5.size)).mono B2.size)⟩
                    · have hc0 : ¬ c < 0 := by rw [hc]; unfold cmpI; rw [if_neg (by omega)]; split <;> decide
                      clear hc hgc
                      go_wp2_with (go_at_call 59; fail)
                      refine (hCmp _ _ la lb ca cb X3 gk _ ha4 hb HC.out).mono ?_
                      rintro e w5 ⟨rfl, hb5⟩
                      go_wp2_with (go_at_call 60; fail)
                      refine (hSub _ _ la lb ca cb X3 gk _ (ha4.below hb5) (hb.below hb5) (FU.out _ (by omega)) (FU.out _ (by omega)) (by omega)).mono ?_
                      rintro e w6 ⟨a6, l6, c6, rfl, h6, hb6⟩
                      go_wp2
                      go_roundg X3
                      case measure => omega
                      case rel => exact ⟨a6, l6, c6, _, lb, cb, X3 - gk, gk, rfl, rfl, h6, (hb.below hb5).below hb6, by omega, hj0, by omega, by rw [gcd_less (by omega), Nat.gcd_comm]; exact HGC.out, B2.trans ((hb5.trans (hb6.mono hb5.size)).mono B2.size)⟩
    · replace ep : p % 2 = 1 := by rw [ep]; omega
      have hne : ¬ (gk % 2 = 0 ∧ Y % 2 = 0) := by omega
      have hodd := gcd_odd hne
      obtain ⟨G, hG⟩ : ∃ G, G = Nat.gcd gk Y := ⟨_, rfl⟩
      rw [← hG] at hodd
      have HO : Hid _ := hodd
      have HT : Hid (G * 2 ^ T = g) := by unfold Hid; rw [hG, HGG.out]; exact HG.out
      have HST : Hid (G2 w0 u v G (gk + Y) (.slice (some ⟨ba, oa, none⟩) la ca) (.slice (some ⟨bb, ob, none⟩) lb cb) wr) := ⟨_, la, ca, _, lb, cb, gk, Y, rfl, rfl, ha, hb, rfl, hY0, by omega, hG.symm, hbel⟩
      clear hG hodd hne HGG HXU hlm hlm2
      go_wp2
      clear c0 c1 ha hb hbel hl hl2 hl' hl2' ep eq rp0 rp1 rq0 rq1
      go_loopg [6, 7] (gk + Y) (fun k x y wr => G2 w0 u v G k x y wr)
      case atStart => exact HST.out
      case round =>
        clear HST hX0 hY0 hXu' hYv
        obtain ⟨a, la, ca, b, lb, cb, X, Y, rfl, rfl, ha, hb, hk, hY0, hku, hgc, hbel⟩ := hrel
        subst hk

        rcases Nat.eq_zero_or_pos X with hX0 | hX0
        · subst hX0
          obtain rfl : la = 0 := by rw [ha.len, hf.nlen_zero]
          obtain rfl : Y = G := by simpa using hgc
          have h1 := H1.out.below hbel
          have HST : Hid (G5 wr T T (.slice (some ⟨w.heap.size, 0, none⟩) 1 1) (.int .i64 0) wr) := ⟨_, 1, 1, 0, rfl, rfl, h1, by omega, Below.refl _ _⟩
          clear h1 hgc
          go_wp2
          go_loopg [5, 9] T (fun k one i wr' => G5 wr T k one i wr')
          case atStart => exact HST.out
          case round =>
            clear HST
            obtain ⟨a5, l5, c5, I, rfl, rfl, h5, hI, hb5⟩ := hrel
            rcases Nat.eq_zero_or_pos gk with h0 | h0
            · subst h0
              obtain rfl : I = T := by omega
              have HP : Hid _ := h5
              obtain ⟨P, hP⟩ : ∃ P, P = 2 ^ I := ⟨_, rfl⟩
              have h5 : HD _ a5 l5 c5 P := hP ▸ h5
              have hPu : P ≤ u := hP ▸ HPU.out
              have HT' : Hid (Y * P = g) := by rw [hP]; exact HT.out
              clear hP HP HPU HT
              go_wp2_with (go_at_call 18; fail)
              have H := hMul b a5 lb l5 cb c5 Y P _ (hb.below hb5) h5 (FU.out _ (by omega)) (FU.out _ (by omega))
              rw [HT'.out] at H
              refine H.mono ?_
              rintro e w9 ⟨a9, l9, c9, rfl, h9, hb9⟩
              go_wp2
              go_ret
              have B1 := hb0.trans (hbel.mono hb0.size)
              have B2 := B1.trans (hb5.mono B1.size)
              exact ⟨a9, l9, c9, rfl, h9, B2.trans (hb9.mono B2.size)⟩
            · have hlt : (I : Int) < T := by omega
              have hIT : 2 ^ I ≤ u := Nat.le_trans (Nat.pow_le_pow_right (by decide) (by omega)) HPU.out
              obtain ⟨P, hP⟩ : ∃ P, P = 2 ^ I := ⟨_, rfl⟩
              rw [← hP] at h5 hIT
              have HP : Hid (P + P = 2 ^ (I + 1)) := by unfold Hid; rw [hP, Nat.pow_succ]; omega
              clear hP
              go_wp2_with (go_at_call 17; fail)
              refine (hAdd a5 a5 l5 l5 c5 c5 P P _ h5 h5 (FU.out _ (by omega)) (FU.out _ (by omega))).mono ?_
              rw [HP.out]
              rintro e w9 ⟨a9, l9, c9, rfl, h9, hb9⟩
              go_wp2
              go_roundg (gk - 1)
              case measure => omega
              case rel => exact ⟨a9, l9, c9, I + 1, rfl, by simp, h9, by omega, hb5.trans (hb9.mono hb5.size)⟩
        · have hl : 0 < la := (ha.first hX0).1
          have hl' : (0 : Int) < la := by omega
          have HST : Hid (G3 wr Y G X X (.slice a la ca) wr) := ⟨a, la, ca, rfl, ha, hX0, Nat.le_refl _, hgc, Below.refl _ _⟩
          clear ha hgc
          go_wp2
          go_loopg [6] X (fun k x wr' => G3 wr Y G X k x wr')
          case atStart => exact HST.out
          case round =>
            clear HST hl hl'
            obtain ⟨a, la, ca, rfl, ha, hk0, hkX, hgc, hb3⟩ := hrel
            have k3e : True := trivial
            obtain ⟨hl, ba, oa, rfl, c0, hlm⟩ := ha.first hk0
            have hl' : (0 : Int) < la := by omega
            obtain ⟨p, hp⟩ : ∃ p, p = hf.dg (gk : Int) 0 := ⟨_, rfl⟩
            have ep := low_even gk
            have rp := hf.dg_range (gk : Int) 0
            rw [← hp] at c0 ep rp
            obtain ⟨rp0, rp1⟩ := rp
            clear hp hlm
            by_cases hx : gk % 2 = 0
            · rw [hx] at ep
              replace ep : p % 2 = 0 := ep
              have HGC : Hid _ := gcd_half hgc HO.out hx
              clear hgc
              go_wp2_with (go_at_call 58; fail)
              refine (hHalf _ la ca gk _ ha (FU.out _ (by omega))).mono ?_
              rintro e w4 ⟨a4, la4, ca4, rfl, ha4, hb4⟩
              go_wp2
              go_roundg (gk / 2)
              case measure => omega
              case rel => exact ⟨a4, la4, ca4, rfl, ha4, by omega, by omega, HGC.out, hb3.trans (hb4.mono hb3.size)⟩
            · replace ep : p % 2 = 1 := by rw [ep]; omega
              have hb3' := hb.below hb3
              have hl2 : 0 < lb := (hb.first hY0).1
              have hl2' : (0 : Int) < lb := by omega
              obtain ⟨X3, hX3⟩ : ∃ X3, X3 = gk := ⟨_, rfl⟩
              rw [← hX3] at ha hk0 hkX hgc
              have HST : Hid (G3 wr X3 G Y Y (.slice b lb cb) wr) := ⟨b, lb, cb, rfl, hb3', hY0, Nat.le_refl _, by rw [Nat.gcd_comm]; exact hgc, Below.refl _ _⟩
              clear hgc hb hb3' hl2 hX3
              go_wp2
              clear c0 hl hl' ep rp0 rp1 hl2'
              go_loopg [7] Y (fun k y wr' => G3 wr X3 G Y k y wr')
              case atStart => exact HST.out
              case round =>
                clear HST
                obtain ⟨b, lb, cb, rfl, hb, hj0, hjY, hgc, hb4⟩ := hrel
                obtain ⟨hl, bb, ob, rfl, c0, hlm⟩ := hb.first hj0
                have hl' : (0 : Int) < lb := by omega
                obtain ⟨q, hq⟩ : ∃ q, q = hf.dg (gk : Int) 0 := ⟨_, rfl⟩
                have eq := low_even gk
                have rq := hf.dg_range (gk : Int) 0
                rw [← hq] at c0 eq rq
                obtain ⟨rq0, rq1⟩ := rq
                clear hq hlm
                by_cases hy : gk % 2 = 0
                · rw [hy] at eq
                  replace eq : q % 2 = 0 := eq
                  have HGC : Hid _ := gcd_half hgc HO.out hy
                  clear hgc
                  go_wp2_with (go_at_call 58; fail)
                  refine (hHalf _ lb cb gk _ hb (FU.out _ (by omega))).mono ?_
                  rintro e w5 ⟨a5, la5, ca5, rfl, ha5, hb5⟩
                  go_wp2
                  go_roundg (gk / 2)
                  case measure => omega
                  case rel => exact ⟨a5, la5, ca5, rfl, ha5, by omega, by omega, HGC.out, hb4.trans (hb5.mono hb4.size)⟩
                · replace eq : q % 2 = 1 := by rw [eq]; omega
                  have ha4 := ha.below hb4
                  have B1 := hbel.trans (hb3.mono hbel.size)
                  have B2 := B1.trans (hb4.mono B1.size)
                  obtain ⟨c, hc⟩ : ∃ c, c = cmpI (X3 : Int) gk := ⟨_, rfl⟩
                  have HC : Hid _ := hc
                  have HGC : Hid _ := hgc
                  rcases Nat.lt_or_ge X3 gk with hlt | hge
                  · have hc0 : c < 0 := by rw [hc]; unfold cmpI; rw [if_pos (by omega)]; decide
                    clear hc hgc
                    go_wp2_with (go_at_call 59; fail)
                    refine (hCmp _ _ la lb ca cb X3 gk _ ha4 hb HC.out).mono ?_
                    rintro e w5 ⟨rfl, hb5⟩
                    go_wp2_with (go_at_call 60; fail)
                    refine (hSub _ _ lb la cb ca gk X3 _ (hb.below hb5) (ha4.below hb5) (FU.out _ (by omega)) (FU.out _ (by omega)) (by omega)).mono ?_
                    rintro e w6 ⟨a6, l6, c6, rfl, h6, hb6⟩
                    go_wp2
                    go_roundg gk
                    case measure => omega
                    case rel => exact ⟨a6, l6, c6, _, la, ca, gk - X3, X3, rfl, rfl, h6, (ha4.below hb5).below hb6, by omega, hk0, by omega, by rw [gcd_less (by omega)]; exact HGC.out, B2.trans ((hb5.trans (hb6.mono hb5.size)).mono B2.size)⟩
                  · have hc0 : ¬ c < 0 := by rw [hc]; unfold cmpI; rw [if_neg (by omega)]; split <;> decide
                    clear hc hgc
                    go_wp2_with (go_at_call 59; fail)
                    refine (hCmp _ _ la lb ca cb X3 gk _ ha4 hb HC.out).mono ?_
                    rintro e w5 ⟨rfl, hb5⟩
                    go_wp2_with (go_at_call 60; fail)
                    refine (hSub _ _ la lb ca cb X3 gk _ (ha4.below hb5) (hb.below hb5) (FU.out _ (by omega)) (FU.out _ (by omega)) (by omega)).mono ?_
                    rintro e w6 ⟨a6, l6, c6, rfl, h6, hb6⟩
                    go_wp2
                    go_roundg X3
                    case measure => omega
                    case rel => exact ⟨a6, l6, c6, _, lb, cb, X3 - gk, gk, rfl, rfl, h6, (hb.below hb5).below hb6, by omega, hj0, by omega, by rw [gcd_less (by omega), Nat.gcd_comm]; exact HGC.out, B2.trans ((hb5.trans (hb6.mono hb5.size)).mono B2.size)⟩
end Go.Proofs.YtaekgomplkkocabGreatDoor

namespace Go.Proofs.YtaekgomplkkocabGreatDoor
open Go.RowKit
set_option linter.unusedVariables false

/-- The reference's fraction. -/
structure RQ (w : World) (K : Nat) (s : Int) (d : Option Addr) (l c : Nat) (t : Int) (g : Option Addr) (h k : Nat) (N : Int) (D : Nat) : Prop where
  rn : RN w s d l c N
  rd : RN w t g h k (D : Int)
  dp : 0 < D
  ns : N.natAbs < 4294967296 ^ K
  ds : D < 4294967296 ^ K
  kk : K ≤ 10000
theorem RQ.below {w w' : World} {K : Nat} {s : Int} {d : Option Addr} {l c : Nat} {t : Int} {g : Option Addr} {h k : Nat} {N : Int} {D : Nat} (q : RQ w K s d l c t g h k N D) (hb : Below w.heap.size w w') : RQ w' K s d l c t g h k N D := ⟨q.rn.below hb, q.rd.below hb, q.dp, q.ns, q.ds, q.kk⟩
theorem RQ.more {w : World} {K L : Nat} {s : Int} {d : Option Addr} {l c : Nat} {t : Int} {g : Option Addr} {h k : Nat} {N : Int} {D : Nat} (q : RQ w K s d l c t g h k N D) (hL : K ≤ L) (kk : L ≤ 10000) : RQ w L s d l c t g h k N D :=
  ⟨q.rn, q.rd, q.dp, Nat.lt_of_lt_of_le q.ns (Nat.pow_le_pow_right (by decide) hL), Nat.lt_of_lt_of_le q.ds (Nat.pow_le_pow_right (by decide) hL), kk⟩
theorem RQ.fn {w : World} {K : Nat} {s : Int} {d : Option Addr} {l c : Nat} {t : Int} {g : Option Addr} {h k : Nat} {N : Int} {D : Nat} (q : RQ w K s d l c t g h k N D) : hf.nlen N.natAbs ≤ 1000000 := hfew q.ns (by have := q.kk; omega)
theorem RQ.fd {w : World} {K : Nat} {s : Int} {d : Option Addr} {l c : Nat} {t : Int} {g : Option Addr} {h k : Nat} {N : Int} {D : Nat} (q : RQ w K s d l c t g h k N D) : hf.nlen ((D : Nat) : Int).natAbs ≤ 1000000 := by rw [Int.natAbs_natCast]; exact hfew q.ds (by have := q.kk; omega)
theorem RN.put4 {w : World} {s : Int} {d : Option Addr} {l c b : Nat} {z : Int} (h : RN w s d l c z) (hn : NA b d l) (x y u v : Value) : RN ((((w.setCell ⟨b, 0, none⟩ x).setCell ⟨b, 1, none⟩ y).setCell ⟨b, 2, none⟩ u).setCell ⟨b, 3, none⟩ v) s d l c z := ((((h.put hn 0 x).put hn 1 y).put hn 2 u).put hn 3 v)
def GotRQ (w : World) (P : Nat → Prop) (K : Nat) (N : Int) (D : Nat) (e : Ending) (w' : World) : Prop := ∃ (s : Int) (d : Option Addr) (l c : Nat) (t : Int) (g : Option Addr) (h k : Nat), e = .returned (.agg #[.int .i64 s, .slice d l c, .int .i64 t, .slice g h k]) ∧ RQ w' K s d l c t g h k N D ∧ (∀ j, j < w.heap.size → P j → NA j d l ∧ NA j g h) ∧ Below w.heap.size w w'
theorem endRQ {w w2 : World} {P : Nat → Prop} {K : Nat} {s : Int} {d : Option Addr} {l c : Nat} {t : Int} {g : Option Addr} {h k : Nat} {N : Int} {D : Nat} (b : Nat) (hb : w.heap.size ≤ b) (B : Below w.heap.size w w2) (q : RQ w2 K s d l c t g h k N D) (n1 : NA b d l) (n2 : NA b g h) (hf : ∀ j, j < w.heap.size → P j → NA j d l ∧ NA j g h) (x y u v : Value) :
    GotRQ w P K N D (.returned (.agg #[.int .i64 s, .slice d l c, .int .i64 t, .slice g h k])) ((((w2.setCell ⟨b, 0, none⟩ x).setCell ⟨b, 1, none⟩ y).setCell ⟨b, 2, none⟩ u).setCell ⟨b, 3, none⟩ v) :=
  ⟨s, d, l, c, t, g, h, k, rfl, ⟨q.rn.put4 n1 x y u v, q.rd.put4 n2 x y u v, q.dp, q.ns, q.ds, q.kk⟩, hf, below_put4 B hb x y u v⟩
theorem rn_nat {w : World} {d : Option Addr} {l c u : Nat} (h : HD w d l c u) (h0 : 0 < u) : RN w 1 d l c (u : Int) := ⟨by rw [Int.natAbs_natCast]; exact h, (sign_pos (by omega)).symm⟩
theorem flQ_pos (x : Int) (D : Nat) (hD : 0 < D) : flQ x D * D ≤ x ∧ x < flQ x D * D + D := by
  have e := Nat.div_add_mod x.natAbs D
  have hr := Nat.mod_lt x.natAbs hD
  unfold flQ
  rw [Int.natAbs_natCast, Int.sign_natCast_of_ne_zero (by omega), Int.mul_one]
  generalize hq : x.natAbs / D = q at e ⊢
  generalize hm : x.natAbs % D = r at e hr ⊢
  have e2 : (x.natAbs : Int) = (q : Int) * D + r := by rw [← e, Nat.mul_comm]; simp
  clear hq hm e
  generalize hp : (q : Int) * D = p at e2
  rcases wsign_cases x with ⟨h, s⟩ | ⟨h, s⟩ | ⟨h, s⟩ <;> rw [s]
  · by_cases h0 : r = 0
    · rw [if_neg (by omega), Int.sub_zero, Int.neg_mul, Int.one_mul, Int.neg_mul, hp]; omega
    · rw [if_pos (by omega), Int.sub_mul, Int.one_mul, Int.neg_mul, Int.one_mul, Int.neg_mul, hp]; omega
  · rw [if_neg (by omega), Int.sub_zero, Int.zero_mul, Int.zero_mul]; omega
  · rw [if_neg (by omega), Int.sub_zero, Int.one_mul, hp]; omega
theorem flQ_abs (x : Int) (D K : Nat) (hD : 0 < D) (hx : x.natAbs < 4294967296 ^ K) (hd : D < 4294967296 ^ K) : (flQ x D).natAbs < 4294967296 ^ (K + 1) ∧ (flQ x D * D).natAbs < 4294967296 ^ (K + 1) := by
  obtain ⟨h1, h2⟩ := flQ_pos x D hD
  have h3 : (flQ x D * D).natAbs < 4294967296 ^ (K + 1) := by rw [Nat.pow_succ]; omega
  refine ⟨Nat.lt_of_le_of_lt ?_ h3, h3⟩
  rw [Int.natAbs_mul, Int.natAbs_natCast]
  exact Nat.le_mul_of_pos_right _ hD
theorem quo_abs (x : Int) (D : Nat) : (x.sign * ((D : Nat) : Int).sign * ((x.natAbs / ((D : Nat) : Int).natAbs : Nat) : Int)).natAbs ≤ x.natAbs := by
  rw [sg_mul, Int.natAbs_mul, Int.natAbs_natCast]
  have : (x * (D : Int)).sign.natAbs ≤ 1 := by rcases wsign_cases (x * (D : Int)) with ⟨_, s⟩ | ⟨_, s⟩ | ⟨_, s⟩ <;> rw [s] <;> decide
  exact Nat.le_trans (Nat.mul_le_mul this (Nat.div_le_self _ _)) (by rw [Nat.one_mul]; exact Nat.le_refl _)
set_option maxRecDepth 100000 in
set_option maxHeartbeats 1000000 in
theorem rqLong (x : Int) (w : World) (h1 : -9223372036854775808 ≤ x) (h2 : x ≤ 9223372036854775807) : Calls Tryz.prog 7 #[.int .i64 x] w (GotRQ w (fun _ => True) 2 x 1) := by
  have HX1 : Hid _ := h1
  have HX2 : Hid _ := h2
  have HX3 : Hid (x.natAbs < 4294967296 ^ 2) := by unfold Hid; omega
  clear h1 h2
  obtain ⟨W, hW, bW, x_z, sW⟩ := bs_4 w (.int .i64 0) (.slice none 0 0) (.int .i64 0) (.slice none 0 0) 40
  have zbW := bW.size
  have BB := bW
  go_enter Tryz.func7, Tryz.ntmps7
  go_wp2_with (go_at_call 20; fail)
  rw [← hW]
  clear hW
  refine (rwLong x W HX1.out HX2.out).mono ?_
  rintro e w1 ⟨s1, d1, l1, c1, rfl, h1, f1, bw1⟩
  have zbw1 := bw1.size
  replace BB := also BB bw1
  replace x_z := x_z.on bw1
  go_wp2_with (go_at_call 20; fail)
  refine (rwLong 1 w1 (by decide) (by decide)).mono ?_
  rintro e w2 ⟨s2, d2, l2, c2, rfl, h2, f2, bw2⟩
  have zbw2 := bw2.size
  replace BB := also BB bw2
  replace x_z := x_z.on bw2
  replace h1 := h1.below bw2
  have ⟨x_z_0, x_z_1, x_z_2, x_z_3, x_z_4, x_z_5, x_z_6, x_z_7⟩ := x_z
  go_wp2
  exact bodyPost_ret (v := .agg #[.int .i64 s1, .slice d1 l1 c1, .int .i64 s2, .slice d2 l2 c2]) (by simp [results, Tryz.results7, go_sem, *]) rfl (endRQ _ (by omega) BB ⟨h1, h2, by decide, HX3.out, by decide, by decide⟩ (f1 _ (by omega) trivial) (f2 _ (by omega) trivial) (fun j hj _ => ⟨f1 j (by omega) trivial, f2 j (by omega) trivial⟩) _ _ _ _)
end Go.Proofs.YtaekgomplkkocabGreatDoor

namespace Go.Proofs.YtaekgomplkkocabGreatDoor
open Go.RowKit
set_option linter.unusedVariables false

theorem QI.put {w : World} {K : Nat} {n : Bool} {a : Option Addr} {l c : Nat} {d : Option Addr} {m k : Nat} {z : Int} {D b : Nat} (h : QI w K n a l c d m k z D) (n1 : NA b a l) (n2 : NA b d m) (i : Nat) (v : Value) : QI (w.setCell ⟨b, i, none⟩ v) K n a l c d m k z D := ⟨h.wi.put n1 i v, h.ni.put n2 i v, h.zs, h.ds, h.k1, h.kk⟩
theorem QN.put {w : World} {n : Bool} {a : Option Addr} {l c : Nat} {d : Option Addr} {m k : Nat} {z : Int} {D b : Nat} (h : QN w n a l c d m k z D) (n1 : NA b a l) (n2 : NA b d m) (i : Nat) (v : Value) : QN (w.setCell ⟨b, i, none⟩ v) n a l c d m k z D := ⟨h.wn.put n1 i v, h.nd.put n2 i v⟩
theorem RQ.put {w : World} {K : Nat} {s : Int} {d : Option Addr} {l c : Nat} {t : Int} {g : Option Addr} {h k : Nat} {N : Int} {D b : Nat} (q : RQ w K s d l c t g h k N D) (n1 : NA b d l) (n2 : NA b g h) (i : Nat) (v : Value) : RQ (w.setCell ⟨b, i, none⟩ v) K s d l c t g h k N D := ⟨q.rn.put n1 i v, q.rd.put n2 i v, q.dp, q.ns, q.ds, q.kk⟩
theorem QI.set3 {w w' : World} {K : Nat} {n : Bool} {a : Option Addr} {l c : Nat} {d : Option Addr} {m k : Nat} {z : Int} {D : Nat} {b : Nat} {u v t : Value} (h : QI w K n a l c d m k z D) (e : w' = ((w.setCell ⟨b, 0, none⟩ u).setCell ⟨b, 1, none⟩ v).setCell ⟨b, 2, none⟩ t) (n1 : NA b a l) (n2 : NA b d m) : QI w' K n a l c d m k z D := by
  rw [e]; exact ((h.put n1 n2 0 u).put n1 n2 1 v).put n1 n2 2 t
end Go.Proofs.YtaekgomplkkocabGreatDoor

namespace Go.Proofs.YtaekgomplkkocabGreatDoor
open Go.RowKit
set_option linter.unusedVariables false

/-- A fraction and an error. -/
def GotMk (w : World) (z : Int) (D : Nat) (E : Int) (e : Ending) (w' : World) : Prop := ∃ (n : Bool) (a : Option Addr) (l c : Nat) (d : Option Addr) (m k : Nat), e = .returned (.tuple #[.agg #[.bool n, .slice a l c, .slice d m k], .int .i64 E]) ∧ QN w' n a l c d m k z D ∧ Far w.heap.size a l ∧ Far w.heap.size d m ∧ Below w.heap.size w w'
theorem endMk {w w2 : World} {n : Bool} {a : Option Addr} {l c : Nat} {d : Option Addr} {m k : Nat} {z : Int} {D : Nat} {E : Int} (b : Nat) (hb : w.heap.size ≤ b) (B : Below w.heap.size w w2) (h : QN w2 n a l c d m k z D) (f1 : Far (b + 1) a l) (f2 : Far (b + 1) d m) (u v t : Value) :
    GotMk w z D E (.returned (.tuple #[.agg #[.bool n, .slice a l c, .slice d m k], .int .i64 E])) (((w2.setCell ⟨b, 0, none⟩ u).setCell ⟨b, 1, none⟩ v).setCell ⟨b, 2, none⟩ t) :=
  ⟨n, a, l, c, d, m, k, rfl, h.put3 (f1 b (by omega)) (f2 b (by omega)) u v t, f1.mono (by omega), f2.mono (by omega), below_put3 B hb u v t⟩
theorem ne_not {n m : Bool} (h : ¬ n = m) : m = !n := by cases n <;> cases m <;> first | rfl | exact absurd rfl h
theorem bne_self (m : Bool) : (m != m) = false := by cases m <;> rfl
theorem bne_not (n : Bool) : (n != !n) = true := by cases n <;> rfl
theorem wi_over {w : World} {n m : Bool} {a b : Option Addr} {la ca lb cb : Nat} {x y : Int} (ha : WI w n a la ca x) (hb : WI w m b lb cb y) (h0 : y ≠ 0) : WI w (n != m) a la ca (x * y.sign) := by
  have h1 := ha.neg
  have h2 := ha.pos
  have h3 := hb.neg
  have h4 := hb.pos
  rcases wsign_cases y with ⟨hy, e⟩ | ⟨hy, e⟩ | ⟨hy, e⟩
  · rw [e]
    obtain rfl : m = true := by cases m; (have := h4 rfl; omega); rfl
    refine ⟨by rw [show (x * -1).natAbs = x.natAbs by omega]; exact ha.ni, ?_, ?_⟩ <;> cases n <;> simp <;> first | (have := h1 rfl; omega) | (have := h2 rfl; omega)
  · exact absurd hy h0
  · rw [e]
    obtain rfl : m = false := by cases m; rfl; (have := h3 rfl; omega)
    refine ⟨by rw [Int.mul_one]; exact ha.ni, ?_, ?_⟩ <;> cases n <;> simp <;> first | (have := h1 rfl; omega) | (have := h2 rfl; omega)
set_option maxRecDepth 100000 in
set_option maxHeartbeats 1000000 in
theorem qOf (x : Int) (w : World) (h1 : -9223372036854775808 ≤ x) (h2 : x ≤ 9223372036854775807) : Calls Tryz.prog 13 #[.int .i64 x] w (GotQ w x 1) := by
  have HX1 : Hid _ := h1
  have HX2 : Hid _ := h2
  clear h1 h2
  obtain ⟨W, hW, bW, x_z, sW⟩ := bs_3 w (.bool false) (.slice none 0 0) (.slice none 0 0) 27
  have zbW := bW.size
  have BB := bW
  go_enter Tryz.func13, Tryz.ntmps13
  go_wp2_with (go_at_call 31; fail)
  rw [← hW]
  clear hW
  refine (wOf x W HX1.out HX2.out).mono ?_
  rintro e w1 ⟨n1, a1, l1, c1, rfl, h1, f1, bw1⟩
  have zbw1 := bw1.size
  replace BB := also BB bw1
  replace x_z := x_z.on bw1
  go_wp2_with (go_at_call 14; fail)
  refine (fOf 1 (by decide) rfl w1).mono ?_
  rintro e w2 ⟨a2, l2, c2, rfl, h2, f2, bw2⟩
  have zbw2 := bw2.size
  replace BB := also BB bw2
  replace x_z := x_z.on bw2
  replace h1 := h1.below bw2
  have ⟨x_z_0, x_z_1, x_z_2, x_z_3, x_z_4, x_z_5⟩ := x_z
  go_wp2
  exact bodyPost_ret (v := .agg #[.bool n1, .slice a1 l1 c1, .slice a2 l2 c2]) (by simp [results, Tryz.results13, go_sem, *]) rfl (endQ _ (by omega) BB ⟨h1, h2⟩ (f1.mono (by omega)) (f2.mono (by omega)) _ _ _)
set_option maxRecDepth 100000 in
set_option maxHeartbeats 1000000 in
theorem qMake0 (n m : Bool) (a b : Option Addr) (la lb ca cb : Nat) (x y : Int) (w : World) (ha : WI w n a la ca x) (hb : WI w m b lb cb y) (h0 : y = 0) :
    Calls Tryz.prog 26 #[.agg #[.bool n, .slice a la ca], .agg #[.bool m, .slice b lb cb]] w (GotMk w 0 1 3) := by
  have HS : Hid ((0 : Int) = y.sign) := by unfold Hid; rw [h0]; rfl
  clear h0
  obtain ⟨W, hW, bW, x_a, x_b, x_z, sW⟩ := bs_223 w (.bool n) (.slice a la ca) (.bool m) (.slice b lb cb) (.bool false) (.slice none 0 0) (.slice none 0 0) 25 25 27
  have zbW := bW.size
  replace ha := ha.below bW
  replace hb := hb.below bW
  have BB := bW
  go_enter Tryz.func26, Tryz.ntmps26
  go_wp2_with (go_at_call 45; fail)
  rw [← hW]
  clear hW
  refine (wSign m b lb cb y W hb HS.out).mono ?_
  rintro e w1 ⟨rfl, bw1⟩
  have zbw1 := bw1.size
  replace ha := ha.below bw1
  replace hb := hb.below bw1
  replace BB := also BB bw1
  replace x_a := x_a.on bw1
  replace x_b := x_b.on bw1
  replace x_z := x_z.on bw1
  go_wp2_with (go_at_call 13; fail)
  refine (qOf 0 w1 (by decide) (by decide)).mono ?_
  rintro e w3 ⟨n3, a3, l3, c3, d3, m3, k3, rfl, h3, f3, g3, bw3⟩
  have zbw3 := bw3.size
  replace ha := ha.below bw3
  replace hb := hb.below bw3
  replace BB := also BB bw3
  replace x_a := x_a.on bw3
  replace x_b := x_b.on bw3
  replace x_z := x_z.on bw3
  have ⟨x_z_0, x_z_1, x_z_2, x_z_3, x_z_4, x_z_5⟩ := x_z
  go_wp2
  exact bodyPost_ret (v := .tuple #[.agg #[.bool n3, .slice a3 l3 c3, .slice d3 m3 k3], .int .i64 3]) (by simp [results, Tryz.results26, go_sem, *]) rfl (endMk _ (by omega) BB h3 (f3.mono (by omega)) (g3.mono (by omega)) _ _ _)
set_option maxRecDepth 100000 in
set_option maxHeartbeats 1000000 in
theorem qMake (n m : Bool) (a b : Option Addr) (la lb ca cb : Nat) (x y : Int) (w : World) (ha : WI w n a la ca x) (hb : WI w m b lb cb y) (h0 : y ≠ 0) (N : Int) (E : Nat) (hN : N = lowN (x * y.sign) y.natAbs) (hE : E = lowD (x * y.sign) y.natAbs) :
    Calls Tryz.prog 26 #[.agg #[.bool n, .slice a la ca], .agg #[.bool m, .slice b lb cb]] w (GotMk w N E 0) := by
  have HN : Hid _ := hN
  have HE : Hid _ := hE
  have hq := wi_over ha hb h0
  obtain ⟨s, hs⟩ : ∃ s, s = y.sign := ⟨_, rfl⟩
  have HS : Hid _ := hs
  have hs0 : ¬ s = 0 := by rw [hs]; exact fun e => h0 (Int.sign_eq_zero_iff_zero.1 e)
  have hy : 0 < y.natAbs := by omega
  clear hN hE hs h0
  obtain ⟨r, hr⟩ : ∃ r, r = (n != m) := ⟨_, rfl⟩
  have HR : Hid _ := hr
  have hr2 : (n != m) = r := hr.symm
  rw [hr2] at hq
  clear hr
  by_cases hnm : n = m
  · obtain rfl : r = false := by rw [← hr2, hnm]; exact bne_self m
    subst hnm
    clear hr2 HR
    obtain ⟨W, hW, bW, x_a, x_b, x_z, sW⟩ := bs_223 w (.bool n) (.slice a la ca) (.bool n) (.slice b lb cb) (.bool false) (.slice none 0 0) (.slice none 0 0) 25 25 27
    have zbW := bW.size
    replace ha := ha.below bW
    replace hb := hb.below bW
    replace hq := hq.below bW
    have BB := bW
    go_enter Tryz.func26, Tryz.ntmps26
    go_wp2_with (go_at_call 45; fail)
    rw [← hW]
    clear hW
    refine (wSign n b lb cb y W hb HS.out).mono ?_
    rintro e w1 ⟨rfl, bw1⟩
    have zbw1 := bw1.size
    replace ha := ha.below bw1
    replace hb := hb.below bw1
    replace hq := hq.below bw1
    replace BB := also BB bw1
    replace x_a := x_a.on bw1
    replace x_b := x_b.on bw1
    replace x_z := x_z.on bw1
    have ⟨x_a_0, x_a_1, x_a_2, x_a_3⟩ := x_a
    have ⟨x_b_0, x_b_1, x_b_2, x_b_3⟩ := x_b
    go_wp2_with (go_at_call 46; fail)
    refine (qLow false a la ca _ b lb cb _ w1 hq hb.ni hy N E HN.out HE.out).mono ?_
    rintro e w3 ⟨n3, a3, l3, c3, d3, m3, k3, rfl, h3, f3, g3, bw3⟩
    clear x_a_0 x_a_1 x_a_2 x_a_3 x_b_0 x_b_1 x_b_2 x_b_3
    have zbw3 := bw3.size
    replace ha := ha.below bw3
    replace hb := hb.below bw3
    replace hq := hq.below bw3
    replace BB := also BB bw3
    replace x_a := x_a.on bw3
    replace x_b := x_b.on bw3
    replace x_z := x_z.on bw3
    have ⟨x_z_0, x_z_1, x_z_2, x_z_3, x_z_4, x_z_5⟩ := x_z
    go_wp2
    exact bodyPost_ret (v := .tuple #[.agg #[.bool n3, .slice a3 l3 c3, .slice d3 m3 k3], .int .i64 0]) (by simp [results, Tryz.results26, go_sem, *]) rfl (endMk _ (by omega) BB h3 (f3.mono (by omega)) (g3.mono (by omega)) _ _ _)
  · obtain rfl : r = true := by rw [← hr2, ne_not hnm]; exact bne_not n
    obtain rfl : m = !n := ne_not hnm
    clear hr2 HR hnm
    obtain ⟨W, hW, bW, x_a, x_b, x_z, sW⟩ := bs_223 w (.bool n) (.slice a la ca) (.bool (!n)) (.slice b lb cb) (.bool false) (.slice none 0 0) (.slice none 0 0) 25 25 27
    have zbW := bW.size
    replace ha := ha.below bW
    replace hb := hb.below bW
    replace hq := hq.below bW
    have BB := bW
    go_enter Tryz.func26, Tryz.ntmps26
    go_wp2_with (go_at_call 45; fail)
    rw [← hW]
    clear hW
    refine (wSign (!n) b lb cb y W hb HS.out).mono ?_
    rintro e w1 ⟨rfl, bw1⟩
    have zbw1 := bw1.size
    replace ha := ha.below bw1
    replace hb := hb.below bw1
    replace hq := hq.below bw1
    replace BB := also BB bw1
    replace x_a := x_a.on bw1
    replace x_b := x_b.on bw1
    replace x_z := x_z.on bw1
    have ⟨x_a_0, x_a_1, x_a_2, x_a_3⟩ := x_a
    have ⟨x_b_0, x_b_1, x_b_2, x_b_3⟩ := x_b
    go_wp2_with (go_at_call 46; fail)
    refine (qLow true a la ca _ b lb cb _ w1 hq hb.ni hy N E HN.out HE.out).mono ?_
    rintro e w3 ⟨n3, a3, l3, c3, d3, m3, k3, rfl, h3, f3, g3, bw3⟩
    clear x_a_0 x_a_1 x_a_2 x_a_3 x_b_0 x_b_1 x_b_2 x_b_3
    have zbw3 := bw3.size
    replace ha := ha.below bw3
    replace hb := hb.below bw3
    replace hq := hq.below bw3
    replace BB := also BB bw3
    replace x_a := x_a.on bw3
    replace x_b := x_b.on bw3
    replace x_z := x_z.on bw3
    have ⟨x_z_0, x_z_1, x_z_2, x_z_3, x_z_4, x_z_5⟩ := x_z
    go_wp2
    exact bodyPost_ret (v := .tuple #[.agg #[.bool n3, .slice a3 l3 c3, .slice d3 m3 k3], .int .i64 0]) (by simp [results, Tryz.results26, go_sem, *]) rfl (endMk _ (by omega) BB h3 (f3.mono (by omega)) (g3.mono (by omega)) _ _ _)
set_option maxRecDepth 100000 in
set_option maxHeartbeats 1000000 in
theorem qRound (n : Bool) (a : Option Addr) (la ca : Nat) (d : Option Addr) (ld cd : Nat) (za : Int) (Da : Nat) (K : Nat) (w : World) (ha : QI w K n a la ca d ld cd za Da) (Q : Int) (hQ : Q = flQ (pN za Da + pN za Da + (pD Da : Int)) ((pD Da + pD Da : Nat) : Int)) :
    Calls Tryz.prog 27 #[.agg #[.bool n, .slice a la ca, .slice d ld cd]] w (GotW w Q) := by
  have HQ : Hid _ := hQ
  have kk := ha.kk
  clear hQ
  obtain ⟨W, hW, bW, x_a, x_z, sW⟩ := bs_32 w (.bool n) (.slice a la ca) (.slice d ld cd) (.bool false) (.slice none 0 0) 27 25
  have zbW := bW.size
  replace ha := ha.below bW
  have BB := bW
  go_enter Tryz.func27, Tryz.ntmps27
  go_wp2_with (go_at_call 47; fail)
  rw [← hW]
  clear hW
  refine (qParts n a la ca d ld cd za Da K W ha).mono ?_
  rintro e w1 ⟨n1, a1, l1, c1, d1, m1, k1, rfl, h1, bw1⟩
  have zbw1 := bw1.size
  replace ha := ha.below bw1
  replace BB := also BB bw1
  replace x_a := x_a.on bw1
  replace x_z := x_z.on bw1
  obtain ⟨V1, hV1, bV1, x_r, sV1⟩ := bs_2 w1 (.bool n1) (.slice a1 l1 c1) 25
  have zbV1 := bV1.size
  replace ha := ha.below bV1
  replace BB := also BB bV1
  replace x_a := x_a.on bV1
  replace x_z := x_z.on bV1
  replace h1 := h1.below bV1
  have st_a_0 : (w1.alloc (.cells #[.bool n1, .slice a1 l1 c1] 25)).cell? ⟨w.heap.size, 0, none⟩ = some (.bool n) := by rw [← hV1]; exact x_a.c0
  have st_a_1 : (w1.alloc (.cells #[.bool n1, .slice a1 l1 c1] 25)).cell? ⟨w.heap.size, 1, none⟩ = some (.slice a la ca) := by rw [← hV1]; exact x_a.c1
  have st_a_2 : (w1.alloc (.cells #[.bool n1, .slice a1 l1 c1] 25)).cell? ⟨w.heap.size, 2, none⟩ = some (.slice d ld cd) := by rw [← hV1]; exact x_a.c2
  have sf_a_0 : (w1.alloc (.cells #[.bool n1, .slice a1 l1 c1] 25)).frozen? ⟨w.heap.size, 0, none⟩ = false := by rw [← hV1]; exact x_a.f0
  have sf_a_1 : (w1.alloc (.cells #[.bool n1, .slice a1 l1 c1] 25)).frozen? ⟨w.heap.size, 1, none⟩ = false := by rw [← hV1]; exact x_a.f1
  have sf_a_2 : (w1.alloc (.cells #[.bool n1, .slice a1 l1 c1] 25)).frozen? ⟨w.heap.size, 2, none⟩ = false := by rw [← hV1]; exact x_a.f2
  go_wp2_with (go_at_call 48; fail)
  rw [← hV1]
  clear hV1 st_a_0 st_a_1 st_a_2 sf_a_0 sf_a_1 sf_a_2
  refine (wAdd n1 n1 a1 a1 l1 l1 c1 c1 _ _ V1 h1.wi h1.wi (pN za Da + pN za Da) rfl).mono ?_
  rintro e w2 ⟨n2, a2, l2, c2, rfl, h2, f2, bw2⟩
  have zbw2 := bw2.size
  replace ha := ha.below bw2
  replace BB := also BB bw2
  replace x_a := x_a.on bw2
  replace x_z := x_z.on bw2
  replace h1 := h1.below bw2
  replace x_r := x_r.on bw2
  replace h2 := h2.wi (K + 1) (by omega) (abs_add' h1.zs h1.zs)
  obtain ⟨V2, hV2, bV2, x_s, sV2⟩ := bs_2 w2 (.bool n2) (.slice a2 l2 c2) 25
  have zbV2 := bV2.size
  replace ha := ha.below bV2
  replace BB := also BB bV2
  replace x_a := x_a.on bV2
  replace x_z := x_z.on bV2
  replace h1 := h1.below bV2
  replace x_r := x_r.on bV2
  replace h2 := h2.below bV2
  have st_a_0 : (w2.alloc (.cells #[.bool n2, .slice a2 l2 c2] 25)).cell? ⟨w.heap.size, 0, none⟩ = some (.bool n) := by rw [← hV2]; exact x_a.c0
  have st_a_1 : (w2.alloc (.cells #[.bool n2, .slice a2 l2 c2] 25)).cell? ⟨w.heap.size, 1, none⟩ = some (.slice a la ca) := by rw [← hV2]; exact x_a.c1
  have st_a_2 : (w2.alloc (.cells #[.bool n2, .slice a2 l2 c2] 25)).cell? ⟨w.heap.size, 2, none⟩ = some (.slice d ld cd) := by rw [← hV2]; exact x_a.c2
  have sf_a_0 : (w2.alloc (.cells #[.bool n2, .slice a2 l2 c2] 25)).frozen? ⟨w.heap.size, 0, none⟩ = false := by rw [← hV2]; exact x_a.f0
  have sf_a_1 : (w2.alloc (.cells #[.bool n2, .slice a2 l2 c2] 25)).frozen? ⟨w.heap.size, 1, none⟩ = false := by rw [← hV2]; exact x_a.f1
  have sf_a_2 : (w2.alloc (.cells #[.bool n2, .slice a2 l2 c2] 25)).frozen? ⟨w.heap.size, 2, none⟩ = false := by rw [← hV2]; exact x_a.f2
  go_wp2_with (go_at_call 48; fail)
  rw [← hV2]
  clear hV2 st_a_0 st_a_1 st_a_2 sf_a_0 sf_a_1 sf_a_2
  refine (wAdd n2 false a2 d1 l2 m1 c2 k1 _ _ V2 h2 (wi_nat h1.ni) (pN za Da + pN za Da + (pD Da : Int)) rfl).mono ?_
  rintro e w3 ⟨n3, a3, l3, c3, rfl, h3, f3, bw3⟩
  have zbw3 := bw3.size
  replace ha := ha.below bw3
  replace BB := also BB bw3
  replace x_a := x_a.on bw3
  replace x_z := x_z.on bw3
  replace h1 := h1.below bw3
  replace x_r := x_r.on bw3
  replace h2 := h2.below bw3
  replace x_s := x_s.on bw3
  replace h3 := h3.wi (K + 1 + 1) (by omega) (abs_add' (abs_add' h1.zs h1.zs) (Nat.lt_of_lt_of_le (show ((pD Da : Nat) : Int).natAbs < 4294967296 ^ K by simpa using h1.ds) (Nat.pow_le_pow_right (by decide) (by omega))))
  go_wp2_with (go_at_call 50; fail)
  refine (fAdd d1 d1 m1 m1 k1 k1 _ _ w3 h1.ni h1.ni).mono ?_
  rintro e w4 ⟨a4, l4, c4, rfl, h4, f4, bw4⟩
  have zbw4 := bw4.size
  replace ha := ha.below bw4
  replace BB := also BB bw4
  replace x_a := x_a.on bw4
  replace x_z := x_z.on bw4
  replace h1 := h1.below bw4
  replace x_r := x_r.on bw4
  replace h2 := h2.below bw4
  replace x_s := x_s.on bw4
  replace h3 := h3.below bw4
  replace h4 := h4.ni (K + 1) (by omega) (by have := h1.ds; rw [Nat.pow_succ]; omega)
  go_wp2_with (go_at_call 49; fail)
  refine (qDown n3 a3 l3 c3 _ a4 l4 c4 _ w4 h3 h4 (by have := pD_pos Da; omega) Q HQ.out).mono ?_
  rintro e w5 ⟨n5, a5, l5, c5, rfl, h5, f5, bw5⟩
  have zbw5 := bw5.size
  replace ha := ha.below bw5
  replace BB := also BB bw5
  replace x_a := x_a.on bw5
  replace x_z := x_z.on bw5
  replace h1 := h1.below bw5
  replace x_r := x_r.on bw5
  replace h2 := h2.below bw5
  replace x_s := x_s.on bw5
  replace h3 := h3.below bw5
  replace h4 := h4.below bw5
  have ⟨x_z_0, x_z_1, x_z_2, x_z_3⟩ := x_z
  go_wp2
  exact bodyPost_ret (v := .agg #[.bool n5, .slice a5 l5 c5]) (by simp [results, Tryz.results27, go_sem, *]) rfl (endW (W := w4) _ (by omega) (by omega) BB h5 f5 _ _)
end Go.Proofs.YtaekgomplkkocabGreatDoor
