/-
  Joined texts, part 8:
  Layer 13's hole: Fill; the law's lives, and zelligeref13's Same at lists that are one.
  What zelligeref04's Long and Floor answer.
  What zelligeref06's Torus, In, Can and Cmp answer.
  What zelligeref07's diff, Area and Dist answer.
  What zelligeref07's near, sign, Orient and flat answer.
-/
import Derived.Test.YtkmgndaholglhaaP7
import Derived.ChangeKeysEq
namespace Go.Proofs.Ytkmgndaholglhaa
open Go.RowKit
set_option linter.unusedVariables false

def fillTop (L : List Pt) : Option (List T3) := if L.length < 3 ∨ 500 < L.length then none else fillP (bestB L) (List.range L.length)
structure FillRes (L : List Pt) (w : World) (e : Ending) (w' : World) : Prop where
 ex : ∃ (a : Option Addr) (m c : Nat) (q : Bool), e = .returned (.tuple #[.slice a m c, .bool q]) ∧ FillTold w.heap.size [] (fillTop L) a m c q w'
 be : Below w.heap.size w w'
theorem take_set1 {xs : List Value} {k n : Nat} {a : Value} (hl : xs.length = n) (hk : k < n) : (xs.set k a).take (k + 1) = xs.take k ++ [a] := by
 rw [List.take_add_one, List.getElem?_set_self (by omega), List.take_set_of_le (Nat.le_refl _)]; rfl
theorem eq_3h (a b c a' b' c' : Int) (w : World) : (Op.equalIn 10000 37 (.agg #[.int .i64 a, .int .i64 b, .int .i64 c]) (.agg #[.int .i64 a', .int .i64 b', .int .i64 c'])).run Try.prog w = .ok (a == a' && (b == b' && c == c')) w := by
 obtain ⟨i, hi⟩ := Option.isSome_iff_exists.1 (show (Try.prog.info? 3).isSome = true by kernel_rfl)
 have hc : Try.prog.cellsOf 3 = 1 := by kernel_rfl
 rw [run_equalIn_array w 9999 _ _ Try.underlying37 hi, hc]
 simp [Op.eqItems, List.range, List.range.loop, go_sem, Try.underlying3]
 by_cases e0 : a = a' <;> by_cases e1 : b = b' <;> by_cases e2 : c = c' <;> simp [e0, e1, e2]
theorem OwnS.elH {α : Type} {f : α → List Value} {s : Nat} (hf : ∀ x, (f x).length = s) {w : World} {base : Nat} {T : TypeId} {a : Option Addr} {n cap : Nat} {L : List α} (h : OwnS w base T s a n cap (flat f L)) (hn : n = L.length) {k : Nat} {x : α} (hk : L[k]? = some x) :
  ∃ b, a = some ⟨b, 0, none⟩ ∧ b < w.heap.size ∧ base ≤ b ∧ n ≤ cap ∧ ∀ j u, (f x)[j]? = some u → w.cell? ⟨b, k * s + j, none⟩ = some u := by
 have hl := (List.getElem?_eq_some_iff.1 hk).1
 obtain ⟨b, e, h1, h2, sg⟩ := h.at (by omega)
 refine ⟨b, e, h1, h2, h.room.1, fun j u hu => ?_⟩
 have := sg.cell (k * s + j) u (flat_at hf hk hu)
 rwa [Nat.zero_add] at this
set_option maxRecDepth 100000 in
set_option maxHeartbeats 4000000 in
theorem hFillTop (la : Option Addr) (nl lc : Nat) (L : List Pt) (w : World) (hL : PSl w la nl lc L) (hnl : nl ≤ 100000) :
  Calls Try.prog 5 #[.slice la nl lc] w (FillRes L w) := by
 have hlen := hL.len
 by_cases h3 : nl < 3
 ·have h3' : (nl : Int) < 3 := by omega
  have RES : Hid (FillTold w.heap.size [] (fillTop L) none 0 0 false w) := by
   unfold Hid fillTop; rw [if_pos (Or.inl (by omega))]; exact ⟨rfl, rfl, rfl, rfl⟩
  clear hL
  go_enter Try.func5, Try.ntmps5
  go_wp2
  exact bodyPost_ret (v := .tuple #[.slice none 0 0, .bool false]) (by simp [results, Try.results5, go_sem]) rfl ⟨⟨none, 0, 0, false, rfl, RES.out⟩, Below.refl _ _⟩
 have h3' : ¬ (nl : Int) < 3 := by omega
 have d3 : decide ((nl : Int) < 3) = false := decide_eq_false h3'
 by_cases h5 : 500 < nl
 ·have h5' : (nl : Int) > 500 := by omega
  have RES : Hid (FillTold w.heap.size [] (fillTop L) none 0 0 false w) := by
   unfold Hid fillTop; rw [if_pos (Or.inr (by omega))]; exact ⟨rfl, rfl, rfl, rfl⟩
  clear hL
  go_enter Try.func5, Try.ntmps5
  go_wp2
  exact bodyPost_ret (v := .tuple #[.slice none 0 0, .bool false]) (by simp [results, Try.results5, go_sem]) rfl ⟨⟨none, 0, 0, false, rfl, RES.out⟩, Below.refl _ _⟩
 have h5' : ¬ (nl : Int) > 500 := by omega
 obtain ⟨i0, hi0, hz0, hz1, hz2⟩ := info_of infoI
 obtain ⟨i3, ki0, kz0, kz1, kz2⟩ := info_of info3
 have HL : Hid _ := hL
 obtain ⟨lb, lo, _, _, rfl, hlb, _, _⟩ := hL.at (k := 0) (by omega)
 have TOP : Hid (fillTop L = fillP (bestB L) (List.range nl)) := by unfold Hid fillTop; rw [if_neg (by omega), hlen]
 obtain ⟨q, hq⟩ : ∃ q, q = nl - 2 := ⟨_, rfl⟩
 have HQ : Hid ((nl : Int) - 2 = (q : Int)) := by unfold Hid; omega
 have hqb : q ≤ 1000 := by omega
 clear hq
 clear hL
 go_enter Try.func5, Try.ntmps5
 go_wp2_with (at_make; go_loud (refine wpList_make_full _ rfl _ _ 33 rfl w.heap.size 3 i0 _ 1 Try.underlying33 hi0 hz0 hz1 _ _ _ _ nl rfl rfl rfl rfl (by rw [hz2]; omega) (by unfold maxLen; omega) (Nat.le_refl _) ?_; intro w1 ow1 gr1))
 have b1 : Below w.heap.size w w1 := Below.to gr1
 clear gr1
 go_wp2
 go_loopw [19] (fun i wr => ∃ (k : Nat) (xs : List Value), k ≤ nl ∧ i = .int .i64 (k : Int) ∧ OwnS wr w.heap.size 3 1 (some ⟨w.heap.size, 0, none⟩) nl nl xs ∧ Hid (xs.take k = natC (List.range k)) ∧ Below w.heap.size w wr ∧ w.heap.size < wr.heap.size) (fun i _ => nl - (Go.RowKit.intOf i).toNat)
 case atStart => exact ⟨0, _, by omega, rfl, ow1, rfl, b1, (OwnS.lt ow1 ⟨0, rfl⟩).1⟩
 case round =>
  clear ow1 b1
  obtain ⟨k, xs, hk, rfl, ow, HX, be, zz⟩ := hrel
  by_cases hlt : k < nl
  ·have hlt' : (k : Int) < (nl : Int) := by omega
   have hlx := ow.len
   have g0 := ow.cell (by omega) (List.getElem?_eq_getElem (show k < xs.length by omega))
   have g00 := g0.1
   have g01 := g0.2
   have ow2 := OwnS.set (j := k) ow (.int .i64 (k : Int))
   have be2 : Below w.heap.size w (wr.setCell ⟨w.heap.size, k, none⟩ (.int .i64 (k : Int))) := be.setCell (by simp) _
   have HX2 : Hid ((xs.set k (.int .i64 (k : Int))).take (k + 1) = natC (List.range (k + 1))) := by
    unfold Hid
    rw [take_set1 (n := nl) (by omega) hlt, HX.out, List.range_succ, natC_app]
    rfl
   clear ow be g0 HX
   go_wp2
   go_roundw
   case rel => exact ⟨k + 1, _, by omega, by simp, ow2, HX2.out, be2, by simp; omega⟩
   case measure => simp [Go.RowKit.intOf]; omega
  ·obtain rfl : nl = k := by omega
   have hx := HX.out
   rw [List.take_of_length_le (by rw [ow.len]; omega)] at hx
   rw [hx] at ow
   have zr := be.size
   clear HX hx
   go_wp2_with (at_make; go_loud (refine wpList_make_own _ rfl _ _ 23 rfl wr.heap.size 37 i3 _ 3 Try.underlying23 ki0 kz0 kz1 _ _ _ q rfl rfl HQ.out (by rw [kz2]; omega) (by unfold maxLen; omega) (Nat.le_refl _) ?_; intro w2 ow2 gr2))
   have b2 : Below wr.heap.size wr w2 := Below.to gr2
   obtain ⟨a2, c2, e2, ow3⟩ := OwnS.form ow2
   cases e2
   have z2 := b2.size
   have CF : Hid (Calls Try.prog 9 #[.slice (some ⟨lb, lo, none⟩) nl lc, .slice (some ⟨w.heap.size, 0, none⟩) nl nl, .slice (some ⟨wr.heap.size, 0, none⟩) 0 q] w2 (FillPost w.heap.size [] (fillP (bestB L) (List.range nl)) (some ⟨wr.heap.size, 0, none⟩) w2)) := by
    refine hFillR _ nl lc L (by omega) nl (List.range nl) _ nl nl [] _ 0 q w.heap.size w2 (Nat.le_refl _) ((HL.out.below be).below b2) (Own.sl (OwnS.below ow b2)) (ow3.mono (by omega)) rfl (by omega) (fun k hk => ?_) (fun j hj => List.mem_range.1 hj) (by show 0 + nl ≤ 1000; omega)
    have e := Slot.eq hk
    exact ⟨fun h => by have := Slot.eq h; omega, fun h => by have := Slot.eq h; omega⟩
   have be2 : Below w.heap.size w w2 := also be b2
   clear ow2 gr2 ow3 ow
   go_wp2_with (go_at_call 9; fail)
   refine Calls.mono CF.out ?_
   rintro e w3 ⟨⟨a, m, c, r, rfl, told, _⟩, kp⟩
   have be3 : Below w.heap.size w w3 := be2.trans (kp.below (by omega) (fun k hk => by have := Slot.eq hk; omega))
   have RES : Hid (FillTold w.heap.size [] (fillTop L) a m c r w3) := by unfold Hid; rw [TOP.out]; exact told
   clear CF told kp
   go_wp2
   exact bodyPost_ret (v := .tuple #[.slice a m c, .bool r]) (by simp [results, Try.results5, go_sem]) rfl ⟨⟨a, m, c, r, rfl, RES.out⟩, be3⟩
set_option maxRecDepth 100000 in
set_option maxHeartbeats 4000000 in
theorem rhSame (a b : Option Addr) (ba bb n ca cb : Nat) (D : List T3) (w : World) (ha : OwnS w ba 37 3 a n ca (flat t3C D)) (hb : OwnS w bb 37 3 b n cb (flat t3C D)) (hn : n = D.length) (hD : n ≤ 1000000) :
  Calls Try.prog 7 #[.slice a n ca, .slice b n cb] w fun e w' => e = .returned (.bool true) ∧ Below w.heap.size w w' := by
 have HA : Hid _ := ha
 have HB : Hid _ := hb
 have HN : Hid _ := hn
 clear ha hb hn
 go_enter Try.func7, Try.ntmps7
 go_wp2
 go_loopw [5] (fun i wr => ∃ k : Nat, k ≤ n ∧ i = .int .i64 (k : Int) ∧ Below w.heap.size w wr) (fun i _ => n - (Go.RowKit.intOf i).toNat)
 case atStart => exact ⟨0, by omega, rfl, Below.refl _ _⟩
 case round =>
  obtain ⟨k, hk, rfl, be⟩ := hrel
  by_cases hlt : k < n
  ·have hlt' : (k : Int) < (n : Int) := by omega
   obtain ⟨t, ht⟩ : ∃ t, D[k]? = some t := ⟨D[k]'(by rw [← HN.out]; exact hlt), List.getElem?_eq_getElem _⟩
   obtain ⟨ga, rfl, hla, _, hca, HE⟩ := OwnS.elH t3C_len (OwnS.below HA.out be) HN.out ht
   obtain ⟨gb, rfl, hlb, _, hcb, HE2⟩ := OwnS.elH t3C_len (OwnS.below HB.out be) HN.out ht
   have c0 : wr.cell? ⟨ga, k * 3, none⟩ = some (.int .i64 (t.1 : Int)) := HE 0 _ rfl
   have d0 : wr.cell? ⟨gb, k * 3, none⟩ = some (.int .i64 (t.1 : Int)) := HE2 0 _ rfl
   have c1 : wr.cell? ⟨ga, k * 3 + 1, none⟩ = some (.int .i64 (t.2.1 : Int)) := HE 1 _ rfl
   have d1 : wr.cell? ⟨gb, k * 3 + 1, none⟩ = some (.int .i64 (t.2.1 : Int)) := HE2 1 _ rfl
   have c2 : wr.cell? ⟨ga, k * 3 + 2, none⟩ = some (.int .i64 (t.2.2 : Int)) := HE 2 _ rfl
   have d2 : wr.cell? ⟨gb, k * 3 + 2, none⟩ = some (.int .i64 (t.2.2 : Int)) := HE2 2 _ rfl
   have heq : ∀ w', (Op.equalIn 10000 37 (.agg #[.int .i64 (t.1 : Int), .int .i64 (t.2.1 : Int), .int .i64 (t.2.2 : Int)]) (.agg #[.int .i64 (t.1 : Int), .int .i64 (t.2.1 : Int), .int .i64 (t.2.2 : Int)])).run Try.prog w' = .ok true w' := fun w' => by rw [eq_3h]; simp
   clear HE HE2 ht
   go_wp2
   have HSs : Hid (∀ w', Below (wr.heap.size) wr w' → (fun w' => w'.cell? ⟨ga, k * 3, none⟩ = some (.int .i64 (t.1 : Int)) ∧ w'.cell? ⟨ga, k * 3 + 1, none⟩ = some (.int .i64 (t.2.1 : Int)) ∧ w'.cell? ⟨ga, k * 3 + 2, none⟩ = some (.int .i64 (t.2.2 : Int)) ∧ w'.cell? ⟨gb, k * 3, none⟩ = some (.int .i64 (t.1 : Int)) ∧ w'.cell? ⟨gb, k * 3 + 1, none⟩ = some (.int .i64 (t.2.1 : Int)) ∧ w'.cell? ⟨gb, k * 3 + 2, none⟩ = some (.int .i64 (t.2.2 : Int)) ∧ Below (wr.heap.size) wr w') w') := by
    unfold Hid
    intro w' hb
    exact ⟨(hb.cell (p := ⟨ga, k * 3, none⟩) hla).trans c0, (hb.cell (p := ⟨ga, k * 3 + 1, none⟩) hla).trans c1, (hb.cell (p := ⟨ga, k * 3 + 2, none⟩) hla).trans c2, (hb.cell (p := ⟨gb, k * 3, none⟩) hlb).trans d0, (hb.cell (p := ⟨gb, k * 3 + 1, none⟩) hlb).trans d1, (hb.cell (p := ⟨gb, k * 3 + 2, none⟩) hlb).trans d2, hb⟩
   refine wp_region_held_drew (S := fun w' => w'.cell? ⟨ga, k * 3, none⟩ = some (.int .i64 (t.1 : Int)) ∧ w'.cell? ⟨ga, k * 3 + 1, none⟩ = some (.int .i64 (t.2.1 : Int)) ∧ w'.cell? ⟨ga, k * 3 + 2, none⟩ = some (.int .i64 (t.2.2 : Int)) ∧ w'.cell? ⟨gb, k * 3, none⟩ = some (.int .i64 (t.1 : Int)) ∧ w'.cell? ⟨gb, k * 3 + 1, none⟩ = some (.int .i64 (t.2.1 : Int)) ∧ w'.cell? ⟨gb, k * 3 + 2, none⟩ = some (.int .i64 (t.2.2 : Int)) ∧ Below (wr.heap.size) wr w') (by kernel_rfl) ?_ (fun hHeld => ?_)
   ·exact HSs.out _ ((Below.refl _ _).drew)
   refine tz (i := 0) rfl ?_
   simp only [Act.put, ps1, ps2, ps3]
   refine tz (i := 1) rfl ?_
   simp only [Act.put, ps1, ps2, ps3]
   refine tz (i := 2) rfl ?_
   simp only [Act.put, ps1, ps2, ps3]
   refine tz (i := 3) rfl ?_
   simp only [Act.put, ps1, ps2, ps3]
   refine tz (i := 4) rfl ?_
   simp only [Act.put, ps1, ps2, ps3]
   refine tz (i := 5) rfl ?_
   simp only [Act.put, ps1, ps2, ps3]
   refine tz (i := 6) rfl ?_
   simp only [Act.put, ps1, ps2, ps3]
   refine tz (i := 7) rfl ?_
   simp only [Act.put, ps1, ps2, ps3]
   refine tz (i := 8) rfl ?_
   simp only [Act.put, ps1, ps2, ps3]
   refine wpAnyH_done (by kernel_rfl) ?_ _
   have b2 := hHeld.2.2.2.2.2.2
   have be2 : Below w.heap.size w wr.drew := be.trans (b2.mono be.size)
   clear hHeld HSs
   go_wp2
   go_roundw
   case rel => exact ⟨k + 1, by omega, by simp, be2⟩
   case measure => simp [Go.RowKit.intOf]; omega
  ·obtain rfl : n = k := by omega
   go_wp2
   go_ret
   exact ⟨rfl, be⟩
theorem live_fill : fillTop [(0, 0), (2, 0), (2, 2), (0, 2)] = some [(0, 1, 3), (1, 2, 3)] := by decide
set_option maxRecDepth 100000 in
set_option maxHeartbeats 4000000 in
theorem hLives (w : World) : Calls Try.prog 8 #[] w fun e w' => e = .returned (.bool true) ∧ Below w.heap.size w w' := by
 obtain ⟨W, hW⟩ : ∃ W, W = w.alloc (.cells #[.int .i64 0, .int .i64 0, .int .i64 2, .int .i64 0, .int .i64 2, .int .i64 2, .int .i64 0, .int .i64 2] 31) := ⟨_, rfl⟩
 have bW : Below w.heap.size w W := by rw [hW]; exact (Below.refl _ _).alloc (Nat.le_refl _) _
 have zW : W.heap.size = w.heap.size + 1 := by rw [hW]; simp
 have RW : Row W w.heap.size (pcells [(0, 0), (2, 0), (2, 2), (0, 2)]) := by rw [hW]; exact Row.new w _ _
 have PS : PSl W (some ⟨w.heap.size, 0, none⟩) 4 4 [(0, 0), (2, 0), (2, 2), (0, 2)] := ⟨rfl, Nat.le_refl _, (by intro e; cases e), Or.inr ⟨_, 0, rfl, by omega, RW.seg⟩⟩
 have CF : Hid _ := hFillTop _ 4 4 _ W PS (by omega)
 have HW : w.alloc (.cells #[.int .i64 0, .int .i64 0, .int .i64 2, .int .i64 0, .int .i64 2, .int .i64 2, .int .i64 0, .int .i64 2] 31) = W := hW.symm
 clear RW PS hW
 go_enter Try.func8, Try.ntmps8
 go_wp2_with (go_at_call 5; fail)
 refine Calls.mono CF.out ?_
 rintro e w2 ⟨⟨a, m, c, q, rfl, told⟩, b2⟩
 rw [live_fill] at told
 obtain ⟨rfl, rfl, ow⟩ := told
 have z2 := b2.size
 obtain ⟨V, hV⟩ : ∃ V, V = w2.alloc (.cells #[.int .i64 0, .int .i64 1, .int .i64 3, .int .i64 1, .int .i64 2, .int .i64 3] 37) := ⟨_, rfl⟩
 have bV : Below w2.heap.size w2 V := by rw [hV]; exact (Below.refl _ _).alloc (Nat.le_refl _) _
 have owV : OwnS V w2.heap.size 37 3 (some ⟨w2.heap.size, 0, none⟩) 2 2 (flat t3C [(0, 1, 3), (1, 2, 3)]) := by rw [hV]; exact World.ownsRow_lit w2 #[.int .i64 0, .int .i64 1, .int .i64 3, .int .i64 1, .int .i64 2, .int .i64 3] 2 (Nat.le_refl _) (by decide) rfl
 have CS : Hid (Calls Try.prog 7 #[.slice a 2 c, .slice (some ⟨w2.heap.size, 0, none⟩) 2 2] V fun e w' => e = .returned (.bool true) ∧ Below V.heap.size V w') := rhSame a _ _ _ 2 c 2 [(0, 1, 3), (1, 2, 3)] V (ow.below bV) owV rfl (by omega)
 have HV : w2.alloc (.cells #[.int .i64 0, .int .i64 1, .int .i64 3, .int .i64 1, .int .i64 2, .int .i64 3] 37) = V := hV.symm
 have b0V : Below w.heap.size w V := also (also bW b2) bV
 clear CF ow owV hV HW
 go_wp2_with (go_at_call 7; fail)
 refine Calls.mono CS.out ?_
 rintro e w3 ⟨rfl, b3⟩
 clear CS
 go_wp2
 go_ret
 exact ⟨rfl, also b0V b3⟩
end Go.Proofs.Ytkmgndaholglhaa

namespace Go.Proofs.Ytkmgndaholglhaa
open Go.RowKit
set_option linter.unusedVariables false

set_option maxRecDepth 100000 in
set_option maxHeartbeats 1000000 in
theorem rwLong (x : Int) (w : World) (h1 : -9223372036854775808 ≤ x) (h2 : x ≤ 9223372036854775807) : Calls Try.prog 30 #[.int .i64 x] w (GotR w (fun _ => True) x) := by
 by_cases hx : x = 0
 ·subst hx
  go_enter Try.func30, Try.ntmps30
  go_wp2
  exact bodyPost_ret (v := .agg #[.int .i64 0, .slice none 0 0]) (by simp [results, Try.results30, go_sem, *]) rfl ⟨0, none, 0, 0, rfl, rn_zero _ 0, fun _ _ _ => Or.inl rfl, (Below.refl _ _).alloc (Nat.le_refl _) _⟩
 have B0 : Below w.heap.size w (w.alloc (.cells #[.int .i64 0, .slice none 0 0] 56)) := (Below.refl _ _).alloc (Nat.le_refl _) _
 have x0 := bx_new w (.int .i64 0) (.slice none 0 0) 56
 obtain ⟨u, hu⟩ : ∃ u, u = x.natAbs := ⟨_, rfl⟩
 have hul : u < 18446744073709551616 := by omega
 have ho := own_two (w.alloc (.cells #[.int .i64 0, .slice none 0 0] 56)) u hul
 have hb1 : Below (w.alloc (.cells #[.int .i64 0, .slice none 0 0] 56)).heap.size (w.alloc (.cells #[.int .i64 0, .slice none 0 0] 56)) ((w.alloc (.cells #[.int .i64 0, .slice none 0 0] 56)).alloc (.cells #[.int .u32 ((u : Int) % 4294967296), .int .u32 ((u : Int) / 4294967296)] 76)) := (Below.refl _ _).alloc (Nat.le_refl _) _
 have hni : NI _ _ 2 2 u := ⟨Own.sl ho, by omega, by decide⟩
 rw [World.size_alloc] at hni
 have x1 := x0.on hb1
 have E2 : (u : Int) / 4294967296 % 4294967296 = (u : Int) / 4294967296 := by omega
 by_cases hn : x < 0
 ·have E : IntKind.u64.wrap (-IntKind.u64.wrap x) = (u : Int) := by rw [IntKind.wrap_u64, IntKind.wrap_u64]; omega
  have HR : Hid ((-1 : Int) = x.sign) := (sign_neg hn).symm
  have HU : Hid _ := hu
  clear hu ho
  go_enter Try.func30, Try.ntmps30
  go_wp2_with (go_at_call 51; fail)
  refine (hfOf _ 2 2 u _ hni).mono ?_
  rintro e w2 ⟨d, l, c, rfl, hd, fd, b2⟩
  obtain ⟨k0, k1, k2, k3⟩ := x1.on b2
  go_wp2
  exact bodyPost_ret (v := .agg #[.int .i64 (-1), .slice d l c]) (by simp [results, Try.results30, go_sem, *]) rfl (endR _ (by omega) (also (also B0 hb1) b2) ⟨HU.out ▸ hd, HR.out⟩ (fd _ (by simp; omega)) (fun j hj _ => fd j (by simp; omega)) _ _)
 ·obtain ⟨y, rfl⟩ := Int.eq_ofNat_of_zero_le (show 0 ≤ x by omega)
  obtain rfl : u = y := by omega
  have HR : Hid ((1 : Int) = ((u : Nat) : Int).sign) := (sign_pos (by omega)).symm
  have HU : Hid (u = ((u : Nat) : Int).natAbs) := hu
  clear hu ho
  go_enter Try.func30, Try.ntmps30
  go_wp2_with (go_at_call 51; fail)
  refine (hfOf _ 2 2 u _ hni).mono ?_
  rintro e w2 ⟨d, l, c, rfl, hd, fd, b2⟩
  obtain ⟨k0, k1, k2, k3⟩ := x1.on b2
  go_wp2
  exact bodyPost_ret (v := .agg #[.int .i64 (1), .slice d l c]) (by simp [results, Try.results30, go_sem, *]) rfl (endR _ (by omega) (also (also B0 hb1) b2) ⟨HU.out ▸ hd, HR.out⟩ (fd _ (by simp; omega)) (fun j hj _ => fd j (by simp; omega)) _ _)

end Go.Proofs.Ytkmgndaholglhaa

namespace Go.Proofs.Ytkmgndaholglhaa
open Go.RowKit
set_option linter.unusedVariables false

theorem few40 : hf.nlen (1099511627776 : Int).natAbs ≤ 1000000 := hfew (K := 2) (by decide) (by decide)
theorem few40n : hf.nlen (-1099511627776 : Int).natAbs ≤ 1000000 := hfew (K := 2) (by decide) (by decide)
theorem few_i64 {x : Int} (h : -9223372036854775808 ≤ x ∧ x ≤ 9223372036854775807) : hf.nlen x.natAbs ≤ 1000000 := hfew (K := 2) (by omega) (by decide)
theorem in_no_high {z : Int} (h : 1099511627776 < z) : inC z = false := inC_false.2 (by omega)
theorem rlCmp (x y z t : Int) (w : World) {g : Int} (hg : g = cmpP x y z t) : Calls Try.prog 40 #[.agg #[.int .i64 x, .int .i64 y], .agg #[.int .i64 z, .int .i64 t]] w fun e w' => e = .returned (.int .i64 g) ∧ Below w.heap.size w w' := by
 have B : ∀ x y z t : Int, Below w.heap.size w ((w.alloc (.cells #[.int .i64 x, .int .i64 y] 31)).alloc (.cells #[.int .i64 z, .int .i64 t] 31)) := fun _ _ _ _ => ((Below.refl _ _).alloc (Nat.le_refl _) _).alloc (by simp) _
 rcases Int.lt_trichotomy x z with h | rfl | h
 ·obtain rfl : g = -1 := by rw [hg]; unfold cmpP cmpI; rw [if_neg (by omega), if_pos h]
  go_enter Try.func40, Try.ntmps40
  go_wp2
  go_ret
  exact ⟨rfl, B _ _ _ _⟩
 ·rcases Int.lt_trichotomy y t with h | rfl | h
  ·obtain rfl : g = -1 := by rw [hg]; unfold cmpP cmpI; rw [if_pos rfl, if_pos h]
   go_enter Try.func40, Try.ntmps40
   go_wp2
   go_ret
   exact ⟨rfl, B _ _ _ _⟩
  ·obtain rfl : g = 0 := by rw [hg]; unfold cmpP cmpI; rw [if_pos rfl, if_neg (by omega), if_neg (by omega)]
   go_enter Try.func40, Try.ntmps40
   go_wp2
   go_ret
   exact ⟨rfl, B _ _ _ _⟩
  ·obtain rfl : g = 1 := by rw [hg]; unfold cmpP cmpI; rw [if_pos rfl, if_neg (by omega), if_pos h]
   have h1 : ¬ y < t := by omega
   have h2 : ¬ y = t := by omega
   go_enter Try.func40, Try.ntmps40
   go_wp2
   go_ret
   exact ⟨rfl, B _ _ _ _⟩
 ·obtain rfl : g = 1 := by rw [hg]; unfold cmpP cmpI; rw [if_neg (by omega), if_neg (by omega), if_pos h]
  have h1 : ¬ x < z := by omega
  have h2 : ¬ x = z := by omega
  go_enter Try.func40, Try.ntmps40
  go_wp2
  go_ret
  exact ⟨rfl, B _ _ _ _⟩
set_option maxRecDepth 100000 in
set_option maxHeartbeats 4000000 in
theorem rlIn (s : Int) (d : Option Addr) (l c : Nat) (z : Int) (w : World) (hz : RN w s d l c z) (fz : hf.nlen z.natAbs ≤ 1000000) {b : Bool} (hb : b = inC z) : Calls Try.prog 29 #[.agg #[.int .i64 s, .slice d l c]] w fun e w' => e = .returned (.bool b) ∧ Below w.heap.size w w' := by
 obtain ⟨g1, hg1⟩ : ∃ g1, g1 = (z - 1099511627776).sign := ⟨_, rfl⟩
 obtain ⟨g2, hg2⟩ : ∃ g2, g2 = (z - -1099511627776).sign := ⟨_, rfl⟩
 have G1 : Hid _ := hg1
 have G2 : Hid _ := hg2
 have FZ : Hid _ := fz
 clear fz
 obtain ⟨W, hW, bW, x_n, sW⟩ := bs_2 w (.int .i64 s) (.slice d l c) 56
 have zbW := bW.size
 replace hz := hz.below bW
 have BB := bW
 by_cases hbig : 1099511627776 < z
 ·skip
  obtain rfl : b = false := by rw [hb, in_no_high hbig]
  have e1 : (g1 ≤ 0) = False := by rw [hg1, Int.sign_eq_one_of_pos (by omega)]; decide
  clear hb hg1 hg2 hbig
  go_enter Try.func29, Try.ntmps29
  go_wp2
  rw [← hW]
  clear hW
  have dd1 : Below W.heap.size W W.drew := (Below.refl _ _).drew
  have zdd1 := dd1.size
  replace hz := hz.below dd1
  replace BB := also BB dd1
  replace x_n := x_n.on dd1
  refine wp_region_held_drew (S := (fun w' => w'.cell? ⟨w.heap.size, 0, none⟩ = some (.int .i64 s) ∧ w'.cell? ⟨w.heap.size, 1, none⟩ = some (.slice d l c) ∧ Below w.heap.size w w')) (by kernel_rfl) ?_ (fun hHeld => ?_)
  ·first | exact ⟨x_n.c0, x_n.c1, BB⟩ | exact ⟨cell_on bw2 hHeld.1, cell_on bw2 hHeld.2.1, also hHeld.2.2 bw2⟩ | exact ⟨cell_on bw1 hHeld.1, cell_on bw1 hHeld.2.1, also hHeld.2.2 bw1⟩
  refine tz (i := 0) rfl ?_
  simp only [Act.put, ps1, ps2, ps3]
  refine take_call (i := 1) rfl (by kernel_rfl) (fun Kc hK => ?_)
  go_simp
  (go_at_call 30; refine (rwLong 1099511627776 _ (by decide) (by decide)).mono ?_; rintro e w1 ⟨s1, d1, l1, c1, rfl, r1, f1, bw1⟩)
  refine hK.out _ _ ?_ (fun hHeld => ?_)
  ·first | exact ⟨x_n.c0, x_n.c1, BB⟩ | exact ⟨cell_on bw2 hHeld.1, cell_on bw2 hHeld.2.1, also hHeld.2.2 bw2⟩ | exact ⟨cell_on bw1 hHeld.1, cell_on bw1 hHeld.2.1, also hHeld.2.2 bw1⟩
  clear hK Kc
  have zbw1 := bw1.size
  replace hz := hz.below bw1
  replace BB := also BB bw1
  replace x_n := x_n.on bw1
  refine take_call (i := 2) rfl (by kernel_rfl) (fun Kc hK => ?_)
  go_simp
  (go_at_call 50; refine (rwCmp s s1 d d1 l c l1 c1 z 1099511627776 _ hz r1 FZ.out few40 G1.out).mono ?_; rintro e w2 ⟨rfl, bw2⟩)
  refine hK.out _ _ ?_ (fun hHeld => ?_)
  ·first | exact ⟨x_n.c0, x_n.c1, BB⟩ | exact ⟨cell_on bw2 hHeld.1, cell_on bw2 hHeld.2.1, also hHeld.2.2 bw2⟩ | exact ⟨cell_on bw1 hHeld.1, cell_on bw1 hHeld.2.1, also hHeld.2.2 bw1⟩
  clear hK Kc
  have zbw2 := bw2.size
  replace hz := hz.below bw2
  replace BB := also BB bw2
  replace x_n := x_n.on bw2
  replace r1 := r1.below bw2
  refine tz (i := 3) rfl ?_
  simp only [Act.put, ps1, ps2, ps3]
  refine tz (i := 4) rfl ?_
  simp only [Act.put, ps1, ps2, ps3]
  refine take_no (i := 5) rfl (by kernel_rfl) (by kernel_rfl) (by kernel_rfl) (fun _ _ _ h => h) (by rfl) (by assumption) ?_
  simp only [Act.put, ps1, ps2, ps3]
  refine take_no (i := 6) rfl (by kernel_rfl) (by kernel_rfl) (by kernel_rfl) (fun _ _ _ h => h) (by rfl) (by assumption) ?_
  simp only [Act.put, ps1, ps2, ps3]
  refine take_no (i := 7) rfl (by kernel_rfl) (by kernel_rfl) (by kernel_rfl) (fun _ _ _ h => h) (by rfl) (by assumption) ?_
  simp only [Act.put, ps1, ps2, ps3]
  refine take_no (i := 8) rfl (by kernel_rfl) (by kernel_rfl) (by kernel_rfl) (fun _ _ _ h => h) (by rfl) (by assumption) ?_
  simp only [Act.put, ps1, ps2, ps3]
  refine tz (i := 9) rfl ?_
  simp only [Act.put, ps1, ps2, ps3]
  refine tz (i := 10) rfl ?_
  simp only [Act.put, ps1, ps2, ps3]
  refine wpAnyH_done (by kernel_rfl) ?_ _
  go_wp2
  go_ret
  exact ⟨rfl, BB⟩
 ·skip
  have e1 : (g1 ≤ 0) = True := by rw [hg1]; rcases sign_cases (z - 1099511627776) with ⟨q, s⟩ | ⟨q, s⟩ | ⟨q, s⟩ <;> rw [s] <;> first | decide | omega
  have e2 : decide (0 ≤ g2) = b := by rw [hb, hg2]; unfold inC; rcases sign_cases (z - -1099511627776) with ⟨q, s⟩ | ⟨q, s⟩ | ⟨q, s⟩ <;> rw [s] <;> simp <;> omega
  clear hb hg1 hg2 hbig
  go_enter Try.func29, Try.ntmps29
  go_wp2
  rw [← hW]
  clear hW
  have dd1 : Below W.heap.size W W.drew := (Below.refl _ _).drew
  have zdd1 := dd1.size
  replace hz := hz.below dd1
  replace BB := also BB dd1
  replace x_n := x_n.on dd1
  refine wp_region_held_drew (S := (fun w' => w'.cell? ⟨w.heap.size, 0, none⟩ = some (.int .i64 s) ∧ w'.cell? ⟨w.heap.size, 1, none⟩ = some (.slice d l c) ∧ Below w.heap.size w w')) (by kernel_rfl) ?_ (fun hHeld => ?_)
  ·first | exact ⟨x_n.c0, x_n.c1, BB⟩ | exact ⟨cell_on bw4 hHeld.1, cell_on bw4 hHeld.2.1, also hHeld.2.2 bw4⟩ | exact ⟨cell_on bw3 hHeld.1, cell_on bw3 hHeld.2.1, also hHeld.2.2 bw3⟩ | exact ⟨cell_on bw2 hHeld.1, cell_on bw2 hHeld.2.1, also hHeld.2.2 bw2⟩ | exact ⟨cell_on bw1 hHeld.1, cell_on bw1 hHeld.2.1, also hHeld.2.2 bw1⟩
  refine tz (i := 0) rfl ?_
  simp only [Act.put, ps1, ps2, ps3]
  refine take_call (i := 1) rfl (by kernel_rfl) (fun Kc hK => ?_)
  go_simp
  (go_at_call 30; refine (rwLong 1099511627776 _ (by decide) (by decide)).mono ?_; rintro e w1 ⟨s1, d1, l1, c1, rfl, r1, f1, bw1⟩)
  refine hK.out _ _ ?_ (fun hHeld => ?_)
  ·first | exact ⟨x_n.c0, x_n.c1, BB⟩ | exact ⟨cell_on bw4 hHeld.1, cell_on bw4 hHeld.2.1, also hHeld.2.2 bw4⟩ | exact ⟨cell_on bw3 hHeld.1, cell_on bw3 hHeld.2.1, also hHeld.2.2 bw3⟩ | exact ⟨cell_on bw2 hHeld.1, cell_on bw2 hHeld.2.1, also hHeld.2.2 bw2⟩ | exact ⟨cell_on bw1 hHeld.1, cell_on bw1 hHeld.2.1, also hHeld.2.2 bw1⟩
  clear hK Kc
  have zbw1 := bw1.size
  replace hz := hz.below bw1
  replace BB := also BB bw1
  replace x_n := x_n.on bw1
  refine take_call (i := 2) rfl (by kernel_rfl) (fun Kc hK => ?_)
  go_simp
  (go_at_call 50; refine (rwCmp s s1 d d1 l c l1 c1 z 1099511627776 _ hz r1 FZ.out few40 G1.out).mono ?_; rintro e w2 ⟨rfl, bw2⟩)
  refine hK.out _ _ ?_ (fun hHeld => ?_)
  ·first | exact ⟨x_n.c0, x_n.c1, BB⟩ | exact ⟨cell_on bw4 hHeld.1, cell_on bw4 hHeld.2.1, also hHeld.2.2 bw4⟩ | exact ⟨cell_on bw3 hHeld.1, cell_on bw3 hHeld.2.1, also hHeld.2.2 bw3⟩ | exact ⟨cell_on bw2 hHeld.1, cell_on bw2 hHeld.2.1, also hHeld.2.2 bw2⟩ | exact ⟨cell_on bw1 hHeld.1, cell_on bw1 hHeld.2.1, also hHeld.2.2 bw1⟩
  clear hK Kc
  have zbw2 := bw2.size
  replace hz := hz.below bw2
  replace BB := also BB bw2
  replace x_n := x_n.on bw2
  replace r1 := r1.below bw2
  refine tz (i := 3) rfl ?_
  simp only [Act.put, ps1, ps2, ps3]
  refine tz (i := 4) rfl ?_
  simp only [Act.put, ps1, ps2, ps3]
  refine tz (i := 5) rfl ?_
  simp only [Act.put, ps1, ps2, ps3]
  refine take_call (i := 6) rfl (by kernel_rfl) (fun Kc hK => ?_)
  go_simp
  (go_at_call 30; refine (rwLong (-1099511627776) _ (by decide) (by decide)).mono ?_; rintro e w3 ⟨s3, d3, l3, c3, rfl, r3, f3, bw3⟩)
  refine hK.out _ _ ?_ (fun hHeld => ?_)
  ·first | exact ⟨x_n.c0, x_n.c1, BB⟩ | exact ⟨cell_on bw4 hHeld.1, cell_on bw4 hHeld.2.1, also hHeld.2.2 bw4⟩ | exact ⟨cell_on bw3 hHeld.1, cell_on bw3 hHeld.2.1, also hHeld.2.2 bw3⟩ | exact ⟨cell_on bw2 hHeld.1, cell_on bw2 hHeld.2.1, also hHeld.2.2 bw2⟩ | exact ⟨cell_on bw1 hHeld.1, cell_on bw1 hHeld.2.1, also hHeld.2.2 bw1⟩
  clear hK Kc
  have zbw3 := bw3.size
  replace hz := hz.below bw3
  replace BB := also BB bw3
  replace x_n := x_n.on bw3
  replace r1 := r1.below bw3
  refine take_call (i := 7) rfl (by kernel_rfl) (fun Kc hK => ?_)
  go_simp
  (go_at_call 50; refine (rwCmp s s3 d d3 l c l3 c3 z (-1099511627776) _ hz r3 FZ.out few40n G2.out).mono ?_; rintro e w4 ⟨rfl, bw4⟩)
  refine hK.out _ _ ?_ (fun hHeld => ?_)
  ·first | exact ⟨x_n.c0, x_n.c1, BB⟩ | exact ⟨cell_on bw4 hHeld.1, cell_on bw4 hHeld.2.1, also hHeld.2.2 bw4⟩ | exact ⟨cell_on bw3 hHeld.1, cell_on bw3 hHeld.2.1, also hHeld.2.2 bw3⟩ | exact ⟨cell_on bw2 hHeld.1, cell_on bw2 hHeld.2.1, also hHeld.2.2 bw2⟩ | exact ⟨cell_on bw1 hHeld.1, cell_on bw1 hHeld.2.1, also hHeld.2.2 bw1⟩
  clear hK Kc
  have zbw4 := bw4.size
  replace hz := hz.below bw4
  replace BB := also BB bw4
  replace x_n := x_n.on bw4
  replace r1 := r1.below bw4
  replace r3 := r3.below bw4
  refine tz (i := 8) rfl ?_
  simp only [Act.put, ps1, ps2, ps3]
  refine tz (i := 9) rfl ?_
  simp only [Act.put, ps1, ps2, ps3]
  refine tz (i := 10) rfl ?_
  simp only [Act.put, ps1, ps2, ps3]
  refine wpAnyH_done (by kernel_rfl) ?_ _
  go_wp2
  go_ret
  exact ⟨rfl, BB⟩
set_option maxRecDepth 100000 in
theorem rlCan (x y : Int) (w : World) (hx : -9223372036854775808 ≤ x ∧ x ≤ 9223372036854775807) (hy : -9223372036854775808 ≤ y ∧ y ≤ 9223372036854775807) {b : Bool} (hb : b = canC x y) : Calls Try.prog 19 #[.agg #[.int .i64 x, .int .i64 y]] w fun e w' => e = .returned (.bool b) ∧ Below w.heap.size w w' := by
 subst hb
 unfold canC
 have HX : Hid _ := hx
 have HY : Hid _ := hy
 clear hx hy
 cases hx : inC x
 ·skip
  obtain ⟨W, hW, bW, x_p, sW⟩ := bs_2 w (.int .i64 x) (.int .i64 y) 31
  have zbW := bW.size
  have BB := bW
  go_enter Try.func19, Try.ntmps19
  go_wp2_with (go_at_call 30; fail)
  rw [← hW]
  clear hW
  refine (rwLong x W HX.out.1 HX.out.2).mono ?_
  rintro e w1 ⟨s1, d1, l1, c1, rfl, r1, f1, bw1⟩
  have zbw1 := bw1.size
  replace BB := also BB bw1
  replace x_p := x_p.on bw1
  go_wp2_with (go_at_call 29; fail)
  refine (rlIn s1 d1 l1 c1 x w1 r1 (few_i64 HX.out) hx.symm).mono ?_
  rintro e w2 ⟨rfl, bw2⟩
  have zbw2 := bw2.size
  replace BB := also BB bw2
  replace x_p := x_p.on bw2
  replace r1 := r1.below bw2
  have ⟨x_p_0, x_p_1, x_p_2, x_p_3⟩ := x_p
  go_wp2
  go_ret
  exact ⟨by simp, BB⟩
 ·skip
  obtain ⟨W, hW, bW, x_p, sW⟩ := bs_2 w (.int .i64 x) (.int .i64 y) 31
  have zbW := bW.size
  have BB := bW
  go_enter Try.func19, Try.ntmps19
  go_wp2_with (go_at_call 30; fail)
  rw [← hW]
  clear hW
  refine (rwLong x W HX.out.1 HX.out.2).mono ?_
  rintro e w1 ⟨s1, d1, l1, c1, rfl, r1, f1, bw1⟩
  have zbw1 := bw1.size
  replace BB := also BB bw1
  replace x_p := x_p.on bw1
  go_wp2_with (go_at_call 29; fail)
  refine (rlIn s1 d1 l1 c1 x w1 r1 (few_i64 HX.out) hx.symm).mono ?_
  rintro e w2 ⟨rfl, bw2⟩
  have zbw2 := bw2.size
  replace BB := also BB bw2
  replace x_p := x_p.on bw2
  replace r1 := r1.below bw2
  have ⟨x_p_0, x_p_1, x_p_2, x_p_3⟩ := x_p
  go_wp2_with (go_at_call 30; fail)
  refine (rwLong y w2 HY.out.1 HY.out.2).mono ?_
  rintro e w3 ⟨s3, d3, l3, c3, rfl, r3, f3, bw3⟩
  clear x_p_0 x_p_1 x_p_2 x_p_3
  have zbw3 := bw3.size
  replace BB := also BB bw3
  replace x_p := x_p.on bw3
  replace r1 := r1.below bw3
  go_wp2_with (go_at_call 29; fail)
  refine (rlIn s3 d3 l3 c3 y w3 r3 (few_i64 HY.out) rfl).mono ?_
  rintro e w4 ⟨rfl, bw4⟩
  have zbw4 := bw4.size
  replace BB := also BB bw4
  replace x_p := x_p.on bw4
  replace r1 := r1.below bw4
  replace r3 := r3.below bw4
  go_wp2
  go_ret
  exact ⟨by simp, BB⟩
end Go.Proofs.Ytkmgndaholglhaa

namespace Go.Proofs.Ytkmgndaholglhaa
open Go.RowKit
set_option linter.unusedVariables false

theorem few_num {z : Int} (h : z.natAbs ≤ 1000000000000000000000000000000000000000000000000000000000000) : hf.nlen z.natAbs ≤ 1000000 := hfew (K := 7) (Nat.lt_of_le_of_lt h (by decide)) (by decide)
theorem fieldS (s : Int) (d : Option Addr) (l c : Nat) (w : World) : (Instr.field 56 (.agg #[.int .i64 s, .slice d l c]) 0).run Try.prog w = .ok (.int .i64 s) w := by simp [Instr.field, go_sem, asAgg]
def R64 (x : Int) : Prop := -9223372036854775808 ≤ x ∧ x ≤ 9223372036854775807
theorem in_64 {x : Int} (h : inC x = true) : R64 x := by have := inC_true.1 h; exact ⟨by omega, by omega⟩
set_option maxRecDepth 100000 in
theorem rpDiff (a b : Int) (w : World) (ha : R64 a) (hb : R64 b) {z : Int} (hz : z = b - a) : Calls Try.prog 35 #[.int .i64 a, .int .i64 b] w (GotR w (fun _ => True) z) := by
 have FA : Hid _ := few_i64 ha
 have FB : Hid _ := few_i64 hb
 have HA : Hid _ := ha
 have HB : Hid _ := hb
 have HZ : Hid _ := hz
 clear ha hb hz
 obtain ⟨W, hW, bW, x_r, sW⟩ := bs_2 w (.int .i64 0) (.slice none 0 0) 56
 have zbW := bW.size
 have BB := bW
 go_enter Try.func35, Try.ntmps35
 go_wp2_with (go_at_call 30; fail)
 rw [← hW]
 clear hW
 refine (rwLong b W HB.out.1 HB.out.2).mono ?_
 rintro e w1 ⟨s1, d1, l1, c1, rfl, r1, f1, bw1⟩
 have zbw1 := bw1.size
 replace BB := also BB bw1
 replace x_r := x_r.on bw1
 go_wp2_with (go_at_call 30; fail)
 refine (rwLong a w1 HA.out.1 HA.out.2).mono ?_
 rintro e w2 ⟨s2, d2, l2, c2, rfl, r2, f2, bw2⟩
 have zbw2 := bw2.size
 replace BB := also BB bw2
 replace x_r := x_r.on bw2
 replace r1 := r1.below bw2
 go_wp2_with (go_at_call 38; fail)
 refine (rwSub s1 s2 d1 d2 l1 c1 l2 c2 b a z w2 r1 r2 FB.out FA.out HZ.out).mono ?_
 rintro e w3 ⟨s3, d3, l3, c3, rfl, r3, f3, bw3⟩
 have zbw3 := bw3.size
 replace BB := also BB bw3
 replace x_r := x_r.on bw3
 replace r1 := r1.below bw3
 replace r2 := r2.below bw3
 have ⟨x_r_0, x_r_1, x_r_2, x_r_3⟩ := x_r
 go_wp2
 exact bodyPost_ret (v := .agg #[.int .i64 s3, .slice d3 l3 c3]) (by simp [results, Try.results35, go_sem, *]) rfl (endR _ (by omega) BB r3 (f3 _ (by omega) ⟨f1 _ (by omega) trivial, f2 _ (by omega) trivial⟩) (fun j hj _ => f3 j (by omega) ⟨f1 j (by omega) trivial, f2 j (by omega) trivial⟩) _ _)
set_option maxRecDepth 100000 in
set_option maxHeartbeats 4000000 in
theorem rpArea (a1 a2 b1 b2 c1 c2 : Int) (w : World) (ha : canC a1 a2 = true) (hb : canC b1 b2 = true) (hc : canC c1 c2 = true) {z : Int} (hz : z = areaP a1 a2 b1 b2 c1 c2) : Calls Try.prog 33 #[.agg #[.int .i64 a1, .int .i64 a2], .agg #[.int .i64 b1, .int .i64 b2], .agg #[.int .i64 c1, .int .i64 c2]] w (GotR w (fun _ => True) z) := by
 have Ra1 : Hid _ := in_64 (canC_true.1 ha).1
 have Ra2 : Hid _ := in_64 (canC_true.1 ha).2
 have Rb1 : Hid _ := in_64 (canC_true.1 hb).1
 have Rb2 : Hid _ := in_64 (canC_true.1 hb).2
 have Rc1 : Hid _ := in_64 (canC_true.1 hc).1
 have Rc2 : Hid _ := in_64 (canC_true.1 hc).2
 have qx := can_diff (canC_true.1 hb).1 (canC_true.1 ha).1
 have qy := can_diff (canC_true.1 hc).2 (canC_true.1 ha).2
 have qu := can_diff (canC_true.1 hb).2 (canC_true.1 ha).2
 have qv := can_diff (canC_true.1 hc).1 (canC_true.1 ha).1
 obtain ⟨x, hx⟩ : ∃ z : Int, z = b1 - a1 := ⟨_, rfl⟩
 have Ex : Hid _ := hx
 obtain ⟨y, hy⟩ : ∃ z : Int, z = c2 - a2 := ⟨_, rfl⟩
 have Ey : Hid _ := hy
 obtain ⟨u, hu⟩ : ∃ z : Int, z = b2 - a2 := ⟨_, rfl⟩
 have Eu : Hid _ := hu
 obtain ⟨v, hv⟩ : ∃ z : Int, z = c1 - a1 := ⟨_, rfl⟩
 have Ev : Hid _ := hv
 obtain ⟨p, hp⟩ : ∃ z : Int, z = x * y := ⟨_, rfl⟩
 have Ep : Hid _ := hp
 obtain ⟨q, hq⟩ : ∃ z : Int, z = u * v := ⟨_, rfl⟩
 have Eq : Hid _ := hq
 have HZ : Hid (z = p - q) := by unfold Hid; rw [hz, hp, hq, hx, hy, hu, hv]; rfl
 rw [← hx] at qx
 have Fx : Hid _ := few_num (z := x) (by omega)
 rw [← hy] at qy
 have Fy : Hid _ := few_num (z := y) (by omega)
 rw [← hu] at qu
 have Fu : Hid _ := few_num (z := u) (by omega)
 rw [← hv] at qv
 have Fv : Hid _ := few_num (z := v) (by omega)
 have qp := prod_abs qx qy
 have qq := prod_abs qu qv
 rw [← hp] at qp
 rw [← hq] at qq
 have Fp : Hid _ := few_num (z := p) (by omega)
 have Fq : Hid _ := few_num (z := q) (by omega)
 clear hz hx hy hu hv hp hq qx qy qu qv qp qq ha hb hc
 obtain ⟨W, hW, bW, x_a, x_b, x_c, x_r, sW⟩ := bs_2222 w (.int .i64 a1) (.int .i64 a2) (.int .i64 b1) (.int .i64 b2) (.int .i64 c1) (.int .i64 c2) (.int .i64 0) (.slice none 0 0) 31 31 31 56
 have zbW := bW.size
 have BB := bW
 go_enter Try.func33, Try.ntmps33
 go_wp2
 rw [← hW]
 clear hW
 have dd1 : Below W.heap.size W W.drew := (Below.refl _ _).drew
 have zdd1 := dd1.size
 replace BB := also BB dd1
 replace x_a := x_a.on dd1
 replace x_b := x_b.on dd1
 replace x_c := x_c.on dd1
 replace x_r := x_r.on dd1
 refine wp_region_held_drew (S := (fun w' => w'.cell? ⟨w.heap.size, 0, none⟩ = some (.int .i64 a1) ∧ w'.cell? ⟨w.heap.size, 1, none⟩ = some (.int .i64 a2) ∧ w'.cell? ⟨w.heap.size + 1, 0, none⟩ = some (.int .i64 b1) ∧ w'.cell? ⟨w.heap.size + 1, 1, none⟩ = some (.int .i64 b2) ∧ w'.cell? ⟨w.heap.size + 1 + 1, 0, none⟩ = some (.int .i64 c1) ∧ w'.cell? ⟨w.heap.size + 1 + 1, 1, none⟩ = some (.int .i64 c2) ∧ Below w.heap.size w w')) (by kernel_rfl) ?_ (fun hHeld => ?_)
 ·exact ⟨x_a.c0, x_a.c1, x_b.c0, x_b.c1, x_c.c0, x_c.c1, BB⟩
 refine tz (i := 0) rfl ?_
 simp only [Act.put, ps1, ps2, ps3]
 refine tz (i := 1) rfl ?_
 simp only [Act.put, ps1, ps2, ps3]
 refine tz (i := 2) rfl ?_
 simp only [Act.put, ps1, ps2, ps3]
 refine tz (i := 3) rfl ?_
 simp only [Act.put, ps1, ps2, ps3]
 refine tz (i := 5) rfl ?_
 simp only [Act.put, ps1, ps2, ps3]
 refine tz (i := 6) rfl ?_
 simp only [Act.put, ps1, ps2, ps3]
 refine tz (i := 7) rfl ?_
 simp only [Act.put, ps1, ps2, ps3]
 refine tz (i := 8) rfl ?_
 simp only [Act.put, ps1, ps2, ps3]
 refine tz (i := 11) rfl ?_
 simp only [Act.put, ps1, ps2, ps3]
 refine tz (i := 12) rfl ?_
 simp only [Act.put, ps1, ps2, ps3]
 refine tz (i := 13) rfl ?_
 simp only [Act.put, ps1, ps2, ps3]
 refine tz (i := 14) rfl ?_
 simp only [Act.put, ps1, ps2, ps3]
 refine tz (i := 16) rfl ?_
 simp only [Act.put, ps1, ps2, ps3]
 refine tz (i := 17) rfl ?_
 simp only [Act.put, ps1, ps2, ps3]
 refine tz (i := 18) rfl ?_
 simp only [Act.put, ps1, ps2, ps3]
 refine tz (i := 19) rfl ?_
 simp only [Act.put, ps1, ps2, ps3]
 refine take_call (i := 4) rfl (by kernel_rfl) (fun Kc hK => ?_)
 go_simp
 (go_at_call 35; refine (rpDiff a1 b1 _ Ra1.out Rb1.out Ex.out).mono ?_; rintro e w1 ⟨s11, d11, l11, c11, rfl, r11, f11, bw1⟩)
 refine hK.out _ _ ?_ (fun hHeld => ?_)
 ·exact ⟨cell_on bw1 hHeld.1, cell_on bw1 hHeld.2.1, cell_on bw1 hHeld.2.2.1, cell_on bw1 hHeld.2.2.2.1, cell_on bw1 hHeld.2.2.2.2.1, cell_on bw1 hHeld.2.2.2.2.2.1, also hHeld.2.2.2.2.2.2 bw1⟩
 clear hK Kc
 have zbw1 := bw1.size
 replace BB := also BB bw1
 replace x_a := x_a.on bw1
 replace x_b := x_b.on bw1
 replace x_c := x_c.on bw1
 replace x_r := x_r.on bw1
 refine take_call (i := 9) rfl (by kernel_rfl) (fun Kc hK => ?_)
 go_simp
 (go_at_call 35; refine (rpDiff a2 c2 _ Ra2.out Rc2.out Ey.out).mono ?_; rintro e w2 ⟨s12, d12, l12, c12, rfl, r12, f12, bw2⟩)
 refine hK.out _ _ ?_ (fun hHeld => ?_)
 ·exact ⟨cell_on bw2 hHeld.1, cell_on bw2 hHeld.2.1, cell_on bw2 hHeld.2.2.1, cell_on bw2 hHeld.2.2.2.1, cell_on bw2 hHeld.2.2.2.2.1, cell_on bw2 hHeld.2.2.2.2.2.1, also hHeld.2.2.2.2.2.2 bw2⟩
 clear hK Kc
 have zbw2 := bw2.size
 replace BB := also BB bw2
 replace x_a := x_a.on bw2
 replace x_b := x_b.on bw2
 replace x_c := x_c.on bw2
 replace x_r := x_r.on bw2
 replace r11 := r11.below bw2
 refine take_call (i := 10) rfl (by kernel_rfl) (fun Kc hK => ?_)
 go_simp
 (go_at_call 36; refine (rwMul s11 s12 d11 d12 l11 c11 l12 c12 x y p _ r11 r12 Fx.out Fy.out Ep.out).mono ?_; rintro e w3 ⟨s13, d13, l13, c13, rfl, r13, f13, bw3⟩)
 refine hK.out _ _ ?_ (fun hHeld => ?_)
 ·exact ⟨cell_on bw3 hHeld.1, cell_on bw3 hHeld.2.1, cell_on bw3 hHeld.2.2.1, cell_on bw3 hHeld.2.2.2.1, cell_on bw3 hHeld.2.2.2.2.1, cell_on bw3 hHeld.2.2.2.2.2.1, also hHeld.2.2.2.2.2.2 bw3⟩
 clear hK Kc
 have zbw3 := bw3.size
 replace BB := also BB bw3
 replace x_a := x_a.on bw3
 replace x_b := x_b.on bw3
 replace x_c := x_c.on bw3
 replace x_r := x_r.on bw3
 replace r11 := r11.below bw3
 replace r12 := r12.below bw3
 refine take_call (i := 15) rfl (by kernel_rfl) (fun Kc hK => ?_)
 go_simp
 (go_at_call 35; refine (rpDiff a2 b2 _ Ra2.out Rb2.out Eu.out).mono ?_; rintro e w4 ⟨s14, d14, l14, c14, rfl, r14, f14, bw4⟩)
 refine hK.out _ _ ?_ (fun hHeld => ?_)
 ·exact ⟨cell_on bw4 hHeld.1, cell_on bw4 hHeld.2.1, cell_on bw4 hHeld.2.2.1, cell_on bw4 hHeld.2.2.2.1, cell_on bw4 hHeld.2.2.2.2.1, cell_on bw4 hHeld.2.2.2.2.2.1, also hHeld.2.2.2.2.2.2 bw4⟩
 clear hK Kc
 have zbw4 := bw4.size
 replace BB := also BB bw4
 replace x_a := x_a.on bw4
 replace x_b := x_b.on bw4
 replace x_c := x_c.on bw4
 replace x_r := x_r.on bw4
 replace r11 := r11.below bw4
 replace r12 := r12.below bw4
 replace r13 := r13.below bw4
 refine take_call (i := 20) rfl (by kernel_rfl) (fun Kc hK => ?_)
 go_simp
 (go_at_call 35; refine (rpDiff a1 c1 _ Ra1.out Rc1.out Ev.out).mono ?_; rintro e w5 ⟨s15, d15, l15, c15, rfl, r15, f15, bw5⟩)
 refine hK.out _ _ ?_ (fun hHeld => ?_)
 ·exact ⟨cell_on bw5 hHeld.1, cell_on bw5 hHeld.2.1, cell_on bw5 hHeld.2.2.1, cell_on bw5 hHeld.2.2.2.1, cell_on bw5 hHeld.2.2.2.2.1, cell_on bw5 hHeld.2.2.2.2.2.1, also hHeld.2.2.2.2.2.2 bw5⟩
 clear hK Kc
 have zbw5 := bw5.size
 replace BB := also BB bw5
 replace x_a := x_a.on bw5
 replace x_b := x_b.on bw5
 replace x_c := x_c.on bw5
 replace x_r := x_r.on bw5
 replace r11 := r11.below bw5
 replace r12 := r12.below bw5
 replace r13 := r13.below bw5
 replace r14 := r14.below bw5
 refine take_call (i := 21) rfl (by kernel_rfl) (fun Kc hK => ?_)
 go_simp
 (go_at_call 36; refine (rwMul s14 s15 d14 d15 l14 c14 l15 c15 u v q _ r14 r15 Fu.out Fv.out Eq.out).mono ?_; rintro e w6 ⟨s16, d16, l16, c16, rfl, r16, f16, bw6⟩)
 refine hK.out _ _ ?_ (fun hHeld => ?_)
 ·exact ⟨cell_on bw6 hHeld.1, cell_on bw6 hHeld.2.1, cell_on bw6 hHeld.2.2.1, cell_on bw6 hHeld.2.2.2.1, cell_on bw6 hHeld.2.2.2.2.1, cell_on bw6 hHeld.2.2.2.2.2.1, also hHeld.2.2.2.2.2.2 bw6⟩
 clear hK Kc
 have zbw6 := bw6.size
 replace BB := also BB bw6
 replace x_a := x_a.on bw6
 replace x_b := x_b.on bw6
 replace x_c := x_c.on bw6
 replace x_r := x_r.on bw6
 replace r11 := r11.below bw6
 replace r12 := r12.below bw6
 replace r13 := r13.below bw6
 replace r14 := r14.below bw6
 replace r15 := r15.below bw6
 refine take_call (i := 22) rfl (by kernel_rfl) (fun Kc hK => ?_)
 go_simp
 (go_at_call 38; refine (rwSub s13 s16 d13 d16 l13 c13 l16 c16 p q z _ r13 r16 Fp.out Fq.out HZ.out).mono ?_; rintro e w7 ⟨s17, d17, l17, c17, rfl, r17, f17, bw7⟩)
 refine hK.out _ _ ?_ (fun hHeld => ?_)
 ·exact ⟨cell_on bw7 hHeld.1, cell_on bw7 hHeld.2.1, cell_on bw7 hHeld.2.2.1, cell_on bw7 hHeld.2.2.2.1, cell_on bw7 hHeld.2.2.2.2.1, cell_on bw7 hHeld.2.2.2.2.2.1, also hHeld.2.2.2.2.2.2 bw7⟩
 clear hK Kc
 have zbw7 := bw7.size
 replace BB := also BB bw7
 replace x_a := x_a.on bw7
 replace x_b := x_b.on bw7
 replace x_c := x_c.on bw7
 replace x_r := x_r.on bw7
 replace r11 := r11.below bw7
 replace r12 := r12.below bw7
 replace r13 := r13.below bw7
 replace r14 := r14.below bw7
 replace r15 := r15.below bw7
 replace r16 := r16.below bw7
 have ⟨x_r_0, x_r_1, x_r_2, x_r_3⟩ := x_r
 refine take_call (i := 23) rfl (by kernel_rfl) (fun Kc hK => ?_)
 go_simp
 refine hK.out _ _ ?_ (fun hHeld => ?_)
 ·first | exact ⟨cell_put2 hHeld.1 (by omega) _ _, cell_put2 hHeld.2.1 (by omega) _ _, cell_put2 hHeld.2.2.1 (by omega) _ _, cell_put2 hHeld.2.2.2.1 (by omega) _ _, cell_put2 hHeld.2.2.2.2.1 (by omega) _ _, cell_put2 hHeld.2.2.2.2.2.1 (by omega) _ _, below_put2 hHeld.2.2.2.2.2.2 (by omega) _ _⟩ | exact ⟨x_a.c0, x_a.c1, x_b.c0, x_b.c1, x_c.c0, x_c.c1, BB⟩
 clear hK Kc
 refine wpAnyH_done (by kernel_rfl) ?_ _
 go_wp2
 exact bodyPost_ret (v := .agg #[.int .i64 s17, .slice d17 l17 c17]) (by simp [results, Try.results33, go_sem, *]) rfl (endR _ (by omega) BB r17 (f17 _ (by omega) ⟨f13 _ (by omega) trivial, f16 _ (by omega) trivial⟩) (fun j hj _ => f17 j (by omega) ⟨f13 j (by omega) trivial, f16 j (by omega) trivial⟩) _ _)
def SpD (x y : Int) : Nat → Value → (World → Prop) → (Nat → Prop) → Prop
 | 0 => RNIs x
 | 1 => RNIs y
 | _ => ValIs undef
theorem SpD_good (x y : Int) : GoodSp (SpD x y) := fun j x R A h => match j with
 | 0 => rnIs_good h
 | 1 => rnIs_good h
 | k + 2 => valIs_good h
def SpDZ : Nat → List Value
 | 0 => [.int .i64 0, .slice none 0 0]
 | 1 => [.int .i64 0, .slice none 0 0]
 | _ => []
theorem fuel_SpD_b0 {bD eD : Nat → Bool} {f : Nat} (hf : f = 2 + (nb (bD 0) + nb (bD 1) + nb (eD 0) + nb (eD 1))) (h : bD 0 = false) : f - 1 = 2 + (nb (upd bD 0 true 0) + nb (upd bD 0 true 1) + nb (eD 0) + nb (eD 1)) := by
 have h1 : nb (bD 0) = 1 := by rw [h]; rfl
 have h2 : nb (upd bD 0 true 0) = 0 := rfl
 have q1 : nb (upd bD 0 true 1) = nb (bD 1) := rfl
 omega
theorem fuel_SpD_b1 {bD eD : Nat → Bool} {f : Nat} (hf : f = 2 + (nb (bD 0) + nb (bD 1) + nb (eD 0) + nb (eD 1))) (h : bD 1 = false) : f - 1 = 2 + (nb (upd bD 1 true 0) + nb (upd bD 1 true 1) + nb (eD 0) + nb (eD 1)) := by
 have h1 : nb (bD 1) = 1 := by rw [h]; rfl
 have h2 : nb (upd bD 1 true 1) = 0 := rfl
 have q0 : nb (upd bD 1 true 0) = nb (bD 0) := rfl
 omega
theorem fuel_SpD_e0 {bD eD : Nat → Bool} {f : Nat} (hf : f = 2 + (nb (bD 0) + nb (bD 1) + nb (eD 0) + nb (eD 1))) (h : eD 0 = false) : f - 1 = 2 + (nb (bD 0) + nb (bD 1) + nb (upd eD 0 true 0) + nb (upd eD 0 true 1)) := by
 have h1 : nb (eD 0) = 1 := by rw [h]; rfl
 have h2 : nb (upd eD 0 true 0) = 0 := rfl
 have q1 : nb (upd eD 0 true 1) = nb (eD 1) := rfl
 omega
theorem fuel_SpD_e1 {bD eD : Nat → Bool} {f : Nat} (hf : f = 2 + (nb (bD 0) + nb (bD 1) + nb (eD 0) + nb (eD 1))) (h : eD 1 = false) : f - 1 = 2 + (nb (bD 0) + nb (bD 1) + nb (upd eD 1 true 0) + nb (upd eD 1 true 1)) := by
 have h1 : nb (eD 1) = 1 := by rw [h]; rfl
 have h2 : nb (upd eD 1 true 1) = 0 := rfl
 have q0 : nb (upd eD 1 true 0) = nb (eD 0) := rfl
 omega
set_option maxRecDepth 100000 in
set_option maxHeartbeats 4000000 in
theorem rpDist (a1 a2 b1 b2 : Int) (w : World) (ha : canC a1 a2 = true) (hb : canC b1 b2 = true) {z : Int} (hz : z = distP a1 a2 b1 b2) : Calls Try.prog 37 #[.agg #[.int .i64 a1, .int .i64 a2], .agg #[.int .i64 b1, .int .i64 b2]] w (GotR w (fun _ => True) z) := by
 have Ra1 : Hid _ := in_64 (canC_true.1 ha).1
 have Ra2 : Hid _ := in_64 (canC_true.1 ha).2
 have Rb1 : Hid _ := in_64 (canC_true.1 hb).1
 have Rb2 : Hid _ := in_64 (canC_true.1 hb).2
 have qx := can_diff (canC_true.1 hb).1 (canC_true.1 ha).1
 have qy := can_diff (canC_true.1 hb).2 (canC_true.1 ha).2
 obtain ⟨x, hx⟩ : ∃ z : Int, z = b1 - a1 := ⟨_, rfl⟩
 have Ex : Hid _ := hx
 obtain ⟨y, hy⟩ : ∃ z : Int, z = b2 - a2 := ⟨_, rfl⟩
 have Ey : Hid _ := hy
 obtain ⟨p, hp⟩ : ∃ z : Int, z = x * x := ⟨_, rfl⟩
 have Ep : Hid _ := hp
 obtain ⟨q, hq⟩ : ∃ z : Int, z = y * y := ⟨_, rfl⟩
 have Eq : Hid _ := hq
 have HZ : Hid (z = p + q) := by unfold Hid; rw [hz, hp, hq, hx, hy]; rfl
 rw [← hx] at qx
 have Fx : Hid _ := few_num (z := x) (by omega)
 rw [← hy] at qy
 have Fy : Hid _ := few_num (z := y) (by omega)
 have qp := prod_abs qx qx
 have qq := prod_abs qy qy
 rw [← hp] at qp
 rw [← hq] at qq
 have Fp : Hid _ := few_num (z := p) (by omega)
 have Fq : Hid _ := few_num (z := q) (by omega)
 clear hz hx hy hp hq qx qy qp qq ha hb
 obtain ⟨W, hW, bW, x_a, x_b, x_r, sW⟩ := bs_222 w (.int .i64 a1) (.int .i64 a2) (.int .i64 b1) (.int .i64 b2) (.int .i64 0) (.slice none 0 0) 31 31 56
 have zbW := bW.size
 have BB := bW
 go_enter Try.func37, Try.ntmps37
 go_wp2
 rw [← hW]
 clear hW
 obtain ⟨QQ, hQQ⟩ : ∃ QQ : Exit → Act → World → Prop, QQ = fun e act wr => e = .normal ∧ ∃ (pma0 : Nat) (pma1 : Nat) (s11 : Int) (d11 : Option Addr) (l11 c11 : Nat) (s12 : Int) (d12 : Option Addr) (l12 c12 : Nat), act = ⟨#[.agg #[.int .i64 a1, .int .i64 a2], .agg #[.int .i64 b1, .int .i64 b2], .pointer (some ⟨w.heap.size, 0, none⟩), .pointer (some ⟨w.heap.size + 1, 0, none⟩), .pointer (some ⟨w.heap.size + 1 + 1, 0, none⟩), .pointer (some ⟨pma0, 0, none⟩), .pointer (some ⟨pma1, 0, none⟩), .pointer (some ⟨w.heap.size, 0, none⟩), .int .i64 a1, .pointer (some ⟨w.heap.size + 1, 0, none⟩), .int .i64 b1, .agg #[.int .i64 s11, .slice d11 l11 c11], .pointer (some ⟨w.heap.size, 1, none⟩), .int .i64 a2, .pointer (some ⟨w.heap.size + 1, 1, none⟩), .int .i64 b2, .agg #[.int .i64 s12, .slice d12 l12 c12], undef, undef, undef, undef, undef, undef, undef], []⟩ ∧ RN wr s11 d11 l11 c11 x ∧ RN wr s12 d12 l12 c12 y ∧ Bx wr (w.heap.size) (.int .i64 a1) (.int .i64 a2) ∧ Bx wr (w.heap.size + 1) (.int .i64 b1) (.int .i64 b2) ∧ Bx wr (w.heap.size + 1 + 1) (.int .i64 0) (.slice none 0 0) ∧ Bx wr pma0 (.int .i64 s11) (.slice d11 l11 c11) ∧ Bx wr pma1 (.int .i64 s12) (.slice d12 l12 c12) ∧ Below w.heap.size w wr ∧ W.heap.size ≤ wr.heap.size ∧ (W.heap.size ≤ pma0 ∧ pma0 < wr.heap.size) ∧ (W.heap.size ≤ pma1 ∧ pma1 < wr.heap.size) := ⟨_, rfl⟩
 have HQQ : Hid _ := hQQ
 clear hQQ
 refine wp_mono (Q := QQ) ?_ ?_
 ·refine wp_region_held_drew (S := (fun w' => w'.cell? ⟨w.heap.size, 0, none⟩ = some (.int .i64 a1) ∧ w'.cell? ⟨w.heap.size, 1, none⟩ = some (.int .i64 a2) ∧ w'.cell? ⟨w.heap.size + 1, 0, none⟩ = some (.int .i64 b1) ∧ w'.cell? ⟨w.heap.size + 1, 1, none⟩ = some (.int .i64 b2) ∧ Below w.heap.size w w')) (by kernel_rfl) ?_ (fun hHeld => ?_)
  ·exact ⟨x_a.c0, x_a.c1, x_b.c0, x_b.c1, BB.drew⟩
  refine tzq (i := 0) rfl (fun _ _ _ h => by rw [HQQ.out] at h; exact Exit.noConfusion h.1) ?_
  simp only [Act.put, ps1, ps2, ps3]
  refine tzq (i := 1) rfl (fun _ _ _ h => by rw [HQQ.out] at h; exact Exit.noConfusion h.1) ?_
  simp only [Act.put, ps1, ps2, ps3]
  refine tzq (i := 2) rfl (fun _ _ _ h => by rw [HQQ.out] at h; exact Exit.noConfusion h.1) ?_
  simp only [Act.put, ps1, ps2, ps3]
  refine tzq (i := 3) rfl (fun _ _ _ h => by rw [HQQ.out] at h; exact Exit.noConfusion h.1) ?_
  simp only [Act.put, ps1, ps2, ps3]
  refine tzq (i := 5) rfl (fun _ _ _ h => by rw [HQQ.out] at h; exact Exit.noConfusion h.1) ?_
  simp only [Act.put, ps1, ps2, ps3]
  refine tzq (i := 6) rfl (fun _ _ _ h => by rw [HQQ.out] at h; exact Exit.noConfusion h.1) ?_
  simp only [Act.put, ps1, ps2, ps3]
  refine tzq (i := 7) rfl (fun _ _ _ h => by rw [HQQ.out] at h; exact Exit.noConfusion h.1) ?_
  simp only [Act.put, ps1, ps2, ps3]
  refine tzq (i := 8) rfl (fun _ _ _ h => by rw [HQQ.out] at h; exact Exit.noConfusion h.1) ?_
  simp only [Act.put, ps1, ps2, ps3]
  clear hHeld
  obtain ⟨INV, hINV⟩ : ∃ INV : Nat → Array Bool → Act → World → Prop, INV = fun f L act wr => ∃ (bD eD : Nat → Bool) (pD : Nat → Nat) (RD : Nat → World → Prop) (AD : Nat → Nat → Prop) (uD vD : Nat → Value), f = 2 + (nb (bD 0) + nb (bD 1) + nb (eD 0) + nb (eD 1)) ∧ L = #[true, true, true, true, bD 0, true, true, true, true, bD 1, eD 0, eD 1, false, false] ∧ act = ⟨#[.agg #[.int .i64 a1, .int .i64 a2], .agg #[.int .i64 b1, .int .i64 b2], .pointer (some ⟨w.heap.size, 0, none⟩), .pointer (some ⟨w.heap.size + 1, 0, none⟩), .pointer (some ⟨w.heap.size + 1 + 1, 0, none⟩), vD 0, vD 1, .pointer (some ⟨w.heap.size, 0, none⟩), .int .i64 a1, .pointer (some ⟨w.heap.size + 1, 0, none⟩), .int .i64 b1, uD 0, .pointer (some ⟨w.heap.size, 1, none⟩), .int .i64 a2, .pointer (some ⟨w.heap.size + 1, 1, none⟩), .int .i64 b2, uD 1, undef, undef, undef, undef, undef, undef, undef], []⟩ ∧ (bD 1 = true → bD 0 = true) ∧ Mk W SpDZ (SpD x y) bD eD pD RD AD uD vD wr := ⟨_, rfl⟩
  have HINV : Hid _ := hINV
  clear hINV
  refine phase INV ?stepma _ _ _ _ ?initma
  case initma => rw [HINV.out]; exact ⟨fun _ => false, fun _ => false, fun _ => 0, fun _ _ => True, fun _ _ => True, fun _ => undef, fun _ => undef, rfl, rfl, rfl, fun h => Bool.noConfusion h, Mk.start _ _ _ (Below.refl _ _).drew⟩
  intro f L act wr hinv
  rw [HINV.out] at hinv
  obtain ⟨bD, eD, pD, RD, AD, uD, vD, hf, rfl, rfl, ch0, hm⟩ := hinv
  by_cases hall : bD 1 = true ∧ eD 0 = true ∧ eD 1 = true
  ·refine Or.inl ?_
   obtain ⟨hb1, he0, he1⟩ := hall
   have hb0 := ch0 hb1
   simp only [hb0, hb1, he0, he1, nb] at hf
   subst hf
   rw [hb0, hb1, he0, he1, hm.ptr 0 he0, hm.ptr 1 he1]
   obtain ⟨s11, d11, l11, c11, hu0, hR0, hA0⟩ : RNIs _ _ _ _ := hm.spec 0 hb0
   rw [hu0]
   have r11 : RN wr s11 d11 l11 c11 x := by have := hm.res 0 hb0; rw [hR0] at this; exact this
   have n_r11_0_pma0 : NA (pD 0) d11 l11 := by have := hm.ap 0 0 he0 hb0; rw [hA0] at this; exact this
   have n_r11_0_pma1 : NA (pD 1) d11 l11 := by have := hm.ap 1 0 he1 hb0; rw [hA0] at this; exact this
   obtain ⟨s12, d12, l12, c12, hu1, hR1, hA1⟩ : RNIs _ _ _ _ := hm.spec 1 hb1
   rw [hu1]
   have r12 : RN wr s12 d12 l12 c12 y := by have := hm.res 1 hb1; rw [hR1] at this; exact this
   have n_r12_0_pma0 : NA (pD 0) d12 l12 := by have := hm.ap 0 1 he0 hb1; rw [hA1] at this; exact this
   have n_r12_0_pma1 : NA (pD 1) d12 l12 := by have := hm.ap 1 1 he1 hb1; rw [hA1] at this; exact this
   have y_pma0 : Bx wr (pD 0) (.int .i64 0) (.slice none 0 0) := bx_row (hm.blk 0 he0)
   have gpma0 := hm.old 0 he0
   have ltpma0 := hm.lt 0 he0
   have y_pma1 : Bx wr (pD 1) (.int .i64 0) (.slice none 0 0) := bx_row (hm.blk 1 he1)
   have gpma1 := hm.old 1 he1
   have ltpma1 := hm.lt 1 he1
   have ne_0_1 : pD 0 ≠ pD 1 := hm.ne 0 1 he0 he1 (by decide)
   have BU := hm.bel
   replace x_a := x_a.on BU
   replace x_b := x_b.on BU
   replace x_r := x_r.on BU
   replace BB := also BB BU
   have hHeld : ((fun w' => w'.cell? ⟨w.heap.size, 0, none⟩ = some (.int .i64 a1) ∧ w'.cell? ⟨w.heap.size, 1, none⟩ = some (.int .i64 a2) ∧ w'.cell? ⟨w.heap.size + 1, 0, none⟩ = some (.int .i64 b1) ∧ w'.cell? ⟨w.heap.size + 1, 1, none⟩ = some (.int .i64 b2) ∧ Below w.heap.size w w')) wr := ⟨x_a.c0, x_a.c1, x_b.c0, x_b.c1, BB⟩
   clear hm HINV INV ch0
   generalize pD 0 = pma0 at *
   generalize pD 1 = pma1 at *
   dsimp only at hHeld
   have ⟨c_pma0_0, c_pma0_1, c_pma0_2, c_pma0_3⟩ : Bx wr pma0 (.int .i64 0) (.slice none 0 0) := y_pma0
   refine take_call (i := 12) rfl (by kernel_rfl) (fun Kc hK => ?_)
   go_simp
   refine hK.out _ _ ⟨cell_put2 hHeld.1 (by omega) _ _, cell_put2 hHeld.2.1 (by omega) _ _, cell_put2 hHeld.2.2.1 (by omega) _ _, cell_put2 hHeld.2.2.2.1 (by omega) _ _, below_put2 hHeld.2.2.2.2 (by omega) _ _⟩ (fun hHeld => ?_)
   clear hK Kc
   have ⟨c_pma1_0, c_pma1_1, c_pma1_2, c_pma1_3⟩ : Bx ((wr.setCell ⟨pma0, 0, none⟩ (.int .i64 s11)).setCell ⟨pma0, 1, none⟩ (.slice d11 l11 c11)) pma1 (.int .i64 0) (.slice none 0 0) := ((y_pma1.put ne_0_1).put ne_0_1)
   refine take_call (i := 13) rfl (by kernel_rfl) (fun Kc hK => ?_)
   go_simp
   refine hK.out _ _ ⟨cell_put2 hHeld.1 (by omega) _ _, cell_put2 hHeld.2.1 (by omega) _ _, cell_put2 hHeld.2.2.1 (by omega) _ _, cell_put2 hHeld.2.2.2.1 (by omega) _ _, below_put2 hHeld.2.2.2.2 (by omega) _ _⟩ (fun hHeld => ?_)
   clear hK Kc
   refine wpAnyH_done (by kernel_rfl) ?_ _
   rw [HQQ.out]
   exact ⟨rfl, pma0, pma1, s11, d11, l11, c11, s12, d12, l12, c12, rfl, ((((r11.put n_r11_0_pma0 0 _).put n_r11_0_pma0 1 _).put n_r11_0_pma1 0 _).put n_r11_0_pma1 1 _), ((((r12.put n_r12_0_pma0 0 _).put n_r12_0_pma0 1 _).put n_r12_0_pma1 0 _).put n_r12_0_pma1 1 _), ((((x_a.put (by omega)).put (by omega)).put (by omega)).put (by omega)), ((((x_b.put (by omega)).put (by omega)).put (by omega)).put (by omega)), ((((x_r.put (by omega)).put (by omega)).put (by omega)).put (by omega)), ((y_pma0.set.put (fun e => ne_0_1 e.symm)).put (fun e => ne_0_1 e.symm)), ((y_pma1.put ne_0_1).put ne_0_1).set, (below_put2 (below_put2 BB (by omega) _ _) (by omega) _ _), by have := BU.size; simp only [World.size_setCell]; omega, ⟨gpma0, by simp only [World.size_setCell]; omega⟩, ⟨gpma1, by simp only [World.size_setCell]; omega⟩⟩
  ·refine Or.inr ⟨f - 1, by omega, ?nema, ?opsma⟩
   case nema =>
    cases he0 : eD 0
    ·exact ready_ne (i := 10) (by decide) (by kernel_rfl)
    cases he1 : eD 1
    ·exact ready_ne (i := 11) (by decide) (by kernel_rfl)
    cases hb0 : bD 0
    ·exact ready_ne (i := 4) (by decide) (by kernel_rfl)
    cases hb1 : bD 1
    ·exact ready_ne (i := 9) (by decide) (by kernel_rfl)
    exact absurd ⟨hb1, he0, he1⟩ hall
   case opsma =>
    intro i hi
    obtain ⟨hlt, hnot, hdep⟩ := ready_at hi
    replace hlt : i < 14 := hlt
    obtain rfl | rfl | rfl | rfl | rfl | rfl | rfl | rfl | rfl | rfl | rfl | rfl | rfl | rfl : i = 0 ∨ i = 1 ∨ i = 2 ∨ i = 3 ∨ i = 4 ∨ i = 5 ∨ i = 6 ∨ i = 7 ∨ i = 8 ∨ i = 9 ∨ i = 10 ∨ i = 11 ∨ i = 12 ∨ i = 13 := by omega
    ·skip
     exact Bool.noConfusion (show true = false from hnot)
    ·skip
     exact Bool.noConfusion (show true = false from hnot)
    ·skip
     exact Bool.noConfusion (show true = false from hnot)
    ·skip
     exact Bool.noConfusion (show true = false from hnot)
    ·skip
     have hbj : bD 0 = false := hnot
     refine ⟨_, rfl, fun K' hK => ?_⟩
     go_simp
     (go_at_call 35; refine (rpDiff a1 b1 _ Ra1.out Rb1.out Ex.out).mono ?_; rintro e' X ⟨s11, d11, l11, c11, rfl, r11, f11, bX⟩)
     have hm' := hm.call (SpD_good x y) 0 bX (.agg #[.int .i64 s11, .slice d11 l11 c11]) (fun w => RN w s11 d11 l11 c11 x) (fun k => NA k d11 l11) ⟨_, _, _, _, rfl, rfl, rfl⟩ r11 (fun i hi => f11 (pD i) (hm.lt i hi) trivial)
     refine hK.out _ _ ⟨cell_on hm'.bel x_a.c0, cell_on hm'.bel x_a.c1, cell_on hm'.bel x_b.c0, cell_on hm'.bel x_b.c1, also BB hm'.bel⟩ ?_
     rw [HINV.out]
     exact ⟨upd bD 0 true, eD, pD, upd RD 0 (fun w => RN w s11 d11 l11 c11 x), upd AD 0 (fun k => NA k d11 l11), upd uD 0 (.agg #[.int .i64 s11, .slice d11 l11 c11]), vD, fuel_SpD_b0 hf hbj, rfl, rfl, fun _ => rfl, hm'⟩
    ·skip
     exact Bool.noConfusion (show true = false from hnot)
    ·skip
     exact Bool.noConfusion (show true = false from hnot)
    ·skip
     exact Bool.noConfusion (show true = false from hnot)
    ·skip
     exact Bool.noConfusion (show true = false from hnot)
    ·skip
     have hbj : bD 1 = false := hnot
     have hprev : bD 0 = true := hdep _ rfl 2 _ rfl rfl
     refine ⟨_, rfl, fun K' hK => ?_⟩
     go_simp
     (go_at_call 35; refine (rpDiff a2 b2 _ Ra2.out Rb2.out Ey.out).mono ?_; rintro e' X ⟨s12, d12, l12, c12, rfl, r12, f12, bX⟩)
     have hm' := hm.call (SpD_good x y) 1 bX (.agg #[.int .i64 s12, .slice d12 l12 c12]) (fun w => RN w s12 d12 l12 c12 y) (fun k => NA k d12 l12) ⟨_, _, _, _, rfl, rfl, rfl⟩ r12 (fun i hi => f12 (pD i) (hm.lt i hi) trivial)
     refine hK.out _ _ ⟨cell_on hm'.bel x_a.c0, cell_on hm'.bel x_a.c1, cell_on hm'.bel x_b.c0, cell_on hm'.bel x_b.c1, also BB hm'.bel⟩ ?_
     rw [HINV.out]
     exact ⟨upd bD 1 true, eD, pD, upd RD 1 (fun w => RN w s12 d12 l12 c12 y), upd AD 1 (fun k => NA k d12 l12), upd uD 1 (.agg #[.int .i64 s12, .slice d12 l12 c12]), vD, fuel_SpD_b1 hf hbj, rfl, rfl, fun _ => hprev, hm'⟩
    ·skip
     have hei : eD 0 = false := hnot
     refine ⟨_, rfl, fun K' hK => ?_⟩
     go_simp
     have hm' := hm.alloc (SpD_good x y) 0 56 hei
     refine hK.out _ _ ⟨cell_on hm'.bel x_a.c0, cell_on hm'.bel x_a.c1, cell_on hm'.bel x_b.c0, cell_on hm'.bel x_b.c1, also BB hm'.bel⟩ ?_
     rw [HINV.out]
     exact ⟨bD, upd eD 0 true, upd pD 0 wr.heap.size, RD, AD, uD, upd vD 0 (.pointer (some ⟨wr.heap.size, 0, none⟩)), fuel_SpD_e0 hf hei, rfl, rfl, ch0, hm'⟩
    ·skip
     have hei : eD 1 = false := hnot
     refine ⟨_, rfl, fun K' hK => ?_⟩
     go_simp
     have hm' := hm.alloc (SpD_good x y) 1 56 hei
     refine hK.out _ _ ⟨cell_on hm'.bel x_a.c0, cell_on hm'.bel x_a.c1, cell_on hm'.bel x_b.c0, cell_on hm'.bel x_b.c1, also BB hm'.bel⟩ ?_
     rw [HINV.out]
     exact ⟨bD, upd eD 1 true, upd pD 1 wr.heap.size, RD, AD, uD, upd vD 1 (.pointer (some ⟨wr.heap.size, 0, none⟩)), fuel_SpD_e1 hf hei, rfl, rfl, ch0, hm'⟩
    ·skip
     exact absurd ⟨hdep _ rfl 2 _ rfl rfl, hdep _ rfl 0 _ rfl rfl, hdep _ rfl 14 _ rfl rfl⟩ hall
    ·skip
     exact Bool.noConfusion (show false = true from hdep _ rfl 2 _ rfl rfl)
 rw [HQQ.out]
 rintro e act Y1 ⟨rfl, pma0, pma1, s11, d11, l11, c11, s12, d12, l12, c12, rfl, r11, r12, x_a, x_b, x_r, x_X, x_Y, BB, z_Y1, z_Y1_pma0, z_Y1_pma1⟩
 clear HQQ QQ
 try dsimp only
 go_wp2
 have dd1 : Below Y1.heap.size Y1 Y1.drew := (Below.refl _ _).drew
 have zdd1 := dd1.size
 replace BB := also BB dd1
 replace x_a := x_a.on dd1
 replace x_b := x_b.on dd1
 replace x_r := x_r.on dd1
 replace r11 := r11.below dd1
 replace r12 := r12.below dd1
 replace x_X := x_X.on dd1
 replace x_Y := x_Y.on dd1
 refine wp_region_held_drew (S := (fun w' => w'.cell? ⟨pma0, 0, none⟩ = some (.int .i64 s11) ∧ w'.cell? ⟨pma0, 1, none⟩ = some (.slice d11 l11 c11) ∧ w'.cell? ⟨pma1, 0, none⟩ = some (.int .i64 s12) ∧ w'.cell? ⟨pma1, 1, none⟩ = some (.slice d12 l12 c12) ∧ Below w.heap.size w w')) (by kernel_rfl) ?_ (fun hHeld => ?_)
 ·exact ⟨x_X.c0, x_X.c1, x_Y.c0, x_Y.c1, BB⟩
 refine tz (i := 0) rfl ?_
 simp only [Act.put, ps1, ps2, ps3]
 refine tz (i := 1) rfl ?_
 simp only [Act.put, ps1, ps2, ps3]
 refine tz (i := 3) rfl ?_
 simp only [Act.put, ps1, ps2, ps3]
 refine tz (i := 4) rfl ?_
 simp only [Act.put, ps1, ps2, ps3]
 refine take_call (i := 2) rfl (by kernel_rfl) (fun Kc hK => ?_)
 go_simp
 (go_at_call 36; refine (rwMul s11 s11 d11 d11 l11 c11 l11 c11 x x p _ r11 r11 Fx.out Fx.out Ep.out).mono ?_; rintro e w3 ⟨s13, d13, l13, c13, rfl, r13, f13, bw3⟩)
 refine hK.out _ _ ?_ (fun hHeld => ?_)
 ·exact ⟨cell_on bw3 hHeld.1, cell_on bw3 hHeld.2.1, cell_on bw3 hHeld.2.2.1, cell_on bw3 hHeld.2.2.2.1, also hHeld.2.2.2.2 bw3⟩
 clear hK Kc
 have zbw3 := bw3.size
 replace BB := also BB bw3
 replace x_a := x_a.on bw3
 replace x_b := x_b.on bw3
 replace x_r := x_r.on bw3
 replace r11 := r11.below bw3
 replace r12 := r12.below bw3
 replace x_X := x_X.on bw3
 replace x_Y := x_Y.on bw3
 refine take_call (i := 5) rfl (by kernel_rfl) (fun Kc hK => ?_)
 go_simp
 (go_at_call 36; refine (rwMul s12 s12 d12 d12 l12 c12 l12 c12 y y q _ r12 r12 Fy.out Fy.out Eq.out).mono ?_; rintro e w4 ⟨s14, d14, l14, c14, rfl, r14, f14, bw4⟩)
 refine hK.out _ _ ?_ (fun hHeld => ?_)
 ·exact ⟨cell_on bw4 hHeld.1, cell_on bw4 hHeld.2.1, cell_on bw4 hHeld.2.2.1, cell_on bw4 hHeld.2.2.2.1, also hHeld.2.2.2.2 bw4⟩
 clear hK Kc
 have zbw4 := bw4.size
 replace BB := also BB bw4
 replace x_a := x_a.on bw4
 replace x_b := x_b.on bw4
 replace x_r := x_r.on bw4
 replace r11 := r11.below bw4
 replace r12 := r12.below bw4
 replace x_X := x_X.on bw4
 replace x_Y := x_Y.on bw4
 replace r13 := r13.below bw4
 refine take_call (i := 6) rfl (by kernel_rfl) (fun Kc hK => ?_)
 go_simp
 (go_at_call 39; refine (rwAdd s13 s14 d13 d14 l13 c13 l14 c14 p q z _ r13 r14 Fp.out Fq.out HZ.out).mono ?_; rintro e w5 ⟨s15, d15, l15, c15, rfl, r15, f15, bw5⟩)
 refine hK.out _ _ ?_ (fun hHeld => ?_)
 ·exact ⟨cell_on bw5 hHeld.1, cell_on bw5 hHeld.2.1, cell_on bw5 hHeld.2.2.1, cell_on bw5 hHeld.2.2.2.1, also hHeld.2.2.2.2 bw5⟩
 clear hK Kc
 have zbw5 := bw5.size
 replace BB := also BB bw5
 replace x_a := x_a.on bw5
 replace x_b := x_b.on bw5
 replace x_r := x_r.on bw5
 replace r11 := r11.below bw5
 replace r12 := r12.below bw5
 replace x_X := x_X.on bw5
 replace x_Y := x_Y.on bw5
 replace r13 := r13.below bw5
 replace r14 := r14.below bw5
 have ⟨x_r_0, x_r_1, x_r_2, x_r_3⟩ := x_r
 refine take_call (i := 7) rfl (by kernel_rfl) (fun Kc hK => ?_)
 go_simp
 refine hK.out _ _ ?_ (fun hHeld => ?_)
 ·first | exact ⟨cell_put2 hHeld.1 (by omega) _ _, cell_put2 hHeld.2.1 (by omega) _ _, cell_put2 hHeld.2.2.1 (by omega) _ _, cell_put2 hHeld.2.2.2.1 (by omega) _ _, below_put2 hHeld.2.2.2.2 (by omega) _ _⟩ | exact ⟨x_X.c0, x_X.c1, x_Y.c0, x_Y.c1, BB⟩
 clear hK Kc
 refine wpAnyH_done (by kernel_rfl) ?_ _
 go_wp2
 exact bodyPost_ret (v := .agg #[.int .i64 s15, .slice d15 l15 c15]) (by simp [results, Try.results37, go_sem, *]) rfl (endR _ (by omega) BB r15 (f15 _ (by omega) ⟨f13 _ (by omega) trivial, f14 _ (by omega) trivial⟩) (fun j hj _ => f15 j (by omega) ⟨f13 j (by omega) trivial, f14 j (by omega) trivial⟩) _ _)
end Go.Proofs.Ytkmgndaholglhaa

namespace Go.Proofs.Ytkmgndaholglhaa
open Go.RowKit
set_option linter.unusedVariables false

def nearP (a1 a2 b1 b2 : Int) : Bool := decide (-8192 < b1 - a1 ∧ b1 - a1 < 8192 ∧ -8192 < b2 - a2 ∧ b2 - a2 < 8192)
theorem near_abs {a1 a2 b1 b2 : Int} (h : nearP a1 a2 b1 b2 = true) : (b1 - a1).natAbs ≤ 8191 ∧ (b2 - a2).natAbs ≤ 8191 := by
 have := of_decide_eq_true h
 omega
theorem rpSign (n : Int) (w : World) {g : Int} (hg : g = n.sign) : Calls Try.prog 32 #[.int .i64 n] w fun e w' => e = .returned (.int .i64 g) ∧ Below w.heap.size w w' := by
 rcases Int.lt_trichotomy n 0 with h | h | h
 ·obtain rfl : g = -1 := by rw [hg, Int.sign_eq_neg_one_of_neg h]
  clear hg
  go_enter Try.func32, Try.ntmps32
  go_wp2
  go_ret
  exact ⟨rfl, Below.refl _ _⟩
 ·subst h
  obtain rfl : g = 0 := hg
  go_enter Try.func32, Try.ntmps32
  go_wp2
  go_ret
  exact ⟨rfl, Below.refl _ _⟩
 ·obtain rfl : g = 1 := by rw [hg, Int.sign_eq_one_of_pos h]
  clear hg
  have h' : ¬ n < 0 := by omega
  go_enter Try.func32, Try.ntmps32
  go_wp2
  go_ret
  exact ⟨rfl, Below.refl _ _⟩
set_option maxRecDepth 100000 in
set_option maxHeartbeats 4000000 in
theorem rpNear (a1 a2 b1 b2 : Int) (w : World) (ha : canC a1 a2 = true) (hb : canC b1 b2 = true) {r : Bool} (hr : r = nearP a1 a2 b1 b2) :
  Calls Try.prog 31 #[.agg #[.int .i64 a1, .int .i64 a2], .agg #[.int .i64 b1, .int .i64 b2]] w fun e w' => e = .returned (.bool r) ∧ Below w.heap.size w w' := by
 obtain ⟨x, hx⟩ : ∃ x, x = b1 - a1 := ⟨_, rfl⟩
 have c_x := can_sub (canC_true.1 hb).1 (canC_true.1 ha).1
 rw [← hx] at c_x
 have w_x : wrap64 (b1 - a1) = x := by rw [← hx]; exact c_x.1
 have v_x : IntKind.i64.wrap (b1 - a1) = x := (wrap_i64 _).trans w_x
 have R_x : Hid _ := c_x.2
 have E_x : Hid _ := hx
 clear c_x hx
 obtain ⟨y, hy⟩ : ∃ y, y = b2 - a2 := ⟨_, rfl⟩
 have c_y := can_sub (canC_true.1 hb).2 (canC_true.1 ha).2
 rw [← hy] at c_y
 have w_y : wrap64 (b2 - a2) = y := by rw [← hy]; exact c_y.1
 have v_y : IntKind.i64.wrap (b2 - a2) = y := (wrap_i64 _).trans w_y
 have R_y : Hid _ := c_y.2
 have E_y : Hid _ := hy
 clear c_y hy
 have HR : Hid (r = decide (-8192 < x ∧ x < 8192 ∧ -8192 < y ∧ y < 8192)) := by unfold Hid; rw [hr, E_x.out, E_y.out]; rfl
 clear hr ha hb
 rcases Decidable.em (-8192 < x) with k0 | k0
 rotate_left
 ·skip
  obtain rfl : r = false := by rw [HR.out]; simp; omega
  have k' : decide (-8192 < x) = false := decide_eq_false k0
  obtain ⟨W, hW, bW, x_a, x_b, sW⟩ := bs_22 w (.int .i64 a1) (.int .i64 a2) (.int .i64 b1) (.int .i64 b2) 31 31
  have zbW := bW.size
  have BB := bW
  go_enter Try.func31, Try.ntmps31
  go_wp2
  rw [← hW]
  clear hW
  have dd1 : Below W.heap.size W W.drew := (Below.refl _ _).drew
  have zdd1 := dd1.size
  replace BB := also BB dd1
  replace x_a := x_a.on dd1
  replace x_b := x_b.on dd1
  refine wp_region_held_drew (S := (fun w' => w'.cell? ⟨w.heap.size, 0, none⟩ = some (.int .i64 a1) ∧ w'.cell? ⟨w.heap.size, 1, none⟩ = some (.int .i64 a2) ∧ w'.cell? ⟨w.heap.size + 1, 0, none⟩ = some (.int .i64 b1) ∧ w'.cell? ⟨w.heap.size + 1, 1, none⟩ = some (.int .i64 b2) ∧ Below w.heap.size w w')) (by kernel_rfl) ?_ (fun hHeld => ?_)
  ·exact ⟨x_a.c0, x_a.c1, x_b.c0, x_b.c1, BB⟩
  refine tz (i := 0) rfl ?_
  simp only [Act.put, ps1, ps2, ps3]
  refine tz (i := 1) rfl ?_
  simp only [Act.put, ps1, ps2, ps3]
  refine tz (i := 2) rfl ?_
  simp only [Act.put, ps1, ps2, ps3]
  refine tz (i := 3) rfl ?_
  simp only [Act.put, ps1, ps2, ps3]
  refine tz (i := 4) rfl ?_
  simp only [Act.put, ps1, ps2, ps3]
  refine tz (i := 5) rfl ?_
  simp only [Act.put, ps1, ps2, ps3]
  refine tz (i := 6) rfl ?_
  simp only [Act.put, ps1, ps2, ps3]
  refine tz (i := 7) rfl ?_
  simp only [Act.put, ps1, ps2, ps3]
  refine tz (i := 8) rfl ?_
  simp only [Act.put, ps1, ps2, ps3]
  refine tz (i := 9) rfl ?_
  simp only [Act.put, ps1, ps2, ps3]
  refine tz (i := 10) rfl ?_
  simp only [Act.put, ps1, ps2, ps3]
  refine tz (i := 11) rfl ?_
  simp only [Act.put, ps1, ps2, ps3]
  refine wpAnyH_done (by kernel_rfl) ?_ _
  go_wp2
  go_ret
  exact ⟨rfl, BB⟩
 rcases Decidable.em (x < 8192) with k1 | k1
 rotate_left
 ·skip
  obtain rfl : r = false := by rw [HR.out]; simp; omega
  have k' : decide (x < 8192) = false := decide_eq_false k1
  obtain ⟨W, hW, bW, x_a, x_b, sW⟩ := bs_22 w (.int .i64 a1) (.int .i64 a2) (.int .i64 b1) (.int .i64 b2) 31 31
  have zbW := bW.size
  have BB := bW
  go_enter Try.func31, Try.ntmps31
  go_wp2
  rw [← hW]
  clear hW
  have dd1 : Below W.heap.size W W.drew := (Below.refl _ _).drew
  have zdd1 := dd1.size
  replace BB := also BB dd1
  replace x_a := x_a.on dd1
  replace x_b := x_b.on dd1
  refine wp_region_held_drew (S := (fun w' => w'.cell? ⟨w.heap.size, 0, none⟩ = some (.int .i64 a1) ∧ w'.cell? ⟨w.heap.size, 1, none⟩ = some (.int .i64 a2) ∧ w'.cell? ⟨w.heap.size + 1, 0, none⟩ = some (.int .i64 b1) ∧ w'.cell? ⟨w.heap.size + 1, 1, none⟩ = some (.int .i64 b2) ∧ Below w.heap.size w w')) (by kernel_rfl) ?_ (fun hHeld => ?_)
  ·exact ⟨x_a.c0, x_a.c1, x_b.c0, x_b.c1, BB⟩
  refine tz (i := 0) rfl ?_
  simp only [Act.put, ps1, ps2, ps3]
  refine tz (i := 1) rfl ?_
  simp only [Act.put, ps1, ps2, ps3]
  refine tz (i := 2) rfl ?_
  simp only [Act.put, ps1, ps2, ps3]
  refine tz (i := 3) rfl ?_
  simp only [Act.put, ps1, ps2, ps3]
  refine tz (i := 4) rfl ?_
  simp only [Act.put, ps1, ps2, ps3]
  refine tz (i := 5) rfl ?_
  simp only [Act.put, ps1, ps2, ps3]
  refine tz (i := 6) rfl ?_
  simp only [Act.put, ps1, ps2, ps3]
  refine tz (i := 7) rfl ?_
  simp only [Act.put, ps1, ps2, ps3]
  refine tz (i := 8) rfl ?_
  simp only [Act.put, ps1, ps2, ps3]
  refine tz (i := 9) rfl ?_
  simp only [Act.put, ps1, ps2, ps3]
  refine tz (i := 10) rfl ?_
  simp only [Act.put, ps1, ps2, ps3]
  refine tz (i := 11) rfl ?_
  simp only [Act.put, ps1, ps2, ps3]
  refine wpAnyH_done (by kernel_rfl) ?_ _
  go_wp2
  go_ret
  exact ⟨rfl, BB⟩
 rcases Decidable.em (-8192 < y) with k2 | k2
 rotate_left
 ·skip
  obtain rfl : r = false := by rw [HR.out]; simp; omega
  have k' : decide (-8192 < y) = false := decide_eq_false k2
  obtain ⟨W, hW, bW, x_a, x_b, sW⟩ := bs_22 w (.int .i64 a1) (.int .i64 a2) (.int .i64 b1) (.int .i64 b2) 31 31
  have zbW := bW.size
  have BB := bW
  go_enter Try.func31, Try.ntmps31
  go_wp2
  rw [← hW]
  clear hW
  have dd1 : Below W.heap.size W W.drew := (Below.refl _ _).drew
  have zdd1 := dd1.size
  replace BB := also BB dd1
  replace x_a := x_a.on dd1
  replace x_b := x_b.on dd1
  refine wp_region_held_drew (S := (fun w' => w'.cell? ⟨w.heap.size, 0, none⟩ = some (.int .i64 a1) ∧ w'.cell? ⟨w.heap.size, 1, none⟩ = some (.int .i64 a2) ∧ w'.cell? ⟨w.heap.size + 1, 0, none⟩ = some (.int .i64 b1) ∧ w'.cell? ⟨w.heap.size + 1, 1, none⟩ = some (.int .i64 b2) ∧ Below w.heap.size w w')) (by kernel_rfl) ?_ (fun hHeld => ?_)
  ·exact ⟨x_a.c0, x_a.c1, x_b.c0, x_b.c1, BB⟩
  refine tz (i := 0) rfl ?_
  simp only [Act.put, ps1, ps2, ps3]
  refine tz (i := 1) rfl ?_
  simp only [Act.put, ps1, ps2, ps3]
  refine tz (i := 2) rfl ?_
  simp only [Act.put, ps1, ps2, ps3]
  refine tz (i := 3) rfl ?_
  simp only [Act.put, ps1, ps2, ps3]
  refine tz (i := 4) rfl ?_
  simp only [Act.put, ps1, ps2, ps3]
  refine tz (i := 5) rfl ?_
  simp only [Act.put, ps1, ps2, ps3]
  refine tz (i := 6) rfl ?_
  simp only [Act.put, ps1, ps2, ps3]
  refine tz (i := 7) rfl ?_
  simp only [Act.put, ps1, ps2, ps3]
  refine tz (i := 8) rfl ?_
  simp only [Act.put, ps1, ps2, ps3]
  refine tz (i := 9) rfl ?_
  simp only [Act.put, ps1, ps2, ps3]
  refine tz (i := 10) rfl ?_
  simp only [Act.put, ps1, ps2, ps3]
  refine tz (i := 11) rfl ?_
  simp only [Act.put, ps1, ps2, ps3]
  refine wpAnyH_done (by kernel_rfl) ?_ _
  go_wp2
  go_ret
  exact ⟨rfl, BB⟩
 rcases Decidable.em (y < 8192) with k3 | k3
 rotate_left
 ·skip
  obtain rfl : r = false := by rw [HR.out]; simp; omega
  have k' : decide (y < 8192) = false := decide_eq_false k3
  obtain ⟨W, hW, bW, x_a, x_b, sW⟩ := bs_22 w (.int .i64 a1) (.int .i64 a2) (.int .i64 b1) (.int .i64 b2) 31 31
  have zbW := bW.size
  have BB := bW
  go_enter Try.func31, Try.ntmps31
  go_wp2
  rw [← hW]
  clear hW
  have dd1 : Below W.heap.size W W.drew := (Below.refl _ _).drew
  have zdd1 := dd1.size
  replace BB := also BB dd1
  replace x_a := x_a.on dd1
  replace x_b := x_b.on dd1
  refine wp_region_held_drew (S := (fun w' => w'.cell? ⟨w.heap.size, 0, none⟩ = some (.int .i64 a1) ∧ w'.cell? ⟨w.heap.size, 1, none⟩ = some (.int .i64 a2) ∧ w'.cell? ⟨w.heap.size + 1, 0, none⟩ = some (.int .i64 b1) ∧ w'.cell? ⟨w.heap.size + 1, 1, none⟩ = some (.int .i64 b2) ∧ Below w.heap.size w w')) (by kernel_rfl) ?_ (fun hHeld => ?_)
  ·exact ⟨x_a.c0, x_a.c1, x_b.c0, x_b.c1, BB⟩
  refine tz (i := 0) rfl ?_
  simp only [Act.put, ps1, ps2, ps3]
  refine tz (i := 1) rfl ?_
  simp only [Act.put, ps1, ps2, ps3]
  refine tz (i := 2) rfl ?_
  simp only [Act.put, ps1, ps2, ps3]
  refine tz (i := 3) rfl ?_
  simp only [Act.put, ps1, ps2, ps3]
  refine tz (i := 4) rfl ?_
  simp only [Act.put, ps1, ps2, ps3]
  refine tz (i := 5) rfl ?_
  simp only [Act.put, ps1, ps2, ps3]
  refine tz (i := 6) rfl ?_
  simp only [Act.put, ps1, ps2, ps3]
  refine tz (i := 7) rfl ?_
  simp only [Act.put, ps1, ps2, ps3]
  refine tz (i := 8) rfl ?_
  simp only [Act.put, ps1, ps2, ps3]
  refine tz (i := 9) rfl ?_
  simp only [Act.put, ps1, ps2, ps3]
  refine tz (i := 10) rfl ?_
  simp only [Act.put, ps1, ps2, ps3]
  refine tz (i := 11) rfl ?_
  simp only [Act.put, ps1, ps2, ps3]
  refine wpAnyH_done (by kernel_rfl) ?_ _
  go_wp2
  go_ret
  exact ⟨rfl, BB⟩
 obtain rfl : r = true := by rw [HR.out]; simp; omega
 obtain ⟨W, hW, bW, x_a, x_b, sW⟩ := bs_22 w (.int .i64 a1) (.int .i64 a2) (.int .i64 b1) (.int .i64 b2) 31 31
 have zbW := bW.size
 have BB := bW
 go_enter Try.func31, Try.ntmps31
 go_wp2
 rw [← hW]
 clear hW
 have dd1 : Below W.heap.size W W.drew := (Below.refl _ _).drew
 have zdd1 := dd1.size
 replace BB := also BB dd1
 replace x_a := x_a.on dd1
 replace x_b := x_b.on dd1
 refine wp_region_held_drew (S := (fun w' => w'.cell? ⟨w.heap.size, 0, none⟩ = some (.int .i64 a1) ∧ w'.cell? ⟨w.heap.size, 1, none⟩ = some (.int .i64 a2) ∧ w'.cell? ⟨w.heap.size + 1, 0, none⟩ = some (.int .i64 b1) ∧ w'.cell? ⟨w.heap.size + 1, 1, none⟩ = some (.int .i64 b2) ∧ Below w.heap.size w w')) (by kernel_rfl) ?_ (fun hHeld => ?_)
 ·exact ⟨x_a.c0, x_a.c1, x_b.c0, x_b.c1, BB⟩
 refine tz (i := 0) rfl ?_
 simp only [Act.put, ps1, ps2, ps3]
 refine tz (i := 1) rfl ?_
 simp only [Act.put, ps1, ps2, ps3]
 refine tz (i := 2) rfl ?_
 simp only [Act.put, ps1, ps2, ps3]
 refine tz (i := 3) rfl ?_
 simp only [Act.put, ps1, ps2, ps3]
 refine tz (i := 4) rfl ?_
 simp only [Act.put, ps1, ps2, ps3]
 refine tz (i := 5) rfl ?_
 simp only [Act.put, ps1, ps2, ps3]
 refine tz (i := 6) rfl ?_
 simp only [Act.put, ps1, ps2, ps3]
 refine tz (i := 7) rfl ?_
 simp only [Act.put, ps1, ps2, ps3]
 refine tz (i := 8) rfl ?_
 simp only [Act.put, ps1, ps2, ps3]
 refine tz (i := 9) rfl ?_
 simp only [Act.put, ps1, ps2, ps3]
 refine tz (i := 10) rfl ?_
 simp only [Act.put, ps1, ps2, ps3]
 refine tz (i := 11) rfl ?_
 simp only [Act.put, ps1, ps2, ps3]
 refine wpAnyH_done (by kernel_rfl) ?_ _
 go_wp2
 go_ret
 exact ⟨rfl, BB⟩
set_option maxRecDepth 100000 in
set_option maxHeartbeats 4000000 in
theorem rpOrient (a1 a2 b1 b2 c1 c2 : Int) (w : World) (ha : canC a1 a2 = true) (hb : canC b1 b2 = true) (hc : canC c1 c2 = true) {g : Int} (hg : g = (areaP a1 a2 b1 b2 c1 c2).sign) :
  Calls Try.prog 20 #[.agg #[.int .i64 a1, .int .i64 a2], .agg #[.int .i64 b1, .int .i64 b2], .agg #[.int .i64 c1, .int .i64 c2]] w fun e w' => e = .returned (.int .i64 g) ∧ Below w.heap.size w w' := by
 cases n1 : nearP a1 a2 b1 b2
 ·skip
  have HG : Hid _ := hg
  clear hg
  obtain ⟨W, hW, bW, x_a, x_b, x_c, sW⟩ := bs_222 w (.int .i64 a1) (.int .i64 a2) (.int .i64 b1) (.int .i64 b2) (.int .i64 c1) (.int .i64 c2) 31 31 31
  have zbW := bW.size
  have BB := bW
  go_enter Try.func20, Try.ntmps20
  go_wp2_with (go_at_call 31; fail)
  rw [← hW]
  clear hW
  refine (rpNear a1 a2 b1 b2 W ha hb n1.symm).mono ?_
  rintro e w1 ⟨rfl, bw1⟩
  have zbw1 := bw1.size
  replace BB := also BB bw1
  replace x_a := x_a.on bw1
  replace x_b := x_b.on bw1
  replace x_c := x_c.on bw1
  have ⟨x_a_0, x_a_1, x_a_2, x_a_3⟩ := x_a
  have ⟨x_b_0, x_b_1, x_b_2, x_b_3⟩ := x_b
  have ⟨x_c_0, x_c_1, x_c_2, x_c_3⟩ := x_c
  go_wp2_with (go_at_call 33; fail)
  refine (rpArea a1 a2 b1 b2 c1 c2 w1 ha hb hc rfl).mono ?_
  rintro e w3 ⟨s11, d11, l11, c11, rfl, r11, f11, bw3⟩
  clear x_a_0 x_a_1 x_a_2 x_a_3 x_b_0 x_b_1 x_b_2 x_b_3 x_c_0 x_c_1 x_c_2 x_c_3
  have zbw3 := bw3.size
  replace BB := also BB bw3
  replace x_a := x_a.on bw3
  replace x_b := x_b.on bw3
  replace x_c := x_c.on bw3
  have hfS := fieldS s11 d11 l11 c11 w3
  go_wp2
  go_ret
  exact ⟨by rw [HG.out, ← r11.sg]; rfl, BB⟩
 ·skip
  cases n2 : nearP a1 a2 c1 c2
  ·skip
   have HG : Hid _ := hg
   clear hg
   obtain ⟨W, hW, bW, x_a, x_b, x_c, sW⟩ := bs_222 w (.int .i64 a1) (.int .i64 a2) (.int .i64 b1) (.int .i64 b2) (.int .i64 c1) (.int .i64 c2) 31 31 31
   have zbW := bW.size
   have BB := bW
   go_enter Try.func20, Try.ntmps20
   go_wp2_with (go_at_call 31; fail)
   rw [← hW]
   clear hW
   refine (rpNear a1 a2 b1 b2 W ha hb n1.symm).mono ?_
   rintro e w1 ⟨rfl, bw1⟩
   have zbw1 := bw1.size
   replace BB := also BB bw1
   replace x_a := x_a.on bw1
   replace x_b := x_b.on bw1
   replace x_c := x_c.on bw1
   have ⟨x_a_0, x_a_1, x_a_2, x_a_3⟩ := x_a
   have ⟨x_b_0, x_b_1, x_b_2, x_b_3⟩ := x_b
   have ⟨x_c_0, x_c_1, x_c_2, x_c_3⟩ := x_c
   go_wp2_with (go_at_call 31; fail)
   refine (rpNear a1 a2 c1 c2 w1 ha hc n2.symm).mono ?_
   rintro e w2 ⟨rfl, bw2⟩
   clear x_a_0 x_a_1 x_a_2 x_a_3 x_b_0 x_b_1 x_b_2 x_b_3 x_c_0 x_c_1 x_c_2 x_c_3
   have zbw2 := bw2.size
   replace BB := also BB bw2
   replace x_a := x_a.on bw2
   replace x_b := x_b.on bw2
   replace x_c := x_c.on bw2
   have ⟨x_a_0, x_a_1, x_a_2, x_a_3⟩ := x_a
   have ⟨x_b_0, x_b_1, x_b_2, x_b_3⟩ := x_b
   have ⟨x_c_0, x_c_1, x_c_2, x_c_3⟩ := x_c
   go_wp2_with (go_at_call 33; fail)
   refine (rpArea a1 a2 b1 b2 c1 c2 w2 ha hb hc rfl).mono ?_
   rintro e w3 ⟨s11, d11, l11, c11, rfl, r11, f11, bw3⟩
   clear x_a_0 x_a_1 x_a_2 x_a_3 x_b_0 x_b_1 x_b_2 x_b_3 x_c_0 x_c_1 x_c_2 x_c_3
   have zbw3 := bw3.size
   replace BB := also BB bw3
   replace x_a := x_a.on bw3
   replace x_b := x_b.on bw3
   replace x_c := x_c.on bw3
   have hfS := fieldS s11 d11 l11 c11 w3
   go_wp2
   go_ret
   exact ⟨by rw [HG.out, ← r11.sg]; rfl, BB⟩
  ·skip
   obtain ⟨qx, qu⟩ := near_abs n1
   obtain ⟨qv, qy⟩ := near_abs n2
   obtain ⟨x, hx⟩ : ∃ z : Int, z = b1 - a1 := ⟨_, rfl⟩
   rw [← hx] at qx
   have wx : wrap64 (b1 - a1) = x := by rw [← hx]; exact wrap_in (by omega) (by omega)
   obtain ⟨y, hy⟩ : ∃ z : Int, z = c2 - a2 := ⟨_, rfl⟩
   rw [← hy] at qy
   have wy : wrap64 (c2 - a2) = y := by rw [← hy]; exact wrap_in (by omega) (by omega)
   obtain ⟨u, hu⟩ : ∃ z : Int, z = b2 - a2 := ⟨_, rfl⟩
   rw [← hu] at qu
   have wu : wrap64 (b2 - a2) = u := by rw [← hu]; exact wrap_in (by omega) (by omega)
   obtain ⟨v, hv⟩ : ∃ z : Int, z = c1 - a1 := ⟨_, rfl⟩
   rw [← hv] at qv
   have wv : wrap64 (c1 - a1) = v := by rw [← hv]; exact wrap_in (by omega) (by omega)
   obtain ⟨p, hp⟩ : ∃ z : Int, z = x * y := ⟨_, rfl⟩
   have qp : p.natAbs ≤ 67092481 := by rw [hp]; exact prod_abs qx qy
   have wp : wrap64 (x * y) = p := by rw [← hp]; exact wrap_in (by omega) (by omega)
   obtain ⟨q, hq⟩ : ∃ z : Int, z = u * v := ⟨_, rfl⟩
   have qq : q.natAbs ≤ 67092481 := by rw [hq]; exact prod_abs qu qv
   have wq : wrap64 (u * v) = q := by rw [← hq]; exact wrap_in (by omega) (by omega)
   obtain ⟨z, hz⟩ : ∃ z : Int, z = p - q := ⟨_, rfl⟩
   have qz : z.natAbs ≤ 134184962 := by rw [hz]; omega
   have wz : wrap64 (p - q) = z := by rw [← hz]; exact wrap_in (by omega) (by omega)
   have HG : Hid (g = z.sign) := by unfold Hid; rw [hg, hz, hp, hq, hx, hy, hu, hv]; rfl
   clear hg hz hp hq hx hy hu hv qx qy qu qv qp qq qz
   obtain ⟨W, hW, bW, x_a, x_b, x_c, sW⟩ := bs_222 w (.int .i64 a1) (.int .i64 a2) (.int .i64 b1) (.int .i64 b2) (.int .i64 c1) (.int .i64 c2) 31 31 31
   have zbW := bW.size
   have BB := bW
   go_enter Try.func20, Try.ntmps20
   go_wp2_with (go_at_call 31; fail)
   rw [← hW]
   clear hW
   refine (rpNear a1 a2 b1 b2 W ha hb n1.symm).mono ?_
   rintro e w1 ⟨rfl, bw1⟩
   have zbw1 := bw1.size
   replace BB := also BB bw1
   replace x_a := x_a.on bw1
   replace x_b := x_b.on bw1
   replace x_c := x_c.on bw1
   have ⟨x_a_0, x_a_1, x_a_2, x_a_3⟩ := x_a
   have ⟨x_b_0, x_b_1, x_b_2, x_b_3⟩ := x_b
   have ⟨x_c_0, x_c_1, x_c_2, x_c_3⟩ := x_c
   go_wp2_with (go_at_call 31; fail)
   refine (rpNear a1 a2 c1 c2 w1 ha hc n2.symm).mono ?_
   rintro e w2 ⟨rfl, bw2⟩
   clear x_a_0 x_a_1 x_a_2 x_a_3 x_b_0 x_b_1 x_b_2 x_b_3 x_c_0 x_c_1 x_c_2 x_c_3
   have zbw2 := bw2.size
   replace BB := also BB bw2
   replace x_a := x_a.on bw2
   replace x_b := x_b.on bw2
   replace x_c := x_c.on bw2
   have ⟨x_a_0, x_a_1, x_a_2, x_a_3⟩ := x_a
   have ⟨x_b_0, x_b_1, x_b_2, x_b_3⟩ := x_b
   have ⟨x_c_0, x_c_1, x_c_2, x_c_3⟩ := x_c
   go_wp2_with (go_at_call 32; fail)
   refine (rpSign z w2 HG.out).mono ?_
   rintro e w3 ⟨rfl, bw3⟩
   clear x_a_0 x_a_1 x_a_2 x_a_3 x_b_0 x_b_1 x_b_2 x_b_3 x_c_0 x_c_1 x_c_2 x_c_3
   have zbw3 := bw3.size
   replace BB := also BB bw3
   replace x_a := x_a.on bw3
   replace x_b := x_b.on bw3
   replace x_c := x_c.on bw3
   go_wp2
   go_ret
   exact ⟨rfl, BB⟩
end Go.Proofs.Ytkmgndaholglhaa
