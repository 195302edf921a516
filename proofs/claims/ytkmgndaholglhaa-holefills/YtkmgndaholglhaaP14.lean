/-
  Joined texts, part 14:
  What zelligeref08's Best answers.
  append in a region that draws its order, of elements of several cells. It imports nothing of the program.
-/
import Derived.Test.YtkmgndaholglhaaP13
namespace Go.Proofs.Ytkmgndaholglhaa
open Go.RowKit
set_option linter.unusedVariables false

def inQ (a b : Pt) (L : List Pt) (c : Pt) (k : Nat) : Bool := leftQ a b c && (L.take k).all fun d => !leftQ a b d || !cfQ a b c d
theorem in_zero (a b : Pt) (L : List Pt) (c : Pt) : leftQ a b c = inQ a b L c 0 := by unfold inQ; simp
theorem in_step {a b c d : Pt} {L : List Pt} {k : Nat} (h : L[k]? = some d) : inQ a b L c (k + 1) = (inQ a b L c k && (!leftQ a b d || !cfQ a b c d)) := by
 unfold inQ
 rw [List.take_add_one, h, List.all_append, Bool.and_assoc]
 simp
theorem in_true {a b c d : Pt} {L : List Pt} {k : Nat} {v : Bool} (h : L[k]? = some d) (hk : true = inQ a b L c k) (hv : (!leftQ a b d || !cfQ a b c d) = v) : v = inQ a b L c (k + 1) := by
 rw [in_step h, ← hk, hv]; rfl
theorem in_no {a b c : Pt} {L : List Pt} {k : Nat} (h : false = inQ a b L c k) : okQ a b L c = false := by
 unfold inQ at h
 unfold okQ
 cases hl : leftQ a b c
 ·rfl
 ·rw [hl] at h
  have h2 : ((L.take k).all fun d => !leftQ a b d || !cfQ a b c d) = false := h.symm
  conv => lhs; rw [← List.take_append_drop k L]
  rw [List.all_append, h2]
  simp
theorem in_all {a b c : Pt} {L : List Pt} {n : Nat} (hn : L.length = n) (h : true = inQ a b L c n) : okQ a b L c = true := by
 unfold inQ at h
 rw [← hn, List.take_length] at h
 exact h.symm
theorem val_next (k : Nat) : Value.int .i64 ((k : Int) + 1) = Value.int .i64 ((k + 1 : Nat) : Int) := by simp
theorem meas_next {n k : Nat} (h : k < n) : n - (intOf (Value.int .i64 ((k : Int) + 1))).toNat < n - (intOf (Value.int .i64 (k : Int))).toNat := by simp [intOf]; omega
def Nots (a b : Pt) (L : List Pt) (i : Nat) : Prop := ∀ j (hj : j < L.length), j < i → okQ a b L L[j] = false
theorem nots_next {a b c : Pt} {L : List Pt} {i : Nat} (h : Nots a b L i) (hi : L[i]? = some c) (hc : okQ a b L c = false) : Nots a b L (i + 1) := by
 intro j hj hji
 rcases Nat.lt_or_ge j i with h2 | h2
 ·exact h j hj h2
 ·obtain rfl : j = i := by omega
  rw [List.getElem?_eq_getElem hj] at hi
  rw [Option.some.inj hi]
  exact hc
theorem rb_found {a b c : Pt} {L : List Pt} {i : Nat} (h : Nots a b L i) (hi : L[i]? = some c) (hc : okQ a b L c = true) : rbQ a b L = (i : Int) := by
 obtain ⟨hl, e⟩ := List.getElem?_eq_some_iff.1 hi
 exact rb_at hl (by rw [e]; exact hc) h
theorem rb_nil {a b : Pt} {L : List Pt} {n : Nat} (hn : L.length = n) (h : Nots a b L n) : rbQ a b L = -1 := rb_none fun j hj => h j hj (by omega)
set_option maxRecDepth 100000 in
set_option maxHeartbeats 8000000 in
theorem rtBest (a1 a2 b1 b2 : Int) (s : Option Addr) (n cap : Nat) (L : List Pt) (w : World) (hL : PSl w s n cap L) (hn : n ≤ 1000000) (Ra : Hid (R2 (a1, a2))) (Rb : Hid (R2 (b1, b2))) (hR : ∀ (j : Nat) (x y : Int), L[j]? = some (x, y) → R2 (x, y)) {r : Int} (hr : r = rbQ (a1, a2) (b1, b2) L) :
  Calls Try.prog 10 #[.agg #[.int .i64 a1, .int .i64 a2], .agg #[.int .i64 b1, .int .i64 b2], .slice s n cap] w fun e w' => e = .returned (.int .i64 r) ∧ Below w.heap.size w w' := by
 have HR : Hid _ := hr
 have RL : Hid _ := hR
 have HN : Hid (L.length = n) := hL.len
 clear hr hR
 obtain ⟨W, hW, bW, x_a, x_b, sW⟩ := bs_22 w (.int .i64 a1) (.int .i64 a2) (.int .i64 b1) (.int .i64 b2) 31 31
 have zbW := bW.size
 have BB := bW
 go_enter Try.func10, Try.ntmps10
 go_wp2
 rw [← hW]
 clear hW
 go_loopw [7] (fun iv wr => ∃ i : Nat, i ≤ n ∧ iv = .int .i64 (i : Int) ∧ Hid (Nots (a1, a2) (b1, b2) L i) ∧ Bx wr w.heap.size (.int .i64 a1) (.int .i64 a2) ∧ Bx wr (w.heap.size + 1) (.int .i64 b1) (.int .i64 b2) ∧ Below w.heap.size w wr) (fun iv _ => n - (intOf iv).toNat)
 case atStart => exact ⟨0, by omega, rfl, fun j _ h => absurd h (Nat.not_lt_zero j), x_a, x_b, BB⟩
 case round =>
  clear x_a x_b BB
  obtain ⟨i, hi, rfl, hno, x_a, x_b, BB⟩ := hrel
  by_cases hlt : i < n
  ·skip
   obtain ⟨bl, ofs, x, y, rfl, hbl, hxy, hpc⟩ := (hL.below BB).at hlt
   have x_e := hpc i x y hxy
   have hw : wrap64 ((i : Int) + 1) = (i : Int) + 1 := wrap_in (by omega) (by omega)
   have hlt' : (i : Int) < (n : Int) := by omega
   have HXY : Hid _ := hxy
   have RX : Hid (R2 (x, y)) := RL.out _ _ _ hxy
   clear hxy hpc
   obtain ⟨q0, hq0⟩ : ∃ q, q = leftQ (a1, a2) (b1, b2) (x, y) := ⟨_, rfl⟩
   have Q0 : Hid _ := hq0
   clear hq0
   have zb0 := bx_lt x_b
   obtain ⟨wo, rfl⟩ : ∃ wo : World, wo = wr := ⟨_, rfl⟩
   go_wp2
   have dd1 : Below wo.heap.size wo wo.drew := (Below.refl _ _).drew
   have zdd1 := dd1.size
   replace x_a := x_a.on dd1
   replace x_b := x_b.on dd1
   replace BB := also BB dd1
   replace x_e := x_e.on dd1
   refine wp_region_held_drew (S := (fun w' => w'.cell? ⟨w.heap.size, 0, none⟩ = some (.int .i64 a1) ∧ w'.cell? ⟨w.heap.size, 1, none⟩ = some (.int .i64 a2) ∧ w'.cell? ⟨w.heap.size + 1, 0, none⟩ = some (.int .i64 b1) ∧ w'.cell? ⟨w.heap.size + 1, 1, none⟩ = some (.int .i64 b2) ∧ w'.cell? ⟨bl, ofs + i * 2, none⟩ = some (.int .i64 x) ∧ w'.cell? ⟨bl, ofs + i * 2 + 1, none⟩ = some (.int .i64 y) ∧ Below w.heap.size w w')) (by kernel_rfl) ?_ (fun hHeld => ?_)
   ·exact ⟨x_a.c0, x_a.c1, x_b.c0, x_b.c1, x_e.c0, x_e.c1, BB⟩
   refine tz (i := 0) rfl ?_
   simp only [Act.put, ps1, ps2, ps3]
   refine tz (i := 1) rfl ?_
   simp only [Act.put, ps1, ps2, ps3]
   refine tz (i := 2) rfl ?_
   simp only [Act.put, ps1, ps2, ps3]
   refine tz (i := 3) rfl ?_
   simp only [Act.put, ps1, ps2, ps3]
   refine tz (i := 4) rfl ?_
   simp only [Act.put, ps1, ps2, ps3]
   refine tz (i := 5) rfl ?_
   simp only [Act.put, ps1, ps2, ps3]
   refine take_call (i := 6) rfl (by kernel_rfl) (fun Kc hK => ?_)
   go_simp
   (go_at_call 14; refine (rtLeft a1 a2 b1 b2 x y _ Ra Rb RX Q0.out).mono ?_; rintro e w1 ⟨rfl, bw1⟩)
   refine hK.out _ _ ?_ (fun hHeld => ?_)
   ·exact ⟨cell_on bw1 hHeld.1, cell_on bw1 hHeld.2.1, cell_on bw1 hHeld.2.2.1, cell_on bw1 hHeld.2.2.2.1, cell_on bw1 hHeld.2.2.2.2.1, cell_on bw1 hHeld.2.2.2.2.2.1, also hHeld.2.2.2.2.2.2 bw1⟩
   clear hK Kc
   have zbw1 := bw1.size
   replace x_a := x_a.on bw1
   replace x_b := x_b.on bw1
   replace BB := also BB bw1
   replace x_e := x_e.on bw1
   refine tz (i := 7) rfl ?_
   simp only [Act.put, ps1, ps2, ps3]
   refine wpAnyH_done (by kernel_rfl) ?_ _
   go_wp2
   go_loopw [8, 9] (fun qv kv wr => ∃ (k : Nat) (q : Bool), k ≤ n ∧ kv = .int .i64 (k : Int) ∧ qv = .bool q ∧ Hid (q = inQ (a1, a2) (b1, b2) L (x, y) k) ∧ Bx wr w.heap.size (.int .i64 a1) (.int .i64 a2) ∧ Bx wr (w.heap.size + 1) (.int .i64 b1) (.int .i64 b2) ∧ Below w.heap.size w wr) (fun _ kv _ => n - (intOf kv).toNat)
   case atStart => exact ⟨0, _, by omega, rfl, rfl, Q0.out.trans (in_zero _ _ _ _), x_a, x_b, BB⟩
   case round =>
    clear x_a x_b x_e BB
    obtain ⟨k, q, hk, rfl, rfl, hq, x_a, x_b, BB⟩ := hrel
    cases q
    ·by_cases hlt2 : (k : Int) < (n : Int)
     ·go_wp2
      go_roundw
      case rel => exact ⟨i + 1, by omega, by simp, nots_next hno.out HXY.out (in_no hq.out), x_a, x_b, BB⟩
      case measure => simp [intOf]; omega
     ·go_wp2
      go_roundw
      case rel => exact ⟨i + 1, by omega, by simp, nots_next hno.out HXY.out (in_no hq.out), x_a, x_b, BB⟩
      case measure => simp [intOf]; omega
    ·by_cases hlt2 : k < n
     ·obtain ⟨bl', ofs', u, v, e', _, huv, hpc⟩ := (hL.below BB).at hlt2
      obtain ⟨rfl, rfl⟩ : bl = bl' ∧ ofs = ofs' := by simp at e'; exact e'
      clear e'
      have x_e := hpc i x y HXY.out
      have x_l := hpc k u v huv
      have hlt2' : (k : Int) < (n : Int) := Int.ofNat_lt.2 hlt2
      have HUV : Hid _ := huv
      have RU : Hid (R2 (u, v)) := RL.out _ _ _ huv
      clear huv hpc
      cases hl : leftQ (a1, a2) (b1, b2) (u, v)
      ·skip
       have zb := bx_lt x_b
       have HL : Hid _ := hl
       clear hl
       go_wp2
       have dd1 : Below wr.heap.size wr wr.drew := (Below.refl _ _).drew
       have zdd1 := dd1.size
       replace x_a := x_a.on dd1
       replace x_b := x_b.on dd1
       replace BB := also BB dd1
       replace x_e := x_e.on dd1
       replace x_l := x_l.on dd1
       refine wp_region_held_drew (S := (fun w' => w'.cell? ⟨w.heap.size, 0, none⟩ = some (.int .i64 a1) ∧ w'.cell? ⟨w.heap.size, 1, none⟩ = some (.int .i64 a2) ∧ w'.cell? ⟨w.heap.size + 1, 0, none⟩ = some (.int .i64 b1) ∧ w'.cell? ⟨w.heap.size + 1, 1, none⟩ = some (.int .i64 b2) ∧ w'.cell? ⟨bl, ofs + i * 2, none⟩ = some (.int .i64 x) ∧ w'.cell? ⟨bl, ofs + i * 2 + 1, none⟩ = some (.int .i64 y) ∧ w'.cell? ⟨bl, ofs + k * 2, none⟩ = some (.int .i64 u) ∧ w'.cell? ⟨bl, ofs + k * 2 + 1, none⟩ = some (.int .i64 v) ∧ Below w.heap.size w w')) (by kernel_rfl) ?_ (fun hHeld => ?_)
       ·exact ⟨x_a.c0, x_a.c1, x_b.c0, x_b.c1, x_e.c0, x_e.c1, x_l.c0, x_l.c1, BB⟩
       refine tz (i := 0) rfl ?_
       simp only [Act.put, ps1, ps2, ps3]
       refine tz (i := 1) rfl ?_
       simp only [Act.put, ps1, ps2, ps3]
       refine tz (i := 2) rfl ?_
       simp only [Act.put, ps1, ps2, ps3]
       refine tz (i := 3) rfl ?_
       simp only [Act.put, ps1, ps2, ps3]
       refine tz (i := 4) rfl ?_
       simp only [Act.put, ps1, ps2, ps3]
       refine tz (i := 5) rfl ?_
       simp only [Act.put, ps1, ps2, ps3]
       refine take_call (i := 6) rfl (by kernel_rfl) (fun Kc hK => ?_)
       go_simp
       (go_at_call 14; refine (rtLeft a1 a2 b1 b2 u v _ Ra Rb RU HL.out.symm).mono ?_; rintro e w2 ⟨rfl, bw2⟩)
       refine hK.out _ _ ?_ (fun hHeld => ?_)
       ·exact ⟨cell_on bw2 hHeld.1, cell_on bw2 hHeld.2.1, cell_on bw2 hHeld.2.2.1, cell_on bw2 hHeld.2.2.2.1, cell_on bw2 hHeld.2.2.2.2.1, cell_on bw2 hHeld.2.2.2.2.2.1, cell_on bw2 hHeld.2.2.2.2.2.2.1, cell_on bw2 hHeld.2.2.2.2.2.2.2.1, also hHeld.2.2.2.2.2.2.2.2 bw2⟩
       clear hK Kc
       have zbw2 := bw2.size
       replace x_a := x_a.on bw2
       replace x_b := x_b.on bw2
       replace BB := also BB bw2
       replace x_e := x_e.on bw2
       replace x_l := x_l.on bw2
       refine tz (i := 7) rfl ?_
       simp only [Act.put, ps1, ps2, ps3]
       refine tz (i := 8) rfl ?_
       simp only [Act.put, ps1, ps2, ps3]
       refine take_no (i := 9) rfl (by kernel_rfl) (by kernel_rfl) (by kernel_rfl) (fun _ _ _ h => h) (by rfl) (by assumption) ?_
       simp only [Act.put, ps1, ps2, ps3]
       refine take_no (i := 10) rfl (by kernel_rfl) (by kernel_rfl) (by kernel_rfl) (fun _ _ _ h => h) (by rfl) (by assumption) ?_
       simp only [Act.put, ps1, ps2, ps3]
       refine take_no (i := 11) rfl (by kernel_rfl) (by kernel_rfl) (by kernel_rfl) (fun _ _ _ h => h) (by rfl) (by assumption) ?_
       simp only [Act.put, ps1, ps2, ps3]
       refine take_no (i := 12) rfl (by kernel_rfl) (by kernel_rfl) (by kernel_rfl) (fun _ _ _ h => h) (by rfl) (by assumption) ?_
       simp only [Act.put, ps1, ps2, ps3]
       refine take_no (i := 13) rfl (by kernel_rfl) (by kernel_rfl) (by kernel_rfl) (fun _ _ _ h => h) (by rfl) (by assumption) ?_
       simp only [Act.put, ps1, ps2, ps3]
       refine take_no (i := 14) rfl (by kernel_rfl) (by kernel_rfl) (by kernel_rfl) (fun _ _ _ h => h) (by rfl) (by assumption) ?_
       simp only [Act.put, ps1, ps2, ps3]
       refine take_no (i := 15) rfl (by kernel_rfl) (by kernel_rfl) (by kernel_rfl) (fun _ _ _ h => h) (by rfl) (by assumption) ?_
       simp only [Act.put, ps1, ps2, ps3]
       refine take_no (i := 16) rfl (by kernel_rfl) (by kernel_rfl) (by kernel_rfl) (fun _ _ _ h => h) (by rfl) (by assumption) ?_
       simp only [Act.put, ps1, ps2, ps3]
       refine take_no (i := 17) rfl (by kernel_rfl) (by kernel_rfl) (by kernel_rfl) (fun _ _ _ h => h) (by rfl) (by assumption) ?_
       simp only [Act.put, ps1, ps2, ps3]
       refine take_no (i := 18) rfl (by kernel_rfl) (by kernel_rfl) (by kernel_rfl) (fun _ _ _ h => h) (by rfl) (by assumption) ?_
       simp only [Act.put, ps1, ps2, ps3]
       refine take_no (i := 19) rfl (by kernel_rfl) (by kernel_rfl) (by kernel_rfl) (fun _ _ _ h => h) (by rfl) (by assumption) ?_
       simp only [Act.put, ps1, ps2, ps3]
       refine take_no (i := 20) rfl (by kernel_rfl) (by kernel_rfl) (by kernel_rfl) (fun _ _ _ h => h) (by rfl) (by assumption) ?_
       simp only [Act.put, ps1, ps2, ps3]
       refine tz (i := 21) rfl ?_
       simp only [Act.put, ps1, ps2, ps3]
       refine tz (i := 22) rfl ?_
       simp only [Act.put, ps1, ps2, ps3]
       refine wpAnyH_done (by kernel_rfl) ?_ _
       go_wp2
       go_roundw
       case rel => exact ⟨k + 1, _, hlt2, val_next k, rfl, in_true HUV.out hq.out (by rw [HL.out]; rfl), x_a, x_b, BB⟩
       case measure => exact meas_next hlt2
      ·cases hcf : cfQ (a1, a2) (b1, b2) (x, y) (u, v)
       ·skip
        have zb := bx_lt x_b
        have HL : Hid _ := hl
        clear hl
        have HC : Hid _ := hcf
        clear hcf
        go_wp2
        have dd1 : Below wr.heap.size wr wr.drew := (Below.refl _ _).drew
        have zdd1 := dd1.size
        replace x_a := x_a.on dd1
        replace x_b := x_b.on dd1
        replace BB := also BB dd1
        replace x_e := x_e.on dd1
        replace x_l := x_l.on dd1
        refine wp_region_held_drew (S := (fun w' => w'.cell? ⟨w.heap.size, 0, none⟩ = some (.int .i64 a1) ∧ w'.cell? ⟨w.heap.size, 1, none⟩ = some (.int .i64 a2) ∧ w'.cell? ⟨w.heap.size + 1, 0, none⟩ = some (.int .i64 b1) ∧ w'.cell? ⟨w.heap.size + 1, 1, none⟩ = some (.int .i64 b2) ∧ w'.cell? ⟨bl, ofs + i * 2, none⟩ = some (.int .i64 x) ∧ w'.cell? ⟨bl, ofs + i * 2 + 1, none⟩ = some (.int .i64 y) ∧ w'.cell? ⟨bl, ofs + k * 2, none⟩ = some (.int .i64 u) ∧ w'.cell? ⟨bl, ofs + k * 2 + 1, none⟩ = some (.int .i64 v) ∧ Below w.heap.size w w')) (by kernel_rfl) ?_ (fun hHeld => ?_)
        ·exact ⟨x_a.c0, x_a.c1, x_b.c0, x_b.c1, x_e.c0, x_e.c1, x_l.c0, x_l.c1, BB⟩
        refine tz (i := 0) rfl ?_
        simp only [Act.put, ps1, ps2, ps3]
        refine tz (i := 1) rfl ?_
        simp only [Act.put, ps1, ps2, ps3]
        refine tz (i := 2) rfl ?_
        simp only [Act.put, ps1, ps2, ps3]
        refine tz (i := 3) rfl ?_
        simp only [Act.put, ps1, ps2, ps3]
        refine tz (i := 4) rfl ?_
        simp only [Act.put, ps1, ps2, ps3]
        refine tz (i := 5) rfl ?_
        simp only [Act.put, ps1, ps2, ps3]
        refine take_call (i := 6) rfl (by kernel_rfl) (fun Kc hK => ?_)
        go_simp
        (go_at_call 14; refine (rtLeft a1 a2 b1 b2 u v _ Ra Rb RU HL.out.symm).mono ?_; rintro e w2 ⟨rfl, bw2⟩)
        refine hK.out _ _ ?_ (fun hHeld => ?_)
        ·exact ⟨cell_on bw2 hHeld.1, cell_on bw2 hHeld.2.1, cell_on bw2 hHeld.2.2.1, cell_on bw2 hHeld.2.2.2.1, cell_on bw2 hHeld.2.2.2.2.1, cell_on bw2 hHeld.2.2.2.2.2.1, cell_on bw2 hHeld.2.2.2.2.2.2.1, cell_on bw2 hHeld.2.2.2.2.2.2.2.1, also hHeld.2.2.2.2.2.2.2.2 bw2⟩
        clear hK Kc
        have zbw2 := bw2.size
        replace x_a := x_a.on bw2
        replace x_b := x_b.on bw2
        replace BB := also BB bw2
        replace x_e := x_e.on bw2
        replace x_l := x_l.on bw2
        refine tz (i := 7) rfl ?_
        simp only [Act.put, ps1, ps2, ps3]
        refine tz (i := 8) rfl ?_
        simp only [Act.put, ps1, ps2, ps3]
        refine tz (i := 9) rfl ?_
        simp only [Act.put, ps1, ps2, ps3]
        refine tz (i := 10) rfl ?_
        simp only [Act.put, ps1, ps2, ps3]
        refine tz (i := 11) rfl ?_
        simp only [Act.put, ps1, ps2, ps3]
        refine tz (i := 12) rfl ?_
        simp only [Act.put, ps1, ps2, ps3]
        refine tz (i := 13) rfl ?_
        simp only [Act.put, ps1, ps2, ps3]
        refine tz (i := 14) rfl ?_
        simp only [Act.put, ps1, ps2, ps3]
        refine tz (i := 15) rfl ?_
        simp only [Act.put, ps1, ps2, ps3]
        refine tz (i := 16) rfl ?_
        simp only [Act.put, ps1, ps2, ps3]
        refine tz (i := 17) rfl ?_
        simp only [Act.put, ps1, ps2, ps3]
        refine tz (i := 18) rfl ?_
        simp only [Act.put, ps1, ps2, ps3]
        refine take_call (i := 19) rfl (by kernel_rfl) (fun Kc hK => ?_)
        go_simp
        (go_at_call 15; refine (rtConflict a1 a2 b1 b2 x y u v _ Ra Rb RX RU HC.out.symm).mono ?_; rintro e w3 ⟨rfl, bw3⟩)
        refine hK.out _ _ ?_ (fun hHeld => ?_)
        ·exact ⟨cell_on bw3 hHeld.1, cell_on bw3 hHeld.2.1, cell_on bw3 hHeld.2.2.1, cell_on bw3 hHeld.2.2.2.1, cell_on bw3 hHeld.2.2.2.2.1, cell_on bw3 hHeld.2.2.2.2.2.1, cell_on bw3 hHeld.2.2.2.2.2.2.1, cell_on bw3 hHeld.2.2.2.2.2.2.2.1, also hHeld.2.2.2.2.2.2.2.2 bw3⟩
        clear hK Kc
        have zbw3 := bw3.size
        replace x_a := x_a.on bw3
        replace x_b := x_b.on bw3
        replace BB := also BB bw3
        replace x_e := x_e.on bw3
        replace x_l := x_l.on bw3
        refine tz (i := 20) rfl ?_
        simp only [Act.put, ps1, ps2, ps3]
        refine tz (i := 21) rfl ?_
        simp only [Act.put, ps1, ps2, ps3]
        refine tz (i := 22) rfl ?_
        simp only [Act.put, ps1, ps2, ps3]
        refine wpAnyH_done (by kernel_rfl) ?_ _
        go_wp2
        go_roundw
        case rel => exact ⟨k + 1, _, hlt2, val_next k, rfl, in_true HUV.out hq.out (by rw [HL.out, HC.out]; rfl), x_a, x_b, BB⟩
        case measure => exact meas_next hlt2
       ·skip
        have zb := bx_lt x_b
        have HL : Hid _ := hl
        clear hl
        have HC : Hid _ := hcf
        clear hcf
        go_wp2
        have dd1 : Below wr.heap.size wr wr.drew := (Below.refl _ _).drew
        have zdd1 := dd1.size
        replace x_a := x_a.on dd1
        replace x_b := x_b.on dd1
        replace BB := also BB dd1
        replace x_e := x_e.on dd1
        replace x_l := x_l.on dd1
        refine wp_region_held_drew (S := (fun w' => w'.cell? ⟨w.heap.size, 0, none⟩ = some (.int .i64 a1) ∧ w'.cell? ⟨w.heap.size, 1, none⟩ = some (.int .i64 a2) ∧ w'.cell? ⟨w.heap.size + 1, 0, none⟩ = some (.int .i64 b1) ∧ w'.cell? ⟨w.heap.size + 1, 1, none⟩ = some (.int .i64 b2) ∧ w'.cell? ⟨bl, ofs + i * 2, none⟩ = some (.int .i64 x) ∧ w'.cell? ⟨bl, ofs + i * 2 + 1, none⟩ = some (.int .i64 y) ∧ w'.cell? ⟨bl, ofs + k * 2, none⟩ = some (.int .i64 u) ∧ w'.cell? ⟨bl, ofs + k * 2 + 1, none⟩ = some (.int .i64 v) ∧ Below w.heap.size w w')) (by kernel_rfl) ?_ (fun hHeld => ?_)
        ·exact ⟨x_a.c0, x_a.c1, x_b.c0, x_b.c1, x_e.c0, x_e.c1, x_l.c0, x_l.c1, BB⟩
        refine tz (i := 0) rfl ?_
        simp only [Act.put, ps1, ps2, ps3]
        refine tz (i := 1) rfl ?_
        simp only [Act.put, ps1, ps2, ps3]
        refine tz (i := 2) rfl ?_
        simp only [Act.put, ps1, ps2, ps3]
        refine tz (i := 3) rfl ?_
        simp only [Act.put, ps1, ps2, ps3]
        refine tz (i := 4) rfl ?_
        simp only [Act.put, ps1, ps2, ps3]
        refine tz (i := 5) rfl ?_
        simp only [Act.put, ps1, ps2, ps3]
        refine take_call (i := 6) rfl (by kernel_rfl) (fun Kc hK => ?_)
        go_simp
        (go_at_call 14; refine (rtLeft a1 a2 b1 b2 u v _ Ra Rb RU HL.out.symm).mono ?_; rintro e w2 ⟨rfl, bw2⟩)
        refine hK.out _ _ ?_ (fun hHeld => ?_)
        ·exact ⟨cell_on bw2 hHeld.1, cell_on bw2 hHeld.2.1, cell_on bw2 hHeld.2.2.1, cell_on bw2 hHeld.2.2.2.1, cell_on bw2 hHeld.2.2.2.2.1, cell_on bw2 hHeld.2.2.2.2.2.1, cell_on bw2 hHeld.2.2.2.2.2.2.1, cell_on bw2 hHeld.2.2.2.2.2.2.2.1, also hHeld.2.2.2.2.2.2.2.2 bw2⟩
        clear hK Kc
        have zbw2 := bw2.size
        replace x_a := x_a.on bw2
        replace x_b := x_b.on bw2
        replace BB := also BB bw2
        replace x_e := x_e.on bw2
        replace x_l := x_l.on bw2
        refine tz (i := 7) rfl ?_
        simp only [Act.put, ps1, ps2, ps3]
        refine tz (i := 8) rfl ?_
        simp only [Act.put, ps1, ps2, ps3]
        refine tz (i := 9) rfl ?_
        simp only [Act.put, ps1, ps2, ps3]
        refine tz (i := 10) rfl ?_
        simp only [Act.put, ps1, ps2, ps3]
        refine tz (i := 11) rfl ?_
        simp only [Act.put, ps1, ps2, ps3]
        refine tz (i := 12) rfl ?_
        simp only [Act.put, ps1, ps2, ps3]
        refine tz (i := 13) rfl ?_
        simp only [Act.put, ps1, ps2, ps3]
        refine tz (i := 14) rfl ?_
        simp only [Act.put, ps1, ps2, ps3]
        refine tz (i := 15) rfl ?_
        simp only [Act.put, ps1, ps2, ps3]
        refine tz (i := 16) rfl ?_
        simp only [Act.put, ps1, ps2, ps3]
        refine tz (i := 17) rfl ?_
        simp only [Act.put, ps1, ps2, ps3]
        refine tz (i := 18) rfl ?_
        simp only [Act.put, ps1, ps2, ps3]
        refine take_call (i := 19) rfl (by kernel_rfl) (fun Kc hK => ?_)
        go_simp
        (go_at_call 15; refine (rtConflict a1 a2 b1 b2 x y u v _ Ra Rb RX RU HC.out.symm).mono ?_; rintro e w3 ⟨rfl, bw3⟩)
        refine hK.out _ _ ?_ (fun hHeld => ?_)
        ·exact ⟨cell_on bw3 hHeld.1, cell_on bw3 hHeld.2.1, cell_on bw3 hHeld.2.2.1, cell_on bw3 hHeld.2.2.2.1, cell_on bw3 hHeld.2.2.2.2.1, cell_on bw3 hHeld.2.2.2.2.2.1, cell_on bw3 hHeld.2.2.2.2.2.2.1, cell_on bw3 hHeld.2.2.2.2.2.2.2.1, also hHeld.2.2.2.2.2.2.2.2 bw3⟩
        clear hK Kc
        have zbw3 := bw3.size
        replace x_a := x_a.on bw3
        replace x_b := x_b.on bw3
        replace BB := also BB bw3
        replace x_e := x_e.on bw3
        replace x_l := x_l.on bw3
        refine tz (i := 20) rfl ?_
        simp only [Act.put, ps1, ps2, ps3]
        refine tz (i := 21) rfl ?_
        simp only [Act.put, ps1, ps2, ps3]
        refine tz (i := 22) rfl ?_
        simp only [Act.put, ps1, ps2, ps3]
        refine wpAnyH_done (by kernel_rfl) ?_ _
        go_wp2
        go_roundw
        case rel => exact ⟨k + 1, _, hlt2, val_next k, rfl, in_true HUV.out hq.out (by rw [HL.out, HC.out]; rfl), x_a, x_b, BB⟩
        case measure => exact meas_next hlt2
     ·obtain rfl : k = n := by omega
      go_wp2
      go_ret
      exact ⟨by rw [HR.out, rb_found hno.out HXY.out (in_all HN.out hq.out)]; rfl, BB⟩
  ·obtain rfl : i = n := by omega
   go_wp2
   go_ret
   exact ⟨by rw [HR.out, rb_nil HN.out hno.out]; rfl, BB⟩
end Go.Proofs.Ytkmgndaholglhaa

namespace Go.Proofs.Ytkmgndaholglhaa
open Go.RowKit
set_option linter.unusedVariables false

theorem step_append_S {P : Program} {w : World} {ops : Array Oper} {o : Oper} {a : Act} {K : Act → World → Prop} {Q : Exit → Act → World → Prop} {E : Prop} (hgd : o.guard = none) (s x : Operand) (t : TypeId)
  (ho : o.op = .call { callee := .builtin .append, args := #[s, x], argTypes := #[t, t] })
  (base : Nat) (e : TypeId) (i : TypeInfo) (z : Value) (size bytes : Nat) (ht : P.underlying t = some (.slice e)) (hi : P.info? e = some i) (hz : i.zero = some z)
  (hsize : i.size = size) (hby : i.bytes = bytes) (hzs : z.cells.size = size) (hsz : 0 < size)
  (a0 : Option Addr) (n0 c0 : Nat) (xs : List Value) (hs : a.eval s = .slice a0 n0 c0) (hown : OwnS w base e size a0 n0 c0 xs)
  (ad : Addr) (m c : Nat) (news : List Value) (hx : a.eval x = .slice (some ad) m c) (hl : news.length = m * size) (hnews : News w ad news) (h1 : ∀ u ∈ news, u.oneCell' = true)
  (h63 : n0 + m ≤ maxLen) (hbytes : (n0 + m) * bytes ≤ 140737488355328) (hbase : base ≤ w.heap.size)
  (h : ∀ a' cap' w', OwnS w' base e size a' (n0 + m) cap' (xs ++ news) → w.grownBy w' (Value.slice a0 n0 c0).ownBlock → (∀ k, Slot a' k → Slot a0 k ∨ w.heap.size ≤ k) → K (a.put o.dst (.slice a' (n0 + m) cap')) w') :
  if Region.wanted o (yielded ops a.tmps) = true then Oper.wp P o a w K Q else E := by
 have hw : Region.wanted o (yielded ops a.tmps) = true := by simp [Region.wanted, hgd]
 rw [if_pos hw]
 obtain ⟨v', w', hr, h2, h3, h4, h5⟩ := run_append_own_at (P := P) w base t o.type e i z size bytes ht hi hz hsize hby hzs hsz _ n0 xs hown ad m c news hl hnews h1 h63 hbytes hbase
 unfold Oper.wp execOp
 simp only [ho, resolve, invoke, builtin, Sem.run_bind, Sem.run_pure, Result.andThen_ok, List.map_toArray, List.map_cons, List.map_nil, hs, hx, hr]
 obtain ⟨a', cap', rfl, h6⟩ := OwnS.form h2
 refine h a' cap' w' h6 h3 ?_
 rintro k ⟨q, rfl⟩
 rcases h5 with h5 | h5
 ·cases a0 with
  | none => cases h5
  | some b0 =>
   have : k = b0.block := by simpa [Value.ownBlock] using h5
   subst this
   obtain ⟨hl, ⟨h7, _⟩ | ⟨g, cap', cur, hv, r⟩⟩ := hown
   ·cases h7
   ·cases hv; exact Or.inl ⟨0, rfl⟩
 ·have : k = w.heap.size := by simpa [Value.ownBlock] using h5
  exact Or.inr (by omega)
end Go.Proofs.Ytkmgndaholglhaa
