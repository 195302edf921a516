/-
  What nat's Show answers.
-/
import Derived.Test.YteoepelmapjhcaaDoorShowB
namespace Go.Proofs.YteoepelmapjhcaaDoor
open Go.RowKit
set_option linter.unusedVariables false

/-- Bytes written from place p on, noughts ahead. -/
def cellsD (p : Nat) (l : List Int) : List Value := List.replicate p (.int .u8 0) ++ l.map (Value.int .u8)
theorem cellsD_length (p : Nat) (l : List Int) : (cellsD p l).length = p + l.length := by simp [cellsD]
theorem set_replicate {α : Type} (z d : α) (n : Nat) (l : List α) : (List.replicate (n + 1) z ++ l).set n d = List.replicate n z ++ d :: l := by
  rw [List.replicate_succ', List.append_assoc, List.set_append_right _ _ (by simp)]
  simp
theorem cellsD_set (p : Nat) (l : List Int) (d : Int) : (cellsD (p + 1) l).set p (.int .u8 d) = cellsD p (d :: l) := by
  unfold cellsD
  rw [set_replicate, List.map_cons]
theorem cellsD_at (p : Nat) (l : List Int) : (cellsD (p + 1) l)[p]? = some (.int .u8 0) := by
  unfold cellsD
  rw [List.getElem?_append_left (by simp), List.getElem?_replicate, if_pos (by omega)]
theorem infoByte : (Tryd.prog.info? 5).map (fun i => (i.zero, i.size, i.bytes)) = some (some (.int .u8 0), 1, 1) := by kernel_rfl
/-- The digit at a place, out of a piece. -/
theorem piece_digit (u j k : Nat) (hk : k < 9) : ((u / 1000000000 ^ j % 1000000000 / 10 ^ k : Nat) : Int) % 10 = ((u / 10 ^ (9 * j + k) % 10 : Nat) : Int) := by
  have e1 : (1000000000 : Nat) ^ j = 10 ^ (9 * j) := by rw [Nat.pow_mul]
  have e2 : u / 10 ^ (9 * j + k) = u / 10 ^ (9 * j) / 10 ^ k := by rw [Nat.pow_add, Nat.div_div_eq_div_mul]
  rw [e1, e2]
  generalize u / 10 ^ (9 * j) = x
  have h : (1000000000 : Nat) = 10 ^ k * (10 * 10 ^ (8 - k)) := by
    rw [← Nat.pow_succ', ← Nat.pow_add, show k + (8 - k + 1) = 9 by omega]
  have h2 : x % 1000000000 / 10 ^ k = x / 10 ^ k % (10 * 10 ^ (8 - k)) := by rw [h, Nat.mod_mul_right_div_self]
  rw [h2]
  have h3 := Nat.mod_mul_right_mod (x / 10 ^ k) 10 (10 ^ (8 - k))
  omega
/-- What holds at the head of each round of the inner loop. -/
def TextIn (w2 : World) (base u c j b : Nat) (ev xv iv : Value) (wr : World) : Prop := ∃ (k p : Nat) (X : Int), k ≤ 9 ∧ k + p + 9 * j = 9 * c ∧ iv = .int .i64 (k : Int) ∧ ev = .int .i64 (p : Int) ∧ xv = .int .u32 X ∧ Hid (X = ((u / 1000000000 ^ j % 1000000000 / 10 ^ k : Nat) : Int)) ∧ 0 ≤ X ∧ X < 4294967296 ∧
  Own wr base 5 (some ⟨b, 0, none⟩) (9 * c) (9 * c) (cellsD p (digs (9 * j + k) u)) ∧ Wr w2 wr b 0 (9 * c)
def TextOut (w2 : World) (base u c b : Nat) (ev iv : Value) (wr : World) : Prop := ∃ (j p : Nat), j ≤ c ∧ p + 9 * j = 9 * c ∧ iv = .int .i64 (j : Int) ∧ ev = .int .i64 (p : Int) ∧
  Own wr base 5 (some ⟨b, 0, none⟩) (9 * c) (9 * c) (cellsD p (digs (9 * j) u)) ∧ Wr w2 wr b 0 (9 * c)
theorem textIn_next {w2 wr : World} {base u c j b k p : Nat} {X : Int} (hk : k < 9) (hp : k + (p + 1) + 9 * j = 9 * c) (hX : Hid (X = ((u / 1000000000 ^ j % 1000000000 / 10 ^ k : Nat) : Int))) (h0 : 0 ≤ X) (h1 : X < 4294967296)
    (hown : Own wr base 5 (some ⟨b, 0, none⟩) (9 * c) (9 * c) (cellsD (p + 1) (digs (9 * j + k) u))) (hw : Wr w2 wr b 0 (9 * c)) :
    TextIn w2 base u c j b (.int .i64 (p : Int)) (.int .u32 (X / 10)) (.int .i64 ((k : Int) + 1)) (wr.setCell ⟨b, p, none⟩ (.int .u8 (48 + X % 10))) := by
  refine ⟨k + 1, p, X / 10, by omega, by omega, by simp, rfl, rfl, ?_, by omega, by omega, ?_, hw.set _ (Nat.zero_le _) (by omega)⟩
  · unfold Hid
    rw [hX.out, Nat.pow_succ, ← Nat.div_div_eq_div_mul]
    omega
  · have := Own.set hown (i := p) (.int .u8 (48 + X % 10)) (by omega)
    rw [cellsD_set, hX.out, piece_digit u j k hk, show (48 + ((u / 10 ^ (9 * j + k) % 10 : Nat) : Int)) :: digs (9 * j + k) u = digs (9 * j + (k + 1)) u from rfl] at this
    rw [hX.out, piece_digit u j k hk]
    exact this
theorem pc_piece (u j : Nat) : pc.dg (u : Int) j = ((u / 1000000000 ^ j % 1000000000 : Nat) : Int) := pc.dg_nat u j
theorem digs_text (u : Nat) (hu : 0 < u) : strOfNums ((nums (strOfNums (digs (9 * pc.nlen u) u))).dropWhile (· == 48)) = decS u := by
  rw [nums_str _ fun c hc => by have := digs_bytes _ _ c hc; omega]
  have h1 := isDec_dlen u
  have h2 : dlen u ≤ 9 * pc.nlen u := by
    have hl := pc.nlen_lt u
    have e : (1000000000 : Nat) ^ pc.nlen u = 10 ^ (9 * pc.nlen u) := by rw [Nat.pow_mul]
    rw [e] at hl
    rcases Nat.lt_or_ge (9 * pc.nlen u) (dlen u) with h | h
    · rcases h1.2.2 with h3 | h3
      · have := pc.nlen_pos hu; omega
      · have := Nat.pow_le_pow_right (n := 10) (by decide) (show 9 * pc.nlen u ≤ dlen u - 1 by omega)
        omega
    · exact h
  have := digs_drop (9 * pc.nlen u - dlen u) (dlen u) u hu h1
  rw [show dlen u + (9 * pc.nlen u - dlen u) = 9 * pc.nlen u by omega] at this
  rw [this]
  rfl
theorem pc_few {u l : Nat} (h : u < 4294967296 ^ l) : pc.nlen u ≤ 2 * l + 1 := by
  rcases (pc.nlen_is u).2 with h1 | h1
  · omega
  · have := pc_small h1 h; omega

set_option maxRecDepth 100000 in
set_option maxHeartbeats 2000000 in
theorem show_any (a : Option Addr) (la ca u : Nat) (w : World) (ha : Sl w a la ca (wd.dcells la (u : Int))) (hu : u < 4294967296 ^ la) (hla : la ≤ 1000000000) :
    Calls Tryd.prog 28 #[.slice a la ca] w fun e w' => e = .returned (.string (decS u)) ∧ Below w.heap.size w w' := by
  by_cases h0 : u = 0
  · subst h0
    have hz : pc.nlen 0 = 0 := pc.nlen_zero
    have HP : Hid _ := fun ap cp => (show Value.slice ap (pc.nlen 0) cp = Value.slice ap 0 cp by rw [hz])
    clear hz
    go_enter Tryd.func28, Tryd.ntmps28
    go_wp2_with (go_at_call 51; refine (pieces_any a la ca 0 _ ha hu hla).mono ?_; rintro e w1 ⟨ap, cp, rfl, hown, hbel⟩; rw [HP.out ap cp])
    go_ret
    exact ⟨rfl, hbel⟩
  · have hpos : 0 < u := by omega
    have hc1 := pc.nlen_pos hpos
    have hc2 := pc_few hu
    have HT : Hid _ := digs_text u hpos
    obtain ⟨i0, hi0, hz0, hz1, hz2⟩ := info_parts infoByte
    obtain ⟨c, hc⟩ : ∃ c, pc.nlen u = c := ⟨_, rfl⟩
    have HC : Hid _ := hc
    rw [hc] at hc1 hc2
    have HP : Hid _ := fun (w : World) (ha : Sl w a la ca (wd.dcells la (u : Int))) => pieces_any a la ca u w ha hu hla
    rw [hc] at HT
    have hmax : 9 * c ≤ maxLen := by unfold maxLen; omega
    clear hc h0
    go_enter Tryd.func28, Tryd.ntmps28
    go_wp2_with (first
      | (go_at_call 51; refine (HP.out _ ha).mono ?_; rw [HC.out]; rintro e w1 ⟨ap, cp, rfl, hownp, hbel⟩; have hsz := hbel.size)
      | (at_make; refine make_any _ rfl (.tmp 15) (.tmp 15) 74 rfl w.heap.size 5 i0 (.int .u8 0) Tryd.underlying74 hi0 hz0 hz1 rfl .i64 .i64 _ _ (9 * c) rfl rfl (by omega) (by omega) (by rw [hz2]; omega) (by omega) hsz ?_; intro w2 hown hbel2))
    have hb1 : Below w.heap.size w w2 := hbel.trans (hbel2.mono hsz)
    have hown0 : Own w2 w.heap.size 5 (some ⟨w1.heap.size, 0, none⟩) (9 * c) (9 * c) (cellsD (9 * c) (digs (9 * 0) u)) := by
      have : cellsD (9 * c) (digs (9 * 0) u) = List.replicate (9 * c) (.int .u8 0) := by simp [cellsD, digs]
      rw [this]; exact hown
    have hpSl : Sl w2 ap c cp (pc.dcells c (u : Int)) := (Own.sl hownp).below hbel2
    have hpne : ∀ o, ap ≠ some ⟨w1.heap.size, o, none⟩ := fun o e => by
      obtain ⟨b', e', hb', _, _⟩ := Own.at hownp hc1
      rw [e'] at e
      cases e
      omega
    clear hown hownp hbel hbel2
    go_loopw [5, 21] (fun ev iv wr => TextOut w2 w.heap.size u c w1.heap.size ev iv wr) (fun _ iv _ => c - (intOf iv).toNat)
    case atStart => exact ⟨0, 9 * c, by omega, by omega, rfl, by go_num, hown0, Wr.refl _ _ _ _⟩
    case round =>
      clear hown0
      obtain ⟨j, p, hj, hp, rfl, rfl, hown, hwr⟩ := hrel
      by_cases hlt : j < c
      · obtain ⟨bp, op, rfl, hbp, hsp⟩ := hpSl.at hc1
        have hroom := hpSl.room
        have hne : bp ≠ w1.heap.size := fun e => hpne op (by rw [e])
        have c1 : wr.cell? ⟨bp, op + j, none⟩ = some (.int .u32 (pc.dg u j)) := (hwr.seg hsp hbp hne).cell j _ (pc.dcells_at _ _ _ hlt)
        obtain ⟨X, hX⟩ : ∃ X, X = pc.dg (u : Int) j := ⟨_, rfl⟩
        obtain ⟨x0, x1⟩ := pc.dg_range u j
        rw [← hX] at c1 x0 x1
        have HX : Hid (X = ((u / 1000000000 ^ j % 1000000000 / 10 ^ 0 : Nat) : Int)) := by unfold Hid; rw [hX, pc_piece, Nat.pow_zero, Nat.div_one]
        have HI : Hid (TextIn w2 w.heap.size u c j w1.heap.size (.int .i64 (p : Int)) (.int .u32 X) (.int .i64 0) wr) := ⟨0, p, X, by omega, by omega, rfl, rfl, rfl, HX, x0, by omega, by rw [Nat.add_zero]; exact hown, hwr⟩
        clear hown hwr hX HX
        go_wp2
        go_loopw [5, 7, 25] (fun ev xv iv wr => TextIn w2 w.heap.size u c j w1.heap.size ev xv iv wr) (fun _ _ iv _ => 9 - (intOf iv).toNat)
        case atStart => exact HI.out
        case round =>
          obtain ⟨k, p', Y, hk, hp', rfl, rfl, rfl, HY, y0, y1, hown, hwr⟩ := hrel
          by_cases hk9 : k < 9
          · obtain ⟨p', rfl⟩ : ∃ q, p' = q + 1 := ⟨p' - 1, by omega⟩
            have c3 := Own.cell hown p' _ (cellsD_at p' _)
            have c4 := Own.free hown p' (by omega)
            have HN : Hid _ := textIn_next hk9 hp' HY y0 y1 hown hwr
            have e1 : ((p' + 1 : Nat) : Int) - 1 = (p' : Int) := by omega
            clear hown
            go_wp2
            go_roundw
            case rel => exact HN.out
            case measure => simp [intOf]; omega
          · obtain rfl : k = 9 := by omega
            have HO : Hid (TextOut w2 w.heap.size u c w1.heap.size (.int .i64 (p' : Int)) (.int .i64 ((j : Int) + 1)) wr) := ⟨j + 1, p', by omega, by omega, by simp, rfl, by rw [show 9 * (j + 1) = 9 * j + 9 by omega]; exact hown, hwr⟩
            clear hown
            go_wp2
            go_roundw
            case rel => exact HO.out
            case measure => simp [intOf]; omega
      · obtain rfl : j = c := by omega
        obtain rfl : p = 0 := by omega
        have hconv : (convert 74 9 (.slice (some ⟨w1.heap.size, 0, none⟩) (9 * j) (9 * j))).run Tryd.prog wr = .ok (.string (strOfNums (digs (9 * j) u))) wr := by
          refine run_convert_bytes_arg wr 74 5 Tryd.underlying74 Tryd.underlying5 w1.heap.size 0 (9 * j) (9 * j) _ (digs_length _ _) (fun i hi => ?_) 9 Tryd.underlying9
          rw [Nat.zero_add]
          refine Own.cell hown i _ ?_
          unfold cellsD
          rw [List.replicate_zero, List.nil_append, List.getElem?_map, List.getElem?_eq_getElem (by rw [digs_length]; exact hi), List.getD, List.getElem?_eq_getElem (by rw [digs_length]; exact hi)]
          rfl
        have hbel := hwr.after hb1 hsz (Nat.le_refl _)
        have hsize : (strOfNums (digs (9 * j) u)).size ≤ 9223372036854775807 := by rw [strOfNums_size, digs_length]; omega
        have hne0 : (strOfNums (digs (9 * j) u)).toList.isEmpty = false := by
          rw [ByteArray.toList_eq, List.isEmpty_eq_false_iff, ← List.length_pos_iff]
          show 0 < (strOfNums (digs (9 * j) u)).size
          rw [strOfNums_size, digs_length]; omega
        clear hown
        go_wp2_with (go_at_call 52; refine (trimLeft_any _ _ hsize hne0).mono ?_; rintro e w' ⟨rfl, hw⟩; subst hw)
        go_ret
        exact ⟨by rw [← HT.out]; rfl, hbel⟩
end Go.Proofs.YteoepelmapjhcaaDoor
