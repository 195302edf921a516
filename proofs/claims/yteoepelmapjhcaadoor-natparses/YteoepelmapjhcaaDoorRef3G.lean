/-
  What zelligeref03's Parse answers.
-/
import Derived.Test.YteoepelmapjhcaaDoorRef3E
import Derived.Test.YteoepelmapjhcaaDoorParseB
namespace Go.Proofs.YteoepelmapjhcaaDoor
open Go.RowKit
set_option linter.unusedVariables false

theorem sl_new (w : World) (x : Int) (T : TypeId) : Sl (w.alloc (.cells #[.int .i64 x] T)) (some ⟨w.heap.size, 0, none⟩) 1 1 [.int .i64 x] := Own.sl (World.ownsRow_lit (base := w.heap.size) (e := T) (size := 1) w #[.int .i64 x] 1 (Nat.le_refl _) (by decide) rfl)
theorem hf_cell (x : Nat) (h : x < 65536) : hf.dcells 1 (x : Int) = [.int .i64 (x : Int)] := by
  simp [hf.dcells, List.range_succ, hf.dg]
  omega
theorem nlen10 : hf.nlen 10 = 1 := hf.nlen_eq ⟨by decide, Or.inr (by decide)⟩
theorem mul10 (a : Option Addr) (ca N B : Nat) (w : World) (ha : Sl w a (hf.nlen N) ca (hf.dcells (hf.nlen N) (N : Int))) (hlu : hf.nlen N ≤ 100000000) (hb : Sl w (some ⟨B, 0, none⟩) 1 1 [.int .i64 10]) :
    Calls Tryd.prog 17 #[.slice a (hf.nlen N) ca, .slice (some ⟨B, 0, none⟩) 1 1] w fun e w' => ∃ a' cap', e = .returned (.slice a' (hf.nlen (N * 10)) cap') ∧ Own w' w.heap.size 3 a' (hf.nlen (N * 10)) cap' (hf.dcells (hf.nlen (N * 10)) ((N * 10 : Nat) : Int)) ∧ Below w.heap.size w w' := by
  have h := rmul_any a (some ⟨B, 0, none⟩) ca 1 N 10 w ha (by rw [nlen10]; rw [hf_cell 10 (by decide)]; exact hb) (by omega) (by rw [nlen10]; decide)
  rw [nlen10] at h
  exact h
theorem trim1 (d B base : Nat) (w : World) (hd : d < 65536) {dv : Int} (hdv : dv = (d : Int)) (hown : Own w base 3 (some ⟨B, 0, none⟩) 1 1 [.int .i64 dv]) :
    Calls Tryd.prog 33 #[.slice (some ⟨B, 0, none⟩) 1 1] w fun e w' => e = .returned (.slice (some ⟨B, 0, none⟩) (hf.nlen d) 1) ∧ w = w' ∧ Sl w (some ⟨B, 0, none⟩) (hf.nlen d) 1 (hf.dcells (hf.nlen d) (d : Int)) := by
  subst hdv
  rw [← hf_cell d hd] at hown
  refine (rtrim_own _ 1 1 d base w hown (by simpa using hd)).mono ?_
  rintro e w' ⟨rfl, hw, h⟩
  exact ⟨rfl, hw, Own.sl h⟩
theorem own_one (w : World) (x : Int) (T : TypeId) : Own (w.alloc (.cells #[.int .i64 x] T)) w.heap.size T (some ⟨w.heap.size, 0, none⟩) 1 1 [.int .i64 x] := World.ownsRow_lit w _ 1 (Nat.le_refl _) (by decide) rfl
theorem own_one' (w : World) (o : Obj) (x : Int) (T : TypeId) : Own ((w.alloc o).alloc (.cells #[.int .i64 x] T)) 0 T (some ⟨w.heap.size + 1, 0, none⟩) 1 1 [.int .i64 x] := by
  have h := (own_one (w.alloc o) x T).mono (Nat.zero_le _)
  have e : (w.alloc o).heap.size = w.heap.size + 1 := by simp
  rw [e] at h
  exact h
theorem hf_ten {N : Nat} (h : hf.nlen N ≤ 2000) : hf.nlen (N * 10) ≤ 1000000000 := by
  have : hf.nlen (N * 10) ≤ hf.nlen N + 1 := hf.nlen_le (by have := hf.nlen_lt N; rw [Nat.pow_succ]; omega)
  omega
theorem Below.then {a b c : World} (h : Below a.heap.size a b) (k : Below b.heap.size b c) : Below a.heap.size a c := h.trans (k.mono h.size)
theorem Below.more {a b : World} (h : Below a.heap.size a b) (o : Obj) : Below a.heap.size a (b.alloc o) := h.alloc h.size o
/-- What holds at the head of each round of the second loop. -/
def PRel (w : World) (s : ByteArray) (o i : Value) (wr : World) : Prop := ∃ (k N cap : Nat) (ao : Option Addr), k ≤ s.size ∧ i = .int .i64 (k : Int) ∧ o = .slice ao (hf.nlen N) cap ∧ Hid (rdN ((nums s).take k) = N) ∧ hf.nlen N ≤ 2000 ∧ Own wr w.heap.size 3 ao (hf.nlen N) cap (hf.dcells (hf.nlen N) (N : Int)) ∧ Below w.heap.size w wr
theorem p_next {w w6 : World} {s : ByteArray} {j N d cn B : Nat} {an : Option Addr} (hlt : j < s.size) (HR : Hid (∀ k, k ≤ s.size → rdN ((nums s).take k) < 10 ^ k)) (hl : s.size ≤ 2000) (HN : Hid (rdN ((nums s).take j) = N)) (HDD : Hid ((s[j].toNat : Int) - 48 = (d : Int))) (hown : Own w6 B 3 an (hf.nlen (N * 10 + d)) cn (hf.dcells (hf.nlen (N * 10 + d)) ((N * 10 + d : Nat) : Int))) (hB : w.heap.size ≤ B) (hb : Below w.heap.size w w6) :
    PRel w s (.slice an (hf.nlen (N * 10 + d)) cn) (.int .i64 ((j : Int) + 1)) w6 := by
  have e : rdN ((nums s).take (j + 1)) = N * 10 + d := by rw [nums_take s j hlt, rdN_snoc, HN.out, HDD.out]; omega
  refine ⟨j + 1, N * 10 + d, cn, an, by omega, by simp, rfl, e, ?_, hown.mono hB, hb⟩
  have h1 := HR.out (j + 1) (by omega)
  rw [e] at h1
  exact Nat.le_trans (hf.nlen_le (Nat.lt_of_lt_of_le h1 (Nat.pow_le_pow_left (by decide) _))) (by omega)
set_option maxRecDepth 100000 in
set_option maxHeartbeats 8000000 in
theorem rparse_num (s : ByteArray) (w : World) (h : showsB (nums s) = true) (hl : s.size ≤ 2000) :
    Calls Tryd.prog 32 #[.string s] w fun e w' => ∃ a cap, e = .returned (.tuple #[.slice a (hf.nlen (rdN (nums s))) cap, .int .i64 0]) ∧ Own w' w.heap.size 3 a (hf.nlen (rdN (nums s))) cap (hf.dcells (hf.nlen (rdN (nums s))) (rdN (nums s) : Int)) ∧ Below w.heap.size w w' := by
  have hsh : (0 < s.size) ∧ (s.size ≤ 1 ∨ (1 < s.size ∧ ∀ h0 : 0 < s.size, (s[0].toNat : Int) ≠ 48)) ∧ ∀ k (hk : k < s.size), 48 ≤ (s[k].toNat : Int) ∧ (s[k].toNat : Int) ≤ 57 := by
    unfold showsB at h
    obtain ⟨h1, h2, h3⟩ := of_decide_eq_true h
    refine ⟨?_, ?_, fun k hk => h3 _ (List.mem_of_getElem? (nums_at s k hk))⟩
    · rw [← nums_length, List.length_pos_iff]; exact h1
    · rcases Nat.lt_or_ge 1 s.size with h4 | h4
      · refine Or.inr ⟨h4, fun h0 e => h2 ⟨by rw [nums_length]; exact h4, by rw [nums_head s h0, e]⟩⟩
      · exact Or.inl h4
  obtain ⟨h0, h1, hd⟩ := hsh
  have HD : Hid _ := hd
  have HR : Hid (∀ k, k ≤ s.size → rdN ((nums s).take k) < 10 ^ k) := fun k hk => by
    refine rdN_lt k _ (by rw [List.length_take, nums_length]; omega) fun c hc => ?_
    unfold showsB at h
    exact (of_decide_eq_true h).2.2 c (List.mem_of_mem_take hc)
  have he := isEmpty_no h0
  clear hd h
  go_enter Tryd.func32, Tryd.ntmps32
  go_wp2
  go_loop [5] (fun i => ∃ k : Nat, k ≤ s.size ∧ i = .int .i64 (k : Int)) (fun i => s.size - (intOf i).toNat)
  case atStart => exact ⟨0, by omega, rfl⟩
  case round =>
    obtain ⟨k, hk, rfl⟩ := hrel
    by_cases hlt : k < s.size
    · obtain ⟨d0, d1⟩ := HD.out k hlt
      go_wp2
      go_round
      case rel => exact ⟨k + 1, by omega, by simp⟩
      case measure => simp [intOf]; omega
    · have h48 : (((s[0].toNat : Int) == 48) = true ∧ s.size ≤ 1) ∨ ((s[0].toNat : Int) == 48) = false := by
        rcases hb : ((s[0].toNat : Int) == 48) with _ | _
        · exact Or.inr rfl
        · rcases h1 with h | ⟨_, h⟩
          · exact Or.inl ⟨rfl, h⟩
          · exact absurd (by simpa using hb) (h h0)
      clear h1
      rcases h48 with ⟨h48, h481⟩ | h48
      all_goals
        go_wp2
        go_loopw [4, 6] (fun o i wr => PRel w s o i wr) (fun _ i _ => s.size - (intOf i).toNat)
        case atStart => exact ⟨0, 0, 0, _, by omega, rfl, by rw [hf.nlen_zero], by simp [Hid, rdN], by rw [hf.nlen_zero]; omega, by rw [hf.nlen_zero]; exact own_empty w w.heap.size 3 (Nat.le_refl _), (Below.refl _ _).alloc (Nat.le_refl _) _⟩
        case round =>
          obtain ⟨j, N, cap, ao, hj, rfl, rfl, HN, hlN, hown, hbel⟩ := hrel
          by_cases hlt : j < s.size
          · obtain ⟨d0, d1⟩ := HD.out j hlt
            have hsl := Own.sl hown
            obtain ⟨d, hd⟩ : ∃ d : Nat, (s[j].toNat : Int) - 48 = (d : Int) := ⟨((s[j].toNat : Int) - 48).toNat, by omega⟩
            have E : IntKind.i64.wrap (IntKind.u8.wrap ((s[j].toNat : Int) - 48)) = (d : Int) := by rw [hd, IntKind.wrap_u8', IntKind.wrap_i64]; omega
            have hd10 : d < 10 := by omega
            have HDD : Hid _ := hd
            have b1 : Below wr.heap.size wr (wr.alloc (.cells #[.int .i64 10] 3)) := (Below.refl _ _).alloc (Nat.le_refl _) _
            have b2 : Below wr.heap.size wr ((wr.alloc (.cells #[.int .i64 (d : Int)] 3)).alloc (.cells #[.int .i64 10] 3)) := ((Below.refl _ _).alloc (Nat.le_refl _) _).alloc (by simp) _
            have b3 : Below wr.heap.size wr ((wr.alloc (.cells #[.int .i64 10] 3)).alloc (.cells #[.int .i64 (d : Int)] 3)) := ((Below.refl _ _).alloc (Nat.le_refl _) _).alloc (by simp) _
            have fM : hf.nlen (N * 10) ≤ 1000000000 := hf_ten hlN
            have fD : hf.nlen d ≤ 1000000000 := Nat.le_trans (hf.nlen_le (n := 1) (by omega)) (by decide)
            have HoD : Hid _ := fun w0 : World => own_one w0 (d : Int) 3
            have HoE : Hid _ := fun (w0 : World) (o : Obj) => own_one' w0 o (d : Int) 3
            have HtE : Hid _ := fun (w0 : World) (o : Obj) => Own.sl (own_one' w0 o 10 3)
            clear hd
            go_wp2
            go_region_with (first
              | (go_at_call 17; refine (mul10 ao cap N _ _ (hsl.below (by with_reducible (repeat (first | assumption | exact Below.refl _ _ | refine Below.drew ?_ | refine Below.more ?_ _)))) (by omega) (by with_reducible first | exact (sl_new wr 10 3) | exact (sl_new wr 10 3).below (by with_reducible (repeat (first | assumption | exact Below.refl _ _ | refine Below.drew ?_ | refine Below.more ?_ _))) | exact HtE.out wr _ | exact (HtE.out wr _).below (by with_reducible (repeat (first | assumption | exact Below.refl _ _ | refine Below.drew ?_ | refine Below.more ?_ _))))).mono ?_; rintro e w5 ⟨am, cm, rfl, hown5, hbel5⟩)
              | (go_at_call 33; refine (trim1 d _ 0 _ (by omega) rfl (by with_reducible first | exact (HoD.out w5).mono (Nat.zero_le _) | exact (Own.below (HoD.out w5) (by with_reducible (repeat (first | assumption | exact Below.refl _ _ | refine Below.drew ?_ | refine Below.more ?_ _)))).mono (Nat.zero_le _) | exact (Own.below (Own.below (HoD.out wr) (by with_reducible (repeat (first | assumption | exact Below.refl _ _ | refine Below.drew ?_ | refine Below.more ?_ _)))) hbel5).mono (Nat.zero_le _) | exact Own.below (HoE.out wr _) hbel5 | exact Own.below (Own.below (HoE.out wr _) (by with_reducible (repeat (first | assumption | exact Below.refl _ _ | refine Below.drew ?_ | refine Below.more ?_ _)))) hbel5)).mono ?_; rintro e w' ⟨rfl, hw, sD⟩; subst hw)
              | (go_at_call 15; refine (radd_any am _ cm 1 (N * 10) d _ ((Own.sl hown5).below (by with_reducible (repeat (first | assumption | exact Below.refl _ _ | refine Below.drew ?_ | refine Below.more ?_ _)))) sD fM fD).mono ?_; rintro e w6 ⟨an, cn, rfl, hown6, hbel6⟩))
            all_goals
              go_wp2
              go_round
              case rel =>
                have c6 : Below w.heap.size w _ := Below.then (by with_reducible (repeat (first | assumption | exact Below.refl _ _ | refine Below.drew ?_ | refine Below.more ?_ _ | refine Below.then ?_ hbel5))) hbel6
                exact p_next hlt HR hl HN HDD hown6 (Below.size (B := w.heap.size) (by with_reducible (repeat (first | assumption | exact Below.refl _ _ | refine Below.drew ?_ | refine Below.more ?_ _ | refine Below.then ?_ hbel5)))) c6
              case measure => simp [intOf]; omega
          · have HF : Hid (rdN (nums s) = N) := by
              have h := HN.out
              rw [List.take_of_length_le (by rw [nums_length]; omega)] at h
              exact h
            go_wp2
            go_ret2
            rw [HF.out]
            exact ⟨ao, cap, rfl, hown, hbel⟩
end Go.Proofs.YteoepelmapjhcaaDoor
