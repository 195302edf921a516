/-
  What package quad's text answers: the number's hexadecimal digits.
-/
import Derived.Test.YtjlndalcaepofaaQuadH
import Derived.Laws.BytesArg
import Derived.WalkSmall
namespace Go.Proofs.Ytjlndalcaepofaa
open Go.RowKit
set_option linter.unusedVariables false

theorem mask15 (q' : Nat) : bits .and .u64 (q.dg (q' : Int) 0) 15 = ((q' % 16 : Nat) : Int) := by
  have e : q.dg (q' : Int) 0 = ((q' % 18446744073709551616 : Nat) : Int) := by rw [qdg0]; omega
  rw [e]
  have h := bits_and_u64_nat (q' % 18446744073709551616) 15 (by omega) (by omega)
  have e2 : q' % 18446744073709551616 &&& 15 = q' % 18446744073709551616 % 16 := Nat.and_two_pow_sub_one_eq_mod _ 4
  rw [e2] at h
  have e3 : q' % 18446744073709551616 % 16 = q' % 16 := by omega
  rw [e3] at h
  exact h
theorem hexByte (d : Nat) (h : d < (⟨#[48, 49, 50, 51, 52, 53, 54, 55, 56, 57, 97, 98, 99, 100, 101, 102]⟩ : ByteArray).size) : (((⟨#[48, 49, 50, 51, 52, 53, 54, 55, 56, 57, 97, 98, 99, 100, 101, 102]⟩ : ByteArray)[d]).toNat : Int) = x.hexc d := by
  have h' : d < 16 := h
  have : d = 0 ∨ d = 1 ∨ d = 2 ∨ d = 3 ∨ d = 4 ∨ d = 5 ∨ d = 6 ∨ d = 7 ∨ d = 8 ∨ d = 9 ∨ d = 10 ∨ d = 11 ∨ d = 12 ∨ d = 13 ∨ d = 14 ∨ d = 15 := by omega
  rcases this with h | h | h | h | h | h | h | h | h | h | h | h | h | h | h | h <;> (subst h; rfl)
theorem conv (W : World) (tb p n : Nat) (l : List Int) (h : l.length = n) (hr : Row W tb (x.cellsD p l)) : (convert 60 9 (.slice (some ⟨tb, p, none⟩) n n)).run Try.prog W = .ok (.string (strOfNums l)) W :=
  run_convert_bytes_arg W 60 5 Try.underlying60 Try.underlying5 tb p n n l h (fun i hi => hr.cell _ _ (x.cellsD_read p l i (by omega))) 9 Try.underlying9
theorem slice65 (tb p n : Nat) (i : Int) (hi : i = (p : Int)) (h : p + n = 65) (h0 : 0 < n) (w : World) : (Instr.sliceAt 59 (.pointer (some ⟨tb, 0, none⟩)) (some (.int .i64 i)) none none).run Try.prog w = .ok (.slice (some ⟨tb, p, none⟩) n n) w := by
  subst hi
  obtain rfl : n = 65 - p := by omega
  have h' : (p : Int) ≤ 65 := by omega
  have hn : ¬ 65 = p := by omega
  have key := run_sliceAt_array_l (P := Try.prog) w 59 ⟨tb, 0, none⟩ Try.underlying59 .i64 (p : Int) (by omega) (by simpa [Program.arrayLen, Try.underlying59] using h')
  rw [key]
  simp [Program.arrayLen, Program.elem, Try.underlying59, slicedAt, go_sem, hn]
theorem zero65 (w : World) : (zeroValue 59).run Try.prog w = .ok (.agg (List.replicate 65 (Value.int .u8 0)).toArray) w := by kernel_rfl
theorem ret_string {a b : ByteArray} (h : a = b) : Ending.returned (.string a) = .returned (.string b) := by rw [h]

/-- What holds at the head of each round of the loop: the number, what is left of it, the digits so far. -/
structure HexRel (w : World) (a : Int) (m p rb tb : Nat) (wr : World) : Prop where
  ra : Row wr w.heap.size (q.dcells 4 a)
  rr : Row wr rb (q.dcells 4 ((m / 16 ^ (65 - p) : Nat) : Int))
  rt : Row wr tb (x.cellsD p (x.digs (65 - p) m))
  bel : Below w.heap.size w wr
  s1 : w.heap.size < rb
  s2 : rb < tb
  size : tb < wr.heap.size
  len : 65 - p ≤ 1 ∨ 16 ^ (65 - p - 1) ≤ m
theorem hexRel_start {w w1 : World} {a : Int} {m : Nat} (t t' : TypeId) (hb : Below (w.alloc (.cells #[.int .u64 (q.dg a 0), .int .u64 (q.dg a 1), .int .u64 (q.dg a 2), .int .u64 (q.dg a 3)] t)).heap.size (w.alloc (.cells #[.int .u64 (q.dg a 0), .int .u64 (q.dg a 1), .int .u64 (q.dg a 2), .int .u64 (q.dg a 3)] t)) w1) :
    HexRel w a m 65 w1.heap.size (w1.heap.size + 1) ((w1.alloc (.cells #[.int .u64 (q.dg (m : Int) 0), .int .u64 (q.dg (m : Int) 1), .int .u64 (q.dg (m : Int) 2), .int .u64 (q.dg (m : Int) 3)] t)).alloc (.cells (List.replicate 65 (Value.int .u8 0)).toArray t')) := by
  have hs := hb.size
  rw [World.size_alloc] at hs
  have h0 := ((Row.new w [.int .u64 (q.dg a 0), .int .u64 (q.dg a 1), .int .u64 (q.dg a 2), .int .u64 (q.dg a 3)] t).below hb (by simp)).cells (qcells a).symm
  have h1 := (Row.new w1 [.int .u64 (q.dg (m : Int) 0), .int .u64 (q.dg (m : Int) 1), .int .u64 (q.dg (m : Int) 2), .int .u64 (q.dg (m : Int) 3)] t).alloc (.cells (List.replicate 65 (Value.int .u8 0)).toArray t') (by simp)
  have h2 := Row.new (w1.alloc (.cells #[.int .u64 (q.dg (m : Int) 0), .int .u64 (q.dg (m : Int) 1), .int .u64 (q.dg (m : Int) 2), .int .u64 (q.dg (m : Int) 3)] t)) (List.replicate 65 (Value.int .u8 0)) t'
  rw [World.size_alloc] at h2
  refine ⟨(h0.alloc _ (by omega)).alloc _ (by simp; omega), h1.cells (by rw [qcells]; simp), h2.cells (by simp [x.cellsD, x.digs]), ?_, by omega, by omega, by simp, by omega⟩
  exact ((((Below.refl _ _).alloc (Nat.le_refl _) _).trans (hb.mono (by simp))).alloc (by omega) _).alloc (by simp; omega) _
theorem pow_step (m p : Nat) (hp : p + 1 ≤ 65) : m / 16 ^ (65 - p) = m / 16 ^ (65 - (p + 1)) / 16 := by
  have e : 65 - p = 65 - (p + 1) + 1 := by omega
  rw [e, Nat.pow_succ, Nat.div_div_eq_div_mul]
theorem hexRel_next {w wr w2 : World} {a : Int} {m p rb tb q' : Nat} (h : HexRel w a m (p + 1) rb tb wr) (hp : p + 1 ≤ 65) (hq : q' = m / 16 ^ (65 - (p + 1))) (hgo : p + 1 = 65 ∨ q' ≠ 0)
    (hb : Below (wr.setCell ⟨tb, p, none⟩ (.int .u8 (x.hexc (q' % 16)))).heap.size (wr.setCell ⟨tb, p, none⟩ (.int .u8 (x.hexc (q' % 16)))) w2) :
    HexRel w a m p rb tb ((((w2.setCell ⟨rb, 0, none⟩ (.int .u64 (q.dg ((q' : Int) / 16) 0))).setCell ⟨rb, 1, none⟩ (.int .u64 (q.dg ((q' : Int) / 16) 1))).setCell ⟨rb, 2, none⟩ (.int .u64 (q.dg ((q' : Int) / 16) 2))).setCell ⟨rb, 3, none⟩ (.int .u64 (q.dg ((q' : Int) / 16) 3))) := by
  obtain ⟨ra, rr, rt, bel, s1, s2, size, len⟩ := h
  have hs := hb.size
  have hbel := bel.size
  have hz : (wr.setCell ⟨tb, p, none⟩ (.int .u8 (x.hexc (q' % 16)))).heap.size = wr.heap.size := by simp
  rw [hz] at hb hs
  have ra1 := (ra.other (i := p) (.int .u8 (x.hexc (q' % 16))) (show tb ≠ w.heap.size by omega)).below hb (by omega)
  have rr1 := (rr.other (i := p) (.int .u8 (x.hexc (q' % 16))) (show tb ≠ rb by omega)).below hb (by omega)
  have rt1 := ((rt.set p (.int .u8 (x.hexc (q' % 16))) (by rw [x.cellsD_length]; omega)).below hb (by omega)).cells (x.cellsD_set _ _ _)
  have e : 65 - p = 65 - (p + 1) + 1 := by omega
  refine ⟨(((ra1.other _ (by omega)).other _ (by omega)).other _ (by omega)).other _ (by omega), ?_, ?_, ?_, s1, s2, by simp; omega, ?_⟩
  · have r := (((rr1.set 0 (.int .u64 (q.dg ((q' : Int) / 16) 0)) (by rw [q.dcells_length]; decide)).set 1 (.int .u64 (q.dg ((q' : Int) / 16) 1)) (by simp [q.dcells_length])).set 2 (.int .u64 (q.dg ((q' : Int) / 16) 2)) (by simp [q.dcells_length])).set 3 (.int .u64 (q.dg ((q' : Int) / 16) 3)) (by simp [q.dcells_length])
    refine r.cells ?_
    rw [pow_step m p hp, ← hq, qcells, qcells]
    simp
  · refine ((((rt1.other _ (by omega)).other _ (by omega)).other _ (by omega)).other _ (by omega)).cells ?_
    rw [e, x.digs, ← hq]
  · exact ((((bel.setCell (by show _ ≤ tb; omega) _).trans (hb.mono (by omega))).setCell (by show _ ≤ rb; omega) _).setCell (by show _ ≤ rb; omega) _).setCell (by show _ ≤ rb; omega) _ |>.setCell (by show _ ≤ rb; omega) _
  · rcases hgo with h | h
    · exact Or.inl (by omega)
    · right
      have := x.le_of_div_ne hq h
      have e3 : 65 - p - 1 = 65 - (p + 1) := by omega
      rw [e3]; exact this
/-- What the text is when the loop is left. -/
theorem hexRel_text {m p : Nat} {a : Int} (hm : a.natAbs = m) (hm' : m ≤ 57896044618658097711785492504343953926634992332820282019728792003956564819968) (hp : p < 65) (hq : m / 16 ^ (65 - p) = 0) (hl : 65 - p ≤ 1 ∨ 16 ^ (65 - p - 1) ≤ m) :
    x.hexI a = (if a < 0 then [45] else []) ++ x.digs (65 - p) m := by
  unfold x.hexI
  rw [hm, x.ndig_eq (by omega) (x.isLen_of (by omega) hq hl)]

set_option maxHeartbeats 400000 in
theorem qhex_any {a0 a1 a2 a3 : Int} (a : Int) (ha : Wd a a0 a1 a2 a3) (h0 : -57896044618658097711785492504343953926634992332820282019728792003956564819968 ≤ a) (h1 : a < 57896044618658097711785492504343953926634992332820282019728792003956564819968) (w : World) :
    Calls Try.prog 25 #[.agg #[.int .u64 a0, .int .u64 a1, .int .u64 a2, .int .u64 a3]] w fun e w' => e = .returned (.string (x.hexS a)) ∧ Below w.heap.size w w' := by
  obtain ⟨rfl, rfl, rfl, rfl⟩ := ha
  obtain ⟨m, hm⟩ : ∃ m, a.natAbs = m := ⟨_, rfl⟩
  have hm' : m ≤ 57896044618658097711785492504343953926634992332820282019728792003956564819968 := by omega
  have Hm : Hid (a.natAbs = m) := hm
  have HB : Hid _ := fun w => isBelow_any a (wd_self a) h0 h1 w
  have HM : Hid _ := fun w => magnitude_any a m hm (wd_self a) h0 h1 w
  clear h0 h1 hm
  have Z := zero65
  go_enter Try.func25, Try.ntmps25
  go_wp2_with (go_at_call 37; refine (HM.out _).mono ?_; rintro e w1 ⟨rfl, hb⟩)
  clear Z
  have HS : Hid _ := hexRel_start (m := m) 24 59 hb
  go_loopw [5] (fun f wr => ∃ p : Nat, p ≤ 65 ∧ f = .int .i64 (p : Int) ∧ HexRel w a m p w1.heap.size (w1.heap.size + 1) wr) (fun f _ => (intOf f).toNat)
  case atStart => exact ⟨65, by omega, rfl, HS.out⟩
  case round =>
    clear HS hb
    obtain ⟨p, hp, rfl, hr⟩ := hrel
    obtain ⟨q', hq⟩ : ∃ q', q' = m / 16 ^ (65 - p) := ⟨_, rfl⟩
    have hqm : q' ≤ m := by rw [hq]; exact Nat.div_le_self _ _
    by_cases c3 : p < 65 ∧ q' = 0
    · obtain ⟨c1, rfl⟩ := c3
      have rr := hr.rr
      rw [← hq] at rr
      have rr := rr.cells qcells_0
      obtain ⟨r0, r1, r2, r3, _, _, _, _⟩ := row4 rr
      obtain ⟨x0, x1, x2, x3, _, _, _, _⟩ := row4 (hr.ra.cells (qcells a))
      have T : Hid _ := hexRel_text Hm.out hm' c1 hq.symm hr.len
      have Q5 := fun w => (quad_eq 0 0 0 0 0 0 0 0 w).trans (by rw [show ((0 : Int) == 0 && ((0 : Int) == 0 && ((0 : Int) == 0 && (0 : Int) == 0))) = true by decide])
      have c2 : ((p : Int) == 65) = false := by simp; omega
      by_cases hneg : a < 0
      · have D : decide (a < 0) = true := by simpa using hneg
        have p1 : 1 ≤ p := by
          rcases Nat.lt_or_ge 0 p with h | h
          · exact h
          · exfalso
            obtain rfl : p = 0 := by omega
            rcases hr.len with h | h
            · omega
            · have : (16 : Nat) ^ (65 - 0 - 1) = 115792089237316195423570985008687907853269984665640564039457584007913129639936 := by decide
              omega
        obtain ⟨p, rfl⟩ : ∃ p', p = p' + 1 := ⟨p - 1, by omega⟩
        have HR : Hid _ := hr
        have hsl := slice65 (w1.heap.size + 1) p (65 - p) (p : Int) rfl (by omega) (by omega)
        have hpl : (p : Int) < 65 := by omega
        clear hr rr hq
        go_wp2_with (go_at_call 36; refine (HB.out _).mono ?_; rw [D]; rintro e w2 ⟨rfl, hb2⟩; have hfr : w2.frozen? ⟨w1.heap.size + 1, p, none⟩ = false := (HR.out.rt.below hb2 HR.out.size).free _ (by rw [x.cellsD_length]; omega); have hce : w2.cell? ⟨w1.heap.size + 1, p, none⟩ = some (.int .u8 0) := (HR.out.rt.below hb2 HR.out.size).cell _ _ (x.cellsD_at _ _); have hcv := conv _ (w1.heap.size + 1) p (65 - p) _ (by simp [x.digs_length]; omega) (((HR.out.rt.below hb2 HR.out.size).set p (.int .u8 45) (by rw [x.cellsD_length]; omega)).cells (x.cellsD_set _ _ _)))
        go_ret
        exact ⟨ret_string (by rw [x.hexS, T.out, if_pos hneg, show 65 - (p + 1) = 64 - p by omega]; rfl), (HR.out.bel.trans (hb2.mono HR.out.bel.size)).setCell (by show _ ≤ w1.heap.size + 1; have := HR.out.s1; omega) _⟩
      · have D : decide (a < 0) = false := by simpa using hneg
        have HR : Hid _ := hr
        have hsl := slice65 (w1.heap.size + 1) p (65 - p) (p : Int) rfl (by omega) (by omega)
        clear hr rr hq
        go_wp2_with (go_at_call 36; refine (HB.out _).mono ?_; rw [D]; rintro e w2 ⟨rfl, hb2⟩; have hcv := conv w2 (w1.heap.size + 1) p (65 - p) _ (by simp [x.digs_length]) (HR.out.rt.below hb2 HR.out.size))
        go_ret
        exact ⟨ret_string (by rw [x.hexS, T.out, if_neg (by omega)]; rfl), HR.out.bel.trans (hb2.mono HR.out.bel.size)⟩
    · have hp1 : 2 ≤ p := by
        rcases Nat.lt_or_ge 1 p with h | h
        · exact h
        · exfalso
          rw [x.pow64 m _ hm' (by omega)] at hq
          omega
      obtain ⟨p, rfl⟩ : ∃ p', p = p' + 1 := ⟨p - 1, by omega⟩
      have hfr : wr.frozen? ⟨w1.heap.size + 1, p, none⟩ = false := hr.rt.free _ (by rw [x.cellsD_length]; omega)
      have hce : wr.cell? ⟨w1.heap.size + 1, p, none⟩ = some (.int .u8 0) := hr.rt.cell _ _ (x.cellsD_at _ _)
      have rr := hr.rr
      rw [← hq, qcells] at rr
      obtain ⟨r0, r1, r2, r3, g0, g1, g2, g3⟩ := row4 rr
      have hby := hexByte (q' % 16) (Nat.mod_lt q' (by decide))
      have k1 : w1.heap.size < wr.heap.size := by have := hr.size; omega
      have mk := mask15 q'
      have HN : Hid _ := fun w2 hb => hexRel_next (w2 := w2) hr hp hq (by omega) hb
      have HD : Hid _ := fun w => dropDigit_any (q' : Int) (by omega) (by omega) w
      have hpl : (p : Int) < 65 := by omega
      clear rr hr hq
      by_cases c1 : p + 1 = 65
      · obtain rfl : p = 64 := by omega
        go_wp2_with (go_at_call 38; refine (HD.out _).mono ?_; rintro e w2 ⟨rfl, hb2⟩; obtain ⟨hc2, hf2⟩ := bcell hb2)
        go_roundw
        case rel => exact ⟨64, by omega, by simp, HN.out w2 hb2⟩
        case measure => simp [intOf]
      · have c2 : ((p : Int) + 1 == 65) = false := by simp; omega
        have N : (q.dg (q' : Int) 0 == 0 && (q.dg (q' : Int) 1 == 0 && (q.dg (q' : Int) 2 == 0 && q.dg (q' : Int) 3 == 0))) = false := by
          rw [Bool.eq_false_iff]
          intro h'
          simp at h'
          have := split4 (q' : Int)
          omega
        have Q5 := fun w => (quad_eq (q.dg (q' : Int) 0) (q.dg (q' : Int) 1) (q.dg (q' : Int) 2) (q.dg (q' : Int) 3) 0 0 0 0 w).trans (by rw [N])
        clear N c1
        go_wp2_with (go_at_call 38; refine (HD.out _).mono ?_; rintro e w2 ⟨rfl, hb2⟩; obtain ⟨hc2, hf2⟩ := bcell hb2)
        go_roundw
        case rel => exact ⟨p, by omega, by simp, HN.out w2 hb2⟩
        case measure => simp [intOf]
end Go.Proofs.Ytjlndalcaepofaa
