/-
  Joined texts, part 6:
  What nat's foresee answers.
  What nat's between, nearer and Gcd answer.
  What nat's Gcd answers.
  What zelligeref03 answers, with letters for the lengths.
  What zelligeref03's Gcd answers: the greatest common divisor, by halves and differences.
-/
import Derived.Test.YtjdphcdpgjdmkaaDoorP5
import Derived.Test.YtjdphcdpgjdmkaaDoorP1
import Derived.BigQuiet
import Derived.Deep.LoopGhost
import Derived.Test.YtjdphcdpgjdmkaaDoorP3
import Derived.Test.YtjdphcdpgjdmkaaDoorP4
namespace Go.Proofs.YtjdphcdpgjdmkaaDoor
open Go.RowKit
set_option linter.unusedVariables false

/-- What is told: short factors, and, where there is a factor for B, what they leave of A and B. -/
structure ForeOut (A B p0 p1 q0 q1 : Nat) (ev : Bool) : Prop where
  hp0 : p0 < 4294967296
  hp1 : p1 < 4294967296
  hq0 : q0 < 4294967296
  hq1 : q1 < 4294967296
  out : q0 ≠ 0 → 0 ≤ sgv ev * (p1 * A - q1 * B) ∧ sgv ev * (p1 * A - q1 * B) < - sgv ev * (p0 * A - q0 * B) ∧ - sgv ev * (p0 * A - q0 * B) ≤ B ∧ (p0 : Int) * q1 - p1 * q0 = - sgv ev
theorem Fore.told {A B p0 p1 q0 q1 : Nat} {x y a b pn qn : Int} {ev : Bool} (h : Fore A B x y a b p0 p1 pn q0 q1 qn ev) : ForeOut A B p0 p1 q0 q1 ev :=
  ⟨by have := h.p0l; omega, by have := h.p1l; omega, by have := h.q0l; omega, by have := h.q1l; omega, fun hq => h.out (by omega)⟩
def ForePost (w : World) (A B : Nat) (e : Ending) (w' : World) : Prop := ∃ (p0 p1 q0 q1 : Nat) (ev : Bool), e = .returned (.agg #[.int .u64 (p0 : Int), .int .u64 (p1 : Int), .int .u64 (q0 : Int), .int .u64 (q1 : Int), .bool ev]) ∧ ForeOut A B p0 p1 q0 q1 ev ∧ Below w.heap.size w w'
def foreCells (p0 p1 q0 q1 : Nat) (ev : Bool) : List Value := [.int .u64 (p0 : Int), .int .u64 (p1 : Int), .int .u64 (q0 : Int), .int .u64 (q1 : Int), .bool ev]
/-- What holds at the head of each round. -/
def ForeRel (w : World) (A B x y : Nat) (av bv nA nB : Value) (wr : World) : Prop := ∃ (a b p0 p1 pn q0 q1 qn : Nat) (ev : Bool), av = .int .u64 (a : Int) ∧ bv = .int .u64 (b : Int) ∧ nA = .int .u64 (pn : Int) ∧ nB = .int .u64 (qn : Int) ∧ Hid (Fore A B x y a b p0 p1 pn q0 q1 qn ev) ∧ a < 18446744073709551616 ∧ b ≤ a ∧
  Row wr (w.heap.size + 1) (foreCells p0 p1 q0 q1 ev) ∧ Row wr w.heap.size (foreCells 0 0 0 0 false) ∧ Below w.heap.size w wr
theorem fore_cells {wr : World} {b p0 p1 q0 q1 pn qn : Nat} {ev : Bool} (n : Nat) (h : Row wr b (foreCells p0 p1 q0 q1 ev)) :
    Row ((((((wr.drewN n).setCell ⟨b, 0, none⟩ (.int .u64 (p1 : Int))).setCell ⟨b, 1, none⟩ (.int .u64 (pn : Int))).setCell ⟨b, 2, none⟩ (.int .u64 (q1 : Int))).setCell ⟨b, 3, none⟩ (.int .u64 (qn : Int))).setCell ⟨b, 4, none⟩ (.bool (!ev))) b (foreCells p1 pn q1 qn (!ev)) :=
  (((((h.drewN n).set 0 _ (by simp [foreCells])).set 1 _ (by simp [foreCells])).set 2 _ (by simp [foreCells])).set 3 _ (by simp [foreCells])).set 4 _ (by simp [foreCells])
theorem below_drewN {B : Nat} {w wr : World} (h : Below B w wr) (n : Nat) : Below B w (wr.drewN n) := ⟨h.os, h.tape, h.output, h.size, h.block⟩
set_option maxRecDepth 100000 in
set_option maxHeartbeats 2000000 in
theorem foresee_any (A B x y F al be : Nat) (w : World) (hyx : y ≤ x) (hx : x < 18446744073709551616) (hA : A = x * F + al) (hB : B = y * F + be) (hal : al < F) (hbe : be < F) :
    Calls Tryd.prog 36 #[.int .u64 (x : Int), .int .u64 (y : Int)] w (ForePost w A B) := by
  have HA : Hid ((A : Int) = (x : Int) * F + al) := by unfold Hid; rw [hA]; simp
  have HB : Hid ((B : Int) = (y : Int) * F + be) := by unfold Hid; rw [hB]; simp
  have HS : Hid (Fore A B x y x y ((0 : Nat) : Int) ((1 : Nat) : Int) ((0 : Nat) : Int) ((0 : Nat) : Int) ((0 : Nat) : Int) ((1 : Nat) : Int) false) := fore_start A B x y (by omega) (by omega)
  clear hA hB
  go_enter Tryd.func36, Tryd.ntmps36
  go_wp2
  go_loopw [0, 1, 6, 7] (fun av bv nA nB wr => ForeRel w A B x y av bv nA nB wr) (fun _ bv _ _ _ => (intOf bv).toNat)
  case atStart =>
    refine ⟨x, y, 0, 1, 0, 0, 0, 1, false, rfl, rfl, rfl, rfl, HS.out, hx, hyx, ?_, ?_, ?_⟩
    · have := Row.new (w.alloc (.cells #[.int .u64 0, .int .u64 0, .int .u64 0, .int .u64 0, .bool false] 61)) (foreCells 0 1 0 0 false) 61
      simpa [foreCells] using this
    · have := (Row.new w (foreCells 0 0 0 0 false) 61).alloc (.cells (foreCells 0 1 0 0 false).toArray 61) (by simp)
      simpa [foreCells] using this
    · exact ((Below.refl _ _).alloc (Nat.le_refl _) _).alloc (by simp) _
  case round =>
    obtain ⟨a, b, p0, p1, pn, q0, q1, qn, ev, rfl, rfl, rfl, rfl, H, ha, hba, hrow, hrow0, hbel⟩ := hrel
    have c0 : wr.cell? ⟨w.heap.size + 1, 0, none⟩ = some (.int .u64 (p0 : Int)) := hrow.cell 0 _ rfl
    have c1 : wr.cell? ⟨w.heap.size + 1, 1, none⟩ = some (.int .u64 (p1 : Int)) := hrow.cell 1 _ rfl
    have c2 : wr.cell? ⟨w.heap.size + 1, 2, none⟩ = some (.int .u64 (q0 : Int)) := hrow.cell 2 _ rfl
    have c3 : wr.cell? ⟨w.heap.size + 1, 3, none⟩ = some (.int .u64 (q1 : Int)) := hrow.cell 3 _ rfl
    have c4 : wr.cell? ⟨w.heap.size + 1, 4, none⟩ = some (.bool ev) := hrow.cell 4 _ rfl
    have f0 : wr.frozen? ⟨w.heap.size + 1, 0, none⟩ = false := hrow.free 0 (by simp [foreCells])
    have f1 : wr.frozen? ⟨w.heap.size + 1, 1, none⟩ = false := hrow.free 1 (by simp [foreCells])
    have f2 : wr.frozen? ⟨w.heap.size + 1, 2, none⟩ = false := hrow.free 2 (by simp [foreCells])
    have f3 : wr.frozen? ⟨w.heap.size + 1, 3, none⟩ = false := hrow.free 3 (by simp [foreCells])
    have f4 : wr.frozen? ⟨w.heap.size + 1, 4, none⟩ = false := hrow.free 4 (by simp [foreCells])
    have z0 : wr.cell? ⟨w.heap.size, 0, none⟩ = some (.int .u64 0) := hrow0.cell 0 _ rfl
    have z1 : wr.cell? ⟨w.heap.size, 1, none⟩ = some (.int .u64 0) := hrow0.cell 1 _ rfl
    have z2 : wr.cell? ⟨w.heap.size, 2, none⟩ = some (.int .u64 0) := hrow0.cell 2 _ rfl
    have z3 : wr.cell? ⟨w.heap.size, 3, none⟩ = some (.int .u64 0) := hrow0.cell 3 _ rfl
    have z4 : wr.cell? ⟨w.heap.size, 4, none⟩ = some (.bool false) := hrow0.cell 4 _ rfl
    have y0 : wr.frozen? ⟨w.heap.size, 0, none⟩ = false := hrow0.free 0 (by simp [foreCells])
    have y1 : wr.frozen? ⟨w.heap.size, 1, none⟩ = false := hrow0.free 1 (by simp [foreCells])
    have y2 : wr.frozen? ⟨w.heap.size, 2, none⟩ = false := hrow0.free 2 (by simp [foreCells])
    have y3 : wr.frozen? ⟨w.heap.size, 3, none⟩ = false := hrow0.free 3 (by simp [foreCells])
    have y4 : wr.frozen? ⟨w.heap.size, 4, none⟩ = false := hrow0.free 4 (by simp [foreCells])
    by_cases t1 : qn ≤ b
    · obtain ⟨r1, r2, r3, r4, r5, r6, r7, r8⟩ := fore_room H.out (by omega) (by omega) (by omega)
      have hqn := H.out.hqn
      have hb0 : ¬ (b : Int) = 0 := by omega
      have t1' : decide ((b : Int) ≥ qn) = true := by simpa using t1
      by_cases t2 : q1 + qn ≤ a - b
      · have HN : Hid _ := fore_next H.out (by omega) (by omega) HA.out HB.out (by omega) (by omega) (by omega) (by omega) (by omega) (by omega)
        obtain ⟨T, hT⟩ : ∃ T, T = a / b := ⟨_, rfl⟩
        obtain ⟨m, hm⟩ : ∃ m, m = a % b := ⟨_, rfl⟩
        have E1 : (a : Int) / (b : Int) = (T : Int) := by rw [hT, Int.natCast_ediv]
        have E2 : (a : Int) % (b : Int) = (m : Int) := by rw [hm, Int.natCast_emod]
        have hmb : m < b := by rw [hm]; exact Nat.mod_lt _ (by omega)
        rw [E1] at r2 r3 r6 r7 r8
        rw [E1, E2] at HN
        have hTa : T < 18446744073709551616 := Nat.lt_of_le_of_lt (hT ▸ Nat.div_le_self a b) ha
        clear hT hm
        have s1 : (0 : Int) ≤ (T : Int) * (pn : Int) := by rw [← Int.natCast_mul]; omega
        have s2 : (0 : Int) ≤ (T : Int) * (qn : Int) := by rw [← Int.natCast_mul]; omega
        obtain ⟨X, hX⟩ : ∃ X, X = T * pn := ⟨_, rfl⟩
        obtain ⟨Y, hY⟩ : ∃ Y, Y = T * qn := ⟨_, rfl⟩
        have EX : (T : Int) * (pn : Int) = (X : Int) := by rw [hX, Int.natCast_mul]
        have EY : (T : Int) * (qn : Int) = (Y : Int) := by rw [hY, Int.natCast_mul]
        rw [EX] at r3 r7 HN
        rw [EY] at r2 r6 HN
        clear hX hY
        have t2' : (q1 : Int) + qn ≤ a - b := by omega
        go_wp2
        go_quiet (fail)
        go_wp2
        go_roundw
        case rel =>
          refine ⟨b, m, p1, pn, p1 + X, q1, qn, q1 + Y, !ev, rfl, by first | rfl | rw [E2], by simp, by simp, ?_, by omega, by omega, ?_, ?_, ?_⟩
          · have := HN.out
            unfold Hid
            simpa using this
          · exact fore_cells _ hrow
          · exact (((((hrow0.drewN _).other _ (by omega)).other _ (by omega)).other _ (by omega)).other _ (by omega)).other _ (by omega)
          · exact (((((below_drewN hbel _).setCell (by show _ ≤ w.heap.size + 1; omega) _).setCell (by show _ ≤ w.heap.size + 1; omega) _).setCell (by show _ ≤ w.heap.size + 1; omega) _).setCell (by show _ ≤ w.heap.size + 1; omega) _).setCell (by show _ ≤ w.heap.size + 1; omega) _
        case measure => simp [intOf]; omega
      · have t2' : ¬ ((q1 : Int) + qn ≤ a - b) := by omega
        go_wp2
        refine bodyPost_ret (v := .agg #[.int .u64 (p0 : Int), .int .u64 (p1 : Int), .int .u64 (q0 : Int), .int .u64 (q1 : Int), .bool ev]) (by simp [results, Tryd.results36, go_sem, *]) rfl ⟨p0, p1, q0, q1, ev, rfl, H.out.told, ?_⟩
        exact ((((hbel.setCell (by show _ ≤ w.heap.size; omega) _).setCell (by show _ ≤ w.heap.size; omega) _).setCell (by show _ ≤ w.heap.size; omega) _).setCell (by show _ ≤ w.heap.size; omega) _).setCell (by show _ ≤ w.heap.size; omega) _
    · have t1' : ¬ ((qn : Int) ≤ b) := by omega
      go_wp2
      refine bodyPost_ret (v := .agg #[.int .u64 (p0 : Int), .int .u64 (p1 : Int), .int .u64 (q0 : Int), .int .u64 (q1 : Int), .bool ev]) (by simp [results, Tryd.results36, go_sem, *]) rfl ⟨p0, p1, q0, q1, ev, rfl, H.out.told, ?_⟩
      exact ((((hbel.setCell (by show _ ≤ w.heap.size; omega) _).setCell (by show _ ≤ w.heap.size; omega) _).setCell (by show _ ≤ w.heap.size; omega) _).setCell (by show _ ≤ w.heap.size; omega) _).setCell (by show _ ≤ w.heap.size; omega) _
end Go.Proofs.YtjdphcdpgjdmkaaDoor

namespace Go.Proofs.YtjdphcdpgjdmkaaDoor
open Go.RowKit
set_option linter.unusedVariables false

theorem nRest (a b : Option Addr) (la lb ca cb u v : Nat) (w : World) (ha : NI w a la ca u) (hb : NI w b lb cb v) (h0 : 0 < v) : Calls Tryd.prog 20 #[.slice a la ca, .slice b lb cb] w (GotN w (u % v)) :=
  (restOf_any a b la lb ca cb u v w ha.sl ha.lt (by have := ha.few; omega) hb.sl hb.lt h0).mono fun _ _ h => gotN h
theorem nBetween (ov : Bool) (a b : Option Addr) (la lb ca cb u v P Q X : Nat) (w : World) (ha : NI w a la ca u) (hb : NI w b lb cb v) (hP : P < 4294967296) (hQ : Q < 4294967296) (hX : (X : Int) = - sgv ov * ((P : Int) * u - Q * v)) (hlt : X < 4294967296 ^ la) :
    Calls Tryd.prog 38 #[.slice a la ca, .slice b lb cb, .int .u64 (P : Int), .int .u64 (Q : Int), .bool ov] w (GotN w X) := by
  rw [← Int.natCast_mul, ← Int.natCast_mul] at hX
  cases ov
  · simp only [sgv] at hX
    have e : X = Q * v - P * u := by simp at hX; omega
    subst e
    exact (between_under a b la lb ca cb u v P Q w ha.sl ha.lt (by have := ha.few; omega) hb.sl hb.lt hP hQ (by simp at hX; omega) hlt).mono fun _ _ h => gotN h
  · simp only [sgv] at hX
    have e : X = P * u - Q * v := by simp at hX; omega
    subst e
    exact (between_over a b la lb ca cb u v P Q w ha.sl ha.lt (by have := ha.few; omega) hb.sl hb.lt hP hQ (by simp at hX; omega) hlt).mono fun _ _ h => gotN h
/-- Two lesser numbers of the same greatest divisor. -/
def Nearer (w : World) (u v : Nat) (e : Ending) (w' : World) : Prop := ∃ (a : Option Addr) (la ca : Nat) (b : Option Addr) (lb cb X Y : Nat), e = .returned (.tuple #[.slice a la ca, .slice b lb cb]) ∧ ND w' a la ca X ∧ ND w' b lb cb Y ∧ Y < v ∧ Y ≤ X ∧ X ≤ u ∧ Nat.gcd X Y = Nat.gcd u v ∧ Below w.heap.size w w'
theorem mono_bt {u v : Nat} (h : v ≤ u) : bt.nlen v ≤ bt.nlen u := bt.nlen_le (Nat.lt_of_le_of_lt h (bt.nlen_lt u))
theorem mono_wd {u v : Nat} (h : v ≤ u) : wd.nlen v ≤ wd.nlen u := wd.nlen_le (Nat.lt_of_le_of_lt h (wd.nlen_lt u))
theorem bt_wd {u l : Nat} (h : u < 4294967296 ^ l) : bt.nlen u ≤ 32 * l := bt.nlen_le (by rw [pow32] at h; exact h)
set_option maxRecDepth 100000 in
set_option maxHeartbeats 2000000 in
theorem nNearer (a b : Option Addr) (la lb ca cb u v : Nat) (w : World) (ha : ND w a la ca u) (hb : ND w b lb cb v) (hla : la ≤ 1000000) (hle : v ≤ u) (h64 : 64 < bt.nlen v) :
    Calls Tryd.prog 17 #[.slice a la ca, .slice b lb cb] w (Nearer w u v) := by
  have hlb : lb ≤ 1000000 := by rw [hb.len]; have := mono_wd hle; rw [← ha.len] at this; omega
  have na := ha.to hla
  have nb := hb.to hlb
  have hm := mono_bt hle
  have hk := bt_wd na.lt
  have hv0 : 0 < v := by
    rcases Nat.eq_zero_or_pos v with e | e
    · rw [e, bt.nlen_zero] at h64; omega
    · exact e
  obtain ⟨n, hn⟩ : ∃ n, n = bt.nlen u := ⟨_, rfl⟩
  have hun : u < 2 ^ n := by rw [hn]; exact bt.nlen_lt u
  rw [← hn] at hm hk
  obtain ⟨f, hf⟩ : ∃ f, n = f + 64 := ⟨n - 64, by omega⟩
  have HN : Hid _ := hn
  have E : (n : Int) - 64 = (f : Int) := by omega
  have hF : 0 < 2 ^ f := Nat.pow_pos (by decide)
  have hx : u / 2 ^ f < 18446744073709551616 := Nat.div_lt_of_lt_mul (by rw [hf, Nat.pow_add] at hun; exact hun)
  have hy : v / 2 ^ f ≤ u / 2 ^ f := Nat.div_le_div_right hle
  have hf' : f ≤ 100000000000 := by omega
  have HH1 := headAt_any a la ca u f w ha.sl na.lt hf'
  rw [Nat.mod_eq_of_lt hx] at HH1
  have HH2 : ∀ w', Sl w' b lb cb (wd.dcells lb (v : Int)) → _ := fun w' h => headAt_any b lb cb v f w' h nb.lt hf'
  rw [Nat.mod_eq_of_lt (Nat.lt_of_le_of_lt hy hx)] at HH2
  have HFo : ∀ w', _ := fun w' => foresee_any u v (u / 2 ^ f) (v / 2 ^ f) (2 ^ f) (u % 2 ^ f) (v % 2 ^ f) w' hy hx (by rw [Nat.mul_comm]; exact (Nat.div_add_mod _ _).symm) (by rw [Nat.mul_comm]; exact (Nat.div_add_mod _ _).symm) (Nat.mod_lt _ hF) (Nat.mod_lt _ hF)
  obtain ⟨x, hxe⟩ : ∃ x, x = u / 2 ^ f := ⟨_, rfl⟩
  obtain ⟨y, hye⟩ : ∃ y, y = v / 2 ^ f := ⟨_, rfl⟩
  rw [← hxe] at HH1 HFo
  rw [← hye] at HH2 HFo
  have K1 : Hid _ := HH1
  have K2 : Hid _ := HH2
  have K3 : Hid _ := HFo
  clear HH1 HH2 HFo hxe hye hx hy hF hun hn
  have hfn : f = n - 64 := by omega
  have HF : Hid _ := hf
  clear hf hfn
  go_enter Tryd.func17, Tryd.ntmps17
  go_wp2_with (go_at_call 16; refine (nBits a la ca u _ na HN.out).mono ?_; rintro e w' ⟨rfl, hw⟩; subst hw)
  refine (show Calls _ _ _ _ (fun e w' => e = .returned (.int .u64 (x : Int)) ∧ Below w.heap.size w w') from K1.out).mono ?_
  rintro e w1 ⟨rfl, hb1⟩
  have nb1 := nb.below hb1
  go_wp2_with (go_at_call 37; fail)
  refine (show Calls _ _ _ _ (fun e w' => e = .returned (.int .u64 (y : Int)) ∧ Below w1.heap.size w1 w') from K2.out w1 nb1.sl).mono ?_
  rintro e w2 ⟨rfl, hb2⟩
  go_wp2_with (go_at_call 36; fail)
  refine (show Calls _ _ _ _ (ForePost w2 u v) from K3.out w2).mono ?_
  rintro e w3 ⟨p0, p1, q0, q1, ev, rfl, hfo, hb3⟩
  have B3 : Below w.heap.size w w3 := hb1.trans ((hb2.trans (hb3.mono hb2.size)).mono hb1.size)
  have na3 := na.below B3
  have nb3 := nb.below B3
  clear K1 K2 K3 hb1 hb2 hb3 nb1
  obtain ⟨W, hW⟩ : ∃ W, W = w3.alloc (.cells #[.int .u64 (p0 : Int), .int .u64 (p1 : Int), .int .u64 (q0 : Int), .int .u64 (q1 : Int), .bool ev] 61) := ⟨_, rfl⟩
  have BW : Below w3.heap.size w3 W := by rw [hW]; exact (Below.refl _ _).alloc (Nat.le_refl _) _
  have RW : Row W w3.heap.size (foreCells p0 p1 q0 q1 ev) := by rw [hW]; exact Row.new w3 (foreCells p0 p1 q0 q1 ev) _
  have SW : w3.heap.size < W.heap.size := by rw [hW]; simp
  have B4 := B3.trans (BW.mono B3.size)
  have na4 := na3.below BW
  have nb4 := nb3.below BW
  by_cases hq : q0 = 0
  · subst hq
    go_wp2_with (go_at_call 20; fail)
    rw [show ((0 : Nat) : Int) = 0 from rfl] at hW
    rw [← hW]
    refine (nRest a b la lb ca cb u v W na4 nb4 hv0).mono ?_
    rintro e w5 ⟨ar, lr, cr, rfl, hr, hb5⟩
    go_wp2
    go_ret2
    refine ⟨b, lb, cb, ar, lr, cr, v, u % v, rfl, ⟨(nb4.below hb5).sl, hb.len⟩, hr, Nat.mod_lt _ hv0, Nat.le_of_lt (Nat.mod_lt _ hv0), hle, ?_, B4.trans (hb5.mono B4.size)⟩
    rw [Nat.gcd_comm v, ← Nat.gcd_rec, Nat.gcd_comm]
  · have hq' : ¬ (q0 : Int) = 0 := by omega
    obtain ⟨g1, g2, g3, g4⟩ := hfo.out hq
    obtain ⟨Y, hY⟩ := Int.eq_ofNat_of_zero_le g1
    obtain ⟨X, hX⟩ := Int.eq_ofNat_of_zero_le (Int.le_of_lt (Int.lt_of_le_of_lt g1 g2))
    rw [hX, hY] at g2
    rw [hX] at g3
    have hXv : X ≤ v := by omega
    have hYX : Y < X := by omega
    have HG : Hid (Nat.gcd X Y = Nat.gcd u v) := fore_gcd u v X Y p0 p1 q0 q1 ev hX.symm hY.symm g4
    have H1 : Hid _ := nBetween ev a b la lb ca cb u v p0 q0 X W na4 nb4 hfo.hp0 hfo.hq0 hX.symm (by have := na.lt; omega)
    have H2 : Hid (∀ w', NI w' a la ca u → NI w' b lb cb v → Calls Tryd.prog 38 #[.slice a la ca, .slice b lb cb, .int .u64 (p1 : Int), .int .u64 (q1 : Int), .bool (!ev)] w' (GotN w' Y)) := fun w' h1 h2 =>
      nBetween (!ev) a b la lb ca cb u v p1 q1 Y w' h1 h2 hfo.hp1 hfo.hq1 (by rw [sgv_not]; simpa using hY.symm) (by have := na.lt; omega)
    clear g1 g2 g3 g4 hX hY hfo
    go_wp2_with (go_at_call 38; fail)
    rw [← hW]
    refine (show Calls _ _ _ _ (GotN W X) from H1.out).mono ?_
    rintro e w5 ⟨ax, lx, cx, rfl, hx5, hb5⟩
    have R5 := RW.below hb5 SW
    have c1 : w5.cell? ⟨w3.heap.size, 1, none⟩ = some (.int .u64 (p1 : Int)) := R5.cell 1 _ rfl
    have c3 : w5.cell? ⟨w3.heap.size, 3, none⟩ = some (.int .u64 (q1 : Int)) := R5.cell 3 _ rfl
    have c4 : w5.cell? ⟨w3.heap.size, 4, none⟩ = some (.bool ev) := R5.cell 4 _ rfl
    have na5 := na4.below hb5
    have nb5 := nb4.below hb5
    go_wp2_with (go_at_call 38; fail)
    refine (show Calls _ _ _ _ (GotN w5 Y) from H2.out w5 na5 nb5).mono ?_
    rintro e w6 ⟨ay, ly, cy, rfl, hy6, hb6⟩
    go_wp2
    go_ret2
    exact ⟨ax, lx, cx, ay, ly, cy, X, Y, rfl, hx5.below hb6, hy6, by omega, by omega, by omega, HG.out, B4.trans ((hb5.trans (hb6.mono hb5.size)).mono B4.size)⟩

end Go.Proofs.YtjdphcdpgjdmkaaDoor

namespace Go.Proofs.YtjdphcdpgjdmkaaDoor
open Go.RowKit
set_option linter.unusedVariables false

/-- What holds at the head of each round of Gcd: two numbers of the same greatest divisor, the second not above the first; k is the second. -/
def GcdRel (w : World) (g k : Nat) (av bv : Value) (wr : World) : Prop := ∃ (a : Option Addr) (la ca : Nat) (b : Option Addr) (lb cb u : Nat), av = .slice a la ca ∧ bv = .slice b lb cb ∧ ND wr a la ca u ∧ ND wr b lb cb k ∧ k ≤ u ∧ la ≤ 1000000 ∧ Nat.gcd u k = g ∧ Below w.heap.size w wr
theorem bt_small {v : Nat} (h : bt.nlen v ≤ 64) : v < 18446744073709551616 := Nat.lt_of_lt_of_le (bt.nlen_lt v) (Nat.le_trans (Nat.pow_le_pow_right (by decide) h) (by decide))
theorem nSmall (a : Option Addr) (l c u : Nat) (w : World) (h : NI w a l c u) (h64 : u < 18446744073709551616) : Calls Tryd.prog 19 #[.slice a l c] w fun e w' => e = .returned (.int .u64 (u : Int)) ∧ Below w.heap.size w w' :=
  small_any a l c u w h.sl h.lt h64
set_option maxRecDepth 100000 in
set_option maxHeartbeats 2000000 in
theorem nGcd (a b : Option Addr) (la lb ca cb u v : Nat) (w : World) (ha : NI w a la ca u) (hb : NI w b lb cb v) :
    Calls Tryd.prog 7 #[.slice a la ca, .slice b lb cb] w (GotN w (Nat.gcd u v)) := by
  obtain ⟨g, hg⟩ : ∃ g, g = Nat.gcd u v := ⟨_, rfl⟩
  have HG : Hid _ := hg.symm
  rw [← hg]
  clear hg
  have hlu := wd.nlen_le ha.lt
  have hlv := wd.nlen_le hb.lt
  have hfa := ha.few
  have hfb := hb.few
  go_enter Tryd.func7, Tryd.ntmps7
  go_wp2_with (go_at_call 15; fail)
  refine (nTrim a la ca u w ha).mono ?_
  rintro e w1 ⟨a1, la1, ca1, rfl, ha1, hb1⟩
  go_wp2_with (go_at_call 15; fail)
  refine (nTrim b lb cb v w1 (hb.below hb1)).mono ?_
  rintro e w2 ⟨b2, lb2, cb2, rfl, hb2', hb2⟩
  have ha2 := ha1.below hb2
  have hla2 : la1 ≤ 1000000 := by rw [ha1.len]; omega
  have hlb2 : lb2 ≤ 1000000 := by rw [hb2'.len]; omega
  have B2 : Below w.heap.size w w2 := hb1.trans (hb2.mono hb1.size)
  clear ha hb ha1 hb1 hb2 hlu hlv hfa hfb
  obtain ⟨c, hc⟩ : ∃ c, c = cmpI (u : Int) v := ⟨_, rfl⟩
  go_wp2_with (go_at_call 11; fail)
  refine (nCmp a1 b2 la1 lb2 ca1 cb2 u v w2 (ha2.to hla2) (hb2'.to hlb2) hc).mono ?_
  rintro e w3 ⟨rfl, hb3⟩
  have ha3 := ha2.below hb3
  have hb3' := hb2'.below hb3
  have B3 : Below w.heap.size w w3 := B2.trans (hb3.mono B2.size)
  clear ha2 hb2' hb3 B2
  rcases Nat.lt_or_ge u v with huv | huv
  · have hc0 : c < 0 := by rw [hc]; unfold cmpI; rw [if_pos (by omega)]; decide
    have HST : Hid (GcdRel w g u (.slice b2 lb2 cb2) (.slice a1 la1 ca1) w3) := ⟨b2, lb2, cb2, a1, la1, ca1, v, rfl, rfl, hb3', ha3, by omega, hlb2, by rw [Nat.gcd_comm]; exact HG.out, B3⟩
    clear hc ha3 hb3' B3 HG huv
    go_wp2
    go_loopg [0, 1] u (fun k av bv wr => GcdRel w g k av bv wr)
    case atStart => exact HST.out
    case round =>
      clear HST
      obtain ⟨a, la, ca, b, lb, cb, U, rfl, rfl, ha, hb, hle, hla, hgcd, hbel⟩ := hrel
      have hlb : lb ≤ 1000000 := by rw [hb.len]; have := mono_wd hle; rw [← ha.len] at this; omega
      have na := ha.to hla
      have nb := hb.to hlb
      obtain ⟨n, hn⟩ : ∃ n, n = bt.nlen gk := ⟨_, rfl⟩
      have HN : Hid _ := hn
      have HGC : Hid _ := hgcd
      by_cases h64 : 64 < n
      · have h64' : (64 : Int) < n := by omega
        have HV : Hid (64 < bt.nlen gk) := by unfold Hid; rw [← hn]; exact h64
        clear hn hgcd
        go_wp2_with (go_at_call 16; refine (nBits b lb cb gk _ nb HN.out).mono ?_; rintro e w' ⟨rfl, hw⟩; subst hw)
        refine (nNearer a b la lb ca cb U gk wr ha hb hla hle HV.out).mono ?_
        rintro e w5 ⟨ax, lx, cx, ay, ly, cy, X, Y, rfl, hX, hY, g1, g2, g3, g4, hb5⟩
        go_wp2
        go_roundg Y
        case measure => exact g1
        case rel => exact ⟨ax, lx, cx, ay, ly, cy, X, rfl, rfl, hX, hY, g2, by rw [hX.len]; have := mono_wd g3; rw [← ha.len] at this; omega, by rw [g4]; exact HGC.out, hbel.trans (hb5.mono hbel.size)⟩
      · have h64' : ¬ (64 : Int) < n := by omega
        have hs : gk < 18446744073709551616 := bt_small (by rw [← hn]; omega)
        clear hn hgcd
        rcases Nat.eq_zero_or_pos gk with h0 | h0
        · subst h0
          have hl0 : lb = 0 := by rw [hb.len, wd.nlen_zero]
          subst hl0
          have hUg : U = g := by have := HGC.out; simpa using this
          subst hUg
          go_wp2_with (go_at_call 16; refine (nBits b 0 cb 0 _ nb HN.out).mono ?_; rintro e w' ⟨rfl, hw⟩; subst hw)
          go_ret
          exact ⟨a, la, ca, rfl, ha, hbel⟩
        · have hl0 : 0 < lb := by rw [hb.len]; exact wd.nlen_pos h0
          have hl1 : ¬ (lb : Int) = 0 := by omega
          obtain ⟨R, hR⟩ : ∃ R, R = U % gk := ⟨_, rfl⟩
          have hRl : R < gk := by rw [hR]; exact Nat.mod_lt _ h0
          have HRG : Hid (Nat.gcd gk R = g) := by unfold Hid; rw [hR, ← HGC.out, Nat.gcd_comm gk, ← Nat.gcd_rec, Nat.gcd_comm]
          have hgl : g ≤ gk := by have := Nat.gcd_le_right U h0; have e := HGC.out; omega
          have HRE : Hid _ := hR
          clear hR
          go_wp2_with (go_at_call 16; refine (nBits b lb cb gk _ nb HN.out).mono ?_; rintro e w' ⟨rfl, hw⟩; subst hw)
          refine (nSmall b lb cb gk wr nb hs).mono ?_
          rintro e w5 ⟨rfl, hb5⟩
          go_wp2_with (go_at_call 20; fail)
          have HRS := nRest a b la lb ca cb U gk w5 (na.below hb5) (nb.below hb5) h0
          rw [← HRE.out] at HRS
          refine HRS.mono ?_
          rintro e w6 ⟨ar, lr, cr, rfl, hr6, hb6⟩
          have nr6 : NI w6 ar lr cr R := hr6.to (by rw [hr6.len]; have := mono_wd (Nat.le_of_lt hRl); rw [← hb.len] at this; omega)
          go_wp2_with (go_at_call 19; fail)
          refine (nSmall ar lr cr R w6 nr6 (by omega)).mono ?_
          rintro e w7 ⟨rfl, hb7⟩
          go_wp2_with (go_at_call 18; fail)
          have HGS := gcdSmall_any gk R hs (by omega) w7
          rw [HRG.out] at HGS
          refine HGS.mono ?_
          rintro e w8 ⟨rfl, hb8⟩
          go_wp2_with (go_at_call 13; fail)
          refine (nOf g (by omega) rfl w8).mono ?_
          rintro e w9 ⟨a9, l9, c9, rfl, h9, hb9⟩
          go_wp2
          go_ret
          exact ⟨a9, l9, c9, rfl, h9, hbel.trans ((hb5.trans ((hb6.trans ((hb7.trans ((hb8.trans (hb9.mono hb8.size)).mono hb7.size)).mono hb6.size)).mono hb5.size)).mono hbel.size)⟩
  · have hc0 : ¬ c < 0 := by rw [hc]; unfold cmpI; rw [if_neg (by omega)]; split <;> decide
    have HST : Hid (GcdRel w g v (.slice a1 la1 ca1) (.slice b2 lb2 cb2) w3) := ⟨a1, la1, ca1, b2, lb2, cb2, u, rfl, rfl, ha3, hb3', huv, hla2, HG.out, B3⟩
    clear hc ha3 hb3' B3 HG huv
    go_wp2
    go_loopg [0, 1] v (fun k av bv wr => GcdRel w g k av bv wr)
    case atStart => exact HST.out
    case round =>
      clear HST
      obtain ⟨a, la, ca, b, lb, cb, U, rfl, rfl, ha, hb, hle, hla, hgcd, hbel⟩ := hrel
      have hlb : lb ≤ 1000000 := by rw [hb.len]; have := mono_wd hle; rw [← ha.len] at this; omega
      have na := ha.to hla
      have nb := hb.to hlb
      obtain ⟨n, hn⟩ : ∃ n, n = bt.nlen gk := ⟨_, rfl⟩
      have HN : Hid _ := hn
      have HGC : Hid _ := hgcd
      by_cases h64 : 64 < n
      · have h64' : (64 : Int) < n := by omega
        have HV : Hid (64 < bt.nlen gk) := by unfold Hid; rw [← hn]; exact h64
        clear hn hgcd
        go_wp2_with (go_at_call 16; refine (nBits b lb cb gk _ nb HN.out).mono ?_; rintro e w' ⟨rfl, hw⟩; subst hw)
        refine (nNearer a b la lb ca cb U gk wr ha hb hla hle HV.out).mono ?_
        rintro e w5 ⟨ax, lx, cx, ay, ly, cy, X, Y, rfl, hX, hY, g1, g2, g3, g4, hb5⟩
        go_wp2
        go_roundg Y
        case measure => exact g1
        case rel => exact ⟨ax, lx, cx, ay, ly, cy, X, rfl, rfl, hX, hY, g2, by rw [hX.len]; have := mono_wd g3; rw [← ha.len] at this; omega, by rw [g4]; exact HGC.out, hbel.trans (hb5.mono hbel.size)⟩
      · have h64' : ¬ (64 : Int) < n := by omega
        have hs : gk < 18446744073709551616 := bt_small (by rw [← hn]; omega)
        clear hn hgcd
        rcases Nat.eq_zero_or_pos gk with h0 | h0
        · subst h0
          have hl0 : lb = 0 := by rw [hb.len, wd.nlen_zero]
          subst hl0
          have hUg : U = g := by have := HGC.out; simpa using this
          subst hUg
          go_wp2_with (go_at_call 16; refine (nBits b 0 cb 0 _ nb HN.out).mono ?_; rintro e w' ⟨rfl, hw⟩; subst hw)
          go_ret
          exact ⟨a, la, ca, rfl, ha, hbel⟩
        · have hl0 : 0 < lb := by rw [hb.len]; exact wd.nlen_pos h0
          have hl1 : ¬ (lb : Int) = 0 := by omega
          obtain ⟨R, hR⟩ : ∃ R, R = U % gk := ⟨_, rfl⟩
          have hRl : R < gk := by rw [hR]; exact Nat.mod_lt _ h0
          have HRG : Hid (Nat.gcd gk R = g) := by unfold Hid; rw [hR, ← HGC.out, Nat.gcd_comm gk, ← Nat.gcd_rec, Nat.gcd_comm]
          have hgl : g ≤ gk := by have := Nat.gcd_le_right U h0; have e := HGC.out; omega
          have HRE : Hid _ := hR
          clear hR
          go_wp2_with (go_at_call 16; refine (nBits b lb cb gk _ nb HN.out).mono ?_; rintro e w' ⟨rfl, hw⟩; subst hw)
          refine (nSmall b lb cb gk wr nb hs).mono ?_
          rintro e w5 ⟨rfl, hb5⟩
          go_wp2_with (go_at_call 20; fail)
          have HRS := nRest a b la lb ca cb U gk w5 (na.below hb5) (nb.below hb5) h0
          rw [← HRE.out] at HRS
          refine HRS.mono ?_
          rintro e w6 ⟨ar, lr, cr, rfl, hr6, hb6⟩
          have nr6 : NI w6 ar lr cr R := hr6.to (by rw [hr6.len]; have := mono_wd (Nat.le_of_lt hRl); rw [← hb.len] at this; omega)
          go_wp2_with (go_at_call 19; fail)
          refine (nSmall ar lr cr R w6 nr6 (by omega)).mono ?_
          rintro e w7 ⟨rfl, hb7⟩
          go_wp2_with (go_at_call 18; fail)
          have HGS := gcdSmall_any gk R hs (by omega) w7
          rw [HRG.out] at HGS
          refine HGS.mono ?_
          rintro e w8 ⟨rfl, hb8⟩
          go_wp2_with (go_at_call 13; fail)
          refine (nOf g (by omega) rfl w8).mono ?_
          rintro e w9 ⟨a9, l9, c9, rfl, h9, hb9⟩
          go_wp2
          go_ret
          exact ⟨a9, l9, c9, rfl, h9, hbel.trans ((hb5.trans ((hb6.trans ((hb7.trans ((hb8.trans (hb9.mono hb8.size)).mono hb7.size)).mono hb6.size)).mono hb5.size)).mono hbel.size)⟩
end Go.Proofs.YtjdphcdpgjdmkaaDoor

namespace Go.Proofs.YtjdphcdpgjdmkaaDoor
open Go.RowKit
set_option linter.unusedVariables false

/-- The slice is the digits of the number u. -/
structure HD (w : World) (a : Option Addr) (l c u : Nat) : Prop where
  sl : Sl w a l c (hf.dcells l (u : Int))
  len : l = hf.nlen u
theorem HD.below {w w' : World} {a : Option Addr} {l c u : Nat} (h : HD w a l c u) (hb : Below w.heap.size w w') : HD w' a l c u := ⟨h.sl.below hb, h.len⟩
theorem hd_nil (w : World) : HD w none 0 0 0 := ⟨sl_nil w, hf.nlen_zero.symm⟩
def GotH (w : World) (u : Nat) (e : Ending) (w' : World) : Prop := ∃ a l c, e = .returned (.slice a l c) ∧ HD w' a l c u ∧ Below w.heap.size w w'
theorem gotH {w w' : World} {u : Nat} {e : Ending} (h : ∃ a' cap', e = .returned (.slice a' (hf.nlen u) cap') ∧ Own w' w.heap.size 3 a' (hf.nlen u) cap' (hf.dcells (hf.nlen u) (u : Int)) ∧ Below w.heap.size w w') : GotH w u e w' := by
  obtain ⟨a, c, he, ho, hb⟩ := h
  exact ⟨a, _, c, he, ⟨Own.sl ho, rfl⟩, hb⟩
theorem hfew {u K : Nat} (hu : u < 4294967296 ^ K) (hK : K ≤ 500000) : hf.nlen u ≤ 1000000 := by
  have : hf.nlen u ≤ 2 * K := hf.nlen_le (by rw [pow_halves]; exact hu)
  omega
theorem hOf (a : Option Addr) (l c u : Nat) (w : World) (hs : Sl w a l c (wd.dcells l (u : Int))) (hu : u < 4294967296 ^ l) (hl : l ≤ 1000000) : Calls Tryd.prog 9 #[.slice a l c] w (GotH w u) :=
  (rof_any a l c u w hs hu (by omega)).mono fun _ _ h => gotH h
theorem hCmp (a b : Option Addr) (la lb ca cb u v : Nat) (w : World) (ha : HD w a la ca u) (hb : HD w b lb cb v) {c : Int} (hc : c = cmpI u v) : Calls Tryd.prog 22 #[.slice a la ca, .slice b lb cb] w fun e w' => e = .returned (.int .i64 c) ∧ Below w.heap.size w w' := by
  obtain ⟨ha, rfl⟩ := ha
  obtain ⟨hb, rfl⟩ := hb
  subst hc
  exact rcmp_any a b ca cb u v w ha hb
theorem hAdd (a b : Option Addr) (la lb ca cb u v : Nat) (w : World) (ha : HD w a la ca u) (hb : HD w b lb cb v) (fu : hf.nlen u ≤ 1000000) (fv : hf.nlen v ≤ 1000000) : Calls Tryd.prog 24 #[.slice a la ca, .slice b lb cb] w (GotH w (u + v)) := by
  obtain ⟨ha, rfl⟩ := ha
  obtain ⟨hb, rfl⟩ := hb
  exact (radd_any a b ca cb u v w ha hb (by omega) (by omega)).mono fun _ _ h => gotH h
theorem hSub (a b : Option Addr) (la lb ca cb u v : Nat) (w : World) (ha : HD w a la ca u) (hb : HD w b lb cb v) (fu : hf.nlen u ≤ 1000000) (fv : hf.nlen v ≤ 1000000) (hle : v ≤ u) : Calls Tryd.prog 23 #[.slice a la ca, .slice b lb cb] w (GotH w (u - v)) := by
  obtain ⟨ha, rfl⟩ := ha
  obtain ⟨hb, rfl⟩ := hb
  exact (rsub_any a b ca cb u v w ha hb (by omega) (by omega) hle).mono fun _ _ h => gotH h
theorem hMul (a b : Option Addr) (la lb ca cb u v : Nat) (w : World) (ha : HD w a la ca u) (hb : HD w b lb cb v) (fu : hf.nlen u ≤ 1000000) (fv : hf.nlen v ≤ 1000000) : Calls Tryd.prog 25 #[.slice a la ca, .slice b lb cb] w (GotH w (u * v)) := by
  obtain ⟨ha, rfl⟩ := ha
  obtain ⟨hb, rfl⟩ := hb
  exact (rmul_any a b ca cb u v w ha hb (by omega) (by omega)).mono fun _ _ h => gotH h
theorem hHalf (a : Option Addr) (la ca u : Nat) (w : World) (ha : HD w a la ca u) (fu : hf.nlen u ≤ 1000000) : Calls Tryd.prog 21 #[.slice a la ca] w (GotH w (u / 2)) := by
  obtain ⟨ha, rfl⟩ := ha
  exact (rhalf_any a ca u w ha (by omega)).mono fun _ _ h => gotH h
theorem hSame (a b : Option Addr) (la lb ca cb u : Nat) (w : World) (ha : Sl w a la ca (wd.dcells la (u : Int))) (ea : la = wd.nlen u) (hb : HD w b lb cb u) (fu : hf.nlen u ≤ 1000000) : Calls Tryd.prog 6 #[.slice a la ca, .slice b lb cb] w fun e w' => e = .returned (.bool true) ∧ Below w.heap.size w w' := by
  subst ea
  obtain ⟨hb, rfl⟩ := hb
  exact same_yes a b ca cb u w ha hb (by omega)
end Go.Proofs.YtjdphcdpgjdmkaaDoor

namespace Go.Proofs.YtjdphcdpgjdmkaaDoor
open Go.RowKit
set_option linter.unusedVariables false

theorem gcd_half {X Y G : Nat} (h : Nat.gcd X Y = G) (hG : G % 2 = 1) (hX : X % 2 = 0) : Nat.gcd (X / 2) Y = G := by
  have hX2 : X = 2 * (X / 2) := by omega
  have hc : Nat.Coprime G 2 := by
    unfold Nat.Coprime
    rw [Nat.gcd_comm, Nat.gcd_rec, hG]
    decide
  have h1 : G ∣ X / 2 := by
    have : G ∣ 2 * (X / 2) := by rw [← hX2, ← h]; exact Nat.gcd_dvd_left X Y
    exact hc.dvd_of_dvd_mul_left this
  have h2 : G ∣ Y := by rw [← h]; exact Nat.gcd_dvd_right X Y
  refine Nat.dvd_antisymm ?_ (Nat.dvd_gcd h1 h2)
  rw [← h]
  exact Nat.dvd_gcd (Nat.dvd_trans (Nat.gcd_dvd_left _ _) ⟨2, by omega⟩) (Nat.gcd_dvd_right _ _)
theorem gcd_both {X Y : Nat} (hX : X % 2 = 0) (hY : Y % 2 = 0) : Nat.gcd X Y = Nat.gcd (X / 2) (Y / 2) * 2 := by
  have h1 : X = 2 * (X / 2) := by omega
  have h2 : Y = 2 * (Y / 2) := by omega
  conv => lhs; rw [h1, h2]
  rw [Nat.gcd_mul_left, Nat.mul_comm]
theorem gcd_odd {X Y : Nat} (h : ¬ (X % 2 = 0 ∧ Y % 2 = 0)) : Nat.gcd X Y % 2 = 1 := by
  rcases Nat.mod_two_eq_zero_or_one (Nat.gcd X Y) with e | e
  · exfalso
    have h2 : 2 ∣ Nat.gcd X Y := Nat.dvd_of_mod_eq_zero e
    exact h ⟨Nat.mod_eq_zero_of_dvd (Nat.dvd_trans h2 (Nat.gcd_dvd_left _ _)), Nat.mod_eq_zero_of_dvd (Nat.dvd_trans h2 (Nat.gcd_dvd_right _ _))⟩
  · exact e
theorem gcd_less {X Y : Nat} (h : Y ≤ X) : Nat.gcd (X - Y) Y = Nat.gcd X Y := by
  have e : X = X - Y + Y := by omega
  conv => rhs; rw [e]
  rw [Nat.gcd_add_self_left]
theorem mono_hf {u v : Nat} (h : u ≤ v) : hf.nlen u ≤ hf.nlen v := hf.nlen_le (Nat.lt_of_le_of_lt h (hf.nlen_lt v))
/-- The lowest digit tells whether a number is even. -/
theorem low_even (X : Nat) : hf.dg (X : Int) 0 % 2 = ((X % 2 : Nat) : Int) := by
  rw [hf.dg_nat, Nat.pow_zero, Nat.div_one]
  omega
/-- A number that isn't nought has a first digit. -/
theorem HD.first {w : World} {a : Option Addr} {l c u : Nat} (h : HD w a l c u) (hu : 0 < u) : 0 < l ∧ ∃ b o, a = some ⟨b, o, none⟩ ∧ w.cell? ⟨b, o, none⟩ = some (.int .i64 (hf.dg (u : Int) 0)) ∧ l ≤ 9223372036854775807 := by
  have hl : 0 < l := by rw [h.len]; exact hf.nlen_pos hu
  obtain ⟨b, o, e, hb, hs⟩ := h.sl.at hl
  have := h.sl.big
  have := h.sl.room
  unfold maxLen at *
  exact ⟨hl, b, o, e, by have := hs.cell 0 _ (hf.dcells_at _ _ _ hl); simpa using this, by omega⟩

/-- Both are halved: k is the first number. -/
def G1 (w : World) (u v : Nat) (k : Nat) (x y t : Value) (wr : World) : Prop := ∃ (a : Option Addr) (la ca : Nat) (b : Option Addr) (lb cb Y T : Nat), x = .slice a la ca ∧ y = .slice b lb cb ∧ t = .int .i64 (T : Int) ∧ HD wr a la ca k ∧ HD wr b lb cb Y ∧ 0 < k ∧ 0 < Y ∧ k * 2 ^ T ≤ u ∧ Y ≤ v ∧ Nat.gcd k Y * 2 ^ T = Nat.gcd u v ∧ Below w.heap.size w wr
/-- One is taken off the other. -/
def G2 (w : World) (u v G : Nat) (k : Nat) (x y : Value) (wr : World) : Prop := ∃ (a : Option Addr) (la ca : Nat) (b : Option Addr) (lb cb X Y : Nat), x = .slice a la ca ∧ y = .slice b lb cb ∧ HD wr a la ca X ∧ HD wr b lb cb Y ∧ X + Y = k ∧ 0 < Y ∧ k ≤ u + v ∧ Nat.gcd X Y = G ∧ Below w.heap.size w wr
/-- One is halved. -/
def G3 (w : World) (Y G M : Nat) (k : Nat) (x : Value) (wr : World) : Prop := ∃ (a : Option Addr) (la ca : Nat), x = .slice a la ca ∧ HD wr a la ca k ∧ 0 < k ∧ k ≤ M ∧ Nat.gcd k Y = G ∧ Below w.heap.size w wr
/-- Two is doubled. -/
def G5 (w : World) (T k : Nat) (one i : Value) (wr : World) : Prop := ∃ (a : Option Addr) (la ca I : Nat), one = .slice a la ca ∧ i = .int .i64 (I : Int) ∧ HD wr a la ca (2 ^ I) ∧ I + k = T ∧ Below w.heap.size w wr

set_option maxRecDepth 100000 in
set_option maxHeartbeats 4000000 in
theorem hGcd (a b : Option Addr) (la lb ca cb u v : Nat) (w : World) (ha : HD w a la ca u) (hb : HD w b lb cb v) (fu : hf.nlen (u + v) ≤ 1000000) :
    Calls Tryd.prog 8 #[.slice a la ca, .slice b lb cb] w (GotH w (Nat.gcd u v)) := by
  obtain ⟨g, hg⟩ : ∃ g, g = Nat.gcd u v := ⟨_, rfl⟩
  have hb0 : Below w.heap.size w (w.alloc (.cells #[.int .i64 1] 3)) := (Below.refl _ _).alloc (Nat.le_refl _) _
  have h1 : HD (w.alloc (.cells #[.int .i64 1] 3)) (some ⟨w.heap.size, 0, none⟩) 1 1 (2 ^ 0) := by
    have e : hf.dcells 1 ((2 ^ 0 : Nat) : Int) = [.int .i64 1] := by simp [hf.dcells, hf.dg]
    refine ⟨?_, (hf.nlen_eq ⟨by decide, Or.inr (by decide)⟩).symm⟩
    rw [e]
    exact Own.sl (World.ownsRow_lit w #[.int .i64 1] 1 (Nat.le_refl _) (by decide) rfl)
  have ha0 := ha.below hb0
  have hb0' := hb.below hb0
  obtain ⟨w0, hw0⟩ : ∃ w0, w0 = w.alloc (.cells #[.int .i64 1] 3) := ⟨_, rfl⟩
  rw [← hw0] at hb0 h1 ha0 hb0'
  have HG : Hid _ := hg.symm
  rw [← hg]
  clear hg ha hb
  rcases Nat.eq_zero_or_pos u with hu | hu
  · subst hu
    obtain rfl : la = 0 := by rw [ha0.len, hf.nlen_zero]
    obtain rfl : v = g := by have := HG.out; simpa using this
    go_enter Tryd.func8, Tryd.ntmps8
    go_wp2
    go_ret
    exact ⟨b, lb, cb, rfl, hw0 ▸ hb0', hw0 ▸ hb0⟩
  rcases Nat.eq_zero_or_pos v with hv | hv
  · subst hv
    obtain rfl : lb = 0 := by rw [hb0'.len, hf.nlen_zero]
    obtain rfl : u = g := by have := HG.out; simpa using this
    obtain ⟨hl, _⟩ := ha0.first hu
    have hl' : ¬ (la : Int) = 0 := by omega
    go_enter Tryd.func8, Tryd.ntmps8
    go_wp2
    go_ret
    exact ⟨a, la, ca, rfl, hw0 ▸ ha0, hw0 ▸ hb0⟩
  have hla : ¬ (la : Int) = 0 := by have := (ha0.first hu).1; omega
  have hlb : ¬ (lb : Int) = 0 := by have := (hb0'.first hv).1; omega
  have HST : Hid (G1 w0 u v u (.slice a la ca) (.slice b lb cb) (.int .i64 0) w0) := ⟨a, la, ca, b, lb, cb, v, 0, rfl, rfl, rfl, ha0, hb0', hu, hv, by simp, Nat.le_refl _, by simp, Below.refl _ _⟩
  clear ha0 hb0'
  have fu1 : ∀ x, x ≤ u + v → hf.nlen x ≤ 1000000 := fun x hx => Nat.le_trans (mono_hf hx) fu
  have FU : Hid _ := fu1
  obtain ⟨K, hK, hKu⟩ : ∃ K, K ≤ 16000000 ∧ u < 2 ^ K := by
    have h2 := hf.nlen_lt (u + v)
    rw [show (65536 : Nat) = 2 ^ 16 from rfl, ← Nat.pow_mul] at h2
    exact ⟨16 * hf.nlen (u + v), by omega, by omega⟩
  have HUB : Hid _ := hKu
  have H1 : Hid _ := h1
  clear hKu fu fu1 h1
  go_enter Tryd.func8, Tryd.ntmps8
  go_wp2
  rw [← hw0]
  simp only [show ((la : Int) == 0) = false by simpa using hla, show ((lb : Int) == 0) = false by simpa using hlb]
  clear hw0
  go_loopg [6, 7, 8] u (fun k x y t wr => G1 w0 u v k x y t wr)
  case atStart => exact HST.out
  case round =>
    clear HST hla hlb
    obtain ⟨a, la, ca, b, lb, cb, Y, T, rfl, rfl, rfl, ha, hb, hX0, hY0, hXu, hYv, hgg, hbel⟩ := hrel
    have hT : T < K := by
      refine Nat.lt_of_not_le fun h => ?_
      have h2 := Nat.pow_le_pow_right (n := 2) (by decide) h
      have h3 : 1 * 2 ^ T ≤ gk * 2 ^ T := Nat.mul_le_mul_right _ hX0
      have := HUB.out
      omega
    have hXu' : gk ≤ u := Nat.le_trans (Nat.le_mul_of_pos_right _ (Nat.pow_pos (by decide))) hXu
    have hPu : 2 ^ T ≤ u := Nat.le_trans (Nat.le_mul_of_pos_left _ hX0) hXu
    obtain ⟨hl, ba, oa, rfl, c0, hlm⟩ := ha.first hX0
    obtain ⟨hl2, bb, ob, rfl, c1, hlm2⟩ := hb.first hY0
    have hl' : (0 : Int) < la := by omega
    have hl2' : (0 : Int) < lb := by omega
    obtain ⟨p, hp⟩ : ∃ p, p = hf.dg (gk : Int) 0 := ⟨_, rfl⟩
    obtain ⟨q, hq⟩ : ∃ q, q = hf.dg (Y : Int) 0 := ⟨_, rfl⟩
    have ep := low_even gk
    have eq := low_even Y
    have rp := hf.dg_range (gk : Int) 0
    have rq := hf.dg_range (Y : Int) 0
    rw [← hp] at c0 ep rp
    rw [← hq] at c1 eq rq
    obtain ⟨rp0, rp1⟩ := rp
    obtain ⟨rq0, rq1⟩ := rq
    have HGG : Hid _ := hgg
    have HXU : Hid _ := hXu
    have HPU : Hid _ := hPu
    clear hp hq hgg hXu hPu
    by_cases hx : gk % 2 = 0
    · rw [hx] at ep
      replace ep : p % 2 = 0 := ep
      by_cases hy : Y % 2 = 0
      · rw [hy] at eq
        replace eq : q % 2 = 0 := eq
        clear hlm hlm2
        go_wp2_with (go_at_call 21; fail)
        refine (hHalf _ la ca gk wr ha (FU.out _ (by omega))).mono ?_
        rintro e w3 ⟨a3, la3, ca3, rfl, ha3, hb3⟩
        go_wp2_with (go_at_call 21; fail)
        refine (hHalf _ lb cb Y w3 (hb.below hb3) (FU.out _ (by omega))).mono ?_
        rintro e w4 ⟨a4, la4, ca4, rfl, ha4, hb4⟩
        go_wp2
        go_roundg (gk / 2)
        case measure => omega
        case rel =>
          refine ⟨a3, la3, ca3, a4, la4, ca4, Y / 2, T + 1, rfl, rfl, by simp, ha3.below hb4, ha4, by omega, by omega, ?_, by omega, ?_, hbel.trans ((hb3.trans (hb4.mono hb3.size)).mono hbel.size)⟩
          · have := HXU.out
            rw [Nat.pow_succ, Nat.mul_comm (2 ^ T), ← Nat.mul_assoc, show gk / 2 * 2 = gk by omega]
            exact this
          · rw [Nat.pow_succ, Nat.mul_comm (2 ^ T), ← Nat.mul_assoc, ← gcd_both hx hy]
            exact HGG.out
      · replace eq : q % 2 = 1 := by rw [eq]; omega
        have hne : ¬ (gk % 2 = 0 ∧ Y % 2 = 0) := by omega
        have hodd := gcd_odd hne
        obtain ⟨G, hG⟩ : ∃ G, G = Nat.gcd gk Y := ⟨_, rfl⟩
        rw [← hG] at hodd
        have HO : Hid _ := hodd
        have HT : Hid (G * 2 ^ T = g) := by unfold Hid; rw [hG, HGG.out]; exact HG.out
        have HST : Hid (G2 w0 u v G (gk + Y) (.slice (some ⟨ba, oa, none⟩) la ca) (.slice (some ⟨bb, ob, none⟩) lb cb) wr) := ⟨_, la, ca, _, lb, cb, gk, Y, rfl, rfl, ha, hb, rfl, hY0, by omega, hG.symm, hbel⟩
        clear hG hodd hne HGG HXU hlm hlm2
        go_wp2
        clear c0 c1 ha hb hbel hl hl2 hl' hl2' ep eq rp0 rp1 rq0 rq1
        go_loopg [6, 7] (gk + Y) (fun k x y wr => G2 w0 u v G k x y wr)
        case atStart => exact HST.out
        case round =>
          clear HST hX0 hY0 hXu' hYv
          obtain ⟨a, la, ca, b, lb, cb, X, Y, rfl, rfl, ha, hb, hk, hY0, hku, hgc, hbel⟩ := hrel
          subst hk

          rcases Nat.eq_zero_or_pos X with hX0 | hX0
          · subst hX0
            obtain rfl : la = 0 := by rw [ha.len, hf.nlen_zero]
            obtain rfl : Y = G := by simpa using hgc
            have h1 := H1.out.below hbel
            have HST : Hid (G5 wr T T (.slice (some ⟨w.heap.size, 0, none⟩) 1 1) (.int .i64 0) wr) := ⟨_, 1, 1, 0, rfl, rfl, h1, by omega, Below.refl _ _⟩
            clear h1 hgc
            go_wp2
            go_loopg [5, 9] T (fun k one i wr' => G5 wr T k one i wr')
            case atStart => exact HST.out
            case round =>
              clear HST
              obtain ⟨a5, l5, c5, I, rfl, rfl, h5, hI, hb5⟩ := hrel
              rcases Nat.eq_zero_or_pos gk with h0 | h0
              · subst h0
                obtain rfl : I = T := by omega
                have HP : Hid _ := h5
                obtain ⟨P, hP⟩ : ∃ P, P = 2 ^ I := ⟨_, rfl⟩
                have h5 : HD _ a5 l5 c5 P := hP ▸ h5
                have hPu : P ≤ u := hP ▸ HPU.out
                have HT' : Hid (Y * P = g) := by rw [hP]; exact HT.out
                clear hP HP HPU HT
                go_wp2_with (go_at_call 25; fail)
                have H := hMul b a5 lb l5 cb c5 Y P _ (hb.below hb5) h5 (FU.out _ (by omega)) (FU.out _ (by omega))
                rw [HT'.out] at H
                refine H.mono ?_
                rintro e w9 ⟨a9, l9, c9, rfl, h9, hb9⟩
                go_wp2
                go_ret
                have B1 := hb0.trans (hbel.mono hb0.size)
                have B2 := B1.trans (hb5.mono B1.size)
                exact ⟨a9, l9, c9, rfl, h9, B2.trans (hb9.mono B2.size)⟩
              · have hlt : (I : Int) < T := by omega
                have hIT : 2 ^ I ≤ u := Nat.le_trans (Nat.pow_le_pow_right (by decide) (by omega)) HPU.out
                obtain ⟨P, hP⟩ : ∃ P, P = 2 ^ I := ⟨_, rfl⟩
                rw [← hP] at h5 hIT
                have HP : Hid (P + P = 2 ^ (I + 1)) := by unfold Hid; rw [hP, Nat.pow_succ]; omega
                clear hP
                go_wp2_with (go_at_call 24; fail)
                refine (hAdd a5 a5 l5 l5 c5 c5 P P _ h5 h5 (FU.out _ (by omega)) (FU.out _ (by omega))).mono ?_
                rw [HP.out]
                rintro e w9 ⟨a9, l9, c9, rfl, h9, hb9⟩
                go_wp2
                go_roundg (gk - 1)
                case measure => omega
                case rel => exact ⟨a9, l9, c9, I + 1, rfl, by simp, h9, by omega, hb5.trans (hb9.mono hb5.size)⟩
          · have hl : 0 < la := (ha.first hX0).1
            have hl' : (0 : Int) < la := by omega
            have HST : Hid (G3 wr Y G X X (.slice a la ca) wr) := ⟨a, la, ca, rfl, ha, hX0, Nat.le_refl _, hgc, Below.refl _ _⟩
            clear ha hgc
            go_wp2
            go_loopg [6] X (fun k x wr' => G3 wr Y G X k x wr')
            case atStart => exact HST.out
            case round =>
              clear HST hl hl'
              obtain ⟨a, la, ca, rfl, ha, hk0, hkX, hgc, hb3⟩ := hrel
              have k3e : True := trivial
              obtain ⟨hl, ba, oa, rfl, c0, hlm⟩ := ha.first hk0
              have hl' : (0 : Int) < la := by omega
              obtain ⟨p, hp⟩ : ∃ p, p = hf.dg (gk : Int) 0 := ⟨_, rfl⟩
              have ep := low_even gk
              have rp := hf.dg_range (gk : Int) 0
              rw [← hp] at c0 ep rp
              obtain ⟨rp0, rp1⟩ := rp
              clear hp hlm
              by_cases hx : gk % 2 = 0
              · rw [hx] at ep
                replace ep : p % 2 = 0 := ep
                have HGC : Hid _ := gcd_half hgc HO.out hx
                clear hgc
                go_wp2_with (go_at_call 21; fail)
                refine (hHalf _ la ca gk _ ha (FU.out _ (by omega))).mono ?_
                rintro e w4 ⟨a4, la4, ca4, rfl, ha4, hb4⟩
                go_wp2
                go_roundg (gk / 2)
                case measure => omega
                case rel => exact ⟨a4, la4, ca4, rfl, ha4, by omega, by omega, HGC.out, hb3.trans (hb4.mono hb3.size)⟩
              · replace ep : p % 2 = 1 := by rw [ep]; omega
                have hb3' := hb.below hb3
                have hl2 : 0 < lb := (hb.first hY0).1
                have hl2' : (0 : Int) < lb := by omega
                obtain ⟨X3, hX3⟩ : ∃ X3, X3 = gk := ⟨_, rfl⟩
                rw [← hX3] at ha hk0 hkX hgc
                have HST : Hid (G3 wr X3 G Y Y (.slice b lb cb) wr) := ⟨b, lb, cb, rfl, hb3', hY0, Nat.le_refl _, by rw [Nat.gcd_comm]; exact hgc, Below.refl _ _⟩
                clear hgc hb hb3' hl2 hX3
                go_wp2
                clear c0 hl hl' ep rp0 rp1 hl2'
                go_loopg [7] Y (fun k y wr' => G3 wr X3 G Y k y wr')
                case atStart => exact HST.out
                case round =>
                  clear HST
                  obtain ⟨b, lb, cb, rfl, hb, hj0, hjY, hgc, hb4⟩ := hrel
                  obtain ⟨hl, bb, ob, rfl, c0, hlm⟩ := hb.first hj0
                  have hl' : (0 : Int) < lb := by omega
                  obtain ⟨q, hq⟩ : ∃ q, q = hf.dg (gk : Int) 0 := ⟨_, rfl⟩
                  have eq := low_even gk
                  have rq := hf.dg_range (gk : Int) 0
                  rw [← hq] at c0 eq rq
                  obtain ⟨rq0, rq1⟩ := rq
                  clear hq hlm
                  by_cases hy : gk % 2 = 0
                  · rw [hy] at eq
                    replace eq : q % 2 = 0 := eq
                    have HGC : Hid _ := gcd_half hgc HO.out hy
                    clear hgc
                    go_wp2_with (go_at_call 21; fail)
                    refine (hHalf _ lb cb gk _ hb (FU.out _ (by omega))).mono ?_
                    rintro e w5 ⟨a5, la5, ca5, rfl, ha5, hb5⟩
                    go_wp2
                    go_roundg (gk / 2)
                    case measure => omega
                    case rel => exact ⟨a5, la5, ca5, rfl, ha5, by omega, by omega, HGC.out, hb4.trans (hb5.mono hb4.size)⟩
                  · replace eq : q % 2 = 1 := by rw [eq]; omega
                    have ha4 := ha.below hb4
                    have B1 := hbel.trans (hb3.mono hbel.size)
                    have B2 := B1.trans (hb4.mono B1.size)
                    obtain ⟨c, hc⟩ : ∃ c, c = cmpI (X3 : Int) gk := ⟨_, rfl⟩
                    have HC : Hid _ := hc
                    have HGC : Hid _ := hgc
                    rcases Nat.lt_or_ge X3 gk with hlt | hge
                    · have hc0 : c < 0 := by rw [hc]; unfold cmpI; rw [if_pos (by omega)]; decide
                      clear hc hgc
                      go_wp2_with (go_at_call 22; fail)
                      refine (hCmp _ _ la lb ca cb X3 gk _ ha4 hb HC.out).mono ?_
                      rintro e w5 ⟨rfl, hb5⟩
                      go_wp2_with (go_at_call 23; fail)
                      refine (hSub _ _ lb la cb ca gk X3 _ (hb.below hb5) (ha4.below hb5) (FU.out _ (by omega)) (FU.out _ (by omega)) (by omega)).mono ?_
                      rintro e w6 ⟨a6, l6, c6, rfl, h6, hb6⟩
                      go_wp2
                      go_roundg gk
                      case measure => omega
                      case rel => exact ⟨a6, l6, c6, _, la, ca, gk - X3, X3, rfl, rfl, h6, (ha4.below hb5).below hb6, by omega, hk0, by omega, by rw [gcd_less (by omega)]; exact HGC.out, B2.trans ((hb5.trans (hb6.mono hb5.size)).mono B2.size)⟩
                    · have hc0 : ¬ c < 0 := by rw [hc]; unfold cmpI; rw [if_neg (by omega)]; split <;> decide
                      clear hc hgc
                      go_wp2_with (go_at_call 22; fail)
                      refine (hCmp _ _ la lb ca cb X3 gk _ ha4 hb HC.out).mono ?_
                      rintro e w5 ⟨rfl, hb5⟩
                      go_wp2_with (go_at_call 23; fail)
                      refine (hSub _ _ la lb ca cb X3 gk _ (ha4.below hb5) (hb.below hb5) (FU.out _ (by omega)) (FU.out _ (by omega)) (by omega)).mono ?_
                      rintro e w6 ⟨a6, l6, c6, rfl, h6, hb6⟩
                      go_wp2
                      go_roundg X3
                      case measure => omega
                      case rel => exact ⟨a6, l6, c6, _, lb, cb, X3 - gk, gk, rfl, rfl, h6, (hb.below hb5).below hb6, by omega, hj0, by omega, by rw [gcd_less (by omega), Nat.gcd_comm]; exact HGC.out, B2.trans ((hb5.trans (hb6.mono hb5.size)).mono B2.size)⟩
    · replace ep : p % 2 = 1 := by rw [ep]; omega
      have hne : ¬ (gk % 2 = 0 ∧ Y % 2 = 0) := by omega
      have hodd := gcd_odd hne
      obtain ⟨G, hG⟩ : ∃ G, G = Nat.gcd gk Y := ⟨_, rfl⟩
      rw [← hG] at hodd
      have HO : Hid _ := hodd
      have HT : Hid (G * 2 ^ T = g) := by unfold Hid; rw [hG, HGG.out]; exact HG.out
      have HST : Hid (G2 w0 u v G (gk + Y) (.slice (some ⟨ba, oa, none⟩) la ca) (.slice (some ⟨bb, ob, none⟩) lb cb) wr) := ⟨_, la, ca, _, lb, cb, gk, Y, rfl, rfl, ha, hb, rfl, hY0, by omega, hG.symm, hbel⟩
      clear hG hodd hne HGG HXU hlm hlm2
      go_wp2
      clear c0 c1 ha hb hbel hl hl2 hl' hl2' ep eq rp0 rp1 rq0 rq1
      go_loopg [6, 7] (gk + Y) (fun k x y wr => G2 w0 u v G k x y wr)
      case atStart => exact HST.out
      case round =>
        clear HST hX0 hY0 hXu' hYv
        obtain ⟨a, la, ca, b, lb, cb, X, Y, rfl, rfl, ha, hb, hk, hY0, hku, hgc, hbel⟩ := hrel
        subst hk

        rcases Nat.eq_zero_or_pos X with hX0 | hX0
        · subst hX0
          obtain rfl : la = 0 := by rw [ha.len, hf.nlen_zero]
          obtain rfl : Y = G := by simpa using hgc
          have h1 := H1.out.below hbel
          have HST : Hid (G5 wr T T (.slice (some ⟨w.heap.size, 0, none⟩) 1 1) (.int .i64 0) wr) := ⟨_, 1, 1, 0, rfl, rfl, h1, by omega, Below.refl _ _⟩
          clear h1 hgc
          go_wp2
          go_loopg [5, 9] T (fun k one i wr' => G5 wr T k one i wr')
          case atStart => exact HST.out
          case round =>
            clear HST
            obtain ⟨a5, l5, c5, I, rfl, rfl, h5, hI, hb5⟩ := hrel
            rcases Nat.eq_zero_or_pos gk with h0 | h0
            · subst h0
              obtain rfl : I = T := by omega
              have HP : Hid _ := h5
              obtain ⟨P, hP⟩ : ∃ P, P = 2 ^ I := ⟨_, rfl⟩
              have h5 : HD _ a5 l5 c5 P := hP ▸ h5
              have hPu : P ≤ u := hP ▸ HPU.out
              have HT' : Hid (Y * P = g) := by rw [hP]; exact HT.out
              clear hP HP HPU HT
              go_wp2_with (go_at_call 25; fail)
              have H := hMul b a5 lb l5 cb c5 Y P _ (hb.below hb5) h5 (FU.out _ (by omega)) (FU.out _ (by omega))
              rw [HT'.out] at H
              refine H.mono ?_
              rintro e w9 ⟨a9, l9, c9, rfl, h9, hb9⟩
              go_wp2
              go_ret
              have B1 := hb0.trans (hbel.mono hb0.size)
              have B2 := B1.trans (hb5.mono B1.size)
              exact ⟨a9, l9, c9, rfl, h9, B2.trans (hb9.mono B2.size)⟩
            · have hlt : (I : Int) < T := by omega
              have hIT : 2 ^ I ≤ u := Nat.le_trans (Nat.pow_le_pow_right (by decide) (by omega)) HPU.out
              obtain ⟨P, hP⟩ : ∃ P, P = 2 ^ I := ⟨_, rfl⟩
              rw [← hP] at h5 hIT
              have HP : Hid (P + P = 2 ^ (I + 1)) := by unfold Hid; rw [hP, Nat.pow_succ]; omega
              clear hP
              go_wp2_with (go_at_call 24; fail)
              refine (hAdd a5 a5 l5 l5 c5 c5 P P _ h5 h5 (FU.out _ (by omega)) (FU.out _ (by omega))).mono ?_
              rw [HP.out]
              rintro e w9 ⟨a9, l9, c9, rfl, h9, hb9⟩
              go_wp2
              go_roundg (gk - 1)
              case measure => omega
              case rel => exact ⟨a9, l9, c9, I + 1, rfl, by simp, h9, by omega, hb5.trans (hb9.mono hb5.size)⟩
        · have hl : 0 < la := (ha.first hX0).1
          have hl' : (0 : Int) < la := by omega
          have HST : Hid (G3 wr Y G X X (.slice a la ca) wr) := ⟨a, la, ca, rfl, ha, hX0, Nat.le_refl _, hgc, Below.refl _ _⟩
          clear ha hgc
          go_wp2
          go_loopg [6] X (fun k x wr' => G3 wr Y G X k x wr')
          case atStart => exact HST.out
          case round =>
            clear HST hl hl'
            obtain ⟨a, la, ca, rfl, ha, hk0, hkX, hgc, hb3⟩ := hrel
            have k3e : True := trivial
            obtain ⟨hl, ba, oa, rfl, c0, hlm⟩ := ha.first hk0
            have hl' : (0 : Int) < la := by omega
            obtain ⟨p, hp⟩ : ∃ p, p = hf.dg (gk : Int) 0 := ⟨_, rfl⟩
            have ep := low_even gk
            have rp := hf.dg_range (gk : Int) 0
            rw [← hp] at c0 ep rp
            obtain ⟨rp0, rp1⟩ := rp
            clear hp hlm
            by_cases hx : gk % 2 = 0
            · rw [hx] at ep
              replace ep : p % 2 = 0 := ep
              have HGC : Hid _ := gcd_half hgc HO.out hx
              clear hgc
              go_wp2_with (go_at_call 21; fail)
              refine (hHalf _ la ca gk _ ha (FU.out _ (by omega))).mono ?_
              rintro e w4 ⟨a4, la4, ca4, rfl, ha4, hb4⟩
              go_wp2
              go_roundg (gk / 2)
              case measure => omega
              case rel => exact ⟨a4, la4, ca4, rfl, ha4, by omega, by omega, HGC.out, hb3.trans (hb4.mono hb3.size)⟩
            · replace ep : p % 2 = 1 := by rw [ep]; omega
              have hb3' := hb.below hb3
              have hl2 : 0 < lb := (hb.first hY0).1
              have hl2' : (0 : Int) < lb := by omega
              obtain ⟨X3, hX3⟩ : ∃ X3, X3 = gk := ⟨_, rfl⟩
              rw [← hX3] at ha hk0 hkX hgc
              have HST : Hid (G3 wr X3 G Y Y (.slice b lb cb) wr) := ⟨b, lb, cb, rfl, hb3', hY0, Nat.le_refl _, by rw [Nat.gcd_comm]; exact hgc, Below.refl _ _⟩
              clear hgc hb hb3' hl2 hX3
              go_wp2
              clear c0 hl hl' ep rp0 rp1 hl2'
              go_loopg [7] Y (fun k y wr' => G3 wr X3 G Y k y wr')
              case atStart => exact HST.out
              case round =>
                clear HST
                obtain ⟨b, lb, cb, rfl, hb, hj0, hjY, hgc, hb4⟩ := hrel
                obtain ⟨hl, bb, ob, rfl, c0, hlm⟩ := hb.first hj0
                have hl' : (0 : Int) < lb := by omega
                obtain ⟨q, hq⟩ : ∃ q, q = hf.dg (gk : Int) 0 := ⟨_, rfl⟩
                have eq := low_even gk
                have rq := hf.dg_range (gk : Int) 0
                rw [← hq] at c0 eq rq
                obtain ⟨rq0, rq1⟩ := rq
                clear hq hlm
                by_cases hy : gk % 2 = 0
                · rw [hy] at eq
                  replace eq : q % 2 = 0 := eq
                  have HGC : Hid _ := gcd_half hgc HO.out hy
                  clear hgc
                  go_wp2_with (go_at_call 21; fail)
                  refine (hHalf _ lb cb gk _ hb (FU.out _ (by omega))).mono ?_
                  rintro e w5 ⟨a5, la5, ca5, rfl, ha5, hb5⟩
                  go_wp2
                  go_roundg (gk / 2)
                  case measure => omega
                  case rel => exact ⟨a5, la5, ca5, rfl, ha5, by omega, by omega, HGC.out, hb4.trans (hb5.mono hb4.size)⟩
                · replace eq : q % 2 = 1 := by rw [eq]; omega
                  have ha4 := ha.below hb4
                  have B1 := hbel.trans (hb3.mono hbel.size)
                  have B2 := B1.trans (hb4.mono B1.size)
                  obtain ⟨c, hc⟩ : ∃ c, c = cmpI (X3 : Int) gk := ⟨_, rfl⟩
                  have HC : Hid _ := hc
                  have HGC : Hid _ := hgc
                  rcases Nat.lt_or_ge X3 gk with hlt | hge
                  · have hc0 : c < 0 := by rw [hc]; unfold cmpI; rw [if_pos (by omega)]; decide
                    clear hc hgc
                    go_wp2_with (go_at_call 22; fail)
                    refine (hCmp _ _ la lb ca cb X3 gk _ ha4 hb HC.out).mono ?_
                    rintro e w5 ⟨rfl, hb5⟩
                    go_wp2_with (go_at_call 23; fail)
                    refine (hSub _ _ lb la cb ca gk X3 _ (hb.below hb5) (ha4.below hb5) (FU.out _ (by omega)) (FU.out _ (by omega)) (by omega)).mono ?_
                    rintro e w6 ⟨a6, l6, c6, rfl, h6, hb6⟩
                    go_wp2
                    go_roundg gk
                    case measure => omega
                    case rel => exact ⟨a6, l6, c6, _, la, ca, gk - X3, X3, rfl, rfl, h6, (ha4.below hb5).below hb6, by omega, hk0, by omega, by rw [gcd_less (by omega)]; exact HGC.out, B2.trans ((hb5.trans (hb6.mono hb5.size)).mono B2.size)⟩
                  · have hc0 : ¬ c < 0 := by rw [hc]; unfold cmpI; rw [if_neg (by omega)]; split <;> decide
                    clear hc hgc
                    go_wp2_with (go_at_call 22; fail)
                    refine (hCmp _ _ la lb ca cb X3 gk _ ha4 hb HC.out).mono ?_
                    rintro e w5 ⟨rfl, hb5⟩
                    go_wp2_with (go_at_call 23; fail)
                    refine (hSub _ _ la lb ca cb X3 gk _ (ha4.below hb5) (hb.below hb5) (FU.out _ (by omega)) (FU.out _ (by omega)) (by omega)).mono ?_
                    rintro e w6 ⟨a6, l6, c6, rfl, h6, hb6⟩
                    go_wp2
                    go_roundg X3
                    case measure => omega
                    case rel => exact ⟨a6, l6, c6, _, lb, cb, X3 - gk, gk, rfl, rfl, h6, (hb.below hb5).below hb6, by omega, hj0, by omega, by rw [gcd_less (by omega), Nat.gcd_comm]; exact HGC.out, B2.trans ((hb5.trans (hb6.mono hb5.size)).mono B2.size)⟩
end Go.Proofs.YtjdphcdpgjdmkaaDoor
