/-
  Joined texts, part 13:
  What zelligeref03's Show answers.
  What zelligeref03's Parse answers.
  What zelligeref04's Show answers; and what both packages read of a text.
  What zelligeref05's Show answers.
  The law's own look, of what circum's functions answer.
  CircumCenters' walk, of what circum's functions answer.
  What package circum's Center and Radius2 answer.
-/
import Derived.Test.YtcaihoomcdbfnaaGreatP12
import Derived.OpenShut
import Derived.ShutString
import Derived.Deep.RegionHeld3
namespace Go.Proofs.YtcaihoomcdbfnaaGreat
open Go.RowKit
set_option linter.unusedVariables false

theorem slice10 (r : Int) (r0 : 0 ≤ r) (r1 : r < 10) (w : World) : (Instr.slice 9 (.string ⟨#[48, 49, 50, 51, 52, 53, 54, 55, 56, 57]⟩) (some (.int .i64 r)) (some (.int .i64 (r + 1))) none).run Tryz.prog w = .ok (.string (strOfNums [48 + r])) w := by
  have : r = 0 ∨ r = 1 ∨ r = 2 ∨ r = 3 ∨ r = 4 ∨ r = 5 ∨ r = 6 ∨ r = 7 ∨ r = 8 ∨ r = 9 := by omega
  rcases this with h | h | h | h | h | h | h | h | h | h <;> (subst h; show _ = _; kernel_rfl)
theorem hf_one (l : Nat) (u : Int) : ∀ v ∈ hf.dcells l u, v.oneCell' = true := by
  intro v hv
  unfold hf.dcells at hv
  simp only [List.mem_map] at hv
  obtain ⟨j, _, rfl⟩ := hv
  rfl
/-- What holds at the head of each round of the inner loop. -/
def TenIn (w : World) (U L cap : Nat) (a : Option Addr) (c i : Value) (wr : World) : Prop := ∃ (r : Nat) (R : Int), r ≤ L ∧ Hid (R = (U : Int) / 65536 ^ r % 10) ∧ i = .int .i64 ((r : Int) - 1) ∧ c = .int .i64 R ∧ 0 ≤ R ∧ R < 10 ∧ Own wr w.heap.size 3 a L cap (hf.xim L r ((U : Int) / 10) U) ∧ Below w.heap.size w wr
theorem ten_next (w wr : World) (U L cap b q : Nat) (R : Int) (hR : Hid (R = (U : Int) / 65536 ^ (q + 1) % 10)) (hq : q < L) (hown : Own wr w.heap.size 3 (some ⟨b, 0, none⟩) L cap (hf.xim L (q + 1) ((U : Int) / 10) U)) (hb : Below w.heap.size w wr) :
    TenIn w U L cap (some ⟨b, 0, none⟩) (.int .i64 ((R * 65536 + hf.dg U q) % 10)) (.int .i64 ((q : Int) - 1)) (wr.setCell ⟨b, q, none⟩ (.int .i64 ((R * 65536 + hf.dg U q) / 10))) := by
  refine ⟨q, _, by omega, ?_, rfl, rfl, by omega, by omega, ?_, hb.setCell (seg_of_own hown).2.2 _⟩
  · unfold Hid; rw [hR.out, (hf.long_div U 10 q (by decide)).2]
  · rw [hR.out, hf.quot_digit _ _ _ (by decide), ← hf.xim_set]
    exact Own.set hown _ hq
/-- What holds at the head of each round of the outer loop. -/
def TenOut (w : World) (u lu : Nat) (lv sv : Value) (wr : World) : Prop := ∃ (t U cap : Nat) (a : Option Addr), t ≤ dlen u ∧ (t ≤ 1 ∨ 10 ^ (t - 1) ≤ u) ∧ Hid (U = u / 10 ^ t) ∧ lv = .slice a (hf.nlen U) cap ∧ sv = .string (strOfNums (digs t u)) ∧ hf.nlen U ≤ lu ∧ Own wr w.heap.size 3 a (hf.nlen U) cap (hf.dcells (hf.nlen U) (U : Int)) ∧ Below w.heap.size w wr
theorem dlen_few {u l : Nat} (h : u < 65536 ^ l) : dlen u ≤ 5 * l + 1 := by
  obtain ⟨h1, h2, h3⟩ := isDec_dlen u
  rcases h3 with h3 | h3
  · omega
  · rcases Nat.lt_or_ge (5 * l) (dlen u - 1) with h4 | h4
    · have a1 := Nat.pow_le_pow_right (n := 10) (by decide) (show 5 * l ≤ dlen u - 1 by omega)
      have a2 : 65536 ^ l ≤ (10 ^ 5) ^ l := Nat.pow_le_pow_left (by decide) l
      rw [← Nat.pow_mul] at a2
      omega
    · omega
theorem isDec_of {m k : Nat} (h1 : 1 ≤ k) (hq : m / 10 ^ k = 0) (hl : k ≤ 1 ∨ 10 ^ (k - 1) ≤ m) : IsDec m k := by
  refine ⟨h1, ?_, ?_⟩
  · rcases (Nat.div_eq_zero_iff).1 hq with h | h
    · have := Nat.pow_pos (n := k) (show 0 < 10 by decide); omega
    · exact h
  · rcases hl with h | h
    · exact Or.inl (by omega)
    · exact Or.inr h
theorem digs_empty (t u : Nat) : (strOfNums (digs t u)).toList.isEmpty = decide (t = 0) := by
  rw [ByteArray.toList_eq, strOfNums_data]
  rcases t with _ | t
  · rfl
  · simp [digs]
theorem str_eq_empty (t u : Nat) : ((strOfNums (digs t u)).toList == []) = decide (t = 0) := by
  have := digs_empty t u
  rw [Bool.eq_iff_iff] at this ⊢
  simpa using this
theorem ten_meas (t u : Nat) (R : Int) : strLen (.string (strOfNums [48 + R] ++ strOfNums (digs t u))) = t + 1 ∧ strLen (.string (strOfNums (digs t u))) = t := by
  rw [strOfNums_append]
  refine ⟨?_, ?_⟩
  · rw [strLen_str, strOfNums_size, List.length_append, digs_length]
    show 1 + t = t + 1
    omega
  · rw [strLen_str, strOfNums_size, digs_length]
theorem ten_text (t u U : Nat) (hU : U = u / 10 ^ t) : strOfNums [48 + (U : Int) % 10] ++ strOfNums (digs t u) = strOfNums (digs (t + 1) u) := by
  rw [strOfNums_append, digs, ← hU]; simp

set_option maxRecDepth 100000 in
set_option maxHeartbeats 2000000 in
theorem rshow_any (a : Option Addr) (ca u : Nat) (w : World) (ha : Sl w a (hf.nlen u) ca (hf.dcells (hf.nlen u) (u : Int))) (hlu : hf.nlen u ≤ 1000000000) :
    Calls Tryz.prog 90 #[.slice a (hf.nlen u) ca] w fun e w' => e = .returned (.string (decS u)) ∧ Below w.heap.size w w' := by
  obtain ⟨i0, hi0, hz0, hz1, hz2⟩ := info_parts infoInt
  have hd := dlen_few (hf.nlen_lt u)
  have HD : Hid _ := isDec_dlen u
  have hown0 := own_empty w w.heap.size 3 (Nat.le_refl _)
  have hB0 : Below w.heap.size w (w.alloc (.cells #[] 3)) := (Below.refl _ _).alloc (Nat.le_refl _) _
  have ha' := ha.below hB0
  have hmx : hf.nlen u ≤ maxLen := by unfold maxLen; omega
  go_enter Tryz.func90, Tryz.ntmps90
  go_wp2_with (at_builtin; refine append_any _ rfl (.tmp 7) (.tmp 8) 37 rfl w.heap.size 3 i0 (.int .i64 0) 8 Tryz.underlying37 hi0 hz0 hz1 hz2 rfl _ 0 0 [] rfl hown0 a (hf.nlen u) ca (hf.dcells (hf.nlen u) (u : Int)) rfl ha' (hf_one _ _) (by omega) (by omega) (by simp) ?_; intro a2 cap2 w2 hown hgrow)
  rw [List.nil_append] at hown
  have hbel := hB0.grown hgrow (by simp) (fun k' hk' => by simp [Value.ownBlock] at hk'; omega)
  clear hown0 ha' hB0
  go_loopw [3, 4] (fun lv sv wr => TenOut w u (hf.nlen u) lv sv wr) (fun _ sv _ => dlen u + 1 - strLen sv)
  case atStart => exact ⟨0, u, cap2, a2, by omega, Or.inl (by omega), by unfold Hid; simp, by first | rfl | simp, by rfl, Nat.le_refl _, by simpa using hown, hbel⟩
  case round =>
    clear hown hbel
    obtain ⟨t, U, cap, a3, ht, hl, HU, rfl, rfl, hL, hown, hbel⟩ := hrel
    have HE := digs_empty t u
    have HE2 := str_eq_empty t u
    by_cases hgo : 0 < hf.nlen U ∨ t = 0
    · have ht2 : t + 1 ≤ dlen u := by
        obtain ⟨h1, h2, h3⟩ := HD.out
        rcases hgo with h | h
        · rcases Nat.lt_or_ge t (dlen u) with h4 | h4
          · exact h4
          · have := Nat.pow_le_pow_right (n := 10) (by decide) h4
            have hu0 : U = 0 := by rw [HU.out]; exact Nat.div_eq_of_lt (by omega)
            rw [hu0, hf.nlen_zero] at h
            omega
        · omega
      have hl2 : Hid (t + 1 ≤ 1 ∨ 10 ^ (t + 1 - 1) ≤ u) := by
        rcases hgo with h | h
        · right
          rcases Nat.lt_or_ge u (10 ^ t) with h4 | h4
          · have hu0 : U = 0 := by rw [HU.out]; exact Nat.div_eq_of_lt h4
            rw [hu0, hf.nlen_zero] at h
            omega
          · simpa using h4
        · left; omega
      obtain ⟨V, hV⟩ : ∃ V, V = U / 10 := ⟨_, rfl⟩
      have HV : Hid (V = u / 10 ^ (t + 1)) := by unfold Hid; rw [hV, HU.out, Nat.pow_succ, Nat.div_div_eq_div_mul]
      have HV2 : Hid ((U : Int) / 10 = (V : Int)) := by unfold Hid; omega
      have hLV : hf.nlen V ≤ hf.nlen u := Nat.le_trans (hf.nlen_le (Nat.lt_of_le_of_lt (show V ≤ U by omega) (hf.nlen_lt U))) hL
      have HVS : Hid (V < 65536 ^ hf.nlen U) := by have := hf.nlen_lt U; unfold Hid; omega
      have HI : Hid (TenIn w U (hf.nlen U) cap a3 (.int .i64 0) (.int .i64 ((hf.nlen U : Int) - 1)) wr) := ⟨hf.nlen U, 0, Nat.le_refl _, by unfold Hid; rw [Int.ediv_eq_zero_of_lt (by omega) (by rw [← hf.pow_cast]; have := hf.nlen_lt U; omega)]; rfl, rfl, rfl, by omega, by omega, by rw [hf.xim_full]; exact hown, hbel⟩
      have z1 : (strOfNums (digs t u)).size = t := by rw [strOfNums_size, digs_length]
      have HT : Hid _ := ten_text t u U HU.out
      have HMe : Hid _ := fun R => ten_meas t u R
      clear hown hbel hV hl
      obtain ⟨L, hLL⟩ : ∃ L, hf.nlen U = L := ⟨_, rfl⟩
      rw [hLL] at hgo HVS HI hL ⊢
      obtain ⟨S, hS⟩ : ∃ S, strOfNums (digs t u) = S := ⟨_, rfl⟩
      rw [hS] at HE HE2 z1 HT HMe ⊢
      clear hLL hS
      have hcase : (0 : Int) < L ∨ (L = 0 ∧ S.toList.isEmpty = true) := by
        rcases hgo with h | h
        · exact Or.inl (by omega)
        · rcases Nat.eq_zero_or_pos L with h1 | h1
          · exact Or.inr ⟨h1, by rw [HE, h]; rfl⟩
          · exact Or.inl (by omega)
      clear hgo HE HE2
      rcases hcase with hc | ⟨hc, hc2⟩
      · go_wp2
        go_loopw [5, 6] (fun c i wr => TenIn w U L cap a3 c i wr) (fun _ i _ => (intOf i + 1).toNat)
        case atStart => exact HI.out
        case round =>
          obtain ⟨r, R, hr, HR, rfl, rfl, r0, r1, hown, hbel⟩ := hrel
          rcases r with _ | q
          · have HR2 : Hid (R = (U : Int) % 10) := by unfold Hid; rw [HR.out]; simp
            rw [hf.xim_zero, HV2.out] at hown
            have hsl := slice10 R r0 r1
            have z2 : (strOfNums [48 + R]).size = 1 := by rw [strOfNums_size]; rfl
            have z3 : ¬ 9223372036854775807 < 1 + t := by omega
            go_wp2_with (go_at_call 74; refine (rtrim_own _ _ _ V _ _ hown HVS.out).mono ?_; rintro e w' ⟨rfl, hw, hown5⟩; subst hw)
            go_roundw
            case rel => exact ⟨t + 1, V, cap, a3, ht2, hl2.out, HV.out, rfl, by rw [HR2.out, HT.out], hLV, hown5, hbel⟩
            case measure => rw [(HMe.out R).1, (HMe.out R).2]; omega
          · obtain ⟨g, rfl, hg, hg2, _⟩ := Own.at hown (by omega)
            have hroom := (Own.sl hown).room
            have hbig := (Own.sl hown).big
            unfold maxLen at hbig
            have c3 : wr.cell? ⟨g, q, none⟩ = some (.int .i64 (hf.dg U q)) := Own.cell hown q _ (hf.xim_at _ _ _ _ _ (by omega) (by omega))
            have c4 : wr.frozen? ⟨g, q, none⟩ = false := Own.free hown q (by omega)
            obtain ⟨d0, d1⟩ := hf.dg_range U q
            have HN : Hid _ := ten_next w wr U L cap g q R HR (by omega) hown hbel
            obtain ⟨D, hD⟩ : ∃ D, hf.dg (U : Int) q = D := ⟨_, rfl⟩
            rw [hD] at c3 d0 d1 HN
            have e1 : ((q + 1 : Nat) : Int) - 1 = (q : Int) := by omega
            clear hown hD
            go_wp2
            go_roundw
            case rel => exact HN.out
            case measure => simp [intOf]
      · subst hc
        go_wp2
        go_loopw [5, 6] (fun c i wr => TenIn w U 0 cap a3 c i wr) (fun _ i _ => (intOf i + 1).toNat)
        case atStart => exact HI.out
        case round =>
          obtain ⟨r, R, hr, HR, rfl, rfl, r0, r1, hown, hbel⟩ := hrel
          rcases r with _ | q
          · have HR2 : Hid (R = (U : Int) % 10) := by unfold Hid; rw [HR.out]; simp
            rw [hf.xim_zero, HV2.out] at hown
            have hsl := slice10 R r0 r1
            have z2 : (strOfNums [48 + R]).size = 1 := by rw [strOfNums_size]; rfl
            have z3 : ¬ 9223372036854775807 < 1 + t := by omega
            go_wp2_with (go_at_call 74; refine (rtrim_own _ _ _ V _ _ hown HVS.out).mono ?_; rintro e w' ⟨rfl, hw, hown5⟩; subst hw)
            go_roundw
            case rel => exact ⟨t + 1, V, cap, a3, ht2, hl2.out, HV.out, rfl, by rw [HR2.out, HT.out], hLV, hown5, hbel⟩
            case measure => rw [(HMe.out R).1, (HMe.out R).2]; omega
          · omega
    · have hz : hf.nlen U = 0 := by omega
      have hu0 := hf.nlen_eq_zero.1 hz
      have HF : Hid (decS u = strOfNums (digs t u)) := by
        unfold Hid decS
        rw [dlen_eq (isDec_of (by omega) (HU.out.symm.trans hu0) hl)]
      have h1 : ¬ (0 : Int) < (hf.nlen U : Int) := by omega
      have h2 : (strOfNums (digs t u)).toList.isEmpty = false := by rw [HE]; simp; omega
      obtain ⟨S, hS⟩ : ∃ S, strOfNums (digs t u) = S := ⟨_, rfl⟩
      rw [hS] at h2 HF ⊢
      clear HE HE2 hS hz hu0
      go_wp2
      go_ret
      exact ⟨by rw [HF.out]; rfl, hbel⟩
end Go.Proofs.YtcaihoomcdbfnaaGreat

namespace Go.Proofs.YtcaihoomcdbfnaaGreat
open Go.RowKit
set_option linter.unusedVariables false

theorem Below.then {a b c : World} (h : Below a.heap.size a b) (k : Below b.heap.size b c) : Below a.heap.size a c := h.trans (k.mono h.size)
theorem Below.more {a b : World} (h : Below a.heap.size a b) (o : Obj) : Below a.heap.size a (b.alloc o) := h.alloc h.size o
end Go.Proofs.YtcaihoomcdbfnaaGreat

namespace Go.Proofs.YtcaihoomcdbfnaaGreat
open Go.RowKit
set_option linter.unusedVariables false

theorem hShow (a : Option Addr) (la ca u : Nat) (w : World) (ha : HD w a la ca u) (fu : hf.nlen u ≤ 1000000) {s : ByteArray} (hs : s = decS u) : Calls Tryz.prog 90 #[.slice a la ca] w fun e w' => e = .returned (.string s) ∧ Below w.heap.size w w' := by
  obtain ⟨ha, rfl⟩ := ha
  subst hs
  exact rshow_any a ca u w ha (by omega)
set_option maxRecDepth 100000 in
set_option maxHeartbeats 1000000 in
theorem rwShow (s : Int) (d : Option Addr) (l c : Nat) (z : Int) (w : World) (hd : RN w s d l c z) (fz : hf.nlen z.natAbs ≤ 1000000) {t : ByteArray} (ht : t = decZ z) :
    Calls Tryz.prog 62 #[.agg #[.int .i64 s, .slice d l c]] w fun e w' => e = .returned (.string t) ∧ Below w.heap.size w w' := by
  have B0 : Below w.heap.size w (w.alloc (.cells #[.int .i64 s, .slice d l c] 39)) := (Below.refl _ _).alloc (Nat.le_refl _) _
  have h0 := hd.hd.below B0
  obtain ⟨r, hr⟩ : ∃ r, r = decS z.natAbs := ⟨_, rfl⟩
  have HR : Hid _ := hr
  have hsz : ¬ 9223372036854775807 < 1 + r.size := by
    rw [hr, decS_size]
    have := dlen_few (hf.nlen_lt z.natAbs)
    omega
  by_cases hz : z < 0
  · obtain rfl : t = ⟨#[45]⟩ ++ r := by rw [ht]; unfold decZ; rw [if_pos hz, hr]
    obtain rfl : s = -1 := by rw [hd.sg]; exact sign_neg hz
    clear ht hr
    go_enter Tryz.func62, Tryz.ntmps62
    go_wp2_with (go_at_call 90; fail)
    refine (hShow d l c _ _ h0 fz HR.out).mono ?_
    rintro e w1 ⟨rfl, b1⟩
    go_wp2
    go_ret
    exact ⟨rfl, also B0 b1⟩
  · obtain rfl : t = r := by rw [ht]; unfold decZ; rw [if_neg hz, hr]
    have hs : ¬ s < 0 := by rw [hd.sg]; rcases sign_cases z with ⟨h, e⟩ | ⟨h, e⟩ | ⟨h, e⟩ <;> omega
    clear ht hr
    go_enter Tryz.func62, Tryz.ntmps62
    go_wp2_with (go_at_call 90; fail)
    refine (hShow d l c _ _ h0 fz HR.out).mono ?_
    rintro e w1 ⟨rfl, b1⟩
    go_wp2
    go_ret
    exact ⟨rfl, also B0 b1⟩

end Go.Proofs.YtcaihoomcdbfnaaGreat

namespace Go.Proofs.YtcaihoomcdbfnaaGreat
open Go.RowKit
set_option linter.unusedVariables false

theorem decZ_nat (D : Nat) : decZ (D : Int) = decS D := by
  unfold decZ
  rw [if_neg (by omega), Int.natAbs_natCast]
set_option maxRecDepth 100000 in
set_option maxHeartbeats 1000000 in
theorem rqShow (s1 : Int) (d1 : Option Addr) (l1 c1 : Nat) (t1 : Int) (g1 : Option Addr) (h1 k1 : Nat) (N1 : Int) (D1 : Nat) (K : Nat) (w : World) (x : RQ w K s1 d1 l1 c1 t1 g1 h1 k1 N1 D1) {s : ByteArray} (hs : s = qText (lowN N1 D1) (lowD N1 D1)) :
    Calls Tryz.prog 27 #[.agg #[.int .i64 s1, .slice d1 l1 c1, .int .i64 t1, .slice g1 h1 k1]] w fun e w' => e = .returned (.string s) ∧ Below w.heap.size w w' := by
  obtain ⟨N, hN⟩ : ∃ N, N = lowN N1 D1 := ⟨_, rfl⟩
  obtain ⟨E, hE⟩ : ∃ E, E = lowD N1 D1 := ⟨_, rfl⟩
  rw [← hN, ← hE] at hs
  have HNs : Hid (N.natAbs < 4294967296 ^ K) := by unfold Hid; rw [hN]; exact Nat.lt_of_le_of_lt (lowN_le _ _) x.ns
  have HEs : Hid (E < 4294967296 ^ K) := by unfold Hid; rw [hE]; exact Nat.lt_of_le_of_lt (lowD_le _ _) x.ds
  have kk := x.kk
  have HN : Hid _ := hN
  have HE : Hid _ := hE
  obtain ⟨g0, hg⟩ : ∃ g0, g0 = ((E : Int) - 1).sign := ⟨_, rfl⟩
  have HG : Hid _ := hg
  have hp : 0 < E := by rw [hE]; exact lowD_pos x.dp
  clear hN hE
  by_cases q1 : E = 1
  · have HT : Hid (s = decZ N) := by unfold Hid; rw [hs]; unfold qText; rw [if_pos q1]
    obtain rfl : g0 = 0 := by rw [hg, q1]; rfl
    clear hs hg q1
    obtain ⟨W, hW, bW, x_a, sW⟩ := bs_4 w (.int .i64 s1) (.slice d1 l1 c1) (.int .i64 t1) (.slice g1 h1 k1) 41
    have zbW := bW.size
    replace x := x.below bW
    have BB := bW
    go_enter Tryz.func27, Tryz.ntmps27
    go_wp2_with (go_at_call 30; fail)
    rw [← hW]
    clear hW
    refine (rqLow s1 d1 l1 c1 t1 g1 h1 k1 N1 D1 K W x N E HN.out HE.out).mono ?_
    rintro e w1 ⟨s2, d2, l2, c2, t2, g2, h2, k2, rfl, y, f2, bw1⟩
    have zbw1 := bw1.size
    replace x := x.below bw1
    replace BB := also BB bw1
    replace x_a := x_a.on bw1
    obtain ⟨V1, hV1, bV1, x_l, sV1⟩ := bs_4 w1 (.int .i64 s2) (.slice d2 l2 c2) (.int .i64 t2) (.slice g2 h2 k2) 41
    have zbV1 := bV1.size
    replace x := x.below bV1
    replace BB := also BB bV1
    replace x_a := x_a.on bV1
    replace y := y.below bV1
    go_wp2
    rw [← hV1]
    clear hV1
    have dd1 : Below V1.heap.size V1 V1.drew := (Below.refl _ _).drew
    have zdd1 := dd1.size
    replace x := x.below dd1
    replace BB := also BB dd1
    replace x_a := x_a.on dd1
    replace y := y.below dd1
    replace x_l := x_l.on dd1
    refine wp_region_held_drew (S := (fun w' => w'.cell? ⟨w1.heap.size, 0, none⟩ = some (.int .i64 s2) ∧ w'.cell? ⟨w1.heap.size, 1, none⟩ = some (.slice d2 l2 c2) ∧ w'.cell? ⟨w1.heap.size, 2, none⟩ = some (.int .i64 t2) ∧ w'.cell? ⟨w1.heap.size, 3, none⟩ = some (.slice g2 h2 k2) ∧ Below w.heap.size w w')) (by kernel_rfl) ?_ (fun hHeld => ?_)
    · first | exact ⟨x_l.c0, x_l.c1, x_l.c2, x_l.c3, BB⟩ | exact ⟨cell_on bw4 hHeld.1, cell_on bw4 hHeld.2.1, cell_on bw4 hHeld.2.2.1, cell_on bw4 hHeld.2.2.2.1, also hHeld.2.2.2.2 bw4⟩ | exact ⟨cell_on bw3 hHeld.1, cell_on bw3 hHeld.2.1, cell_on bw3 hHeld.2.2.1, cell_on bw3 hHeld.2.2.2.1, also hHeld.2.2.2.2 bw3⟩
    refine take_yes (i := 0) (v := ?vr0) rfl (by kernel_rfl) (by kernel_rfl) (by kernel_rfl) (fun _ _ _ h => h) (by rfl) (by assumption) ?hyr0 ?restr0
    case hyr0 => (intro w hSw; (try dsimp only at hSw); first | (go_simp; done) | (go_simp; with_reducible rfl))
    simp only [Act.put, List.setIfInBounds_toArray, List.set_cons_zero, List.set_cons_succ]
    refine take_yes (i := 1) (v := ?vr1) rfl (by kernel_rfl) (by kernel_rfl) (by kernel_rfl) (fun _ _ _ h => h) (by rfl) (by assumption) ?hyr1 ?restr1
    case hyr1 => (intro w hSw; (try dsimp only at hSw); first | (go_simp; done) | (go_simp; with_reducible rfl))
    simp only [Act.put, List.setIfInBounds_toArray, List.set_cons_zero, List.set_cons_succ]
    refine take_call (i := 2) rfl (by kernel_rfl) (fun Kc hK => ?_)
    go_simp
    (go_at_call 37; refine (rwLong 1 _ (by decide) (by decide)).mono ?_; rintro e w3 ⟨s3, d3, l3, c3, rfl, r3, f3, bw3⟩)
    refine hK.out _ _ ?_ (fun hHeld => ?_)
    · first | exact ⟨x_l.c0, x_l.c1, x_l.c2, x_l.c3, BB⟩ | exact ⟨cell_on bw4 hHeld.1, cell_on bw4 hHeld.2.1, cell_on bw4 hHeld.2.2.1, cell_on bw4 hHeld.2.2.2.1, also hHeld.2.2.2.2 bw4⟩ | exact ⟨cell_on bw3 hHeld.1, cell_on bw3 hHeld.2.1, cell_on bw3 hHeld.2.2.1, cell_on bw3 hHeld.2.2.2.1, also hHeld.2.2.2.2 bw3⟩
    clear hK Kc
    have zbw3 := bw3.size
    replace x := x.below bw3
    replace BB := also BB bw3
    replace x_a := x_a.on bw3
    replace y := y.below bw3
    replace x_l := x_l.on bw3
    refine take_call (i := 3) rfl (by kernel_rfl) (fun Kc hK => ?_)
    go_simp
    (go_at_call 61; refine (rwCmp t2 s3 g2 d3 h2 k2 l3 c3 _ _ _ y.rd r3 y.fd one_few HG.out).mono ?_; rintro e w4 ⟨rfl, bw4⟩)
    refine hK.out _ _ ?_ (fun hHeld => ?_)
    · first | exact ⟨x_l.c0, x_l.c1, x_l.c2, x_l.c3, BB⟩ | exact ⟨cell_on bw4 hHeld.1, cell_on bw4 hHeld.2.1, cell_on bw4 hHeld.2.2.1, cell_on bw4 hHeld.2.2.2.1, also hHeld.2.2.2.2 bw4⟩ | exact ⟨cell_on bw3 hHeld.1, cell_on bw3 hHeld.2.1, cell_on bw3 hHeld.2.2.1, cell_on bw3 hHeld.2.2.2.1, also hHeld.2.2.2.2 bw3⟩
    clear hK Kc
    have zbw4 := bw4.size
    replace x := x.below bw4
    replace BB := also BB bw4
    replace x_a := x_a.on bw4
    replace y := y.below bw4
    replace x_l := x_l.on bw4
    replace r3 := r3.below bw4
    refine take_yes (i := 4) (v := ?vr4) rfl (by kernel_rfl) (by kernel_rfl) (by kernel_rfl) (fun _ _ _ h => h) (by rfl) (by assumption) ?hyr4 ?restr4
    case hyr4 => (intro w hSw; (try dsimp only at hSw); first | (go_simp; done) | (go_simp; with_reducible rfl))
    simp only [Act.put, List.setIfInBounds_toArray, List.set_cons_zero, List.set_cons_succ]
    refine wpAnyH_done (by kernel_rfl) ?_ _
    have ⟨x_l_0, x_l_1, x_l_2, x_l_3, x_l_4, x_l_5, x_l_6, x_l_7⟩ := x_l
    go_wp2_with (go_at_call 62; fail)
    refine (rwShow s2 d2 l2 c2 N w4 y.rn y.fn HT.out).mono ?_
    rintro e w5 ⟨rfl, bw5⟩
    clear x_l_0 x_l_1 x_l_2 x_l_3 x_l_4 x_l_5 x_l_6 x_l_7
    have zbw5 := bw5.size
    replace x := x.below bw5
    replace BB := also BB bw5
    replace x_a := x_a.on bw5
    replace y := y.below bw5
    replace x_l := x_l.on bw5
    replace r3 := r3.below bw5
    go_wp2
    go_ret
    exact ⟨rfl, BB⟩
  · have HT : Hid (s = (decZ N ++ ⟨#[47]⟩) ++ decS E) := by unfold Hid; rw [hs]; unfold qText; rw [if_neg q1]
    have hg0 : ¬ g0 = 0 := by rw [hg]; exact fun e => by have := Int.sign_eq_zero_iff_zero.1 e; omega
    clear hs hg q1
    obtain ⟨u1, hu1⟩ : ∃ u1, u1 = decZ N := ⟨_, rfl⟩
    obtain ⟨u2, hu2⟩ : ∃ u2, u2 = decS E := ⟨_, rfl⟩
    have y1 := decZ_size HNs.out
    have y2 := decS_sz HEs.out
    rw [← hu1] at y1
    rw [← hu2] at y2
    have hz1 : ¬ 9223372036854775807 < u1.size + 1 := by omega
    have hz2 : ¬ 9223372036854775807 < u1.size + 1 + u2.size := by omega
    clear y1 y2
    rw [← hu1, ← hu2] at HT
    have HT1 : Hid _ := hu1
    have HT2 : Hid (u2 = decZ (E : Int)) := by unfold Hid; rw [hu2, decZ_nat]
    clear hu1 hu2
    obtain ⟨W, hW, bW, x_a, sW⟩ := bs_4 w (.int .i64 s1) (.slice d1 l1 c1) (.int .i64 t1) (.slice g1 h1 k1) 41
    have zbW := bW.size
    replace x := x.below bW
    have BB := bW
    go_enter Tryz.func27, Tryz.ntmps27
    go_wp2_with (go_at_call 30; fail)
    rw [← hW]
    clear hW
    refine (rqLow s1 d1 l1 c1 t1 g1 h1 k1 N1 D1 K W x N E HN.out HE.out).mono ?_
    rintro e w1 ⟨s2, d2, l2, c2, t2, g2, h2, k2, rfl, y, f2, bw1⟩
    have zbw1 := bw1.size
    replace x := x.below bw1
    replace BB := also BB bw1
    replace x_a := x_a.on bw1
    obtain ⟨V1, hV1, bV1, x_l, sV1⟩ := bs_4 w1 (.int .i64 s2) (.slice d2 l2 c2) (.int .i64 t2) (.slice g2 h2 k2) 41
    have zbV1 := bV1.size
    replace x := x.below bV1
    replace BB := also BB bV1
    replace x_a := x_a.on bV1
    replace y := y.below bV1
    go_wp2
    rw [← hV1]
    clear hV1
    have dd1 : Below V1.heap.size V1 V1.drew := (Below.refl _ _).drew
    have zdd1 := dd1.size
    replace x := x.below dd1
    replace BB := also BB dd1
    replace x_a := x_a.on dd1
    replace y := y.below dd1
    replace x_l := x_l.on dd1
    refine wp_region_held_drew (S := (fun w' => w'.cell? ⟨w1.heap.size, 0, none⟩ = some (.int .i64 s2) ∧ w'.cell? ⟨w1.heap.size, 1, none⟩ = some (.slice d2 l2 c2) ∧ w'.cell? ⟨w1.heap.size, 2, none⟩ = some (.int .i64 t2) ∧ w'.cell? ⟨w1.heap.size, 3, none⟩ = some (.slice g2 h2 k2) ∧ Below w.heap.size w w')) (by kernel_rfl) ?_ (fun hHeld => ?_)
    · first | exact ⟨x_l.c0, x_l.c1, x_l.c2, x_l.c3, BB⟩ | exact ⟨cell_on bw4 hHeld.1, cell_on bw4 hHeld.2.1, cell_on bw4 hHeld.2.2.1, cell_on bw4 hHeld.2.2.2.1, also hHeld.2.2.2.2 bw4⟩ | exact ⟨cell_on bw3 hHeld.1, cell_on bw3 hHeld.2.1, cell_on bw3 hHeld.2.2.1, cell_on bw3 hHeld.2.2.2.1, also hHeld.2.2.2.2 bw3⟩
    refine take_yes (i := 0) (v := ?vq0) rfl (by kernel_rfl) (by kernel_rfl) (by kernel_rfl) (fun _ _ _ h => h) (by rfl) (by assumption) ?hyq0 ?restq0
    case hyq0 => (intro w hSw; (try dsimp only at hSw); first | (go_simp; done) | (go_simp; with_reducible rfl))
    simp only [Act.put, List.setIfInBounds_toArray, List.set_cons_zero, List.set_cons_succ]
    refine take_yes (i := 1) (v := ?vq1) rfl (by kernel_rfl) (by kernel_rfl) (by kernel_rfl) (fun _ _ _ h => h) (by rfl) (by assumption) ?hyq1 ?restq1
    case hyq1 => (intro w hSw; (try dsimp only at hSw); first | (go_simp; done) | (go_simp; with_reducible rfl))
    simp only [Act.put, List.setIfInBounds_toArray, List.set_cons_zero, List.set_cons_succ]
    refine take_call (i := 2) rfl (by kernel_rfl) (fun Kc hK => ?_)
    go_simp
    (go_at_call 37; refine (rwLong 1 _ (by decide) (by decide)).mono ?_; rintro e w3 ⟨s3, d3, l3, c3, rfl, r3, f3, bw3⟩)
    refine hK.out _ _ ?_ (fun hHeld => ?_)
    · first | exact ⟨x_l.c0, x_l.c1, x_l.c2, x_l.c3, BB⟩ | exact ⟨cell_on bw4 hHeld.1, cell_on bw4 hHeld.2.1, cell_on bw4 hHeld.2.2.1, cell_on bw4 hHeld.2.2.2.1, also hHeld.2.2.2.2 bw4⟩ | exact ⟨cell_on bw3 hHeld.1, cell_on bw3 hHeld.2.1, cell_on bw3 hHeld.2.2.1, cell_on bw3 hHeld.2.2.2.1, also hHeld.2.2.2.2 bw3⟩
    clear hK Kc
    have zbw3 := bw3.size
    replace x := x.below bw3
    replace BB := also BB bw3
    replace x_a := x_a.on bw3
    replace y := y.below bw3
    replace x_l := x_l.on bw3
    refine take_call (i := 3) rfl (by kernel_rfl) (fun Kc hK => ?_)
    go_simp
    (go_at_call 61; refine (rwCmp t2 s3 g2 d3 h2 k2 l3 c3 _ _ _ y.rd r3 y.fd one_few HG.out).mono ?_; rintro e w4 ⟨rfl, bw4⟩)
    refine hK.out _ _ ?_ (fun hHeld => ?_)
    · first | exact ⟨x_l.c0, x_l.c1, x_l.c2, x_l.c3, BB⟩ | exact ⟨cell_on bw4 hHeld.1, cell_on bw4 hHeld.2.1, cell_on bw4 hHeld.2.2.1, cell_on bw4 hHeld.2.2.2.1, also hHeld.2.2.2.2 bw4⟩ | exact ⟨cell_on bw3 hHeld.1, cell_on bw3 hHeld.2.1, cell_on bw3 hHeld.2.2.1, cell_on bw3 hHeld.2.2.2.1, also hHeld.2.2.2.2 bw3⟩
    clear hK Kc
    have zbw4 := bw4.size
    replace x := x.below bw4
    replace BB := also BB bw4
    replace x_a := x_a.on bw4
    replace y := y.below bw4
    replace x_l := x_l.on bw4
    replace r3 := r3.below bw4
    refine take_yes (i := 4) (v := ?vq4) rfl (by kernel_rfl) (by kernel_rfl) (by kernel_rfl) (fun _ _ _ h => h) (by rfl) (by assumption) ?hyq4 ?restq4
    case hyq4 => (intro w hSw; (try dsimp only at hSw); first | (go_simp; done) | (go_simp; with_reducible rfl))
    simp only [Act.put, List.setIfInBounds_toArray, List.set_cons_zero, List.set_cons_succ]
    refine wpAnyH_done (by kernel_rfl) ?_ _
    have ⟨x_l_0, x_l_1, x_l_2, x_l_3, x_l_4, x_l_5, x_l_6, x_l_7⟩ := x_l
    go_wp2
    have dd2 : Below w4.heap.size w4 w4.drew := (Below.refl _ _).drew
    clear x_l_0 x_l_1 x_l_2 x_l_3 x_l_4 x_l_5 x_l_6 x_l_7
    have zdd2 := dd2.size
    replace x := x.below dd2
    replace BB := also BB dd2
    replace x_a := x_a.on dd2
    replace y := y.below dd2
    replace x_l := x_l.on dd2
    replace r3 := r3.below dd2
    refine wp_region_held_drew (S := (fun w' => w'.cell? ⟨w1.heap.size, 0, none⟩ = some (.int .i64 s2) ∧ w'.cell? ⟨w1.heap.size, 1, none⟩ = some (.slice d2 l2 c2) ∧ w'.cell? ⟨w1.heap.size, 2, none⟩ = some (.int .i64 t2) ∧ w'.cell? ⟨w1.heap.size, 3, none⟩ = some (.slice g2 h2 k2) ∧ Below w.heap.size w w')) (by kernel_rfl) ?_ (fun hHeld => ?_)
    · first | exact ⟨x_l.c0, x_l.c1, x_l.c2, x_l.c3, BB⟩ | exact ⟨cell_on bw6 hHeld.1, cell_on bw6 hHeld.2.1, cell_on bw6 hHeld.2.2.1, cell_on bw6 hHeld.2.2.2.1, also hHeld.2.2.2.2 bw6⟩ | exact ⟨cell_on bw5 hHeld.1, cell_on bw5 hHeld.2.1, cell_on bw5 hHeld.2.2.1, cell_on bw5 hHeld.2.2.2.1, also hHeld.2.2.2.2 bw5⟩
    refine take_yes (i := 0) (v := ?vs0) rfl (by kernel_rfl) (by kernel_rfl) (by kernel_rfl) (fun _ _ _ h => h) (by rfl) (by assumption) ?hys0 ?rests0
    case hys0 => (intro w hSw; (try dsimp only at hSw); first | (go_simp; done) | (go_simp; with_reducible rfl))
    simp only [Act.put, List.setIfInBounds_toArray, List.set_cons_zero, List.set_cons_succ]
    refine take_yes (i := 1) (v := ?vs1) rfl (by kernel_rfl) (by kernel_rfl) (by kernel_rfl) (fun _ _ _ h => h) (by rfl) (by assumption) ?hys1 ?rests1
    case hys1 => (intro w hSw; (try dsimp only at hSw); first | (go_simp; done) | (go_simp; with_reducible rfl))
    simp only [Act.put, List.setIfInBounds_toArray, List.set_cons_zero, List.set_cons_succ]
    refine take_yes (i := 4) (v := ?vs4) rfl (by kernel_rfl) (by kernel_rfl) (by kernel_rfl) (fun _ _ _ h => h) (by rfl) (by assumption) ?hys4 ?rests4
    case hys4 => (intro w hSw; (try dsimp only at hSw); first | (go_simp; done) | (go_simp; with_reducible rfl))
    simp only [Act.put, List.setIfInBounds_toArray, List.set_cons_zero, List.set_cons_succ]
    refine take_yes (i := 5) (v := ?vs5) rfl (by kernel_rfl) (by kernel_rfl) (by kernel_rfl) (fun _ _ _ h => h) (by rfl) (by assumption) ?hys5 ?rests5
    case hys5 => (intro w hSw; (try dsimp only at hSw); first | (go_simp; done) | (go_simp; with_reducible rfl))
    simp only [Act.put, List.setIfInBounds_toArray, List.set_cons_zero, List.set_cons_succ]
    refine take_call (i := 2) rfl (by kernel_rfl) (fun Kc hK => ?_)
    go_simp
    (go_at_call 62; refine (rwShow s2 d2 l2 c2 N _ y.rn y.fn HT1.out).mono ?_; rintro e w5 ⟨rfl, bw5⟩)
    refine hK.out _ _ ?_ (fun hHeld => ?_)
    · first | exact ⟨x_l.c0, x_l.c1, x_l.c2, x_l.c3, BB⟩ | exact ⟨cell_on bw6 hHeld.1, cell_on bw6 hHeld.2.1, cell_on bw6 hHeld.2.2.1, cell_on bw6 hHeld.2.2.2.1, also hHeld.2.2.2.2 bw6⟩ | exact ⟨cell_on bw5 hHeld.1, cell_on bw5 hHeld.2.1, cell_on bw5 hHeld.2.2.1, cell_on bw5 hHeld.2.2.2.1, also hHeld.2.2.2.2 bw5⟩
    clear hK Kc
    have zbw5 := bw5.size
    replace x := x.below bw5
    replace BB := also BB bw5
    replace x_a := x_a.on bw5
    replace y := y.below bw5
    replace x_l := x_l.on bw5
    replace r3 := r3.below bw5
    refine take_yes (i := 3) (v := ?vs3) rfl (by kernel_rfl) (by kernel_rfl) (by kernel_rfl) (fun _ _ _ h => h) (by rfl) (by assumption) ?hys3 ?rests3
    case hys3 => (intro w hSw; (try dsimp only at hSw); first | (go_simp; done) | (go_simp; with_reducible rfl))
    simp only [Act.put, List.setIfInBounds_toArray, List.set_cons_zero, List.set_cons_succ]
    refine take_call (i := 6) rfl (by kernel_rfl) (fun Kc hK => ?_)
    go_simp
    (go_at_call 62; refine (rwShow t2 g2 h2 k2 E _ y.rd y.fd HT2.out).mono ?_; rintro e w6 ⟨rfl, bw6⟩)
    refine hK.out _ _ ?_ (fun hHeld => ?_)
    · first | exact ⟨x_l.c0, x_l.c1, x_l.c2, x_l.c3, BB⟩ | exact ⟨cell_on bw6 hHeld.1, cell_on bw6 hHeld.2.1, cell_on bw6 hHeld.2.2.1, cell_on bw6 hHeld.2.2.2.1, also hHeld.2.2.2.2 bw6⟩ | exact ⟨cell_on bw5 hHeld.1, cell_on bw5 hHeld.2.1, cell_on bw5 hHeld.2.2.1, cell_on bw5 hHeld.2.2.2.1, also hHeld.2.2.2.2 bw5⟩
    clear hK Kc
    have zbw6 := bw6.size
    replace x := x.below bw6
    replace BB := also BB bw6
    replace x_a := x_a.on bw6
    replace y := y.below bw6
    replace x_l := x_l.on bw6
    replace r3 := r3.below bw6
    refine take_yes (i := 7) (v := ?vs7) rfl (by kernel_rfl) (by kernel_rfl) (by kernel_rfl) (fun _ _ _ h => h) (by rfl) (by assumption) ?hys7 ?rests7
    case hys7 => (intro w hSw; (try dsimp only at hSw); first | (go_simp; done) | (go_simp; with_reducible rfl))
    simp only [Act.put, List.setIfInBounds_toArray, List.set_cons_zero, List.set_cons_succ]
    refine take_yes (i := 8) (v := ?vs8) rfl (by kernel_rfl) (by kernel_rfl) (by kernel_rfl) (fun _ _ _ h => h) (by rfl) (by assumption) ?hys8 ?rests8
    case hys8 => (intro w hSw; (try dsimp only at hSw); first | (go_simp; done) | (go_simp; with_reducible rfl))
    simp only [Act.put, List.setIfInBounds_toArray, List.set_cons_zero, List.set_cons_succ]
    refine wpAnyH_done (by kernel_rfl) ?_ _
    go_wp2
    go_ret
    exact ⟨by rw [HT.out]; rfl, BB⟩
end Go.Proofs.YtcaihoomcdbfnaaGreat

namespace Go.Proofs.YtcaihoomcdbfnaaGreat
open Go.RowKit
set_option linter.unusedVariables false

theorem text254 : qText 25 4 = ⟨#[50, 53, 47, 52]⟩ := by
  unfold qText decZ decS
  rw [if_neg (by decide), if_neg (by decide), dlen_eq (k := 2) ⟨by decide, by decide, Or.inr (by decide)⟩, dlen_eq (k := 1) ⟨by decide, by decide, Or.inl rfl⟩]
  decide +kernel
theorem low254 : lowN (pN 25 4) (pD 4) = 25 ∧ lowD (pN 25 4) (pD 4) = 4 := by decide
set_option maxRecDepth 100000 in
set_option maxHeartbeats 8000000 in
theorem lives9_of (HR : RadSpec) (HS : SmlSpec) (w : World) : Calls Tryz.prog 11 #[] w fun e w' => e = .returned (.bool true) ∧ Below w.heap.size w w' := by
  have R0 : ∀ x y : Int, (x = 0 ∨ x = 4) → (y = 0 ∨ y = 3) → Hid (R2 (x, y)) := fun x y hx hy => ⟨⟨by show -9223372036854775808 ≤ x; omega, by show x ≤ 9223372036854775807; omega⟩, ⟨by show -9223372036854775808 ≤ y; omega, by show y ≤ 9223372036854775807; omega⟩⟩
  have Ra := R0 0 0 (Or.inl rfl) (Or.inl rfl)
  have Rb := R0 4 0 (Or.inr rfl) (Or.inl rfl)
  have Rc := R0 0 3 (Or.inl rfl) (Or.inr rfl)
  have H1 : Hid (hasP 0 0 4 0 0 3 = true) := by unfold Hid; decide
  have H2 : Hid ((25 : Int) = lowN (rad2 0 0 4 0 0 3) ((2 * areaP 0 0 4 0 0 3).natAbs * (2 * areaP 0 0 4 0 0 3).natAbs)) := by unfold Hid; decide
  have H3 : Hid (4 = lowD (rad2 0 0 4 0 0 3) ((2 * areaP 0 0 4 0 0 3).natAbs * (2 * areaP 0 0 4 0 0 3).natAbs)) := by unfold Hid; decide
  have H4 : Hid (true = smP 0 0 4 0 0 3 11) := by unfold Hid; decide
  have H5 : Hid (false = smP 0 0 4 0 0 3 10) := by unfold Hid; decide
  have HT : Hid ((⟨#[50, 53, 47, 52]⟩ : ByteArray) = qText (lowN (pN 25 4) (pD 4)) (lowD (pN 25 4) (pD 4))) := by unfold Hid; rw [low254.1, low254.2, text254]
  have hR : Hid _ := HR
  have hS : Hid _ := HS
  clear HR HS R0
  obtain ⟨W, hW, bW, x_a, x_b, x_c, sW⟩ := bs_222 w (.int .i64 0) (.int .i64 0) (.int .i64 4) (.int .i64 0) (.int .i64 0) (.int .i64 3) 23 23 23
  have zbW := bW.size
  have BB := bW
  go_enter Tryz.func11, Tryz.ntmps11
  go_wp2_with (go_at_call 13; fail)
  rw [← hW]
  clear hW
  refine ((hR.out 0 0 4 0 0 3 W Ra Rb Rc).1 H1.out 25 4 H2.out H3.out).mono ?_
  rintro e w1 ⟨n1, a1, m1, e1, b1, o1, y1, rfl, h1, bw1⟩
  have zbw1 := bw1.size
  replace BB := also BB bw1
  replace x_a := x_a.on bw1
  replace x_b := x_b.on bw1
  replace x_c := x_c.on bw1
  replace h1 := h1.qi 1 (by decide) (by decide) (by decide) (by decide)
  obtain ⟨V1, hV1, bV1, x_r, sV1⟩ := bs_3 w1 (.bool n1) (.slice a1 m1 e1) (.slice b1 o1 y1) 29
  have zbV1 := bV1.size
  replace BB := also BB bV1
  replace x_a := x_a.on bV1
  replace x_b := x_b.on bV1
  replace x_c := x_c.on bV1
  replace h1 := h1.below bV1
  go_wp2_with (go_at_call 16; fail)
  rw [← hV1]
  clear hV1
  refine (rqOf n1 a1 m1 e1 b1 o1 y1 25 4 1 V1 h1).mono ?_
  rintro e w2 ⟨s11, d11, l11, c11, t11, g11, h11, k11, rfl, q11, f11, bw2⟩
  have zbw2 := bw2.size
  replace BB := also BB bw2
  replace x_a := x_a.on bw2
  replace x_b := x_b.on bw2
  replace x_c := x_c.on bw2
  replace h1 := h1.below bw2
  replace x_r := x_r.on bw2
  go_wp2_with (go_at_call 27; fail)
  refine (rqShow s11 d11 l11 c11 t11 g11 h11 k11 (pN 25 4) (pD 4) 1 w2 q11 HT.out).mono ?_
  rintro e w3 ⟨rfl, bw3⟩
  have zbw3 := bw3.size
  replace BB := also BB bw3
  replace x_a := x_a.on bw3
  replace x_b := x_b.on bw3
  replace x_c := x_c.on bw3
  replace h1 := h1.below bw3
  replace x_r := x_r.on bw3
  replace q11 := q11.below bw3
  have ⟨x_a_0, x_a_1, x_a_2, x_a_3⟩ := x_a
  have ⟨x_b_0, x_b_1, x_b_2, x_b_3⟩ := x_b
  have ⟨x_c_0, x_c_1, x_c_2, x_c_3⟩ := x_c
  go_wp2_with (go_at_call 18; fail)
  refine (hS.out 0 0 4 0 0 3 11 w3 Ra Rb Rc ⟨by decide, by decide⟩ true H4.out).mono ?_
  rintro e w4 ⟨rfl, bw4⟩
  clear x_a_0 x_a_1 x_a_2 x_a_3 x_b_0 x_b_1 x_b_2 x_b_3 x_c_0 x_c_1 x_c_2 x_c_3
  have zbw4 := bw4.size
  replace BB := also BB bw4
  replace x_a := x_a.on bw4
  replace x_b := x_b.on bw4
  replace x_c := x_c.on bw4
  replace h1 := h1.below bw4
  replace x_r := x_r.on bw4
  replace q11 := q11.below bw4
  have ⟨x_a_0, x_a_1, x_a_2, x_a_3⟩ := x_a
  have ⟨x_b_0, x_b_1, x_b_2, x_b_3⟩ := x_b
  have ⟨x_c_0, x_c_1, x_c_2, x_c_3⟩ := x_c
  go_wp2_with (go_at_call 18; fail)
  refine (hS.out 0 0 4 0 0 3 10 w4 Ra Rb Rc ⟨by decide, by decide⟩ false H5.out).mono ?_
  rintro e w5 ⟨rfl, bw5⟩
  clear x_a_0 x_a_1 x_a_2 x_a_3 x_b_0 x_b_1 x_b_2 x_b_3 x_c_0 x_c_1 x_c_2 x_c_3
  have zbw5 := bw5.size
  replace BB := also BB bw5
  replace x_a := x_a.on bw5
  replace x_b := x_b.on bw5
  replace x_c := x_c.on bw5
  replace h1 := h1.below bw5
  replace x_r := x_r.on bw5
  replace q11 := q11.below bw5
  go_wp2
  go_ret
  exact ⟨rfl, BB⟩
end Go.Proofs.YtcaihoomcdbfnaaGreat

namespace Go.Proofs.YtcaihoomcdbfnaaGreat
open Go.RowKit
set_option linter.unusedVariables false

theorem low_idem {z : Int} {D : Nat} (h : 0 < D) : lowN z D = lowN (lowN z D) (lowD z D) ∧ lowD z D = lowD (lowN z D) (lowD z D) := by
  have := low_uniq (lowD_pos h) h (fe_low (z := z) h)
  exact ⟨this.1.symm, this.2.symm⟩
theorem bs_6 (w : World) (x00 x01 x02 x03 x04 x05 : Value) (t0 : TypeId) : ∃ W, W = (w.alloc (.cells #[x00, x01, x02, x03, x04, x05] t0)) ∧ Below w.heap.size w W ∧ B6 W (w.heap.size) x00 x01 x02 x03 x04 x05 ∧ w.heap.size < W.heap.size := by
  have e0 : Below w.heap.size w (w.alloc (.cells #[x00, x01, x02, x03, x04, x05] t0)) := (Below.refl _ _).alloc (Nat.le_refl _) _
  have h0 := b6_new w x00 x01 x02 x03 x04 x05 t0
  exact ⟨_, rfl, e0, h0, by simp⟩
end Go.Proofs.YtcaihoomcdbfnaaGreat

namespace Go.Proofs.YtcaihoomcdbfnaaGreat
open Go.RowKit
set_option linter.unusedVariables false

theorem endRad {w w2 : World} {n3 : Bool} {a3 : Option Addr} {l3 c3 : Nat} {d3 : Option Addr} {m3 k3 : Nat} {A1 : Int} {B1 : Nat} {ok : Bool} (b : Nat) (hb : w.heap.size ≤ b) (B : Below w.heap.size w w2) (h3 : QN w2 n3 a3 l3 c3 d3 m3 k3 A1 B1) (f3 : NA b a3 l3) (g3 : NA b d3 m3) (u v t : Value) :
    GotRad w ok A1 B1 (.returned (.tuple #[.agg #[.bool n3, .slice a3 l3 c3, .slice d3 m3 k3], .bool ok])) (((w2.setCell ⟨b, 0, none⟩ u).setCell ⟨b, 1, none⟩ v).setCell ⟨b, 2, none⟩ t) :=
  ⟨n3, a3, l3, c3, d3, m3, k3, rfl, h3.put3 f3 g3 u v t, below_put3 B hb u v t⟩
theorem bs_2223 (w : World) (x00 x01 x10 x11 x20 x21 x30 x31 x32 : Value) (t0 t1 t2 t3 : TypeId) : ∃ W, W = ((((w.alloc (.cells #[x00, x01] t0)).alloc (.cells #[x10, x11] t1)).alloc (.cells #[x20, x21] t2)).alloc (.cells #[x30, x31, x32] t3)) ∧ Below w.heap.size w W ∧ Bx W (w.heap.size) x00 x01 ∧ Bx W (w.heap.size + 1) x10 x11 ∧ Bx W (w.heap.size + 1 + 1) x20 x21 ∧ B3 W (w.heap.size + 1 + 1 + 1) x30 x31 x32 ∧ w.heap.size + 1 + 1 + 1 < W.heap.size := by
  have e0 : Below w.heap.size w (w.alloc (.cells #[x00, x01] t0)) := (Below.refl _ _).alloc (Nat.le_refl _) _
  have h0 := bx_new w x00 x01 t0
  have e1 : Below (w.alloc (.cells #[x00, x01] t0)).heap.size (w.alloc (.cells #[x00, x01] t0)) ((w.alloc (.cells #[x00, x01] t0)).alloc (.cells #[x10, x11] t1)) := (Below.refl _ _).alloc (Nat.le_refl _) _
  have h1 := bx_new (w.alloc (.cells #[x00, x01] t0)) x10 x11 t1
  rw [World.size_alloc] at h1
  have e2 : Below ((w.alloc (.cells #[x00, x01] t0)).alloc (.cells #[x10, x11] t1)).heap.size ((w.alloc (.cells #[x00, x01] t0)).alloc (.cells #[x10, x11] t1)) (((w.alloc (.cells #[x00, x01] t0)).alloc (.cells #[x10, x11] t1)).alloc (.cells #[x20, x21] t2)) := (Below.refl _ _).alloc (Nat.le_refl _) _
  have h2 := bx_new ((w.alloc (.cells #[x00, x01] t0)).alloc (.cells #[x10, x11] t1)) x20 x21 t2
  rw [World.size_alloc, World.size_alloc] at h2
  have e3 : Below (((w.alloc (.cells #[x00, x01] t0)).alloc (.cells #[x10, x11] t1)).alloc (.cells #[x20, x21] t2)).heap.size (((w.alloc (.cells #[x00, x01] t0)).alloc (.cells #[x10, x11] t1)).alloc (.cells #[x20, x21] t2)) ((((w.alloc (.cells #[x00, x01] t0)).alloc (.cells #[x10, x11] t1)).alloc (.cells #[x20, x21] t2)).alloc (.cells #[x30, x31, x32] t3)) := (Below.refl _ _).alloc (Nat.le_refl _) _
  have h3 := b3_new (((w.alloc (.cells #[x00, x01] t0)).alloc (.cells #[x10, x11] t1)).alloc (.cells #[x20, x21] t2)) x30 x31 x32 t3
  rw [World.size_alloc, World.size_alloc, World.size_alloc] at h3
  exact ⟨_, rfl, also (also (also (e0) e1) e2) e3, (((h0.on e1).on e2).on e3), ((h1.on e2).on e3), (h2.on e3), h3, by simp⟩
set_option maxRecDepth 100000 in
set_option maxHeartbeats 8000000 in
theorem cRadius0 (a1 a2 b1 b2 c1 c2 : Int) (w : World) (Ra : Hid (R2 (a1, a2))) (Rb : Hid (R2 (b1, b2))) (Rc : Hid (R2 (c1, c2))) (hh : hasP a1 a2 b1 b2 c1 c2 = false) :
    Calls Tryz.prog 13 #[.agg #[.int .i64 a1, .int .i64 a2], .agg #[.int .i64 b1, .int .i64 b2], .agg #[.int .i64 c1, .int .i64 c2]] w (GotRad w false 0 1) := by
  obtain ⟨W, hW, bW, x_a, x_b, x_c, x_r, sW⟩ := bs_2223 w (.int .i64 a1) (.int .i64 a2) (.int .i64 b1) (.int .i64 b2) (.int .i64 c1) (.int .i64 c2) (.bool false) (.slice none 0 0) (.slice none 0 0) 23 23 23 29
  have zbW := bW.size
  have BB := bW
  go_enter Tryz.func13, Tryz.ntmps13
  go_wp2_with (go_at_call 22; fail)
  rw [← hW]
  clear hW
  refine (cAbout0 a1 a2 b1 b2 c1 c2 hh W).mono ?_
  rintro e w1 ⟨rfl, bw1⟩
  have zbw1 := bw1.size
  replace BB := also BB bw1
  replace x_a := x_a.on bw1
  replace x_b := x_b.on bw1
  replace x_c := x_c.on bw1
  replace x_r := x_r.on bw1
  obtain ⟨V, hV, bV, x_s, sV⟩ := bs_6 w1 (.int .i64 0) (.int .u64 0) (.int .i64 0) (.int .u64 0) (.int .i64 0) (.int .u64 0) 63
  have zbV := bV.size
  replace BB := also BB bV
  replace x_a := x_a.on bV
  replace x_b := x_b.on bV
  replace x_c := x_c.on bV
  replace x_r := x_r.on bV
  go_wp2_with (go_at_call 23; fail)
  rw [← hV]
  clear hV
  refine (qOf 0 V (by decide) (by decide)).mono ?_
  rintro e w2 ⟨n3, a3, l3, c3, d3, m3, k3, rfl, h3, f3, g3, bw2⟩
  have zbw2 := bw2.size
  replace BB := also BB bw2
  replace x_a := x_a.on bw2
  replace x_b := x_b.on bw2
  replace x_c := x_c.on bw2
  replace x_r := x_r.on bw2
  replace x_s := x_s.on bw2
  have ⟨x_r_0, x_r_1, x_r_2, x_r_3, x_r_4, x_r_5⟩ := x_r
  go_wp2
  exact bodyPost_ret (v := .tuple #[.agg #[.bool n3, .slice a3 l3 c3, .slice d3 m3 k3], .bool false]) (by simp [results, Tryz.results13, go_sem, *]) rfl (endRad _ (by omega) BB h3 (f3 _ (by omega)) (g3 _ (by omega)) _ _ _)
set_option maxRecDepth 100000 in
set_option maxHeartbeats 8000000 in
theorem cRadius (a1 a2 b1 b2 c1 c2 : Int) (w : World) (Ra : Hid (R2 (a1, a2))) (Rb : Hid (R2 (b1, b2))) (Rc : Hid (R2 (c1, c2))) (hh : hasP a1 a2 b1 b2 c1 c2 = true) (A1 : Int) (B1 : Nat) (hA1 : A1 = lowN (rad2 a1 a2 b1 b2 c1 c2) ((2 * areaP a1 a2 b1 b2 c1 c2).natAbs * (2 * areaP a1 a2 b1 b2 c1 c2).natAbs)) (hB1 : B1 = lowD (rad2 a1 a2 b1 b2 c1 c2) ((2 * areaP a1 a2 b1 b2 c1 c2).natAbs * (2 * areaP a1 a2 b1 b2 c1 c2).natAbs)) :
    Calls Tryz.prog 13 #[.agg #[.int .i64 a1, .int .i64 a2], .agg #[.int .i64 b1, .int .i64 b2], .agg #[.int .i64 c1, .int .i64 c2]] w (GotRad w true A1 B1) := by
  obtain ⟨ha, hb, hc, h0⟩ := has_yes.1 hh
  have ko := off_small ha hb hc
  have ks := off_sum a1 a2 b1 b2 c1 c2
  have kr := rad_small ha hb hc
  have kw := area_wide ha hb hc
  obtain ⟨X, hX⟩ : ∃ z, z = offX (b1 - a1) (b2 - a2) (c1 - a1) (c2 - a2) := ⟨_, rfl⟩
  obtain ⟨Y, hY⟩ : ∃ z, z = offY (b1 - a1) (b2 - a2) (c1 - a1) (c2 - a2) := ⟨_, rfl⟩
  obtain ⟨G, hG⟩ : ∃ z, z = areaP a1 a2 b1 b2 c1 c2 := ⟨_, rfl⟩
  rw [← hX, ← hY] at ko ks
  rw [← hG] at h0 kw
  obtain ⟨rh, erh⟩ : ∃ z, z = lw.hi X := ⟨_, rfl⟩
  obtain ⟨rl, erl⟩ : ∃ z, z = lw.lo X := ⟨_, rfl⟩
  have Jrh : Hid (rh = lw.hi (offX (b1 - a1) (b2 - a2) (c1 - a1) (c2 - a2))) := by unfold Hid; rw [← hX]; exact erh
  have Hrh : Hid _ := erh
  clear erh
  have Jrl : Hid (rl = lw.lo (offX (b1 - a1) (b2 - a2) (c1 - a1) (c2 - a2))) := by unfold Hid; rw [← hX]; exact erl
  have Hrl : Hid _ := erl
  clear erl
  obtain ⟨sh, esh⟩ : ∃ z, z = lw.hi Y := ⟨_, rfl⟩
  obtain ⟨sl, esl⟩ : ∃ z, z = lw.lo Y := ⟨_, rfl⟩
  have Jsh : Hid (sh = lw.hi (offY (b1 - a1) (b2 - a2) (c1 - a1) (c2 - a2))) := by unfold Hid; rw [← hY]; exact esh
  have Hsh : Hid _ := esh
  clear esh
  have Jsl : Hid (sl = lw.lo (offY (b1 - a1) (b2 - a2) (c1 - a1) (c2 - a2))) := by unfold Hid; rw [← hY]; exact esl
  have Hsl : Hid _ := esl
  clear esl
  obtain ⟨ph, eph⟩ : ∃ z, z = lw.hi G := ⟨_, rfl⟩
  obtain ⟨pl, epl⟩ : ∃ z, z = lw.lo G := ⟨_, rfl⟩
  have Jph : Hid (ph = lw.hi (areaP a1 a2 b1 b2 c1 c2)) := by unfold Hid; rw [← hG]; exact eph
  have Hph : Hid _ := eph
  clear eph
  have Jpl : Hid (pl = lw.lo (areaP a1 a2 b1 b2 c1 c2)) := by unfold Hid; rw [← hG]; exact epl
  have Hpl : Hid _ := epl
  clear epl
  have RX : Hid (W128 X) := w128_abs (by omega)
  have RY : Hid (W128 Y) := w128_abs (by omega)
  have RG : Hid (W128 G) := ⟨by omega, by omega⟩
  have RT : Hid (W128 (G + G)) := ⟨by omega, by omega⟩
  have T0 : Hid (G + G ≠ 0) := by unfold Hid; omega
  obtain ⟨th, hth⟩ : ∃ z, z = lw.hi (G + G) := ⟨_, rfl⟩
  obtain ⟨tl, htl⟩ : ∃ z, z = lw.lo (G + G) := ⟨_, rfl⟩
  have Hth : Hid _ := hth
  have Htl : Hid _ := htl
  clear hth htl
  have e2 : 2 * areaP a1 a2 b1 b2 c1 c2 = G + G := by rw [← hG]; omega
  have es : rad2 a1 a2 b1 b2 c1 c2 = X * X + Y * Y := ks.symm
  have RU : Hid (W256 (X * X + Y * Y)) := ⟨by omega, by omega⟩
  have kt : 0 < (G + G) * (G + G) ∧ (G + G) * (G + G) ≤ 400000000000000000000000000000000000000000000000000 := by
    have k2 : (G + G).natAbs ≤ 20000000000000000000000000 := by omega
    have k3 := Nat.mul_le_mul k2 k2
    have k4 : 0 < (G + G).natAbs := by omega
    have k5 := Nat.mul_pos k4 k4
    have e : (G + G) * (G + G) = (((G + G).natAbs * (G + G).natAbs : Nat) : Int) := (Int.natAbs_mul_self).symm
    rw [e]
    omega
  have RV : Hid (W256 ((G + G) * (G + G))) := ⟨by omega, by omega⟩
  have V0 : Hid ((G + G) * (G + G) ≠ 0) := by unfold Hid; omega
  have sg : ((G + G) * (G + G)).sign = 1 := Int.sign_eq_one_of_pos kt.1
  have HA1 : Hid (A1 = lowN ((X * X + Y * Y) * ((G + G) * (G + G)).sign) ((G + G) * (G + G)).natAbs) := by unfold Hid; rw [sg, Int.mul_one, Int.natAbs_mul, hA1, e2, es]
  have HB1 : Hid (B1 = lowD ((X * X + Y * Y) * ((G + G) * (G + G)).sign) ((G + G) * (G + G)).natAbs) := by unfold Hid; rw [sg, Int.mul_one, Int.natAbs_mul, hB1, e2, es]
  obtain ⟨m0, m1, m2, m3, hm⟩ : ∃ q0 q1 q2 q3, lq.Wd (X * X + Y * Y) q0 q1 q2 q3 := ⟨_, _, _, _, lq.wd_self _⟩
  have Hm : Hid _ := hm
  clear hm
  obtain ⟨n0, n1, n2, n3, hn⟩ : ∃ q0 q1 q2 q3, lq.Wd ((G + G) * (G + G)) q0 q1 q2 q3 := ⟨_, _, _, _, lq.wd_self _⟩
  have Hn : Hid _ := hn
  clear hn
  clear hA1 hB1 sg kt es e2 ko ks kr kw h0 hX hY hG ha hb hc
  obtain ⟨W, hW, bW, x_a, x_b, x_c, x_r, sW⟩ := bs_2223 w (.int .i64 a1) (.int .i64 a2) (.int .i64 b1) (.int .i64 b2) (.int .i64 c1) (.int .i64 c2) (.bool false) (.slice none 0 0) (.slice none 0 0) 23 23 23 29
  have zbW := bW.size
  have BB := bW
  go_enter Tryz.func13, Tryz.ntmps13
  go_wp2_with (go_at_call 22; fail)
  rw [← hW]
  clear hW
  refine (cAbout a1 a2 b1 b2 c1 c2 hh Jrh.out Jrl.out Jsh.out Jsl.out Jph.out Jpl.out W).mono ?_
  rintro e w1 ⟨rfl, bw1⟩
  have zbw1 := bw1.size
  replace BB := also BB bw1
  replace x_a := x_a.on bw1
  replace x_b := x_b.on bw1
  replace x_c := x_c.on bw1
  replace x_r := x_r.on bw1
  obtain ⟨V, hV, bV, x_s, sV⟩ := bs_6 w1 (.int .i64 rh) (.int .u64 rl) (.int .i64 sh) (.int .u64 sl) (.int .i64 ph) (.int .u64 pl) 63
  have zbV := bV.size
  replace BB := also BB bV
  replace x_a := x_a.on bV
  replace x_b := x_b.on bV
  replace x_c := x_c.on bV
  replace x_r := x_r.on bV
  go_wp2_with (go_at_call 24; fail)
  rw [← hV]
  clear hV
  refine (xAdd G G Hph.out Hpl.out Hph.out Hpl.out Hth.out Htl.out V).mono ?_
  rintro e w2 ⟨rfl, bw2⟩
  have zbw2 := bw2.size
  replace BB := also BB bw2
  replace x_a := x_a.on bw2
  replace x_b := x_b.on bw2
  replace x_c := x_c.on bw2
  replace x_r := x_r.on bw2
  replace x_s := x_s.on bw2
  obtain ⟨X1, hX1, bX1, x_t, sX1⟩ := bs_2 w2 (.int .i64 th) (.int .u64 tl) 61
  have zbX1 := bX1.size
  replace BB := also BB bX1
  replace x_a := x_a.on bX1
  replace x_b := x_b.on bX1
  replace x_c := x_c.on bX1
  replace x_r := x_r.on bX1
  replace x_s := x_s.on bX1
  go_wp2
  rw [← hX1]
  clear hX1
  have dd1 : Below X1.heap.size X1 X1.drew := (Below.refl _ _).drew
  have zdd1 := dd1.size
  replace BB := also BB dd1
  replace x_a := x_a.on dd1
  replace x_b := x_b.on dd1
  replace x_c := x_c.on dd1
  replace x_r := x_r.on dd1
  replace x_s := x_s.on dd1
  replace x_t := x_t.on dd1
  refine wp_region_held_drew (S := (fun w' => w'.cell? ⟨w1.heap.size, 0, none⟩ = some (.int .i64 rh) ∧ w'.cell? ⟨w1.heap.size, 1, none⟩ = some (.int .u64 rl) ∧ w'.cell? ⟨w1.heap.size, 2, none⟩ = some (.int .i64 sh) ∧ w'.cell? ⟨w1.heap.size, 3, none⟩ = some (.int .u64 sl) ∧ w'.cell? ⟨w1.heap.size, 4, none⟩ = some (.int .i64 ph) ∧ w'.cell? ⟨w1.heap.size, 5, none⟩ = some (.int .u64 pl) ∧ w'.cell? ⟨w2.heap.size, 0, none⟩ = some (.int .i64 th) ∧ w'.cell? ⟨w2.heap.size, 1, none⟩ = some (.int .u64 tl) ∧ Below w.heap.size w w')) (by kernel_rfl) ?_ (fun hHeld => ?_)
  · exact ⟨x_s.c0, x_s.c1, x_s.c2, x_s.c3, x_s.c4, x_s.c5, x_t.c0, x_t.c1, BB⟩
  refine take_yes (i := 0) (v := ?vs0) rfl (by kernel_rfl) (by kernel_rfl) (by kernel_rfl) (fun _ _ _ h => h) (by rfl) (by assumption) ?hys0 ?rests0
  case hys0 => (intro w hSw; (try dsimp only at hSw); first | (go_simp; done) | (go_simp; with_reducible rfl))
  simp only [Act.put, List.setIfInBounds_toArray, List.set_cons_zero, List.set_cons_succ]
  refine take_yes (i := 1) (v := ?vs1) rfl (by kernel_rfl) (by kernel_rfl) (by kernel_rfl) (fun _ _ _ h => h) (by rfl) (by assumption) ?hys1 ?rests1
  case hys1 => (intro w hSw; (try dsimp only at hSw); first | (go_simp; done) | (go_simp; with_reducible rfl))
  simp only [Act.put, List.setIfInBounds_toArray, List.set_cons_zero, List.set_cons_succ]
  refine take_yes (i := 2) (v := ?vs2) rfl (by kernel_rfl) (by kernel_rfl) (by kernel_rfl) (fun _ _ _ h => h) (by rfl) (by assumption) ?hys2 ?rests2
  case hys2 => (intro w hSw; (try dsimp only at hSw); first | (go_simp; done) | (go_simp; with_reducible rfl))
  simp only [Act.put, List.setIfInBounds_toArray, List.set_cons_zero, List.set_cons_succ]
  refine take_yes (i := 3) (v := ?vs3) rfl (by kernel_rfl) (by kernel_rfl) (by kernel_rfl) (fun _ _ _ h => h) (by rfl) (by assumption) ?hys3 ?rests3
  case hys3 => (intro w hSw; (try dsimp only at hSw); first | (go_simp; done) | (go_simp; with_reducible rfl))
  simp only [Act.put, List.setIfInBounds_toArray, List.set_cons_zero, List.set_cons_succ]
  refine take_yes (i := 5) (v := ?vs5) rfl (by kernel_rfl) (by kernel_rfl) (by kernel_rfl) (fun _ _ _ h => h) (by rfl) (by assumption) ?hys5 ?rests5
  case hys5 => (intro w hSw; (try dsimp only at hSw); first | (go_simp; done) | (go_simp; with_reducible rfl))
  simp only [Act.put, List.setIfInBounds_toArray, List.set_cons_zero, List.set_cons_succ]
  refine take_yes (i := 6) (v := ?vs6) rfl (by kernel_rfl) (by kernel_rfl) (by kernel_rfl) (fun _ _ _ h => h) (by rfl) (by assumption) ?hys6 ?rests6
  case hys6 => (intro w hSw; (try dsimp only at hSw); first | (go_simp; done) | (go_simp; with_reducible rfl))
  simp only [Act.put, List.setIfInBounds_toArray, List.set_cons_zero, List.set_cons_succ]
  refine take_call (i := 4) rfl (by kernel_rfl) (fun Kc hK => ?_)
  go_simp
  (go_at_call 33; refine (cSquares X Y Hrh.out Hrl.out Hsh.out Hsl.out RX RY Hm.out _).mono ?_; rintro e w3 ⟨rfl, bw3⟩)
  refine hK.out _ _ ?_ (fun hHeld => ?_)
  · exact ⟨cell_on bw3 hHeld.1, cell_on bw3 hHeld.2.1, cell_on bw3 hHeld.2.2.1, cell_on bw3 hHeld.2.2.2.1, cell_on bw3 hHeld.2.2.2.2.1, cell_on bw3 hHeld.2.2.2.2.2.1, cell_on bw3 hHeld.2.2.2.2.2.2.1, cell_on bw3 hHeld.2.2.2.2.2.2.2.1, also hHeld.2.2.2.2.2.2.2.2 bw3⟩
  clear hK Kc
  have zbw3 := bw3.size
  replace BB := also BB bw3
  replace x_a := x_a.on bw3
  replace x_b := x_b.on bw3
  replace x_c := x_c.on bw3
  replace x_r := x_r.on bw3
  replace x_s := x_s.on bw3
  replace x_t := x_t.on bw3
  refine take_call (i := 7) rfl (by kernel_rfl) (fun Kc hK => ?_)
  go_simp
  (go_at_call 34; refine (xMul _ _ Hth.out Htl.out Hth.out Htl.out RT RT Hn.out _).mono ?_; rintro e w4 ⟨rfl, bw4⟩)
  refine hK.out _ _ ?_ (fun hHeld => ?_)
  · exact ⟨cell_on bw4 hHeld.1, cell_on bw4 hHeld.2.1, cell_on bw4 hHeld.2.2.1, cell_on bw4 hHeld.2.2.2.1, cell_on bw4 hHeld.2.2.2.2.1, cell_on bw4 hHeld.2.2.2.2.2.1, cell_on bw4 hHeld.2.2.2.2.2.2.1, cell_on bw4 hHeld.2.2.2.2.2.2.2.1, also hHeld.2.2.2.2.2.2.2.2 bw4⟩
  clear hK Kc
  have zbw4 := bw4.size
  replace BB := also BB bw4
  replace x_a := x_a.on bw4
  replace x_b := x_b.on bw4
  replace x_c := x_c.on bw4
  replace x_r := x_r.on bw4
  replace x_s := x_s.on bw4
  replace x_t := x_t.on bw4
  refine take_call (i := 8) rfl (by kernel_rfl) (fun Kc hK => ?_)
  go_simp
  (go_at_call 32; refine (cFrac _ _ Hm.out Hn.out RU RV V0 HA1.out HB1.out _).mono ?_; rintro e w5 ⟨n3, a3, l3, c3, d3, m3, k3, rfl, h3, f3, g3, bw5⟩)
  refine hK.out _ _ ?_ (fun hHeld => ?_)
  · exact ⟨cell_on bw5 hHeld.1, cell_on bw5 hHeld.2.1, cell_on bw5 hHeld.2.2.1, cell_on bw5 hHeld.2.2.2.1, cell_on bw5 hHeld.2.2.2.2.1, cell_on bw5 hHeld.2.2.2.2.2.1, cell_on bw5 hHeld.2.2.2.2.2.2.1, cell_on bw5 hHeld.2.2.2.2.2.2.2.1, also hHeld.2.2.2.2.2.2.2.2 bw5⟩
  clear hK Kc
  have zbw5 := bw5.size
  replace BB := also BB bw5
  replace x_a := x_a.on bw5
  replace x_b := x_b.on bw5
  replace x_c := x_c.on bw5
  replace x_r := x_r.on bw5
  replace x_s := x_s.on bw5
  replace x_t := x_t.on bw5
  have ⟨x_r_0, x_r_1, x_r_2, x_r_3, x_r_4, x_r_5⟩ := x_r
  refine take_call (i := 9) rfl (by kernel_rfl) (fun Kc hK => ?_)
  go_simp
  refine hK.out _ _ ?_ (fun hHeld => ?_)
  · first | exact ⟨cell_put3 hHeld.1 (by omega) _ _ _, cell_put3 hHeld.2.1 (by omega) _ _ _, cell_put3 hHeld.2.2.1 (by omega) _ _ _, cell_put3 hHeld.2.2.2.1 (by omega) _ _ _, cell_put3 hHeld.2.2.2.2.1 (by omega) _ _ _, cell_put3 hHeld.2.2.2.2.2.1 (by omega) _ _ _, cell_put3 hHeld.2.2.2.2.2.2.1 (by omega) _ _ _, cell_put3 hHeld.2.2.2.2.2.2.2.1 (by omega) _ _ _, below_put3 hHeld.2.2.2.2.2.2.2.2 (by omega) _ _ _⟩ | exact ⟨x_s.c0, x_s.c1, x_s.c2, x_s.c3, x_s.c4, x_s.c5, x_t.c0, x_t.c1, BB⟩
  clear hK Kc
  refine take_yes (i := 10) (v := ?vs10) rfl (by kernel_rfl) (by kernel_rfl) (by kernel_rfl) (fun _ _ _ h => h) (by rfl) (by assumption) ?hys10 ?rests10
  case hys10 => (intro w hSw; (try dsimp only at hSw); first | (go_simp; done) | (go_simp; with_reducible rfl))
  simp only [Act.put, List.setIfInBounds_toArray, List.set_cons_zero, List.set_cons_succ]
  refine wpAnyH_done (by kernel_rfl) ?_ _
  go_wp2
  exact bodyPost_ret (v := .tuple #[.agg #[.bool n3, .slice a3 l3 c3, .slice d3 m3 k3], .bool true]) (by simp [results, Tryz.results13, go_sem, *]) rfl (endRad _ (by omega) BB h3 (f3 _ (by omega)) (g3 _ (by omega)) _ _ _)
theorem rad : RadSpec := fun a1 a2 b1 b2 c1 c2 w Ra Rb Rc => ⟨fun hh A1 B1 h1 h2 => cRadius a1 a2 b1 b2 c1 c2 w Ra Rb Rc hh A1 B1 h1 h2, fun hh => cRadius0 a1 a2 b1 b2 c1 c2 w Ra Rb Rc hh⟩
end Go.Proofs.YtcaihoomcdbfnaaGreat
