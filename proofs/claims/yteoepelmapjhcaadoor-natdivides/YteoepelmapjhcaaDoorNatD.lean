/-
  What nat's Add answers.
-/
import Derived.Test.YteoepelmapjhcaaDoorNatC
namespace Go.Proofs.YteoepelmapjhcaaDoor
open Go.RowKit
set_option linter.unusedVariables false

/-- make: so many noughts, in a block of one's own. -/
theorem make_any {P : Program} (w : World) {ops : Array Oper} {rest : List Oper} {o : Oper} {a : Act} {Q : Exit → Act → World → Prop}
    (hg : o.guard = none) (l c : Operand) (t : TypeId) (hop : o.op = Op.makeSlice t l c)
    (base : Nat) (e : TypeId) (i : TypeInfo) (z : Value) (h1 : P.underlying t = some (.slice e)) (h2 : P.info? e = some i) (h3 : i.zero = some z) (h4 : i.size = 1) (hz : z.cells = #[z])
    (kl kc : IntKind) (L C : Int) (n : Nat) (hl : a.eval l = .int kl L) (hc : a.eval c = .int kc C) (hL : L = (n : Int)) (hC : C = (n : Int)) (b2 : i.bytes * n ≤ 281474976710656) (b3 : n ≤ maxLen) (b4 : base ≤ w.heap.size)
    (hK : ∀ w', Own w' base e (some ⟨w.heap.size, 0, none⟩) n n (List.replicate n z) → Below w.heap.size w w' → wpList P ops Q rest (a.put o.dst (.slice (some ⟨w.heap.size, 0, none⟩) n n)) w') :
    wpList P ops Q (o :: rest) a w := by
  refine wpList_make_full w hg l c t hop base e i z 1 h1 h2 h3 h4 kl kc L C n hl hc hL hC b2 b3 b4 ?_
  intro w' h hgr
  rw [hz, Nat.mul_one, toList_madeCells_one] at h
  exact hK w' h (Below.to hgr)
theorem Own.set {w : World} {base b n cap i : Nat} {T : TypeId} {xs : List Value} (h : Own w base T (some ⟨b, 0, none⟩) n cap xs) (v : Value) (hi : i < n) : Own (w.setCell ⟨b, i, none⟩ v) base T (some ⟨b, 0, none⟩) n cap (xs.set i v) := by
  have hs := (seg_of_own h).1.set i v (by have := h.sl.len; omega)
  rw [Nat.zero_add] at hs
  exact ((Wr.refl w b 0 n).set v (Nat.zero_le _) hi).owned h (by rw [List.length_set]; exact h.sl.len) hs
theorem Own.cell {w : World} {base b n cap : Nat} {T : TypeId} {xs : List Value} (h : Own w base T (some ⟨b, 0, none⟩) n cap xs) (j : Nat) (v : Value) (hj : xs[j]? = some v) : w.cell? ⟨b, j, none⟩ = some v := by
  have := (seg_of_own h).1.cell j v hj
  rwa [Nat.zero_add] at this
theorem Own.free {w : World} {base b n cap : Nat} {T : TypeId} {xs : List Value} (h : Own w base T (some ⟨b, 0, none⟩) n cap xs) (j : Nat) (hj : j < n) : w.frozen? ⟨b, j, none⟩ = false := by
  have := (seg_of_own h).1.free j (by have := h.sl.len; omega)
  rwa [Nat.zero_add] at this

/-- What holds at the head of each round of the sum's loop. -/
def NAddRel (w : World) (u v l b : Nat) (c i : Value) (wr : World) : Prop := ∃ k : Nat, k ≤ l ∧ i = .int .i64 (k : Int) ∧ c = .int .u32 (wd.carry u v k) ∧ Own wr w.heap.size 44 (some ⟨b, 0, none⟩) (l + 1) (l + 1) (wd.mix (l + 1) k ((u : Int) + v) 0) ∧ Below w.heap.size w wr
theorem nadd_next (w wr : World) (u v l b k : Nat) (hk : k < l) (hown : Own wr w.heap.size 44 (some ⟨b, 0, none⟩) (l + 1) (l + 1) (wd.mix (l + 1) k ((u : Int) + v) 0)) (hb : Below w.heap.size w wr) :
    NAddRel w u v l b (.int .u32 ((wd.dg u k + wd.dg v k + wd.carry u v k) / 4294967296)) (.int .i64 ((k : Int) + 1)) (wr.setCell ⟨b, k, none⟩ (.int .u32 ((wd.dg u k + wd.dg v k + wd.carry u v k) % 4294967296))) := by
  have e : wd.dg u k + wd.dg v k + wd.carry u v k = wd.carry u v k + wd.dg u k + wd.dg v k := by omega
  refine ⟨k + 1, by omega, by simp, by rw [wd.carry_succ, e], ?_, hb.setCell (seg_of_own hown).2.2 _⟩
  rw [e, wd.add_digit, ← wd.mix_set]
  exact Own.set hown _ (by omega)
/-- The end: the last carry is the last digit. -/
theorem nadd_last (w wr : World) (u v l b : Nat) (hu : u < 4294967296 ^ l) (hv : v < 4294967296 ^ l) (hown : Own wr w.heap.size 44 (some ⟨b, 0, none⟩) (l + 1) (l + 1) (wd.mix (l + 1) l ((u : Int) + v) 0)) :
    Own (wr.setCell ⟨b, l, none⟩ (.int .u32 (wd.carry u v l))) w.heap.size 44 (some ⟨b, 0, none⟩) (l + 1) (l + 1) (wd.dcells (l + 1) ((u + v : Nat) : Int)) := by
  have h1 := wd.add_digit u v l
  rw [wd.dg_over hu, wd.dg_over hv] at h1
  have h2 := wd.carry_range u v l
  have e : wd.carry u v l = wd.dg ((u : Int) + v) l := by omega
  have := Own.set hown (i := l) (.int .u32 (wd.dg ((u : Int) + v) l)) (by omega)
  rw [wd.mix_set, wd.mix_full] at this
  rw [e, Int.natCast_add]
  exact this
theorem sum_lt {u v l : Nat} (hu : u < 4294967296 ^ l) (hv : v < 4294967296 ^ l) : u + v < 4294967296 ^ (l + 1) := by
  rw [Nat.pow_succ]; omega
theorem nlen_lt_le {u l : Nat} (h : wd.nlen u ≤ l) : u < 4294967296 ^ l := Nat.lt_of_lt_of_le (wd.nlen_lt u) (Nat.pow_le_pow_right (by decide) h)

set_option maxHeartbeats 1000000 in
theorem add_any (a b : Option Addr) (la lb ca cb u v : Nat) (w : World) (ha : Sl w a la ca (wd.dcells la (u : Int))) (hu : u < 4294967296 ^ la) (hla : la ≤ 1000000000) (hb : Sl w b lb cb (wd.dcells lb (v : Int))) (hv : v < 4294967296 ^ lb) (hlb : lb ≤ 1000000000) :
    Calls Tryd.prog 14 #[.slice a la ca, .slice b lb cb] w fun e w' => ∃ a' cap', e = .returned (.slice a' (wd.nlen (u + v)) cap') ∧ Own w' w.heap.size 44 a' (wd.nlen (u + v)) cap' (wd.dcells (wd.nlen (u + v)) ((u + v : Nat) : Int)) ∧ Below w.heap.size w w' := by
  have hlu := wd.nlen_le hu
  have hlv := wd.nlen_le hv
  obtain ⟨i0, hi0, hz0, hz1, hz2⟩ := info_parts infoWord
  have hz0' : wd.dcells (wd.nlen u + 1) 0 = List.replicate (wd.nlen u + 1) (.int .u32 0) := wd.dcells_zero _
  have hz0v : wd.dcells (wd.nlen v + 1) 0 = List.replicate (wd.nlen v + 1) (.int .u32 0) := wd.dcells_zero _
  by_cases hlt : wd.nlen u < wd.nlen v
  · have hmax : wd.nlen v + 1 ≤ maxLen := by unfold maxLen; omega
    have hv' := nlen_lt_le (Nat.le_refl (wd.nlen v))
    have hu' := nlen_lt_le (show wd.nlen u ≤ wd.nlen v by omega)
    have hu2 := nlen_lt_le (Nat.le_refl (wd.nlen u))
    have HS : Hid _ := sum_lt hv' hu'
    have HL : Hid _ := fun wr b hown => nadd_last w wr v u (wd.nlen v) b hv' hu' hown
    go_enter Tryd.func14, Tryd.ntmps14
    go_wp2_with (first
      | (go_at_call_of 34 [Value.slice a la ca]; refine (strip_any a la ca u _ ha hu).mono ?_; rintro e w' ⟨a1, ca1, rfl, hw, hcut1⟩; subst hw)
      | (go_at_call 34; refine (strip_any b lb cb v _ hb hv).mono ?_; rintro e w' ⟨b1, cb1, rfl, hw, hcut2⟩; subst hw)
      | (at_make; refine make_any _ rfl (.tmp 22) (.tmp 22) 23 rfl w.heap.size 44 i0 (.int .u32 0) Tryd.underlying23 hi0 hz0 hz1 rfl .i64 .i64 _ _ (wd.nlen v + 1) rfl rfl (by simp) (by simp) (by rw [hz2]; omega) (by omega) (Nat.le_refl _) ?_; intro w1 hown hbel))
    rw [← hz0v, ← wd.mix_zero (wd.nlen v + 1) ((v : Int) + u)] at hown
    go_loopw [6, 26] (fun c i wr => NAddRel w v u (wd.nlen v) w.heap.size c i wr) (fun _ i _ => wd.nlen v - (intOf i).toNat)
    case atStart => exact ⟨0, by omega, rfl, by rw [wd.carry_zero], hown, hbel⟩
    case round =>
      clear hown hbel
      obtain ⟨k, hk, rfl, rfl, hown, hbel⟩ := hrel
      have hc1 := hcut2.sl hb
      have hc2 := hcut1.sl ha
      by_cases hlt : k < wd.nlen v
      · obtain ⟨ba, oa, rfl, hba, hseg⟩ := hc1.at (by omega)
        have c1 : wr.cell? ⟨ba, oa + k, none⟩ = some (.int .u32 (wd.dg v k)) := (hbel.cell (p := ⟨ba, oa + k, none⟩) hba).trans (hseg.cell k _ (wd.dcells_at _ _ _ hlt))
        have c3 : wr.cell? ⟨w.heap.size, k, none⟩ = some (.int .u32 (wd.dg 0 k)) := Own.cell hown k _ (wd.mix_at _ _ _ _ _ (by omega) (Nat.le_refl _))
        have c4 : wr.frozen? ⟨w.heap.size, k, none⟩ = false := Own.free hown k (by omega)
        obtain ⟨d0, d1⟩ := wd.dg_range v k
        obtain ⟨e0, e1⟩ := wd.dg_range u k
        obtain ⟨f0, f1⟩ := wd.carry_range v u k
        have HN : Hid _ := nadd_next w wr v u (wd.nlen v) w.heap.size k hlt hown hbel
        have hs2 := hc2.below hbel
        clear hown
        go_wp2_with (first
          | (go_at_call 36; refine (wordAt_any _ _ _ u k _ hs2 hu2 rfl).mono ?_; rintro e w' ⟨rfl, hw⟩; subst hw)
          | (go_at_call 38; refine (add32_any _ _ _ _ d0 d1 e0 e1 f0 f1).mono ?_; rintro e w' ⟨rfl, hw⟩; subst hw))
        go_roundw
        case rel => exact HN.out
        case measure => simp [intOf]; omega
      · obtain rfl : k = wd.nlen v := by omega
        have c3 : wr.cell? ⟨w.heap.size, wd.nlen v, none⟩ = some (.int .u32 (wd.dg 0 (wd.nlen v))) := Own.cell hown _ _ (wd.mix_at _ _ _ _ _ (by omega) (Nat.le_refl _))
        have c4 : wr.frozen? ⟨w.heap.size, wd.nlen v, none⟩ = false := Own.free hown _ (by omega)
        have hlast := HL.out wr w.heap.size hown
        have hbel2 := hbel.setCell (p := ⟨w.heap.size, wd.nlen v, none⟩) (Nat.le_refl _) (.int .u32 (wd.carry v u (wd.nlen v)))
        clear hown
        go_wp2_with (go_at_call 34; refine (strip_any _ _ _ (v + u) _ hlast.sl HS.out).mono ?_; rintro e w' ⟨a3, c3', rfl, hw, hcut3⟩; subst hw)
        go_ret
        rw [Nat.add_comm u v]
        exact ⟨a3, c3', rfl, hcut3.own hlast, hbel2⟩
  · have hmax : wd.nlen u + 1 ≤ maxLen := by unfold maxLen; omega
    have hu' := nlen_lt_le (Nat.le_refl (wd.nlen u))
    have hv' := nlen_lt_le (show wd.nlen v ≤ wd.nlen u by omega)
    have hv2 := nlen_lt_le (Nat.le_refl (wd.nlen v))
    have HS : Hid _ := sum_lt hu' hv'
    have HL : Hid _ := fun wr b hown => nadd_last w wr u v (wd.nlen u) b hu' hv' hown
    go_enter Tryd.func14, Tryd.ntmps14
    go_wp2_with (first
      | (go_at_call_of 34 [Value.slice a la ca]; refine (strip_any a la ca u _ ha hu).mono ?_; rintro e w' ⟨a1, ca1, rfl, hw, hcut1⟩; subst hw)
      | (go_at_call 34; refine (strip_any b lb cb v _ hb hv).mono ?_; rintro e w' ⟨b1, cb1, rfl, hw, hcut2⟩; subst hw)
      | (at_make; refine make_any _ rfl (.tmp 22) (.tmp 22) 23 rfl w.heap.size 44 i0 (.int .u32 0) Tryd.underlying23 hi0 hz0 hz1 rfl .i64 .i64 _ _ (wd.nlen u + 1) rfl rfl (by simp) (by simp) (by rw [hz2]; omega) (by omega) (Nat.le_refl _) ?_; intro w1 hown hbel))
    rw [← hz0', ← wd.mix_zero (wd.nlen u + 1) ((u : Int) + v)] at hown
    go_loopw [6, 26] (fun c i wr => NAddRel w u v (wd.nlen u) w.heap.size c i wr) (fun _ i _ => wd.nlen u - (intOf i).toNat)
    case atStart => exact ⟨0, by omega, rfl, by rw [wd.carry_zero], hown, hbel⟩
    case round =>
      clear hown hbel
      obtain ⟨k, hk, rfl, rfl, hown, hbel⟩ := hrel
      have hc1 := hcut1.sl ha
      have hc2 := hcut2.sl hb
      by_cases hlt : k < wd.nlen u
      · obtain ⟨ba, oa, rfl, hba, hseg⟩ := hc1.at (by omega)
        have c1 : wr.cell? ⟨ba, oa + k, none⟩ = some (.int .u32 (wd.dg u k)) := (hbel.cell (p := ⟨ba, oa + k, none⟩) hba).trans (hseg.cell k _ (wd.dcells_at _ _ _ hlt))
        have c3 : wr.cell? ⟨w.heap.size, k, none⟩ = some (.int .u32 (wd.dg 0 k)) := Own.cell hown k _ (wd.mix_at _ _ _ _ _ (by omega) (Nat.le_refl _))
        have c4 : wr.frozen? ⟨w.heap.size, k, none⟩ = false := Own.free hown k (by omega)
        obtain ⟨d0, d1⟩ := wd.dg_range u k
        obtain ⟨e0, e1⟩ := wd.dg_range v k
        obtain ⟨f0, f1⟩ := wd.carry_range u v k
        have HN : Hid _ := nadd_next w wr u v (wd.nlen u) w.heap.size k hlt hown hbel
        have hs2 := hc2.below hbel
        clear hown
        go_wp2_with (first
          | (go_at_call 36; refine (wordAt_any _ _ _ v k _ hs2 hv2 rfl).mono ?_; rintro e w' ⟨rfl, hw⟩; subst hw)
          | (go_at_call 38; refine (add32_any _ _ _ _ d0 d1 e0 e1 f0 f1).mono ?_; rintro e w' ⟨rfl, hw⟩; subst hw))
        go_roundw
        case rel => exact HN.out
        case measure => simp [intOf]; omega
      · obtain rfl : k = wd.nlen u := by omega
        have c3 : wr.cell? ⟨w.heap.size, wd.nlen u, none⟩ = some (.int .u32 (wd.dg 0 (wd.nlen u))) := Own.cell hown _ _ (wd.mix_at _ _ _ _ _ (by omega) (Nat.le_refl _))
        have c4 : wr.frozen? ⟨w.heap.size, wd.nlen u, none⟩ = false := Own.free hown _ (by omega)
        have hlast := HL.out wr w.heap.size hown
        have hbel2 := hbel.setCell (p := ⟨w.heap.size, wd.nlen u, none⟩) (Nat.le_refl _) (.int .u32 (wd.carry u v (wd.nlen u)))
        clear hown
        go_wp2_with (go_at_call 34; refine (strip_any _ _ _ (u + v) _ hlast.sl HS.out).mono ?_; rintro e w' ⟨a3, c3', rfl, hw, hcut3⟩; subst hw)
        go_ret
        exact ⟨a3, c3', rfl, hcut3.own hlast, hbel2⟩
end Go.Proofs.YteoepelmapjhcaaDoor
