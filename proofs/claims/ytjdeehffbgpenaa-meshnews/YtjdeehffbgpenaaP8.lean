/-
  Joined texts, part 8:
  What the landed mesh's memory tells of the document's mesh, behind a face more and a face less.
  The landed mesh's AddFace.
  The landed mesh's DropFace.
-/
import Derived.Test.YtjdeehffbgpenaaP7
namespace Go.Proofs.Ytjdeehffbgpenaa
open Go.RowKit Go.Maps
set_option linter.unusedVariables false

def geK (g : Eg → Option Value) (t : Tr) (f : Int) : Nat → Eg → Option Value
  | 0 => g
  | k + 1 => fun e => if e = eg t k then some (stV f (k : Int)) else geK g t f k e
def gfK (g : Int → Int → Option Value) (t : Tr) (f : Int) : Nat → Int → Int → Option Value
  | 0 => g
  | k + 1 => fun u => if u = t.v k then (fun x => if x = f then some (.agg #[]) else gfK g t f k (t.v k) x) else gfK g t f k u
def geD (g : Eg → Option Value) (t : Tr) : Nat → Eg → Option Value
  | 0 => g
  | k + 1 => fun e => if e = eg t k then none else geD g t k e
def gfD (g : Int → Int → Option Value) (t : Tr) (f : Int) : Nat → Int → Int → Option Value
  | 0 => g
  | k + 1 => fun u => if u = t.v k then (fun x => if x = f then none else gfD g t f k (t.v k) x) else gfD g t f k u
section
variable {g : Eg → Option Value} {q : Int → Int → Option Value} {t : Tr} {f : Int}
theorem geK_some {k : Nat} {e : Eg} (h : geK g t f k e ≠ none) : (∃ j, j < k ∧ e = eg t j) ∨ g e ≠ none := by
  induction k with
  | zero => exact Or.inr h
  | succ k ih =>
    unfold geK at h
    by_cases e1 : e = eg t k
    · exact Or.inl ⟨k, by omega, e1⟩
    · rw [if_neg e1] at h
      rcases ih h with ⟨j, hj, h1⟩ | h1
      · exact Or.inl ⟨j, by omega, h1⟩
      · exact Or.inr h1
theorem geK_other {k : Nat} {e : Eg} (h : ∀ j, j < k → e ≠ eg t j) : geK g t f k e = g e := by
  induction k with
  | zero => rfl
  | succ k ih =>
    unfold geK
    rw [if_neg (h k (by omega)), ih (fun j hj => h j (by omega))]
theorem geK_at {k j : Nat} (hj : j < k) (h : ∀ i, i < k → i ≠ j → eg t j ≠ eg t i) : geK g t f k (eg t j) = some (stV f (j : Int)) := by
  induction k with
  | zero => omega
  | succ k ih =>
    unfold geK
    by_cases e : j = k
    · subst e
      rw [if_pos rfl]
    · rw [if_neg (h k (by omega) (fun x => e x.symm)), ih (by omega) (fun i hi => h i (by omega))]
theorem gfK_iff {k : Nat} {u x : Int} : gfK q t f k u x ≠ none ↔ q u x ≠ none ∨ (x = f ∧ ∃ j, j < k ∧ t.v j = u) := by
  induction k generalizing u with
  | zero => exact ⟨Or.inl, fun h => h.elim (fun h => h) (fun ⟨_, j, hj, _⟩ => by omega)⟩
  | succ k ih =>
    unfold gfK
    by_cases e : u = t.v k
    · subst e
      rw [if_pos rfl]
      show (if x = f then some (Value.agg #[]) else gfK q t f k (t.v k) x) ≠ none ↔ _
      by_cases e2 : x = f
      · rw [if_pos e2]
        exact ⟨fun _ => Or.inr ⟨e2, k, by omega, rfl⟩, fun _ h => by cases h⟩
      · rw [if_neg e2, ih]
        exact ⟨fun h => h.elim Or.inl (fun ⟨h1, _⟩ => absurd h1 e2), fun h => h.elim Or.inl (fun ⟨h1, _⟩ => absurd h1 e2)⟩
    · rw [if_neg e, ih]
      constructor
      · rintro (h | ⟨h1, j, hj, h2⟩)
        · exact Or.inl h
        · exact Or.inr ⟨h1, j, by omega, h2⟩
      · rintro (h | ⟨h1, j, hj, h2⟩)
        · exact Or.inl h
        · rcases Nat.lt_or_ge j k with h3 | h3
          · exact Or.inr ⟨h1, j, h3, h2⟩
          · obtain rfl : j = k := by omega
            exact absurd h2.symm e
theorem geD_some {k : Nat} {e : Eg} (h : geD g t k e ≠ none) : g e ≠ none ∧ ∀ j, j < k → e ≠ eg t j := by
  induction k with
  | zero => exact ⟨h, fun j hj => by omega⟩
  | succ k ih =>
    unfold geD at h
    by_cases e1 : e = eg t k
    · rw [if_pos e1] at h; exact absurd rfl h
    · rw [if_neg e1] at h
      refine ⟨(ih h).1, fun j hj => ?_⟩
      rcases Nat.lt_or_ge j k with h3 | h3
      · exact (ih h).2 j h3
      · obtain rfl : j = k := by omega
        exact e1
theorem geD_other {k : Nat} {e : Eg} (h : ∀ j, j < k → e ≠ eg t j) : geD g t k e = g e := by
  induction k with
  | zero => rfl
  | succ k ih =>
    unfold geD
    rw [if_neg (h k (by omega)), ih (fun j hj => h j (by omega))]
theorem gfD_iff {k : Nat} {u x : Int} : gfD q t f k u x ≠ none ↔ q u x ≠ none ∧ ¬ (x = f ∧ ∃ j, j < k ∧ t.v j = u) := by
  induction k generalizing u with
  | zero => exact ⟨fun h => ⟨h, fun ⟨_, j, hj, _⟩ => by omega⟩, fun h => h.1⟩
  | succ k ih =>
    unfold gfD
    by_cases e : u = t.v k
    · subst e
      rw [if_pos rfl]
      show (if x = f then none else gfD q t f k (t.v k) x) ≠ none ↔ _
      by_cases e2 : x = f
      · rw [if_pos e2]
        exact ⟨fun h => absurd rfl h, fun ⟨_, h⟩ => absurd ⟨e2, k, by omega, rfl⟩ h⟩
      · rw [if_neg e2, ih]
        exact ⟨fun ⟨h, _⟩ => ⟨h, fun h1 => e2 h1.1⟩, fun ⟨h, _⟩ => ⟨h, fun h1 => e2 h1.1⟩⟩
    · rw [if_neg e, ih]
      constructor
      · rintro ⟨h, h1⟩
        refine ⟨h, fun ⟨h2, j, hj, h3⟩ => ?_⟩
        rcases Nat.lt_or_ge j k with h4 | h4
        · exact h1 ⟨h2, j, h4, h3⟩
        · obtain rfl : j = k := by omega
          exact e h3.symm
      · rintro ⟨h, h1⟩
        exact ⟨h, fun ⟨h2, j, hj, h3⟩ => h1 ⟨h2, j, by omega, h3⟩⟩
end
theorem same_eg (a : Tr) (i : Nat) (b : Tr) (k : Nat) : same a i b k = true ↔ eg a i = eg b k := by
  unfold same eg
  rw [decide_eq_true_iff]
  simp only [Eg.mk.injEq]
theorem there_ge {X : Mx} {S : Ms} (h : MeOk X S) {t : Tr} : there t S.C = false ↔ ∀ i, i < 3 → X.ge (eg t i) = none := by
  constructor
  · intro ht i hi
    cases hg : X.ge (eg t i) with
    | none => rfl
    | some v =>
      obtain ⟨c, hc, k, hk, e⟩ := h.ge2 _ (by rw [hg]; exact fun e => by cases e)
      have h1 := there_not ht hc hi hk
      rw [(same_eg _ _ _ _).2 e] at h1
      cases h1
  · intro hg
    unfold there
    rw [List.any_eq_false]
    intro c hc
    rw [Bool.not_eq_true, List.any_eq_false]
    intro x hx
    have hx9 := List.mem_range.1 hx
    intro ht
    unfold twin at ht
    have e := (same_eg _ _ _ _).1 ht
    have h1 := hg (x / 3) (by omega)
    rw [e, h.ge1 c hc (x % 3) (by omega)] at h1
    cases h1
theorem around_iff {C : List Ce} {v x : Int} : x ∈ around C v ↔ ∃ c ∈ C, c.no = x ∧ ∃ j, j < 3 ∧ c.t.v j = v := by
  unfold around
  rw [List.mem_map]
  constructor
  · rintro ⟨c, hc, rfl⟩
    obtain ⟨hc, hh⟩ := List.mem_filter.1 hc
    refine ⟨c, hc, rfl, ?_⟩
    rcases of_decide_eq_true hh with e | e | e
    · exact ⟨0, by omega, e⟩
    · exact ⟨1, by omega, e⟩
    · exact ⟨2, by omega, e⟩
  · rintro ⟨c, hc, rfl, j, hj, e⟩
    refine ⟨c, List.mem_filter.2 ⟨hc, ?_⟩, rfl⟩
    unfold has
    rcases (by omega : j = 0 ∨ j = 1 ∨ j = 2) with rfl | rfl | rfl
    · exact decide_eq_true (Or.inl e)
    · exact decide_eq_true (Or.inr (Or.inl e))
    · exact decide_eq_true (Or.inr (Or.inr e))
/-- A face more. -/
theorem MeOk.addF {X X' : Mx} {S : Ms} {m : Nat} (h : MeOk X S) (hk : MsOk S m) {t : Tr} (he : fErr S t = 0) (fn : Nat) (hf : S.af.num = (fn : Int)) (hp : PutE 9 X.ys X'.ys X.nf fn (trC t))
    (e1 : X'.n = X.n) (e2 : X'.av = X.av) (e3 : X'.af = S.af.took) (e4 : X'.nv = X.nv) (e5 : X'.nf = S.af.took.T) (e6 : X'.Lv = X.Lv) (e7 : X'.M = X.M) (e8 : X'.xs = X.xs) (e9 : X'.ge = geK X.ge t S.af.num 3) (e10 : X'.gf = gfK X.gf t S.af.num 3) : MeOk X' (S.addF t) := by
  obtain ⟨f1, f2, f3, f4⟩ := fErr_ok he
  have htk := hk.fa.take
  have hne : ∀ a ∈ S.C, a.no ≠ S.af.num := fun a ha e => htk.2 (by have := (hk.fmem ha).1; rw [e] at this; exact this)
  have hself : ∀ i j, i < 3 → j < 3 → j ≠ i → eg t i ≠ eg t j := fun i j hi hj hij e => hij (self_edge f2 f3 hj hi ((same_eg _ _ _ _).2 e.symm))
  refine ⟨e1.trans h.n, e2.trans h.av, e3, e4.trans h.nv, e5, ?_, ?_, ?_, ?_, ?_, ?_⟩
  · intro v
    rw [e6]
    exact h.Lv v
  · intro a ha j u hu
    rw [e7] at hu
    rw [e8]
    exact h.vs a ha j u hu
  · intro c hc j u hu
    rcases insBy_mem.1 hc with rfl | hc
    · show X'.ys[S.af.num.toNat * 9 + j]? = some u
      rw [hf]
      exact hp.here j u hu
    · refine hp.else_ _ j u ?_ (trC_lt hu) (h.fs c hc j u hu)
      have h1 := hne c hc
      have h2 := (hk.fmem hc).2.1
      rw [hf] at h1
      omega
  · intro c hc i hi
    rw [e9]
    rcases insBy_mem.1 hc with rfl | hc
    · exact geK_at hi (fun j hj hji => hself i j hi hj hji)
    · rw [geK_other (fun j hj e => ?_)]
      · exact h.ge1 c hc i hi
      · have h1 := there_not f4 hc hj hi
        rw [(same_eg _ _ _ _).2 e.symm] at h1
        cases h1
  · intro e hee
    rw [e9] at hee
    rcases geK_some hee with ⟨j, hj, rfl⟩ | h1
    · exact ⟨_, insBy_mem.2 (Or.inl rfl), j, hj, rfl⟩
    · obtain ⟨c, hc, k, hk3, rfl⟩ := h.ge2 e h1
      exact ⟨c, insBy_mem.2 (Or.inr hc), k, hk3, rfl⟩
  · intro a ha x
    rw [e10, gfK_iff, h.gf a ha x, around_iff, around_iff]
    constructor
    · rintro (⟨c, hc, h1⟩ | ⟨rfl, h1⟩)
      · exact ⟨c, insBy_mem.2 (Or.inr hc), h1⟩
      · exact ⟨_, insBy_mem.2 (Or.inl rfl), rfl, h1⟩
    · rintro ⟨c, hc, h1⟩
      rcases insBy_mem.1 hc with rfl | hc
      · exact Or.inr ⟨h1.1.symm, h1.2⟩
      · exact Or.inl ⟨c, hc, h1⟩
/-- A face less. -/
theorem MeOk.dropF {X X' : Mx} {S : Ms} {m : Nat} (h : MeOk X S) (hk : MsOk S m) {i : Nat} {c : Ce} (hc : S.C[i]? = some c)
    (e1 : X'.n = X.n) (e2 : X'.av = X.av) (e3 : X'.af = S.af.freed c.no) (e4 : X'.nv = X.nv) (e5 : X'.nf = X.nf) (e6 : X'.Lv = X.Lv) (e7 : X'.M = X.M) (e8 : X'.xs = X.xs) (e8' : X'.ys = X.ys) (e9 : X'.ge = geD X.ge c.t 3) (e10 : X'.gf = gfD X.gf c.t c.no 3) : MeOk X' (S.dropF c.no i) := by
  have hcm := List.mem_of_getElem? hc
  have hm := fun {b : Ce} (hb : b ∈ cut S.C i) => cutC_mem hk.fs hc hb
  refine ⟨e1.trans h.n, e2.trans h.av, e3, e4.trans h.nv, e5.trans h.nf, ?_, ?_, ?_, ?_, ?_, ?_⟩
  · intro v
    rw [e6]
    exact h.Lv v
  · intro a ha j u hu
    rw [e7] at hu
    rw [e8]
    exact h.vs a ha j u hu
  · intro b hb j u hu
    rw [e8']
    exact h.fs b (hm hb).1 j u hu
  · intro b hb k hk3
    rw [e9, geD_other (fun j hj e => ?_)]
    · exact h.ge1 b (hm hb).1 k hk3
    · have h1 := hk.fe b (hm hb).1 c hcm k j hk3 hj ((same_eg _ _ _ _).2 e)
      exact (hm hb).2 (by rw [h1.1])
  · intro e hee
    rw [e9] at hee
    obtain ⟨h1, h2⟩ := geD_some hee
    obtain ⟨b, hb, k, hk3, rfl⟩ := h.ge2 e h1
    rcases List.mem_cons.1 ((cut_perm hc).mem_iff.2 hb) with rfl | hb'
    · exact absurd rfl (h2 k hk3)
    · exact ⟨b, hb', k, hk3, rfl⟩
  · intro a ha x
    rw [e10, gfD_iff, h.gf a ha x, around_iff, around_iff]
    constructor
    · rintro ⟨⟨b, hb, rfl, h1⟩, h2⟩
      rcases List.mem_cons.1 ((cut_perm hc).mem_iff.2 hb) with rfl | hb'
      · exact absurd ⟨rfl, h1⟩ h2
      · exact ⟨b, hb', rfl, h1⟩
    · rintro ⟨b, hb, rfl, h1⟩
      exact ⟨⟨b, (hm hb).1, rfl, h1⟩, fun h2 => (hm hb).2 h2.1⟩
/-- All edges, all numbers of faces: so many at most. -/
def egs (C : List Ce) (t : Tr) : List Eg := C.flatMap (fun c => [eg c.t 0, eg c.t 1, eg c.t 2]) ++ [eg t 0, eg t 1, eg t 2]
theorem egs_len (C : List Ce) (t : Tr) : (egs C t).length = 3 * C.length + 3 := by
  unfold egs
  rw [List.length_append]
  congr 1
  induction C with
  | nil => rfl
  | cons c C ih => rw [List.flatMap_cons, List.length_append, ih]; simp; omega
theorem mem_egs {C : List Ce} {t : Tr} {e : Eg} (h : (∃ j, j < 3 ∧ e = eg t j) ∨ ∃ c ∈ C, ∃ k, k < 3 ∧ e = eg c.t k) : e ∈ egs C t := by
  have three : ∀ (t : Tr) (j : Nat), j < 3 → eg t j ∈ [eg t 0, eg t 1, eg t 2] := fun t j hj => by rcases (by omega : j = 0 ∨ j = 1 ∨ j = 2) with rfl | rfl | rfl <;> simp
  unfold egs
  rw [List.mem_append]
  rcases h with ⟨j, hj, rfl⟩ | ⟨c, hc, k, hk, rfl⟩
  · exact Or.inr (three t j hj)
  · exact Or.inl (List.mem_flatMap.2 ⟨c, hc, three c.t k hk⟩)
end Go.Proofs.Ytjdeehffbgpenaa

namespace Go.Proofs.Ytjdeehffbgpenaa
open Go.RowKit Go.Maps
set_option linter.unusedVariables false

theorem MeI.vcell' {base p : Nat} {X Y : Mx} {F : Nat → Prop} {w : World} {S : Ms} {m : Nat} (h : MeI base p Y F w) (hS : MeOk X S) (hk : MsOk S m) (e1 : Y.xs = X.xs) (e2 : Y.nv = X.nv) (e3 : Y.M = X.M) {a : Vt} (ha : a ∈ S.V) : ∃ (g k : Nat), Y.a = some ⟨g, 0, none⟩ ∧ g < w.heap.size ∧ a.no = (k : Int) ∧ k < Y.nv ∧ w.cell? ⟨g, k * 5 + 4, none⟩ = some (.map (some (Y.M a.no))) := by
  obtain ⟨_, h0, h1⟩ := hk.vmem ha
  have hnv : a.no.toNat < Y.nv := by rw [e2, hS.nv]; omega
  obtain ⟨g, hg, hlt, _, hseg⟩ := h.own.at (by omega)
  refine ⟨g, a.no.toNat, hg, hlt, by omega, hnv, ?_⟩
  have := hseg.cell _ (.map (some (Y.M a.no))) (by rw [e1]; exact hS.vs a ha 4 _ (by rw [e3]; rfl))
  rw [Nat.zero_add] at this
  exact this
def AddFPost (base p : Nat) (S : Ms) (F : Nat → Prop) (t : Tr) (w : World) (e : Ending) (w' : World) : Prop :=
  (fErr S t ≠ 0 ∧ e = .returned (.tuple #[.int .i64 (-1), .int .i64 (fErr S t)]) ∧ Below w.heap.size w w') ∨ (fErr S t = 0 ∧ e = .returned (.tuple #[.int .i64 S.af.num, .int .i64 0]) ∧ Left (MeP base p (S.addF t)) F w w')
def AfJ (S : Ms) (t : Tr) (W : World) (i : Nat) (w' : World) : Prop := Below W.heap.size W w' ∧ ∀ j, j < i → isV S (t.v j) = true
def AfN (S : Ms) (t : Tr) (W : World) (i : Nat) (w' : World) : Prop := Below W.heap.size W w' ∧ isV S (t.v i) = false
def AgJ (g : Eg → Option Value) (t : Tr) (W : World) (i : Nat) (w' : World) : Prop := Below W.heap.size W w' ∧ ∀ j, j < i → g (eg t j) = none
def AgN (g : Eg → Option Value) (t : Tr) (W : World) (i : Nat) (w' : World) : Prop := Below W.heap.size W w' ∧ g (eg t i) ≠ none
theorem fErr_1 {S : Ms} {t : Tr} {i : Nat} (hi : i < 3) (h : isV S (t.v i) = false) : fErr S t = 1 := by
  unfold fErr
  rw [if_pos]
  rcases (by omega : i = 0 ∨ i = 1 ∨ i = 2) with rfl | rfl | rfl
  · exact Or.inl h
  · exact Or.inr (Or.inl h)
  · exact Or.inr (Or.inr h)
theorem fErr_not1 {S : Ms} {t : Tr} (h : ∀ i, i < 3 → isV S (t.v i) = true) : ¬ (isV S t.v0 = false ∨ isV S t.v1 = false ∨ isV S t.v2 = false) := by
  have h0 := h 0 (by omega)
  have h1 := h 1 (by omega)
  have h2 := h 2 (by omega)
  rintro (e | e | e)
  · rw [show t.v 0 = t.v0 from rfl, e] at h0; cases h0
  · rw [show t.v 1 = t.v1 from rfl, e] at h1; cases h1
  · rw [show t.v 2 = t.v2 from rfl, e] at h2; cases h2
theorem fErr_6 {S : Ms} {t : Tr} (h : ∀ i, i < 3 → isV S (t.v i) = true) (h2 : tlB S t = false ∨ there t S.C = true) : fErr S t = 6 := by
  unfold fErr
  rw [if_neg (fErr_not1 h), if_pos]
  rcases h2 with h2 | h2
  · unfold tlB at h2
    by_cases e0 : plOk S t 0 = true
    · by_cases e1 : plOk S t 1 = true
      · by_cases e2 : plOk S t 2 = true
        · rw [e0, e1, e2] at h2
          exact Or.inr (Or.inr (Or.inr (Or.inl (by simpa using h2))))
        · exact Or.inr (Or.inr (Or.inl (by simpa using e2)))
      · exact Or.inr (Or.inl (by simpa using e1))
    · exact Or.inl (by simpa using e0)
  · exact Or.inr (Or.inr (Or.inr (Or.inr h2)))
theorem tlB_ok {S : Ms} {t : Tr} (h : tlB S t = true) : (∀ i, i < 3 → plOk S t i = true) ∧ (areaT S t).sign = 1 := by
  unfold tlB at h
  simp only [Bool.and_eq_true, decide_eq_true_eq] at h
  refine ⟨fun i hi => ?_, h.2⟩
  rcases (by omega : i = 0 ∨ i = 1 ∨ i = 2) with rfl | rfl | rfl
  · exact h.1.1
  · exact h.1.2.1
  · exact h.1.2.2
theorem fErr_0 {S : Ms} {t : Tr} (h : ∀ i, i < 3 → isV S (t.v i) = true) (h2 : tlB S t = true) (h3 : there t S.C = false) : fErr S t = 0 := by
  obtain ⟨o, s⟩ := tlB_ok h2
  unfold fErr
  rw [if_neg (fErr_not1 h), if_neg]
  rintro (e | e | e | e | e)
  · rw [o 0 (by omega)] at e; cases e
  · rw [o 1 (by omega)] at e; cases e
  · rw [o 2 (by omega)] at e; cases e
  · exact e s
  · rw [h3] at e; cases e

set_option maxRecDepth 100000 in
set_option maxHeartbeats 4000000 in
theorem mAddF (base p : Nat) (X : Mx) (S : Ms) (m : Nat) (F : Nat → Prop) (w : World) (h : MeI base p X F w) (hS : MeOk X S) (hk : MsOk S m) (hm : m ≤ 1000) (t : Tr) (ht : ∀ i, i < 3 → In64 (t.v i)) :
    Calls Try.prog 9 #[ptR p, trV t] w (AddFPost base p S F t w) := by
  have hT : X.av.T ≤ 1000 := by rw [hS.av]; have := hk.vt; omega
  have hTf : X.af.T ≤ 1000 := by rw [hS.af]; have := hk.ft; omega
  have hnf1 : X.nf ≤ 1000 := by rw [hS.nf]; have := hk.ft; omega
  have hbase : base ≤ w.heap.size := by have := h.ft p h.c0.1; omega
  obtain ⟨W, hW⟩ : ∃ W, W = (w.alloc (.cells #[ptR p] 22)).alloc (.cells (trC t).toArray 42) := ⟨_, rfl⟩
  have BW : Below w.heap.size w W := by rw [hW]; exact ((Below.refl _ _).alloc (Nat.le_refl _) _).alloc (by simp) _
  have zW : W.heap.size = w.heap.size + 2 := by rw [hW]; simp
  have R1 : Row W w.heap.size [ptR p] := by rw [hW]; exact (Row.new w [ptR p] _).alloc _ (by simp)
  have R2 : Row W (w.heap.size + 1) (trC t) := by rw [hW]; have := Row.new (w.alloc (.cells #[ptR p] 22)) (trC t) 42; simpa using this
  have hW' : (w.alloc (.cells #[ptR p] 22)).alloc (.cells #[.int .i64 t.v0, .int .i64 t.v1, .int .i64 t.v2, .int .i64 t.x0, .int .i64 t.y0, .int .i64 t.x1, .int .i64 t.y1, .int .i64 t.x2, .int .i64 t.y2] 42) = W := hW.symm
  have HZ : Hid _ := zW
  have HI : Hid _ := h
  have HS : Hid _ := hS
  have HK : Hid _ := hk
  have HE1 : Hid (Calls Try.prog 27 #[.func (.func 28) #[] #[ptR w.heap.size, ptR (w.heap.size + 1)]] W (EveryPost (AfJ S t W) (AfN S t W))) := by
    refine mEvery _ _ (enters_of Try.func28 (by kernel_rfl) rfl) _ _ W ⟨Below.refl _ _, fun j hj => by omega⟩ ?_
    rintro i w1 hi ⟨b1, o1⟩
    have hz1 := b1.size
    refine (mAsk1 (ptR p) t i w.heap.size (w.heap.size + 1) w1 hi (R1.below b1 (by omega)) (R2.below b1 (by omega)) (r := isV S (t.v i)) ?_).mono ?_
    · intro w' hb'
      exact mHasV base p X F w' ((h.below (BW.trans (b1.mono (by omega)))).below hb') hT _ (ht i hi) (isV_dec hS hk _)
    · rintro e w2 ⟨rfl, b2⟩
      have b3 : Below W.heap.size W w2 := b1.trans (b2.mono b1.size)
      cases hb : isV S (t.v i) with
      | true => exact Or.inl ⟨rfl, b3, fun j hj => if e : j = i then by rw [e]; exact hb else o1 j (by omega)⟩
      | false => exact Or.inr ⟨rfl, b3, hb⟩
  clear hW h hS hk zW
  go_enter Try.func9, Try.ntmps9
  go_wp2_with (go_at_call 27; fail)
  refine (Calls.mono HE1.out) ?_
  clear HE1
  rintro e w1 (⟨rfl, b1, hv⟩ | ⟨rfl, i, hi, b1, hn⟩)
  case inr =>
    have B1 : Below w.heap.size w w1 := BW.trans (b1.mono BW.size)
    have HF : Hid (fErr S t = 1) := fErr_1 hi hn
    clear hW' hn
    go_wp2
    exact bodyPost_ret (v := .tuple #[.int .i64 (-1), .int .i64 1]) (by simp [results, Try.results9, go_sem]) rfl (Or.inl ⟨by rw [HF.out]; decide, by rw [HF.out], B1⟩)
  case inl =>
    have z1 := b1.size
    have hzw := HZ.out
    have B1 : Below w.heap.size w w1 := BW.trans (b1.mono BW.size)
    have HVV : Hid (∀ j, j < 3 → isV S (t.v j) = true) := hv
    replace R1 := R1.below b1 (by omega)
    replace R2 := R2.below b1 (by omega)
    have c0 := R1.cell 0 _ rfl
    clear hW' hv hzw
    have t0 := R2.cell 0 _ rfl
    have t1 := R2.cell 1 _ rfl
    have t2 := R2.cell 2 _ rfl
    have t3 := R2.cell 3 _ rfl
    have t4 := R2.cell 4 _ rfl
    have t5 := R2.cell 5 _ rfl
    have t6 := R2.cell 6 _ rfl
    have t7 := R2.cell 7 _ rfl
    have t8 := R2.cell 8 _ rfl
    obtain ⟨r, HR⟩ : ∃ r, Hid (r = tlB S t) := ⟨_, rfl⟩
    go_wp2_with (go_at_call 30; fail)
    refine (mTurns base p X S m F w1 (HI.out.below B1) HS.out HK.out t HVV.out HR.out).mono ?_
    rintro e w2 ⟨rfl, b2⟩
    have B2 : Below w.heap.size w w2 := B1.trans (b2.mono B1.size)
    cases r with
    | false =>
      have HF : Hid (fErr S t = 6) := fErr_6 HVV.out (Or.inl HR.out.symm)
      clear c0 t0 t1 t2 t3 t4 t5 t6 t7 t8
      go_wp2
      exact bodyPost_ret (v := .tuple #[.int .i64 (-1), .int .i64 6]) (by simp [results, Try.results9, go_sem]) rfl (Or.inl ⟨by rw [HF.out]; decide, by rw [HF.out], B2⟩)
    | true =>
      have z2 := b2.size
      replace R1 := R1.below b2 (by have := HZ.out; omega)
      replace R2 := R2.below b2 (by have := HZ.out; omega)
      have hsm : Small t := small_of HK.out HVV.out (tlB_ok HR.out.symm).1
      have HSM : Hid _ := hsm
      have HE2 : Hid (Calls Try.prog 27 #[.func (.func 31) #[] #[ptR w.heap.size, ptR (w.heap.size + 1)]] w2 (EveryPost (AgJ X.ge t w2) (AgN X.ge t w2))) := by
        refine mEvery _ _ (enters_of Try.func31 (by kernel_rfl) rfl) _ _ w2 ⟨Below.refl _ _, fun j hj => by omega⟩ ?_
        rintro i w3 hi ⟨b3, o3⟩
        have hz3 := b3.size
        have hzz := HZ.out
        have ee := egW_eq hsm hi
        refine (mAsk2 base p X F w3 ((HI.out.below B2).below b3) HS.out.starts t i w.heap.size (w.heap.size + 1) hi (by rw [ee]; exact eg_ok HK.out hm hsm HVV.out hi) (R1.below b3 (by omega)) (R2.below b3 (by omega)) (r := !(X.ge (eg t i)).isSome) (by rw [ee])).mono ?_
        rintro e w4 ⟨rfl, b4⟩
        have b5 : Below w2.heap.size w2 w4 := b3.trans (b4.mono b3.size)
        cases hg : X.ge (eg t i) with
        | none => exact Or.inl ⟨rfl, b5, fun j hj => if e : j = i then by rw [e]; exact hg else o3 j (by omega)⟩
        | some q => exact Or.inr ⟨rfl, b5, by rw [hg]; exact fun e => by cases e⟩
      clear c0 t0 t1 t2 t3 t4 t5 t6 t7 t8 hsm
      go_wp2_with (go_at_call 27; fail)
      refine (Calls.mono HE2.out) ?_
      clear HE2
      rintro e w3 (⟨rfl, b3, hg⟩ | ⟨rfl, i, hi, b3, hn⟩)
      case inr =>
        have B3 : Below w.heap.size w w3 := B2.trans (b3.mono B2.size)
        have HF : Hid (fErr S t = 6) := fErr_6 HVV.out (Or.inr (by cases hth : there t S.C with | true => rfl | false => exact absurd ((there_ge HS.out).1 hth i hi) hn))
        clear hn
        go_wp2
        exact bodyPost_ret (v := .tuple #[.int .i64 (-1), .int .i64 6]) (by simp [results, Try.results9, go_sem]) rfl (Or.inl ⟨by rw [HF.out]; decide, by rw [HF.out], B3⟩)
      case inl =>
        have B3 : Below w.heap.size w w3 := B2.trans (b3.mono B2.size)
        have z3 := b3.size
        have HF0 : Hid (fErr S t = 0) := fErr_0 HVV.out HR.out.symm ((there_ge HS.out).2 hg)
        have HI3 : Hid (MeI base p X F w3) := HI.out.below B3
        replace R1 := R1.below b3 (by have := HZ.out; omega)
        replace R2 := R2.below b3 (by have := HZ.out; omega)
        obtain ⟨h0, hrg⟩ := num_range HK.out.fa
        obtain ⟨fn, hfn⟩ := Int.eq_ofNat_of_zero_le h0
        have HFN : Hid _ := hfn
        have HV : Hid ((fn : Int) = X.af.num) := by unfold Hid; rw [HS.out.af, hfn]
        have HNN : Hid (fn ≤ X.nf ∧ (fn = X.nf → S.af.took.T = X.nf + 1) ∧ (fn < X.nf → S.af.took.T = X.nf)) := by
          unfold Hid
          rw [HS.out.nf]
          rcases hrg with ⟨e1, e2⟩ | ⟨e1, e2⟩
          · rw [hfn] at e1
            exact ⟨by omega, fun _ => e2, fun e => by omega⟩
          · rw [hfn] at e1
            exact ⟨by omega, fun e => by omega, fun _ => e2⟩
        have hI64 : In64 (fn : Int) := by have := HNN.out.1; exact ⟨by omega, by omega⟩
        have c0 := R1.cell 0 _ rfl
        have m2 := HI3.out.row.cell 2 _ rfl
        clear h0 hrg hfn hg
        go_wp2_with (go_at_call 24; fail)
        refine (mTake HI3.out.arf hTf HV.out).mono ?_
        rintro e w4 ⟨rfl, k4, Ff', a4, s4⟩
        have HI4 : Hid (MeI base p { X with af := X.af.took, Ff := Ff', κ := paint X.κ w3.heap.size 2 } (more F w3.heap.size w4.heap.size) w4) := HI3.out.turnF k4 a4 s4
        have K4 : Hid (Keep F w w4) := (Keep.of B3).trans k4 (fun k f => Or.inl (HI.out.c2 k f).1)
        have z4 := k4.size
        have nF : ∀ k, F k → k < w.heap.size := fun k f => (HI.out.ft k f).2
        have hzz := HZ.out
        replace R1 := R1.keep k4 (by omega) (fun f => by have := nF _ (HI.out.c2 _ f).1; omega)
        replace R2 := R2.keep k4 (by omega) (fun f => by have := nF _ (HI.out.c2 _ f).1; omega)
        replace c0 := R1.cell 0 _ rfl
        have m4 := HI4.out.row.cell 4 _ rfl
        have lp : p < w4.heap.size := HI4.out.row.lt
        have ngp : ¬ Slot X.b p := fun s => absurd ((HI.out.c4 p s).2.symm.trans HI.out.c0.2) (by decide)
        have ng1 : ¬ Slot X.b w.heap.size := fun s => by have := nF _ (HI.out.c4 _ s).1; omega
        have ng2 : ¬ Slot X.b (w.heap.size + 1) := fun s => by have := nF _ (HI.out.c4 _ s).1; omega
        have l1 : w.heap.size < w4.heap.size := by omega
        have l2 : w.heap.size + 1 < w4.heap.size := by omega
        have t0 := R2.cell 0 _ rfl
        have t1 := R2.cell 1 _ rfl
        have t2 := R2.cell 2 _ rfl
        have t3 := R2.cell 3 _ rfl
        have t4 := R2.cell 4 _ rfl
        have t5 := R2.cell 5 _ rfl
        have t6 := R2.cell 6 _ rfl
        have t7 := R2.cell 7 _ rfl
        have t8 := R2.cell 8 _ rfl
        obtain ⟨b, hb⟩ : ∃ a, a = X.b := ⟨_, rfl⟩
        obtain ⟨nf, hnf⟩ : ∃ n, n = X.nf := ⟨_, rfl⟩
        obtain ⟨cb, hcb⟩ : ∃ n, n = X.cb := ⟨_, rfl⟩
        rw [← hb, ← hnf, ← hcb] at m4
        rw [← hb] at ngp ng1 ng2
        have HB : Hid _ := hb
        have HNF : Hid _ := hnf
        have HPUT : Hid (∀ w', Below w4.heap.size w4 w' → Calls Try.prog 34 #[.slice b nf cb, .int .i64 (fn : Int), trV t] w' (PutPost 42 9 base b nf X.ys fn (trC t) w')) := by
          unfold Hid
          intro w' hbw
          have hO := (HI4.out.below hbw).onf
          refine mPutT base b nf cb X.ys w' (by rw [hb, hnf, hcb]; exact hO) (by rw [hnf]; exact hnf1) ?_ fn (by rw [hnf]; exact HNN.out.1) t rfl
          have h2 := hbw.size
          omega
        clear hb hnf hcb m2 hzz
        go_wp2
        have HSaf : Hid (∀ w', Keep (Slot b) w4 w' → (fun w' => w'.cell? ⟨w.heap.size, 0, none⟩ = some (ptR p) ∧ w'.cell? ⟨p, 4, none⟩ = some (.slice b nf cb) ∧ w'.cell? ⟨w.heap.size + 1, 0, none⟩ = some (.int .i64 t.v0) ∧ w'.cell? ⟨w.heap.size + 1, 1, none⟩ = some (.int .i64 t.v1) ∧ w'.cell? ⟨w.heap.size + 1, 2, none⟩ = some (.int .i64 t.v2) ∧ w'.cell? ⟨w.heap.size + 1, 3, none⟩ = some (.int .i64 t.x0) ∧ w'.cell? ⟨w.heap.size + 1, 4, none⟩ = some (.int .i64 t.y0) ∧ w'.cell? ⟨w.heap.size + 1, 5, none⟩ = some (.int .i64 t.x1) ∧ w'.cell? ⟨w.heap.size + 1, 6, none⟩ = some (.int .i64 t.y1) ∧ w'.cell? ⟨w.heap.size + 1, 7, none⟩ = some (.int .i64 t.x2) ∧ w'.cell? ⟨w.heap.size + 1, 8, none⟩ = some (.int .i64 t.y2) ∧ Keep (Slot b) w4 w') w') := by
          unfold Hid
          intro w' hb
          exact ⟨(hb.cell (p := ⟨w.heap.size, 0, none⟩) l1 ng1).trans c0, (hb.cell (p := ⟨p, 4, none⟩) lp ngp).trans m4, (hb.cell (p := ⟨w.heap.size + 1, 0, none⟩) l2 ng2).trans t0, (hb.cell (p := ⟨w.heap.size + 1, 1, none⟩) l2 ng2).trans t1, (hb.cell (p := ⟨w.heap.size + 1, 2, none⟩) l2 ng2).trans t2, (hb.cell (p := ⟨w.heap.size + 1, 3, none⟩) l2 ng2).trans t3, (hb.cell (p := ⟨w.heap.size + 1, 4, none⟩) l2 ng2).trans t4, (hb.cell (p := ⟨w.heap.size + 1, 5, none⟩) l2 ng2).trans t5, (hb.cell (p := ⟨w.heap.size + 1, 6, none⟩) l2 ng2).trans t6, (hb.cell (p := ⟨w.heap.size + 1, 7, none⟩) l2 ng2).trans t7, (hb.cell (p := ⟨w.heap.size + 1, 8, none⟩) l2 ng2).trans t8, hb⟩
        refine regionL 10 (S := fun w' => w'.cell? ⟨w.heap.size, 0, none⟩ = some (ptR p) ∧ w'.cell? ⟨p, 4, none⟩ = some (.slice b nf cb) ∧ w'.cell? ⟨w.heap.size + 1, 0, none⟩ = some (.int .i64 t.v0) ∧ w'.cell? ⟨w.heap.size + 1, 1, none⟩ = some (.int .i64 t.v1) ∧ w'.cell? ⟨w.heap.size + 1, 2, none⟩ = some (.int .i64 t.v2) ∧ w'.cell? ⟨w.heap.size + 1, 3, none⟩ = some (.int .i64 t.x0) ∧ w'.cell? ⟨w.heap.size + 1, 4, none⟩ = some (.int .i64 t.y0) ∧ w'.cell? ⟨w.heap.size + 1, 5, none⟩ = some (.int .i64 t.x1) ∧ w'.cell? ⟨w.heap.size + 1, 6, none⟩ = some (.int .i64 t.y1) ∧ w'.cell? ⟨w.heap.size + 1, 7, none⟩ = some (.int .i64 t.x2) ∧ w'.cell? ⟨w.heap.size + 1, 8, none⟩ = some (.int .i64 t.y2) ∧ Keep (Slot b) w4 w') (by kernel_rfl) ?_ (fun hHeld => ?_)
        · exact HSaf.out _ ((Keep.refl _ _).drew)
        refine takeL_yes (i := 0) (v := ?vaf0) rfl (by kernel_rfl) (by kernel_rfl) (by kernel_rfl) (by kernel_rfl) (by decide) (fun _ _ _ h => h) (by rfl) (by assumption) ?hyaf0 ?restaf0
        case hyaf0 => (intro w hSw; (try dsimp only at hSw); first | (go_simp; done) | (go_simp; with_reducible rfl))
        simp only [Act.put, List.setIfInBounds_toArray, List.set_cons_zero, List.set_cons_succ]
        refine takeL_yes (i := 1) (v := ?vaf1) rfl (by kernel_rfl) (by kernel_rfl) (by kernel_rfl) (by kernel_rfl) (by decide) (fun _ _ _ h => h) (by rfl) (by assumption) ?hyaf1 ?restaf1
        case hyaf1 => (intro w hSw; (try dsimp only at hSw); first | (go_simp; done) | (go_simp; with_reducible rfl))
        simp only [Act.put, List.setIfInBounds_toArray, List.set_cons_zero, List.set_cons_succ]
        refine takeL_yes (i := 2) (v := ?vaf2) rfl (by kernel_rfl) (by kernel_rfl) (by kernel_rfl) (by kernel_rfl) (by decide) (fun _ _ _ h => h) (by rfl) (by assumption) ?hyaf2 ?restaf2
        case hyaf2 => (intro w hSw; (try dsimp only at hSw); first | (go_simp; done) | (go_simp; with_reducible rfl))
        simp only [Act.put, List.setIfInBounds_toArray, List.set_cons_zero, List.set_cons_succ]
        refine takeL_yes (i := 3) (v := ?vaf3) rfl (by kernel_rfl) (by kernel_rfl) (by kernel_rfl) (by kernel_rfl) (by decide) (fun _ _ _ h => h) (by rfl) (by assumption) ?hyaf3 ?restaf3
        case hyaf3 => (intro w hSw; (try dsimp only at hSw); first | (go_simp; done) | (go_simp; with_reducible rfl))
        simp only [Act.put, List.setIfInBounds_toArray, List.set_cons_zero, List.set_cons_succ]
        refine takeL_yes (i := 4) (v := ?vaf4) rfl (by kernel_rfl) (by kernel_rfl) (by kernel_rfl) (by kernel_rfl) (by decide) (fun _ _ _ h => h) (by rfl) (by assumption) ?hyaf4 ?restaf4
        case hyaf4 => (intro w hSw; (try dsimp only at hSw); first | (go_simp; done) | (go_simp; with_reducible rfl))
        simp only [Act.put, List.setIfInBounds_toArray, List.set_cons_zero, List.set_cons_succ]
        refine takeL_yes (i := 5) (v := ?vaf5) rfl (by kernel_rfl) (by kernel_rfl) (by kernel_rfl) (by kernel_rfl) (by decide) (fun _ _ _ h => h) (by rfl) (by assumption) ?hyaf5 ?restaf5
        case hyaf5 => (intro w hSw; (try dsimp only at hSw); first | (go_simp; done) | (go_simp; with_reducible rfl))
        simp only [Act.put, List.setIfInBounds_toArray, List.set_cons_zero, List.set_cons_succ]
        refine takeL_yes (i := 6) (v := ?vaf6) rfl (by kernel_rfl) (by kernel_rfl) (by kernel_rfl) (by kernel_rfl) (by decide) (fun _ _ _ h => h) (by rfl) (by assumption) ?hyaf6 ?restaf6
        case hyaf6 => (intro w hSw; (try dsimp only at hSw); first | (go_simp; done) | (go_simp; with_reducible rfl))
        simp only [Act.put, List.setIfInBounds_toArray, List.set_cons_zero, List.set_cons_succ]
        refine takeL_call (i := 7) rfl (by kernel_rfl) (fun Kc hK => ?_)
        go_simp
        (go_at_call 34; refine (HPUT.out _ (Below.refl _ _).drew).mono ?_; rintro e w5 ⟨b5, n5, c5, ys5, rfl, hP⟩)
        refine hK.out _ _ ?_ (fun hHeld => ?_)
        · exact HSaf.out _ (hHeld.2.2.2.2.2.2.2.2.2.2.2.trans hP.2.2.2.2.2 (fun i g => Or.inl g))
        clear hK Kc
        have HP : Hid _ := hP
        clear hP
        refine takeL_call (i := 8) rfl (by kernel_rfl) (fun Kc hK => ?_)
        go_simp
        refine hK.out _ _ ?_ (fun hHeld => ?_)
        · exact HSaf.out _ (hHeld.2.2.2.2.2.2.2.2.2.2.2)
        clear hK Kc
        refine takeL_yes (i := 9) (v := ?vaf9) rfl (by kernel_rfl) (by kernel_rfl) (by kernel_rfl) (by kernel_rfl) (by decide) (fun _ _ _ h => h) (by rfl) (by assumption) ?hyaf9 ?restaf9
        case hyaf9 => (intro w hSw; (try dsimp only at hSw); first | (go_simp; done) | (go_simp; with_reducible rfl))
        simp only [Act.put, List.setIfInBounds_toArray, List.set_cons_zero, List.set_cons_succ]
        have s3 := hHeld.2.1
        have fz := (HI4.out.row.keep hHeld.2.2.2.2.2.2.2.2.2.2.2 lp ngp).free 4 (by simp)
        refine takeL_last rfl (by kernel_rfl) (fun Kc hK => ?_)
        go_simp
        refine hK.out _ _ ?_
        clear hK Kc
        refine anyL_done (by kernel_rfl) ?_ _
        obtain ⟨g1, g2, g3, g4, g5, g6⟩ := HP.out
        rw [HNF.out] at g1 g2 g4
        rw [HB.out] at g5 g6
        obtain ⟨V, hV⟩ : ∃ V, V = w5.setCell ⟨p, 4, none⟩ (.slice b5 n5 c5) := ⟨_, rfl⟩
        have HT : Hid _ := (HI4.out.below (Below.refl _ _).drew).turnB (b' := b5) (n' := n5) (c' := c5) (ys' := ys5) g6 g3 g5
        have zV : V.heap.size = w5.heap.size := by rw [hV]; simp
        have z5 : w4.heap.size ≤ w5.heap.size := g6.size
        obtain ⟨X5, hX5⟩ : ∃ X5 : Mx, X5 = { X with af := X.af.took, Ff := Ff', b := b5, nf := n5, cb := c5, ys := ys5, κ := paint (paint X.κ w3.heap.size 2) w4.heap.size 4 } := ⟨_, rfl⟩
        obtain ⟨F5, hF5⟩ : ∃ F5 : Nat → Prop, F5 = more (more F w3.heap.size w4.heap.size) w4.heap.size w5.heap.size := ⟨_, rfl⟩
        have HI5 : Hid (MeI base p X5 F5 V) := by unfold Hid; rw [hX5, hF5, hV]; exact HT.out.1
        have K5 : Hid (Keep F w V) := by unfold Hid; rw [hV]; exact (K4.out.to (Below.refl _ _).drew).trans HT.out.2 (fun k f => f.imp (fun x => x) (fun e => by have := B3.size; omega))
        have HF5 : Hid (∀ k, F5 k → F k ∨ w3.heap.size ≤ k) := by
          unfold Hid
          intro k hk
          rw [hF5] at hk
          rcases hk with (f | f) | f
          · exact Or.inl f
          · exact Or.inr f.1
          · exact Or.inr (by omega)
        have ks : Keep (fun k => k = p) w5 V := by rw [hV]; exact (Keep.refl (fun k => k = p) w5).set (Or.inl rfl) _
        have k54 : Keep (Slot X.b) w4 w5 := ⟨g6.os, g6.tape, g6.output, g6.size, g6.block⟩
        have hnp : p < w.heap.size := nF p HI.out.c0.1
        rw [HB.out] at ng1 ng2
        replace R1 := (R1.keep k54 l1 ng1).keep ks (by omega) (by omega)
        replace R2 := (R2.keep k54 l2 ng2).keep ks (by omega) (by omega)
        have lB1 : w.heap.size < V.heap.size := by omega
        have lB2 : w.heap.size + 1 < V.heap.size := by omega
        have nB1 : ¬ F5 w.heap.size := fun f => (HF5.out _ f).elim (fun f => by have := nF _ f; omega) (fun e => by have := HZ.out; omega)
        have nB2 : ¬ F5 (w.heap.size + 1) := fun f => (HF5.out _ f).elim (fun f => by have := nF _ f; omega) (fun e => by have := HZ.out; omega)
        have HFIN : Hid (∀ w', MeI base p { X5 with ge := geK X.ge t (fn : Int) 3, gf := gfK X.gf t (fn : Int) 3 } F5 w' → Keep F5 V w' → Left (MeP base p (S.addF t)) F w w') := by
          unfold Hid
          intro w' hI' hK'
          refine ⟨K5.out.trans hK' (fun k f => (HF5.out k f).imp (fun x => x) (fun e => by have := B3.size; omega)), F5, ⟨_, hI', ?_⟩, fun k f => (HF5.out k f).imp (fun x => x) (fun e => by have := B3.size; omega)⟩
          apply MeOk.addF HS.out HK.out HF0.out fn HFN.out
          · rw [hX5]; exact g4
          · rw [hX5]
          · rw [hX5]
          · rw [hX5]; show X.af.took = S.af.took; rw [HS.out.af]
          · rw [hX5]
          · rw [hX5]
            show n5 = S.af.took.T
            rcases Nat.lt_or_ge fn X.nf with e | e
            · rw [g2 e, HNN.out.2.2 e]
            · have e' : fn = X.nf := Nat.le_antisymm HNN.out.1 e
              rw [g1 e', HNN.out.2.1 e']
          · rw [hX5]
          · rw [hX5]
          · rw [hX5]
          · rw [HFN.out]
          · rw [HFN.out]
        have HX5a : Hid (X5.ge = X.ge ∧ X5.gf = X.gf ∧ X5.Lv = X.Lv ∧ X5.M = X.M ∧ X5.xs = X.xs ∧ X5.nv = X.nv ∧ X5.be = X.be) := by unfold Hid; rw [hX5]; exact ⟨rfl, rfl, rfl, rfl, rfl, rfl, rfl⟩
        have hV' := hV.symm
        clear hV hX5 hF5 HT ks k54 g1 g2 g3 g4 g5 g6 HP c0 m4 t0 t1 t2 t3 t4 t5 t6 t7 t8 zV z5 s3 fz hHeld HPUT
        go_wp2
        go_loopw [35] (fun i wr => ∃ k : Nat, k ≤ 3 ∧ i = .int .i64 (k : Int) ∧ MeI base p { X5 with ge := geK X.ge t (fn : Int) k, gf := gfK X.gf t (fn : Int) k } F5 wr ∧ Keep F5 V wr) (fun i _ => 3 - (iv i).toNat)
        case atStart =>
          refine ⟨0, by omega, rfl, ?_, Keep.refl _ _⟩
          have e1 : ({ X5 with ge := geK X.ge t (fn : Int) 0, gf := gfK X.gf t (fn : Int) 0 } : Mx) = X5 := by
            show ({ X5 with ge := X.ge, gf := X.gf } : Mx) = X5
            rw [← HX5a.out.1, ← HX5a.out.2.1]
          rw [e1]
          exact HI5.out
        case round =>
          obtain ⟨k, hk, rfl, hIr, hKr⟩ := hrel
          have HIr : Hid _ := hIr
          have HKr : Hid _ := hKr
          have zr := hKr.size
          have R1r := R1.keep hKr lB1 nB1
          have R2r := R2.keep hKr lB2 nB2
          clear hIr hKr hV'
          by_cases hlt : k < 3
          · have hlt' : (k : Int) < 3 := by omega
            have c0 := R1r.cell 0 _ rfl
            have q5 := HIr.out.row.cell 5 _ rfl
            obtain ⟨be, hbe⟩ : ∃ b, b = X5.be := ⟨_, rfl⟩
            have lr1 : w.heap.size < wr.heap.size := by omega
            have lr2 : w.heap.size + 1 < wr.heap.size := by omega
            have lrp : p < wr.heap.size := HIr.out.row.lt
            have HBE : Hid _ := hbe
            replace q5 : wr.cell? ⟨p, 5, none⟩ = some (.map (some be)) := by rw [hbe]; exact q5
            have nb1 : ¬ w.heap.size = be := fun e => nB1 (by rw [e, hbe]; exact HI5.out.c5.1)
            have nb2 : ¬ w.heap.size + 1 = be := fun e => nB2 (by rw [e, hbe]; exact HI5.out.c5.1)
            have nbp : ¬ p = be := fun e => by have h1 := HI5.out.c0.2; have h2 := HI5.out.c5.2; rw [← hbe, ← e, h1] at h2; cases h2
            have HEW : Hid (egW t k = eg t k) := egW_eq HSM.out hlt
            obtain ⟨kl, hkl⟩ := egKey (eg_ok HK.out hm HSM.out HVV.out hlt)
            have HKL : Hid _ := hkl
            have HLE : Hid (∀ a, (∃ kl, keyOf Try.prog 82 (egV a) = some kl) → geK X.ge t (fn : Int) k a ≠ none → a ∈ egs S.C t) := by
              unfold Hid
              intro a _ ha
              rcases geK_some ha with ⟨j, hj, e⟩ | h1
              · exact mem_egs (Or.inl ⟨j, by omega, e⟩)
              · exact mem_egs (Or.inr (HS.out.ge2 a h1))
            have hel : (egs S.C t).length < maxLen := by rw [egs_len]; have := HK.out.lens.2.1; unfold maxLen; omega
            clear hkl hbe

            have t0 := R2r.cell 0 _ rfl
            have t1 := R2r.cell 1 _ rfl
            have t2 := R2r.cell 2 _ rfl
            have t3 := R2r.cell 3 _ rfl
            have t4 := R2r.cell 4 _ rfl
            have t5 := R2r.cell 5 _ rfl
            have t6 := R2r.cell 6 _ rfl
            have t7 := R2r.cell 7 _ rfl
            have t8 := R2r.cell 8 _ rfl
            go_wp2
            have HSf10 : Hid (∀ w', Keep (fun x => x = be) wr w' → (fun w' => w'.cell? ⟨w.heap.size, 0, none⟩ = some (ptR p) ∧ w'.cell? ⟨p, 5, none⟩ = some (.map (some be)) ∧ w'.cell? ⟨w.heap.size + 1, 0, none⟩ = some (.int .i64 t.v0) ∧ w'.cell? ⟨w.heap.size + 1, 1, none⟩ = some (.int .i64 t.v1) ∧ w'.cell? ⟨w.heap.size + 1, 2, none⟩ = some (.int .i64 t.v2) ∧ w'.cell? ⟨w.heap.size + 1, 3, none⟩ = some (.int .i64 t.x0) ∧ w'.cell? ⟨w.heap.size + 1, 4, none⟩ = some (.int .i64 t.y0) ∧ w'.cell? ⟨w.heap.size + 1, 5, none⟩ = some (.int .i64 t.x1) ∧ w'.cell? ⟨w.heap.size + 1, 6, none⟩ = some (.int .i64 t.y1) ∧ w'.cell? ⟨w.heap.size + 1, 7, none⟩ = some (.int .i64 t.x2) ∧ w'.cell? ⟨w.heap.size + 1, 8, none⟩ = some (.int .i64 t.y2) ∧ Keep (fun x => x = be) wr w') w') := by
              unfold Hid
              intro w' hb
              exact ⟨(hb.cell (p := ⟨w.heap.size, 0, none⟩) lr1 nb1).trans c0, (hb.cell (p := ⟨p, 5, none⟩) lrp nbp).trans q5, (hb.cell (p := ⟨w.heap.size + 1, 0, none⟩) lr2 nb2).trans t0, (hb.cell (p := ⟨w.heap.size + 1, 1, none⟩) lr2 nb2).trans t1, (hb.cell (p := ⟨w.heap.size + 1, 2, none⟩) lr2 nb2).trans t2, (hb.cell (p := ⟨w.heap.size + 1, 3, none⟩) lr2 nb2).trans t3, (hb.cell (p := ⟨w.heap.size + 1, 4, none⟩) lr2 nb2).trans t4, (hb.cell (p := ⟨w.heap.size + 1, 5, none⟩) lr2 nb2).trans t5, (hb.cell (p := ⟨w.heap.size + 1, 6, none⟩) lr2 nb2).trans t6, (hb.cell (p := ⟨w.heap.size + 1, 7, none⟩) lr2 nb2).trans t7, (hb.cell (p := ⟨w.heap.size + 1, 8, none⟩) lr2 nb2).trans t8, hb⟩
            refine wp_region_held_drew (S := fun w' => w'.cell? ⟨w.heap.size, 0, none⟩ = some (ptR p) ∧ w'.cell? ⟨p, 5, none⟩ = some (.map (some be)) ∧ w'.cell? ⟨w.heap.size + 1, 0, none⟩ = some (.int .i64 t.v0) ∧ w'.cell? ⟨w.heap.size + 1, 1, none⟩ = some (.int .i64 t.v1) ∧ w'.cell? ⟨w.heap.size + 1, 2, none⟩ = some (.int .i64 t.v2) ∧ w'.cell? ⟨w.heap.size + 1, 3, none⟩ = some (.int .i64 t.x0) ∧ w'.cell? ⟨w.heap.size + 1, 4, none⟩ = some (.int .i64 t.y0) ∧ w'.cell? ⟨w.heap.size + 1, 5, none⟩ = some (.int .i64 t.x1) ∧ w'.cell? ⟨w.heap.size + 1, 6, none⟩ = some (.int .i64 t.y1) ∧ w'.cell? ⟨w.heap.size + 1, 7, none⟩ = some (.int .i64 t.x2) ∧ w'.cell? ⟨w.heap.size + 1, 8, none⟩ = some (.int .i64 t.y2) ∧ Keep (fun x => x = be) wr w') (by kernel_rfl) ?_ (fun hHeld => ?_)
            · exact HSf10.out _ ((Keep.refl _ _).drew)
            refine take_yes (i := 0) (v := ?vf100) rfl (by kernel_rfl) (by kernel_rfl) (by kernel_rfl) (fun _ _ _ h => h) (by rfl) (by assumption) ?hyf100 ?restf100
            case hyf100 => (intro w hSw; (try dsimp only at hSw); first | (go_simp; done) | (go_simp; with_reducible rfl))
            simp only [Act.put, List.setIfInBounds_toArray, List.set_cons_zero, List.set_cons_succ]
            refine take_yes (i := 1) (v := ?vf101) rfl (by kernel_rfl) (by kernel_rfl) (by kernel_rfl) (fun _ _ _ h => h) (by rfl) (by assumption) ?hyf101 ?restf101
            case hyf101 => (intro w hSw; (try dsimp only at hSw); first | (go_simp; done) | (go_simp; with_reducible rfl))
            simp only [Act.put, List.setIfInBounds_toArray, List.set_cons_zero, List.set_cons_succ]
            refine take_yes (i := 2) (v := ?vf102) rfl (by kernel_rfl) (by kernel_rfl) (by kernel_rfl) (fun _ _ _ h => h) (by rfl) (by assumption) ?hyf102 ?restf102
            case hyf102 => (intro w hSw; (try dsimp only at hSw); first | (go_simp; done) | (go_simp; with_reducible rfl))
            simp only [Act.put, List.setIfInBounds_toArray, List.set_cons_zero, List.set_cons_succ]
            refine take_yes (i := 3) (v := ?vf103) rfl (by kernel_rfl) (by kernel_rfl) (by kernel_rfl) (fun _ _ _ h => h) (by rfl) (by assumption) ?hyf103 ?restf103
            case hyf103 => (intro w hSw; (try dsimp only at hSw); first | (go_simp; done) | (go_simp; with_reducible rfl))
            simp only [Act.put, List.setIfInBounds_toArray, List.set_cons_zero, List.set_cons_succ]
            refine take_yes (i := 4) (v := ?vf104) rfl (by kernel_rfl) (by kernel_rfl) (by kernel_rfl) (fun _ _ _ h => h) (by rfl) (by assumption) ?hyf104 ?restf104
            case hyf104 => (intro w hSw; (try dsimp only at hSw); first | (go_simp; done) | (go_simp; with_reducible rfl))
            simp only [Act.put, List.setIfInBounds_toArray, List.set_cons_zero, List.set_cons_succ]
            refine take_yes (i := 5) (v := ?vf105) rfl (by kernel_rfl) (by kernel_rfl) (by kernel_rfl) (fun _ _ _ h => h) (by rfl) (by assumption) ?hyf105 ?restf105
            case hyf105 => (intro w hSw; (try dsimp only at hSw); first | (go_simp; done) | (go_simp; with_reducible rfl))
            simp only [Act.put, List.setIfInBounds_toArray, List.set_cons_zero, List.set_cons_succ]
            refine take_yes (i := 7) (v := ?vf107) rfl (by kernel_rfl) (by kernel_rfl) (by kernel_rfl) (fun _ _ _ h => h) (by rfl) (by assumption) ?hyf107 ?restf107
            case hyf107 => (intro w hSw; (try dsimp only at hSw); first | (go_simp; done) | (go_simp; with_reducible rfl))
            simp only [Act.put, List.setIfInBounds_toArray, List.set_cons_zero, List.set_cons_succ]
            refine take_yes (i := 8) (v := ?vf108) rfl (by kernel_rfl) (by kernel_rfl) (by kernel_rfl) (fun _ _ _ h => h) (by rfl) (by assumption) ?hyf108 ?restf108
            case hyf108 => (intro w hSw; (try dsimp only at hSw); first | (go_simp; done) | (go_simp; with_reducible rfl))
            simp only [Act.put, List.setIfInBounds_toArray, List.set_cons_zero, List.set_cons_succ]
            refine take_yes (i := 9) (v := ?vf109) rfl (by kernel_rfl) (by kernel_rfl) (by kernel_rfl) (fun _ _ _ h => h) (by rfl) (by assumption) ?hyf109 ?restf109
            case hyf109 => (intro w hSw; (try dsimp only at hSw); first | (go_simp; done) | (go_simp; with_reducible rfl))
            simp only [Act.put, List.setIfInBounds_toArray, List.set_cons_zero, List.set_cons_succ]
            refine take_call (i := 6) rfl (by kernel_rfl) (fun Kc hK => ?_)
            go_simp
            (go_at_call 33; refine (mEdge t k _ hlt).mono ?_; rintro e w6 ⟨rfl, b6⟩; rw [HEW.out])
            refine hK.out _ _ ?_ (fun hHeld => ?_)
            · exact HSf10.out _ (hHeld.2.2.2.2.2.2.2.2.2.2.2.to b6)
            clear hK Kc
            refine take_call (i := 10) rfl (by kernel_rfl) (fun Kc hK => ?_)
            refine step_update_l rfl (.tmp 41) (.tmp 44) (.tmp 47) 60 rfl 86 egL Try.underlying60 be (geK X.ge t (fn : Int) k) rfl (by rw [HBE.out]; exact ((HIr.out.below (Below.refl _ _).drew).below b6).edg) (eg t k) kl (stV (fn : Int) (k : Int)) rfl rfl HKL.out (egs S.C t) HLE.out hel ?_; intro w7 k7 m7
            refine hK.out _ _ ?_ (fun hHeld => ?_)
            · exact HSf10.out _ (hHeld.2.2.2.2.2.2.2.2.2.2.2.trans k7 (fun i g => Or.inl g))
            clear hK Kc
            refine wpAnyH_done (by kernel_rfl) ?_ _
            have HI7 : Hid (MeI base p { X5 with ge := geK X.ge t (fn : Int) (k + 1), gf := gfK X.gf t (fn : Int) k } F5 w7) := by
              unfold Hid
              rw [HBE.out] at k7 m7
              exact ((HIr.out.below (Below.refl _ _).drew).below b6).turnE k7 m7
            have K7 : Hid (Keep F5 V w7) := by
              unfold Hid
              rw [HBE.out] at k7
              exact ((HKr.out.to (Below.refl _ _).drew).to b6).trans k7 (fun i e => Or.inl (by rw [e]; exact HI5.out.c5.1))
            have R17 := R1.keep K7.out lB1 nB1
            have R27 := R2.keep K7.out lB2 nB2
            have z7 := K7.out.size
            obtain ⟨a, ha, hav⟩ := isV_iff.1 (HVV.out k hlt)
            obtain ⟨g, kv, hXa, hg, hak, hkn, hc4⟩ := HI7.out.vcell' HS.out HK.out HX5a.out.2.2.2.2.1 HX5a.out.2.2.2.2.2.1 HX5a.out.2.2.2.1 ha
            have q3 := HI7.out.row.cell 3 _ rfl
            replace q3 : w7.cell? ⟨p, 3, none⟩ = some (.slice X5.a X5.nv X5.ca) := q3
            replace hXa : X5.a = some ⟨g, 0, none⟩ := hXa
            rw [hXa] at q3
            have hLv : X5.Lv a.no := by rw [HX5a.out.2.2.1]; exact (HS.out.Lv _).2 (isV_iff.2 ⟨a, ha, rfl⟩)
            have hc6 := HI5.out.c6 a.no hLv
            have HM7 : Hid _ := HI7.out.fcs a.no hLv
            have HLV : Hid _ := hLv
            have HAN : Hid (t.v k = a.no) := hav.symm
            obtain ⟨mb, hmb⟩ : ∃ b, b = X5.M a.no := ⟨_, rfl⟩
            replace hc4 : w7.cell? ⟨g, kv * 5 + 4, none⟩ = some (.map (some mb)) := by rw [hmb]; exact hc4
            have HMB : Hid _ := hmb
            have ci := R27.cell k _ (trC_v t hlt)
            rw [← hav, hak] at ci
            have d0 := R17.cell 0 _ rfl
            obtain ⟨nv, hnv⟩ : ∃ v, v = X5.nv := ⟨_, rfl⟩
            obtain ⟨ca, hca⟩ : ∃ v, v = X5.ca := ⟨_, rfl⟩
            rw [← hnv, ← hca] at q3
            replace hkn : kv < nv := by rw [hnv]; exact hkn
            have hkv : (kv : Int) < (nv : Int) := by omega
            have l71 : w.heap.size < w7.heap.size := by omega
            have l72 : w.heap.size + 1 < w7.heap.size := by omega
            have l7p : p < w7.heap.size := HI7.out.row.lt
            have nm1 : ¬ w.heap.size = mb := fun e => nB1 (by rw [e, hmb]; exact hc6.2.1)
            have nm2 : ¬ w.heap.size + 1 = mb := fun e => nB2 (by rw [e, hmb]; exact hc6.2.1)
            have nmp : ¬ p = mb := fun e => by have h1 := HI5.out.c0.2; rw [e, hmb, hc6.2.2] at h1; omega
            have nmg : ¬ g = mb := fun e => by have h1 := (HI5.out.c3 g (by rw [hXa]; exact ⟨0, rfl⟩)).2; rw [e, hmb, hc6.2.2] at h1; omega
            have HLI : Hid (∀ x, (∃ kl, keyOf Try.prog 3 (.int .i64 x) = some kl) → gfK X.gf t (fn : Int) k a.no x ≠ none → x ∈ S.C.map Ce.no ++ [(fn : Int)]) := by
              unfold Hid
              intro x _ hx
              rcases gfK_iff.1 hx with h1 | ⟨h1, _⟩
              · have h2 := (HS.out.gf a ha x).1 h1
                obtain ⟨c, hc, e, _⟩ := around_iff.1 h2
                exact List.mem_append_left _ (List.mem_map.2 ⟨c, hc, e⟩)
              · exact List.mem_append_right _ (by rw [h1]; simp)
            have hll : (S.C.map Ce.no ++ [(fn : Int)]).length < maxLen := by have := HK.out.lens.2.1; simp; unfold maxLen; omega
            have hik := intKey hI64
            have HIK : Hid _ := hik
            have HAK : Hid _ := hak
            clear ha hav hXa hak hmb hnv hca hLv hc6 hik t0 t1 t2 t3 t4 t5 t6 t7 t8 c0 q5 hHeld k7 m7
            go_wp2
            have HSf11 : Hid (∀ w', Keep (fun x => x = mb) w7 w' → (fun w' => w'.cell? ⟨w.heap.size, 0, none⟩ = some (ptR p) ∧ w'.cell? ⟨p, 3, none⟩ = some (.slice (some ⟨g, 0, none⟩) nv ca) ∧ w'.cell? ⟨w.heap.size + 1, k, none⟩ = some (.int .i64 (kv : Int)) ∧ w'.cell? ⟨g, kv * 5 + 4, none⟩ = some (.map (some mb)) ∧ Keep (fun x => x = mb) w7 w') w') := by
              unfold Hid
              intro w' hb
              exact ⟨(hb.cell (p := ⟨w.heap.size, 0, none⟩) l71 nm1).trans d0, (hb.cell (p := ⟨p, 3, none⟩) l7p nmp).trans q3, (hb.cell (p := ⟨w.heap.size + 1, k, none⟩) l72 nm2).trans ci, (hb.cell (p := ⟨g, kv * 5 + 4, none⟩) hg nmg).trans hc4, hb⟩
            refine wp_region_held_drew (S := fun w' => w'.cell? ⟨w.heap.size, 0, none⟩ = some (ptR p) ∧ w'.cell? ⟨p, 3, none⟩ = some (.slice (some ⟨g, 0, none⟩) nv ca) ∧ w'.cell? ⟨w.heap.size + 1, k, none⟩ = some (.int .i64 (kv : Int)) ∧ w'.cell? ⟨g, kv * 5 + 4, none⟩ = some (.map (some mb)) ∧ Keep (fun x => x = mb) w7 w') (by kernel_rfl) ?_ (fun hHeld => ?_)
            · exact HSf11.out _ ((Keep.refl _ _).drew)
            refine take_yes (i := 0) (v := ?vf110) rfl (by kernel_rfl) (by kernel_rfl) (by kernel_rfl) (fun _ _ _ h => h) (by rfl) (by assumption) ?hyf110 ?restf110
            case hyf110 => (intro w hSw; (try dsimp only at hSw); first | (go_simp; done) | (go_simp; with_reducible rfl))
            simp only [Act.put, List.setIfInBounds_toArray, List.set_cons_zero, List.set_cons_succ]
            refine take_yes (i := 1) (v := ?vf111) rfl (by kernel_rfl) (by kernel_rfl) (by kernel_rfl) (fun _ _ _ h => h) (by rfl) (by assumption) ?hyf111 ?restf111
            case hyf111 => (intro w hSw; (try dsimp only at hSw); first | (go_simp; done) | (go_simp; with_reducible rfl))
            simp only [Act.put, List.setIfInBounds_toArray, List.set_cons_zero, List.set_cons_succ]
            refine take_yes (i := 2) (v := ?vf112) rfl (by kernel_rfl) (by kernel_rfl) (by kernel_rfl) (fun _ _ _ h => h) (by rfl) (by assumption) ?hyf112 ?restf112
            case hyf112 => (intro w hSw; (try dsimp only at hSw); first | (go_simp; done) | (go_simp; with_reducible rfl))
            simp only [Act.put, List.setIfInBounds_toArray, List.set_cons_zero, List.set_cons_succ]
            refine take_yes (i := 3) (v := ?vf113) rfl (by kernel_rfl) (by kernel_rfl) (by kernel_rfl) (fun _ _ _ h => h) (by rfl) (by assumption) ?hyf113 ?restf113
            case hyf113 => (intro w hSw; (try dsimp only at hSw); first | (go_simp; done) | (go_simp; with_reducible rfl))
            simp only [Act.put, List.setIfInBounds_toArray, List.set_cons_zero, List.set_cons_succ]
            refine take_yes (i := 4) (v := ?vf114) rfl (by kernel_rfl) (by kernel_rfl) (by kernel_rfl) (fun _ _ _ h => h) (by rfl) (by assumption) ?hyf114 ?restf114
            case hyf114 => (intro w hSw; (try dsimp only at hSw); first | (go_simp; done) | (go_simp; with_reducible rfl))
            simp only [Act.put, List.setIfInBounds_toArray, List.set_cons_zero, List.set_cons_succ]
            refine take_yes (i := 5) (v := ?vf115) rfl (by kernel_rfl) (by kernel_rfl) (by kernel_rfl) (fun _ _ _ h => h) (by rfl) (by assumption) ?hyf115 ?restf115
            case hyf115 => (intro w hSw; (try dsimp only at hSw); first | (go_simp; done) | (go_simp; with_reducible rfl))
            simp only [Act.put, List.setIfInBounds_toArray, List.set_cons_zero, List.set_cons_succ]
            refine take_yes (i := 6) (v := ?vf116) rfl (by kernel_rfl) (by kernel_rfl) (by kernel_rfl) (fun _ _ _ h => h) (by rfl) (by assumption) ?hyf116 ?restf116
            case hyf116 => (intro w hSw; (try dsimp only at hSw); first | (go_simp; done) | (go_simp; with_reducible rfl))
            simp only [Act.put, List.setIfInBounds_toArray, List.set_cons_zero, List.set_cons_succ]
            refine take_yes (i := 7) (v := ?vf117) rfl (by kernel_rfl) (by kernel_rfl) (by kernel_rfl) (fun _ _ _ h => h) (by rfl) (by assumption) ?hyf117 ?restf117
            case hyf117 => (intro w hSw; (try dsimp only at hSw); first | (go_simp; done) | (go_simp; with_reducible rfl))
            simp only [Act.put, List.setIfInBounds_toArray, List.set_cons_zero, List.set_cons_succ]
            refine take_yes (i := 8) (v := ?vf118) rfl (by kernel_rfl) (by kernel_rfl) (by kernel_rfl) (fun _ _ _ h => h) (by rfl) (by assumption) ?hyf118 ?restf118
            case hyf118 => (intro w hSw; (try dsimp only at hSw); first | (go_simp; done) | (go_simp; with_reducible rfl))
            simp only [Act.put, List.setIfInBounds_toArray, List.set_cons_zero, List.set_cons_succ]
            refine take_yes (i := 9) (v := ?vf119) rfl (by kernel_rfl) (by kernel_rfl) (by kernel_rfl) (fun _ _ _ h => h) (by rfl) (by assumption) ?hyf119 ?restf119
            case hyf119 => (intro w hSw; (try dsimp only at hSw); first | (go_simp; done) | (go_simp; with_reducible rfl))
            simp only [Act.put, List.setIfInBounds_toArray, List.set_cons_zero, List.set_cons_succ]
            refine take_yes (i := 10) (v := ?vf1110) rfl (by kernel_rfl) (by kernel_rfl) (by kernel_rfl) (fun _ _ _ h => h) (by rfl) (by assumption) ?hyf1110 ?restf1110
            case hyf1110 => (intro w hSw; (try dsimp only at hSw); first | (go_simp; done) | (go_simp; with_reducible rfl))
            simp only [Act.put, List.setIfInBounds_toArray, List.set_cons_zero, List.set_cons_succ]
            refine take_yes (i := 11) (v := ?vf1111) rfl (by kernel_rfl) (by kernel_rfl) (by kernel_rfl) (fun _ _ _ h => h) (by rfl) (by assumption) ?hyf1111 ?restf1111
            case hyf1111 => (intro w hSw; (try dsimp only at hSw); first | (go_simp; done) | (go_simp; with_reducible rfl))
            simp only [Act.put, List.setIfInBounds_toArray, List.set_cons_zero, List.set_cons_succ]
            refine take_yes (i := 12) (v := ?vf1112) rfl (by kernel_rfl) (by kernel_rfl) (by kernel_rfl) (fun _ _ _ h => h) (by rfl) (by assumption) ?hyf1112 ?restf1112
            case hyf1112 => (intro w hSw; (try dsimp only at hSw); first | (go_simp; done) | (go_simp; with_reducible rfl))
            simp only [Act.put, List.setIfInBounds_toArray, List.set_cons_zero, List.set_cons_succ]
            refine take_call (i := 13) rfl (by kernel_rfl) (fun Kc hK => ?_)
            refine step_update_l rfl (.tmp 58) (.tmp 59) (.tmp 60) 66 rfl 87 intL Try.underlying66 mb (gfK X.gf t (fn : Int) k a.no) rfl (by rw [HMB.out]; exact MapL.below HM7.out (Below.refl _ _).drew) (fn : Int) (.int .i64 (fn : Int)) (.agg #[]) rfl rfl HIK.out (S.C.map Ce.no ++ [(fn : Int)]) HLI.out hll ?_; intro w8 k8 m8
            refine hK.out _ _ ?_ (fun hHeld => ?_)
            · exact HSf11.out _ (hHeld.2.2.2.2.trans k8 (fun i g => Or.inl g))
            clear hK Kc
            refine wpAnyH_done (by kernel_rfl) ?_ _
            have HI8 : Hid (MeI base p { X5 with ge := geK X.ge t (fn : Int) (k + 1), gf := gfK X.gf t (fn : Int) (k + 1) } F5 w8) := by
              unfold Hid
              rw [HMB.out] at k8 m8
              have h8 := (HI7.out.below (Below.refl _ _).drew).turnM HLV.out k8 m8
              have e8 : (fun u => if u = a.no then (fun y => if y = (fn : Int) then some (Value.agg #[]) else gfK X.gf t (fn : Int) k a.no y) else gfK X.gf t (fn : Int) k u) = gfK X.gf t (fn : Int) (k + 1) := by
                rw [← HAN.out]
                rfl
              rw [← e8]
              exact h8
            have K8 : Hid (Keep F5 V w8) := by
              unfold Hid
              rw [HMB.out] at k8
              exact (K7.out.to (Below.refl _ _).drew).trans k8 (fun i e => Or.inl (by rw [e]; exact (HI5.out.c6 a.no HLV.out).2.1))
            clear d0 q3 ci hc4 hHeld k8 m8
            go_wp2
            go_roundw
            case rel => exact ⟨k + 1, by omega, by simp, HI8.out, K8.out⟩
            case measure => simp [iv]; omega
          · obtain rfl : k = 3 := by omega
            go_wp2
            exact bodyPost_ret (v := .tuple #[.int .i64 (fn : Int), .int .i64 0]) (by simp [results, Try.results9, go_sem]) rfl (Or.inr ⟨HF0.out, by rw [HFN.out], HFIN.out _ HIr.out HKr.out⟩)
end Go.Proofs.Ytjdeehffbgpenaa

namespace Go.Proofs.Ytjdeehffbgpenaa
open Go.RowKit Go.Maps
set_option linter.unusedVariables false

set_option maxRecDepth 100000 in
theorem mDropF0 (pp : Value) (f : Int) (w : World) (hF : Calls Try.prog 11 #[pp, .int .i64 f] w fun e w'' => e = .returned (.tuple #[trV trZero, .bool false]) ∧ Below w.heap.size w w'') :
    Calls Try.prog 15 #[pp, .int .i64 f] w fun e w' => e = .returned (.bool false) ∧ Below w.heap.size w w' := by
  have HF : Hid _ := hF
  clear hF
  go_enter Try.func15, Try.ntmps15
  go_wp2_with (go_at_call 11; fail)
  refine (Calls.mono HF.out) ?_
  rintro e w1 ⟨rfl, b1⟩
  have B : Below w.heap.size w (w1.alloc (.cells #[.int .i64 trZero.v0, .int .i64 trZero.v1, .int .i64 trZero.v2, .int .i64 trZero.x0, .int .i64 trZero.y0, .int .i64 trZero.x1, .int .i64 trZero.y1, .int .i64 trZero.x2, .int .i64 trZero.y2] 42)) := b1.alloc b1.size _
  have HB : Hid _ := B
  clear B
  go_wp2
  go_ret
  exact ⟨rfl, HB.out⟩

set_option maxRecDepth 100000 in
set_option maxHeartbeats 4000000 in
theorem mDropF (base p : Nat) (X : Mx) (S : Ms) (m : Nat) (F : Nat → Prop) (w : World) (h : MeI base p X F w) (hS : MeOk X S) (hk : MsOk S m) (hm : m ≤ 1000) (i : Nat) (c : Ce) (hc : S.C[i]? = some c) :
    Calls Try.prog 15 #[ptR p, .int .i64 c.no] w fun e w' => e = .returned (.bool true) ∧ Left (MeP base p (S.dropF c.no i)) F w w' := by
  have hTf : X.af.T ≤ 1000 := by rw [hS.af]; have := hk.ft; omega
  have hcm := List.mem_of_getElem? hc
  have hfr := hk.fmem hcm
  have hbF : isF S c.no = true := isF_iff.2 ⟨c, hcm, rfl⟩
  have hft2 := hk.ft
  have hI64 : In64 c.no := ⟨by omega, by omega⟩
  have HTT : Hid (c.t = faceOf S c.no) := by unfold Hid; unfold faceOf; rw [m_faceOf_at hk hcm]
  have HRR : Hid (true = isF S c.no) := hbF.symm
  have HCL : Hid (c.no ∈ X.af.L) := by unfold Hid; rw [hS.af]; exact hfr.1
  have HSM : Hid _ := small_mem hk hcm
  have HVV : Hid (∀ j, j < 3 → isV S (c.t.v j) = true) := hk.fi c hcm
  have HC : Hid _ := hc
  have HI : Hid _ := h
  have HS : Hid _ := hS
  have HK : Hid _ := hk
  have nF : ∀ k, F k → k < w.heap.size := fun k f => (h.ft k f).2
  have hnp : p < w.heap.size := nF p h.c0.1
  have HCT : Hid (MeOk X S → MsOk S m → ∀ X' : Mx, X'.n = X.n → X'.av = X.av → X'.af = S.af.freed c.no → X'.nv = X.nv → X'.nf = X.nf → X'.Lv = X.Lv → X'.M = X.M → X'.xs = X.xs → X'.ys = X.ys → X'.ge = geD X.ge c.t 3 → X'.gf = gfD X.gf c.t c.no 3 → MeOk X' (S.dropF c.no i)) := by
    unfold Hid
    intro a1 a2 X' x1 x2 x3 x4 x5 x6 x7 x8 x9 x10 x11
    exact MeOk.dropF a1 a2 hc x1 x2 x3 x4 x5 x6 x7 x8 x9 x10 x11
  obtain ⟨fn, t⟩ := c
  replace hI64 : In64 fn := hI64
  clear h hS hk hc hcm hfr hbF hft2
  go_enter Try.func15, Try.ntmps15
  go_wp2_with (go_at_call 11; fail)
  refine (mFaceL base p X S m F w HI.out HS.out HK.out hm fn hI64 HTT.out HRR.out).mono ?_
  rintro e w1 ⟨rfl, b1⟩
  obtain ⟨V, hV⟩ : ∃ V, V = w1.alloc (.cells (trC t).toArray 42) := ⟨_, rfl⟩
  have z1 := b1.size
  have BV : Below w.heap.size w V := by rw [hV]; exact b1.alloc b1.size _
  have RT : Row V w1.heap.size (trC t) := by rw [hV]; exact Row.new w1 (trC t) _
  have lV : w1.heap.size < V.heap.size := by rw [hV]; simp
  have hV' : w1.alloc (.cells #[.int .i64 t.v0, .int .i64 t.v1, .int .i64 t.v2, .int .i64 t.x0, .int .i64 t.y0, .int .i64 t.x1, .int .i64 t.y1, .int .i64 t.x2, .int .i64 t.y2] 42) = V := hV.symm
  have HIV : Hid (MeI base p X F V) := HI.out.below BV
  have nB : ¬ F w1.heap.size := fun f => by have := nF _ f; omega
  clear hV
  go_wp2
  go_loopw [16] (fun i wr => ∃ k : Nat, k ≤ 3 ∧ i = .int .i64 (k : Int) ∧ MeI base p { X with ge := geD X.ge t k, gf := gfD X.gf t fn k } F wr ∧ Keep F V wr) (fun i _ => 3 - (iv i).toNat)
  case atStart => exact ⟨0, by omega, rfl, HIV.out, Keep.refl _ _⟩
  case round =>
    obtain ⟨k, hk, rfl, hIr, hKr⟩ := hrel
    have HIr : Hid _ := hIr
    have HKr : Hid _ := hKr
    have zr := hKr.size
    have RTr := RT.keep hKr lV nB
    clear hIr hKr hV'
    by_cases hlt : k < 3
    · have hlt' : (k : Int) < 3 := by omega
      have q5 := HIr.out.row.cell 5 _ rfl
      obtain ⟨be, hbe⟩ : ∃ b, b = X.be := ⟨_, rfl⟩
      have lr1 : w1.heap.size < wr.heap.size := by omega
      have lrp : p < wr.heap.size := HIr.out.row.lt
      have HBE : Hid _ := hbe
      replace q5 : wr.cell? ⟨p, 5, none⟩ = some (.map (some be)) := by rw [hbe]; exact q5
      have nb1 : ¬ w1.heap.size = be := fun e => nB (by rw [e, hbe]; exact HI.out.c5.1)
      have nbp : ¬ p = be := fun e => by have h1 := HI.out.c0.2; have h2 := HI.out.c5.2; rw [← hbe, ← e, h1] at h2; cases h2
      have HEW : Hid (egW t k = eg t k) := egW_eq HSM.out hlt
      obtain ⟨kl, hkl⟩ := egKey (eg_ok HK.out hm HSM.out HVV.out hlt)
      have HKL : Hid _ := hkl
      clear hkl hbe
      have t0 := RTr.cell 0 _ rfl
      have t1 := RTr.cell 1 _ rfl
      have t2 := RTr.cell 2 _ rfl
      have t3 := RTr.cell 3 _ rfl
      have t4 := RTr.cell 4 _ rfl
      have t5 := RTr.cell 5 _ rfl
      have t6 := RTr.cell 6 _ rfl
      have t7 := RTr.cell 7 _ rfl
      have t8 := RTr.cell 8 _ rfl
      go_wp2
      have HSd7 : Hid (∀ w', Keep (fun x => x = be) wr w' → (fun w' => w'.cell? ⟨p, 5, none⟩ = some (.map (some be)) ∧ w'.cell? ⟨w1.heap.size, 0, none⟩ = some (.int .i64 t.v0) ∧ w'.cell? ⟨w1.heap.size, 1, none⟩ = some (.int .i64 t.v1) ∧ w'.cell? ⟨w1.heap.size, 2, none⟩ = some (.int .i64 t.v2) ∧ w'.cell? ⟨w1.heap.size, 3, none⟩ = some (.int .i64 t.x0) ∧ w'.cell? ⟨w1.heap.size, 4, none⟩ = some (.int .i64 t.y0) ∧ w'.cell? ⟨w1.heap.size, 5, none⟩ = some (.int .i64 t.x1) ∧ w'.cell? ⟨w1.heap.size, 6, none⟩ = some (.int .i64 t.y1) ∧ w'.cell? ⟨w1.heap.size, 7, none⟩ = some (.int .i64 t.x2) ∧ w'.cell? ⟨w1.heap.size, 8, none⟩ = some (.int .i64 t.y2) ∧ Keep (fun x => x = be) wr w') w') := by
        unfold Hid
        intro w' hb
        exact ⟨(hb.cell (p := ⟨p, 5, none⟩) lrp nbp).trans q5, (hb.cell (p := ⟨w1.heap.size, 0, none⟩) lr1 nb1).trans t0, (hb.cell (p := ⟨w1.heap.size, 1, none⟩) lr1 nb1).trans t1, (hb.cell (p := ⟨w1.heap.size, 2, none⟩) lr1 nb1).trans t2, (hb.cell (p := ⟨w1.heap.size, 3, none⟩) lr1 nb1).trans t3, (hb.cell (p := ⟨w1.heap.size, 4, none⟩) lr1 nb1).trans t4, (hb.cell (p := ⟨w1.heap.size, 5, none⟩) lr1 nb1).trans t5, (hb.cell (p := ⟨w1.heap.size, 6, none⟩) lr1 nb1).trans t6, (hb.cell (p := ⟨w1.heap.size, 7, none⟩) lr1 nb1).trans t7, (hb.cell (p := ⟨w1.heap.size, 8, none⟩) lr1 nb1).trans t8, hb⟩
      refine wp_region_held_drew (S := fun w' => w'.cell? ⟨p, 5, none⟩ = some (.map (some be)) ∧ w'.cell? ⟨w1.heap.size, 0, none⟩ = some (.int .i64 t.v0) ∧ w'.cell? ⟨w1.heap.size, 1, none⟩ = some (.int .i64 t.v1) ∧ w'.cell? ⟨w1.heap.size, 2, none⟩ = some (.int .i64 t.v2) ∧ w'.cell? ⟨w1.heap.size, 3, none⟩ = some (.int .i64 t.x0) ∧ w'.cell? ⟨w1.heap.size, 4, none⟩ = some (.int .i64 t.y0) ∧ w'.cell? ⟨w1.heap.size, 5, none⟩ = some (.int .i64 t.x1) ∧ w'.cell? ⟨w1.heap.size, 6, none⟩ = some (.int .i64 t.y1) ∧ w'.cell? ⟨w1.heap.size, 7, none⟩ = some (.int .i64 t.x2) ∧ w'.cell? ⟨w1.heap.size, 8, none⟩ = some (.int .i64 t.y2) ∧ Keep (fun x => x = be) wr w') (by kernel_rfl) ?_ (fun hHeld => ?_)
      · exact HSd7.out _ ((Keep.refl _ _).drew)
      refine take_yes (i := 0) (v := ?vd70) rfl (by kernel_rfl) (by kernel_rfl) (by kernel_rfl) (fun _ _ _ h => h) (by rfl) (by assumption) ?hyd70 ?restd70
      case hyd70 => (intro w hSw; (try dsimp only at hSw); first | (go_simp; done) | (go_simp; with_reducible rfl))
      simp only [Act.put, List.setIfInBounds_toArray, List.set_cons_zero, List.set_cons_succ]
      refine take_yes (i := 1) (v := ?vd71) rfl (by kernel_rfl) (by kernel_rfl) (by kernel_rfl) (fun _ _ _ h => h) (by rfl) (by assumption) ?hyd71 ?restd71
      case hyd71 => (intro w hSw; (try dsimp only at hSw); first | (go_simp; done) | (go_simp; with_reducible rfl))
      simp only [Act.put, List.setIfInBounds_toArray, List.set_cons_zero, List.set_cons_succ]
      refine take_yes (i := 2) (v := ?vd72) rfl (by kernel_rfl) (by kernel_rfl) (by kernel_rfl) (fun _ _ _ h => h) (by rfl) (by assumption) ?hyd72 ?restd72
      case hyd72 => (intro w hSw; (try dsimp only at hSw); first | (go_simp; done) | (go_simp; with_reducible rfl))
      simp only [Act.put, List.setIfInBounds_toArray, List.set_cons_zero, List.set_cons_succ]
      refine take_yes (i := 3) (v := ?vd73) rfl (by kernel_rfl) (by kernel_rfl) (by kernel_rfl) (fun _ _ _ h => h) (by rfl) (by assumption) ?hyd73 ?restd73
      case hyd73 => (intro w hSw; (try dsimp only at hSw); first | (go_simp; done) | (go_simp; with_reducible rfl))
      simp only [Act.put, List.setIfInBounds_toArray, List.set_cons_zero, List.set_cons_succ]
      refine take_yes (i := 4) (v := ?vd74) rfl (by kernel_rfl) (by kernel_rfl) (by kernel_rfl) (fun _ _ _ h => h) (by rfl) (by assumption) ?hyd74 ?restd74
      case hyd74 => (intro w hSw; (try dsimp only at hSw); first | (go_simp; done) | (go_simp; with_reducible rfl))
      simp only [Act.put, List.setIfInBounds_toArray, List.set_cons_zero, List.set_cons_succ]
      refine take_yes (i := 5) (v := ?vd75) rfl (by kernel_rfl) (by kernel_rfl) (by kernel_rfl) (fun _ _ _ h => h) (by rfl) (by assumption) ?hyd75 ?restd75
      case hyd75 => (intro w hSw; (try dsimp only at hSw); first | (go_simp; done) | (go_simp; with_reducible rfl))
      simp only [Act.put, List.setIfInBounds_toArray, List.set_cons_zero, List.set_cons_succ]
      refine take_call (i := 6) rfl (by kernel_rfl) (fun Kc hK => ?_)
      go_simp
      (go_at_call 33; refine (mEdge t k _ hlt).mono ?_; rintro e w6 ⟨rfl, b6⟩; rw [HEW.out])
      refine hK.out _ _ ?_ (fun hHeld => ?_)
      · exact HSd7.out _ (hHeld.2.2.2.2.2.2.2.2.2.2.to b6)
      clear hK Kc
      refine take_call (i := 7) rfl (by kernel_rfl) (fun Kc hK => ?_)
      refine step_delete_l rfl (.tmp 22) (.tmp 25) 60 rfl 86 egL Try.underlying60 be (geD X.ge t k) rfl (by rw [HBE.out]; exact ((HIr.out.below (Below.refl _ _).drew).below b6).edg) (eg t k) kl rfl HKL.out ?_; intro w7 k7 m7
      refine hK.out _ _ ?_ (fun hHeld => ?_)
      · exact HSd7.out _ (hHeld.2.2.2.2.2.2.2.2.2.2.trans k7 (fun i g => Or.inl g))
      clear hK Kc
      refine wpAnyH_done (by kernel_rfl) ?_ _
      have HI7 : Hid (MeI base p { X with ge := geD X.ge t (k + 1), gf := gfD X.gf t fn k } F w7) := by
        unfold Hid
        rw [HBE.out] at k7 m7
        exact ((HIr.out.below (Below.refl _ _).drew).below b6).turnE k7 m7
      have K7 : Hid (Keep F V w7) := by
        unfold Hid
        rw [HBE.out] at k7
        exact ((HKr.out.to (Below.refl _ _).drew).to b6).trans k7 (fun i e => Or.inl (by rw [e]; exact HI.out.c5.1))
      have RT7 := RT.keep K7.out lV nB
      have z7 := K7.out.size
      obtain ⟨a, ha, hav⟩ := isV_iff.1 (HVV.out k hlt)
      obtain ⟨g, kv, hXa, hg, hak, hkn, hc4⟩ := HI7.out.vcell' HS.out HK.out rfl rfl rfl ha
      have q3 := HI7.out.row.cell 3 _ rfl
      replace q3 : w7.cell? ⟨p, 3, none⟩ = some (.slice X.a X.nv X.ca) := q3
      replace hXa : X.a = some ⟨g, 0, none⟩ := hXa
      rw [hXa] at q3
      have hLv : X.Lv a.no := (HS.out.Lv _).2 (isV_iff.2 ⟨a, ha, rfl⟩)
      have hc6 := HI.out.c6 a.no hLv
      have HM7 : Hid _ := HI7.out.fcs a.no hLv
      have HLV : Hid _ := hLv
      have HAN : Hid (t.v k = a.no) := hav.symm
      obtain ⟨mb, hmb⟩ : ∃ b, b = X.M a.no := ⟨_, rfl⟩
      replace hc4 : w7.cell? ⟨g, kv * 5 + 4, none⟩ = some (.map (some mb)) := by rw [hmb]; exact hc4
      have HMB : Hid _ := hmb
      have ci := RT7.cell k _ (trC_v t hlt)
      rw [← show a.no = t.v k from hav, hak] at ci
      obtain ⟨nv, hnv⟩ : ∃ v, v = X.nv := ⟨_, rfl⟩
      obtain ⟨ca, hca⟩ : ∃ v, v = X.ca := ⟨_, rfl⟩
      rw [← hnv, ← hca] at q3
      replace hkn : kv < nv := by rw [hnv]; exact hkn
      have hkv : (kv : Int) < (nv : Int) := by omega
      have l71 : w1.heap.size < w7.heap.size := by omega
      have l7p : p < w7.heap.size := HI7.out.row.lt
      have nm1 : ¬ w1.heap.size = mb := fun e => nB (by rw [e, hmb]; exact hc6.2.1)
      have nmp : ¬ p = mb := fun e => by have h1 := HI.out.c0.2; rw [e, hmb, hc6.2.2] at h1; omega
      have nmg : ¬ g = mb := fun e => by have h1 := (HI.out.c3 g (by rw [hXa]; exact ⟨0, rfl⟩)).2; rw [e, hmb, hc6.2.2] at h1; omega
      have hik := intKey hI64
      have HIK : Hid _ := hik
      clear ha hav hXa hak hmb hnv hca hLv hc6 hik t0 t1 t2 t3 t4 t5 t6 t7 t8 q5 hHeld k7 m7
      go_wp2
      have HSd8 : Hid (∀ w', Keep (fun x => x = mb) w7 w' → (fun w' => w'.cell? ⟨p, 3, none⟩ = some (.slice (some ⟨g, 0, none⟩) nv ca) ∧ w'.cell? ⟨w1.heap.size, k, none⟩ = some (.int .i64 (kv : Int)) ∧ w'.cell? ⟨g, kv * 5 + 4, none⟩ = some (.map (some mb)) ∧ Keep (fun x => x = mb) w7 w') w') := by
        unfold Hid
        intro w' hb
        exact ⟨(hb.cell (p := ⟨p, 3, none⟩) l7p nmp).trans q3, (hb.cell (p := ⟨w1.heap.size, k, none⟩) l71 nm1).trans ci, (hb.cell (p := ⟨g, kv * 5 + 4, none⟩) hg nmg).trans hc4, hb⟩
      refine wp_region_held_drew (S := fun w' => w'.cell? ⟨p, 3, none⟩ = some (.slice (some ⟨g, 0, none⟩) nv ca) ∧ w'.cell? ⟨w1.heap.size, k, none⟩ = some (.int .i64 (kv : Int)) ∧ w'.cell? ⟨g, kv * 5 + 4, none⟩ = some (.map (some mb)) ∧ Keep (fun x => x = mb) w7 w') (by kernel_rfl) ?_ (fun hHeld => ?_)
      · exact HSd8.out _ ((Keep.refl _ _).drew)
      refine take_yes (i := 0) (v := ?vd80) rfl (by kernel_rfl) (by kernel_rfl) (by kernel_rfl) (fun _ _ _ h => h) (by rfl) (by assumption) ?hyd80 ?restd80
      case hyd80 => (intro w hSw; (try dsimp only at hSw); first | (go_simp; done) | (go_simp; with_reducible rfl))
      simp only [Act.put, List.setIfInBounds_toArray, List.set_cons_zero, List.set_cons_succ]
      refine take_yes (i := 1) (v := ?vd81) rfl (by kernel_rfl) (by kernel_rfl) (by kernel_rfl) (fun _ _ _ h => h) (by rfl) (by assumption) ?hyd81 ?restd81
      case hyd81 => (intro w hSw; (try dsimp only at hSw); first | (go_simp; done) | (go_simp; with_reducible rfl))
      simp only [Act.put, List.setIfInBounds_toArray, List.set_cons_zero, List.set_cons_succ]
      refine take_yes (i := 2) (v := ?vd82) rfl (by kernel_rfl) (by kernel_rfl) (by kernel_rfl) (fun _ _ _ h => h) (by rfl) (by assumption) ?hyd82 ?restd82
      case hyd82 => (intro w hSw; (try dsimp only at hSw); first | (go_simp; done) | (go_simp; with_reducible rfl))
      simp only [Act.put, List.setIfInBounds_toArray, List.set_cons_zero, List.set_cons_succ]
      refine take_yes (i := 3) (v := ?vd83) rfl (by kernel_rfl) (by kernel_rfl) (by kernel_rfl) (fun _ _ _ h => h) (by rfl) (by assumption) ?hyd83 ?restd83
      case hyd83 => (intro w hSw; (try dsimp only at hSw); first | (go_simp; done) | (go_simp; with_reducible rfl))
      simp only [Act.put, List.setIfInBounds_toArray, List.set_cons_zero, List.set_cons_succ]
      refine take_yes (i := 4) (v := ?vd84) rfl (by kernel_rfl) (by kernel_rfl) (by kernel_rfl) (fun _ _ _ h => h) (by rfl) (by assumption) ?hyd84 ?restd84
      case hyd84 => (intro w hSw; (try dsimp only at hSw); first | (go_simp; done) | (go_simp; with_reducible rfl))
      simp only [Act.put, List.setIfInBounds_toArray, List.set_cons_zero, List.set_cons_succ]
      refine take_yes (i := 5) (v := ?vd85) rfl (by kernel_rfl) (by kernel_rfl) (by kernel_rfl) (fun _ _ _ h => h) (by rfl) (by assumption) ?hyd85 ?restd85
      case hyd85 => (intro w hSw; (try dsimp only at hSw); first | (go_simp; done) | (go_simp; with_reducible rfl))
      simp only [Act.put, List.setIfInBounds_toArray, List.set_cons_zero, List.set_cons_succ]
      refine take_yes (i := 6) (v := ?vd86) rfl (by kernel_rfl) (by kernel_rfl) (by kernel_rfl) (fun _ _ _ h => h) (by rfl) (by assumption) ?hyd86 ?restd86
      case hyd86 => (intro w hSw; (try dsimp only at hSw); first | (go_simp; done) | (go_simp; with_reducible rfl))
      simp only [Act.put, List.setIfInBounds_toArray, List.set_cons_zero, List.set_cons_succ]
      refine take_yes (i := 7) (v := ?vd87) rfl (by kernel_rfl) (by kernel_rfl) (by kernel_rfl) (fun _ _ _ h => h) (by rfl) (by assumption) ?hyd87 ?restd87
      case hyd87 => (intro w hSw; (try dsimp only at hSw); first | (go_simp; done) | (go_simp; with_reducible rfl))
      simp only [Act.put, List.setIfInBounds_toArray, List.set_cons_zero, List.set_cons_succ]
      refine take_yes (i := 8) (v := ?vd88) rfl (by kernel_rfl) (by kernel_rfl) (by kernel_rfl) (fun _ _ _ h => h) (by rfl) (by assumption) ?hyd88 ?restd88
      case hyd88 => (intro w hSw; (try dsimp only at hSw); first | (go_simp; done) | (go_simp; with_reducible rfl))
      simp only [Act.put, List.setIfInBounds_toArray, List.set_cons_zero, List.set_cons_succ]
      refine take_yes (i := 9) (v := ?vd89) rfl (by kernel_rfl) (by kernel_rfl) (by kernel_rfl) (fun _ _ _ h => h) (by rfl) (by assumption) ?hyd89 ?restd89
      case hyd89 => (intro w hSw; (try dsimp only at hSw); first | (go_simp; done) | (go_simp; with_reducible rfl))
      simp only [Act.put, List.setIfInBounds_toArray, List.set_cons_zero, List.set_cons_succ]
      refine take_yes (i := 10) (v := ?vd810) rfl (by kernel_rfl) (by kernel_rfl) (by kernel_rfl) (fun _ _ _ h => h) (by rfl) (by assumption) ?hyd810 ?restd810
      case hyd810 => (intro w hSw; (try dsimp only at hSw); first | (go_simp; done) | (go_simp; with_reducible rfl))
      simp only [Act.put, List.setIfInBounds_toArray, List.set_cons_zero, List.set_cons_succ]
      refine take_yes (i := 11) (v := ?vd811) rfl (by kernel_rfl) (by kernel_rfl) (by kernel_rfl) (fun _ _ _ h => h) (by rfl) (by assumption) ?hyd811 ?restd811
      case hyd811 => (intro w hSw; (try dsimp only at hSw); first | (go_simp; done) | (go_simp; with_reducible rfl))
      simp only [Act.put, List.setIfInBounds_toArray, List.set_cons_zero, List.set_cons_succ]
      refine take_call (i := 12) rfl (by kernel_rfl) (fun Kc hK => ?_)
      refine step_delete_l rfl (.tmp 36) (.tmp 37) 66 rfl 87 intL Try.underlying66 mb (gfD X.gf t fn k a.no) rfl (by rw [HMB.out]; exact MapL.below HM7.out (Below.refl _ _).drew) fn (.int .i64 fn) rfl HIK.out ?_; intro w8 k8 m8
      refine hK.out _ _ ?_ (fun hHeld => ?_)
      · exact HSd8.out _ (hHeld.2.2.2.trans k8 (fun i g => Or.inl g))
      clear hK Kc
      refine wpAnyH_done (by kernel_rfl) ?_ _
      have HI8 : Hid (MeI base p { X with ge := geD X.ge t (k + 1), gf := gfD X.gf t fn (k + 1) } F w8) := by
        unfold Hid
        rw [HMB.out] at k8 m8
        have h8 := (HI7.out.below (Below.refl _ _).drew).turnM HLV.out k8 m8
        have e8 : (fun u => if u = a.no then (fun y => if y = fn then none else gfD X.gf t fn k a.no y) else gfD X.gf t fn k u) = gfD X.gf t fn (k + 1) := by
          rw [← HAN.out]
          rfl
        rw [← e8]
        exact h8
      have K8 : Hid (Keep F V w8) := by
        unfold Hid
        rw [HMB.out] at k8
        exact (K7.out.to (Below.refl _ _).drew).trans k8 (fun i e => Or.inl (by rw [e]; exact (HI.out.c6 a.no HLV.out).2.1))
      clear q3 ci hc4 hHeld k8 m8
      go_wp2
      go_roundw
      case rel => exact ⟨k + 1, by omega, by simp, HI8.out, K8.out⟩
      case measure => simp [iv]; omega
    · obtain rfl : k = 3 := by omega
      have m2 := HIr.out.row.cell 2 _ rfl
      go_wp2_with (go_at_call 40; fail)
      refine (mFree HIr.out.arf hTf HCL.out).mono ?_
      rintro e w4 ⟨rfl, k4, Ff', a4, s4⟩
      go_wp2
      go_ret
      have hI4 := HIr.out.turnF k4 a4 s4
      have zv := BV.size
      have z4 := k4.size
      refine ⟨rfl, ?_, _, ⟨_, hI4, ?_⟩, ?_⟩
      · exact ((Keep.of BV).trans HKr.out (fun k f => Or.inl f)).trans k4 (fun k f => Or.inl (HI.out.c2 k f).1)
      · apply HCT.out HS.out HK.out
        · rfl
        · rfl
        · show X.af.freed fn = S.af.freed fn
          rw [HS.out.af]
        · rfl
        · rfl
        · rfl
        · rfl
        · rfl
        · rfl
        · rfl
        · rfl
      · intro q hq
        rcases hq with f | f
        · exact Or.inl f
        · right; omega
end Go.Proofs.Ytjdeehffbgpenaa
