/-
  Joined texts, part 2:
  Meshes as lists: what stays true of them, whatever is put and taken. It imports nothing of the program.
  Slices of elements of several cells in memory of one's own: what is kept, append onto them. It imports nothing of the program.
  What zelligeref10's in, Without and Ints answer.
  What zelligeref10's Live, Take and Free do.
  What zelligeref10's Free does, and what its All and Ints answer.
  The document's mesh in memory; what zelligeref11's VertAt, FaceAt, Has and Around answer.
  Blocks of three and of four cells: what they hold, and that they can be written.
  Blocks of two to four cells, made one behind the other, and what they hold behind a store into another. It imports nothing of the program.
  What package whole's Cmp answers.
  What package whole's Small answers.
  What package lift's Can, Sum, Less, Cmp answer, and what they call.
  What package lift's At and Home answer, and the laws' own look.
  Numbers as digits to the base 65536: which digits a sum, a difference, a product has. It imports nothing of the program.
  How many digits a number needs, to the base 65536, and its digits without noughts at the end. It imports nothing of the program.
  The arithmetic of a difference, and of a division by a small number, digit by digit. It imports nothing of the program.
  The arithmetic of a product, digit by digit. It imports nothing of the program.
  Digits to the base 65536, cut, joined, held against each other. It imports nothing of the program.
  What zelligeref03's Trim and Of answer.
  What zelligeref03's Nat and Same answer.
  What zelligeref03's Same answers of a number and its digits.
  What zelligeref03's Cmp, Add and Sub answer.
  What zelligeref03's Mul answers.
  What zelligeref03 answers, with letters for the lengths.
  What zelligeref03 answers, with letters for the lengths, apart from all that was there before.
  What zelligeref04's Of, Same, make1, Neg, Add, Sub, Mul and Cmp answer.
  What zelligeref03's DivMod answers: bit by bit.
  What zelligeref04's Long and Floor answer.
  What zelligeref04's Small answers.
  What zelligeref06's Torus, In, Can and Cmp answer.
  What zelligeref06's At answers.
  What zelligeref11's Place answers.
  The document's mesh: its arenas and its lists, one at a time.
  What zelligeref11's AddVert does.
-/
import Derived.Test.YtjdeehffbgpenaaP1
import Derived.WalkKit
import Derived.Deep.AppendLies
namespace Go.Proofs.Ytjdeehffbgpenaa
open Go.RowKit
set_option linter.unusedVariables false

/-- Where a vertex lies does not hang on the order. -/
theorem pos_of {V : List Vt} (hs : V.Pairwise (fun a b => a.no < b.no)) {a : Vt} (ha : a ∈ V) : pos V a.no = (a.x, a.y) := by
  unfold pos
  induction V with
  | nil => cases ha
  | cons b V ih =>
    rw [List.pairwise_cons] at hs
    rcases List.mem_cons.1 ha with rfl | h
    · simp
    · have hne : ¬ b.no = a.no := by have := hs.1 a h; omega
      rw [List.find?_cons_of_neg (by simpa using hne)]
      exact ih hs.2 h
theorem isV_iff {S : Ms} {v : Int} : isV S v = true ↔ ∃ a ∈ S.V, a.no = v := by
  unfold isV
  rw [decide_eq_true_iff]
  rcases fAt_cases Vt.no v S.V with ⟨h1, h2⟩ | ⟨i, a, h1, h2, h3⟩
  · rw [h1]
    exact ⟨fun h => absurd h (by decide), fun ⟨a, ha, e⟩ => absurd e (h2 a ha)⟩
  · rw [h1]
    exact ⟨fun _ => ⟨a, List.mem_of_getElem? h2, h3⟩, fun _ => by omega⟩
theorem isF_iff {S : Ms} {v : Int} : isF S v = true ↔ ∃ a ∈ S.C, a.no = v := by
  unfold isF
  rw [decide_eq_true_iff]
  rcases fAt_cases Ce.no v S.C with ⟨h1, h2⟩ | ⟨i, a, h1, h2, h3⟩
  · rw [h1]
    exact ⟨fun h => absurd h (by decide), fun ⟨a, ha, e⟩ => absurd e (h2 a ha)⟩
  · rw [h1]
    exact ⟨fun _ => ⟨a, List.mem_of_getElem? h2, h3⟩, fun _ => by omega⟩
theorem insBy_perm {α : Type} (f : α → Int) (x : α) (L : List α) : (insBy f x L).Perm (x :: L) := by
  induction L with
  | nil => exact List.Perm.refl _
  | cons a L ih =>
    unfold insBy
    split
    · exact List.Perm.refl _
    · exact (ih.cons a).trans (List.Perm.swap x a L)
theorem insBy_sorted {α : Type} {f : α → Int} {x : α} {L : List α} (hs : L.Pairwise (fun a b => f a < f b)) (hx : ∀ a ∈ L, f a ≠ f x) : (insBy f x L).Pairwise (fun a b => f a < f b) := by
  induction L with
  | nil => simp [insBy]
  | cons a L ih =>
    rw [List.pairwise_cons] at hs
    unfold insBy
    split
    · rename_i h
      refine List.pairwise_cons.2 ⟨fun b hb => ?_, List.pairwise_cons.2 hs⟩
      rcases List.mem_cons.1 hb with rfl | hb
      · exact h
      · have := hs.1 b hb; omega
    · rename_i h
      refine List.pairwise_cons.2 ⟨fun b hb => ?_, ih hs.2 (fun b hb => hx b (List.mem_cons_of_mem _ hb))⟩
      rcases insBy_mem.1 hb with rfl | hb
      · have := hx a List.mem_cons_self; omega
      · exact hs.1 b hb
theorem cut_sub {α : Type} (L : List α) (i : Nat) : (cut L i).Sublist L := by
  have h : (L.take i ++ L.drop (i + 1)).Sublist (L.take i ++ L.drop i) := List.Sublist.append (List.Sublist.refl _) (by rw [← List.drop_drop]; exact List.drop_sublist _ _)
  rw [List.take_append_drop] at h
  exact h
theorem cut_perm {α : Type} {L : List α} {i : Nat} {a : α} (h : L[i]? = some a) : (a :: cut L i).Perm L := by
  obtain ⟨hi, he⟩ := List.getElem?_eq_some_iff.1 h
  have e : L = L.take i ++ a :: L.drop (i + 1) := by
    rw [← he, ← List.drop_eq_getElem_cons hi, List.take_append_drop]
  unfold cut
  conv => rhs; rw [e]
  exact List.perm_middle.symm
theorem same_symm (a b : Tr) (i k : Nat) : same a i b k = same b k a i := by
  unfold same
  exact decide_eq_decide.2 ⟨fun ⟨h1, h2, h3, h4⟩ => ⟨h1.symm, h2.symm, h3.symm, h4.symm⟩, fun ⟨h1, h2, h3, h4⟩ => ⟨h1.symm, h2.symm, h3.symm, h4.symm⟩⟩
theorem there_not {t : Tr} {C : List Ce} (h : there t C = false) {c : Ce} (hc : c ∈ C) {i k : Nat} (hi : i < 3) (hk : k < 3) : same t i c.t k = false := by
  unfold there at h
  rw [List.any_eq_false] at h
  have h1 := h c hc
  rw [Bool.not_eq_true, List.any_eq_false] at h1
  have h2 := h1 (3 * i + k) (List.mem_range.2 (by omega))
  unfold twin at h2
  rw [show (3 * i + k) / 3 = i by omega, show (3 * i + k) % 3 = k by omega] at h2
  simpa using h2
/-- What stays true of a mesh, m acts old. -/
structure MsOk (S : Ms) (m : Nat) : Prop where
  n1 : 1 ≤ S.n ∧ S.n ≤ 17179869184
  va : ArOk S.av.L S.av.B S.av.T
  fa : ArOk S.af.L S.af.B S.af.T
  vt : S.av.T ≤ m
  ft : S.af.T ≤ m
  vp : (S.V.map Vt.no).Perm S.av.L
  fp : (S.C.map Ce.no).Perm S.af.L
  vs : S.V.Pairwise (fun a b => a.no < b.no)
  fs : S.C.Pairwise (fun a b => a.no < b.no)
  vq : ∀ a ∈ S.V, (0 ≤ a.x ∧ a.x < S.n) ∧ (0 ≤ a.y ∧ a.y < S.n) ∧ (-9223372036854775808 ≤ a.id ∧ a.id ≤ 9223372036854775807)
  f64 : ∀ c ∈ S.C, ∀ i, (-9223372036854775808 ≤ c.t.v i ∧ c.t.v i ≤ 9223372036854775807) ∧ (-9223372036854775808 ≤ c.t.x i ∧ c.t.x i ≤ 9223372036854775807) ∧ (-9223372036854775808 ≤ c.t.y i ∧ c.t.y i ≤ 9223372036854775807)
  fi : ∀ c ∈ S.C, ∀ i, i < 3 → isV S (c.t.v i) = true
  fo : ∀ c ∈ S.C, ∀ i, i < 3 → plOk S c.t i = true
  fl : ∀ c ∈ S.C, (areaT S c.t).sign = 1
  fe : ∀ c ∈ S.C, ∀ c' ∈ S.C, ∀ i k, i < 3 → k < 3 → same c.t i c'.t k = true → c = c' ∧ i = k
section
variable {S : Ms} {m : Nat}
theorem MsOk.mono (h : MsOk S m) {m' : Nat} (hm : m ≤ m') : MsOk S m' := { h with vt := Nat.le_trans h.vt hm, ft := Nat.le_trans h.ft hm }
theorem MsOk.lens (h : MsOk S m) : S.V.length ≤ m ∧ S.C.length ≤ m ∧ S.av.L.length ≤ m ∧ S.av.B.length ≤ m ∧ S.af.L.length ≤ m ∧ S.af.B.length ≤ m := by
  have h1 := h.vp.length_eq
  have h2 := h.fp.length_eq
  have h3 := h.va.num
  have h4 := h.fa.num
  have h5 := h.vt
  have h6 := h.ft
  simp only [List.length_map] at h1 h2
  omega
theorem MsOk.vmem (h : MsOk S m) {a : Vt} (ha : a ∈ S.V) : a.no ∈ S.av.L ∧ 0 ≤ a.no ∧ a.no < S.av.T := by
  have h1 : a.no ∈ S.av.L := h.vp.mem_iff.1 (List.mem_map_of_mem ha)
  have h2 := h.va.rg _ (List.mem_append_left _ h1)
  exact ⟨h1, h2⟩
theorem MsOk.fmem (h : MsOk S m) {a : Ce} (ha : a ∈ S.C) : a.no ∈ S.af.L ∧ 0 ≤ a.no ∧ a.no < S.af.T := by
  have h1 : a.no ∈ S.af.L := h.fp.mem_iff.1 (List.mem_map_of_mem ha)
  have h2 := h.fa.rg _ (List.mem_append_left _ h1)
  exact ⟨h1, h2⟩
theorem MsOk.live (h : MsOk S m) {v : Int} : v ∈ S.av.L ↔ isV S v = true := by
  rw [isV_iff, ← h.vp.mem_iff, List.mem_map]
theorem MsOk.liveF (h : MsOk S m) {v : Int} : v ∈ S.af.L ↔ isF S v = true := by
  rw [isF_iff, ← h.fp.mem_iff, List.mem_map]
theorem plOk_eq {S' : Ms} {t : Tr} {i : Nat} (hn : S'.n = S.n) (hp : pos S'.V (t.v i) = pos S.V (t.v i)) : plOk S' t i = plOk S t i ∧ plX S' t i = plX S t i ∧ plY S' t i = plY S t i := by
  have h1 : plOk S' t i = plOk S t i := by unfold plOk; rw [hn, hp]
  refine ⟨h1, ?_, ?_⟩
  · unfold plX; rw [h1, hn, hp]
  · unfold plY; rw [h1, hn, hp]
theorem areaT_eq {S' : Ms} {t : Tr} (hn : S'.n = S.n) (hp : ∀ i, i < 3 → pos S'.V (t.v i) = pos S.V (t.v i)) : areaT S' t = areaT S t := by
  unfold areaT
  rw [(plOk_eq hn (hp 0 (by omega))).2.1, (plOk_eq hn (hp 1 (by omega))).2.1, (plOk_eq hn (hp 2 (by omega))).2.1, (plOk_eq hn (hp 0 (by omega))).2.2, (plOk_eq hn (hp 1 (by omega))).2.2, (plOk_eq hn (hp 2 (by omega))).2.2]
theorem MsOk.new (n : Int) (hn : 1 ≤ n ∧ n ≤ 17179869184) : MsOk ⟨n, ⟨[], [], 0⟩, ⟨[], [], 0⟩, [], []⟩ 0 :=
  ⟨hn, ArOk.new, ArOk.new, Nat.le_refl _, Nat.le_refl _, List.Perm.refl _, List.Perm.refl _, List.Pairwise.nil, List.Pairwise.nil, (fun a h => by cases h), (fun a h => by cases h), (fun a h => by cases h), (fun a h => by cases h), (fun a h => by cases h), (fun a h => by cases h)⟩
theorem MsOk.addV (h : MsOk S m) {x y id : Int} (hq : inSq S x y = true) (hid : -9223372036854775808 ≤ id ∧ id ≤ 9223372036854775807) : MsOk (S.addV x y id) (m + 1) := by
  have htk := h.va.take
  have hnew : ∀ a ∈ S.V, a.no ≠ S.av.num := fun a ha e => htk.2 (by have := (h.vmem ha).1; rw [e] at this; exact this)
  obtain ⟨q1, q2, q3, q4⟩ := of_decide_eq_true hq
  have hs' : (S.addV x y id).V.Pairwise (fun a b => a.no < b.no) := insBy_sorted h.vs hnew
  have hpos : ∀ v, isV S v = true → pos (S.addV x y id).V v = pos S.V v := by
    intro v hv
    obtain ⟨a, ha, rfl⟩ := isV_iff.1 hv
    rw [pos_of h.vs ha, pos_of hs' (insBy_mem.2 (Or.inr ha))]
  refine ⟨h.n1, htk.1, h.fa, ?_, Nat.le_trans h.ft (Nat.le_succ _), ?_, h.fp, hs', h.fs, ?_, h.f64, ?_, ?_, ?_, h.fe⟩
  · show tkT S.av.B S.av.T ≤ m + 1
    have := h.vt
    unfold tkT
    split <;> omega
  · refine (List.Perm.map _ (insBy_perm _ _ _)).trans ?_
    exact (h.vp.cons _).trans (List.perm_append_comm (l₁ := [S.av.num]) (l₂ := S.av.L))
  · intro a ha
    rcases insBy_mem.1 ha with rfl | ha
    · exact ⟨⟨q1, q2⟩, ⟨q3, q4⟩, hid⟩
    · exact h.vq a ha
  · intro c hc i hi
    obtain ⟨a, ha, e⟩ := isV_iff.1 (h.fi c hc i hi)
    exact isV_iff.2 ⟨a, insBy_mem.2 (Or.inr ha), e⟩
  · intro c hc i hi
    rw [(plOk_eq (S := S) (S' := S.addV x y id) rfl (hpos _ (h.fi c hc i hi))).1]
    exact h.fo c hc i hi
  · intro c hc
    rw [areaT_eq (S := S) (S' := S.addV x y id) rfl (fun i hi => hpos _ (h.fi c hc i hi))]
    exact h.fl c hc
theorem MsOk.dropV (h : MsOk S m) {v : Int} {i : Nat} {a : Vt} (ha : S.V[i]? = some a) (hv : a.no = v) (hne : around S.C v = []) : MsOk (S.dropV v i) (m + 1) := by
  subst hv
  have hmem := List.mem_of_getElem? ha
  have hp := cut_perm ha
  have hsub := cut_sub S.V i
  have hs' : (S.dropV a.no i).V.Pairwise (fun a b => a.no < b.no) := List.Pairwise.sublist hsub h.vs
  have hno : ∀ c ∈ S.C, ∀ j, j < 3 → c.t.v j ≠ a.no := by
    intro c hc j hj e
    have h1 : has c.t a.no = true := by
      unfold has
      rcases (by omega : j = 0 ∨ j = 1 ∨ j = 2) with rfl | rfl | rfl
      · exact decide_eq_true (Or.inl e)
      · exact decide_eq_true (Or.inr (Or.inl e))
      · exact decide_eq_true (Or.inr (Or.inr e))
    unfold around at hne
    rw [List.map_eq_nil_iff, List.filter_eq_nil_iff] at hne
    exact hne c hc h1
  have hin : ∀ b ∈ S.V, b.no ≠ a.no → b ∈ (S.dropV a.no i).V := by
    intro b hb e
    rcases List.mem_cons.1 (hp.mem_iff.2 hb) with rfl | h
    · exact absurd rfl e
    · exact h
  have hpos : ∀ c ∈ S.C, ∀ j, j < 3 → pos (S.dropV a.no i).V (c.t.v j) = pos S.V (c.t.v j) := by
    intro c hc j hj
    obtain ⟨b, hb, e⟩ := isV_iff.1 (h.fi c hc j hj)
    have e2 : b.no ≠ a.no := by rw [e]; exact hno c hc j hj
    rw [← e, pos_of h.vs hb, pos_of hs' (hin b hb e2)]
  refine ⟨h.n1, h.va.free (h.vmem hmem).1, h.fa, Nat.le_trans h.vt (Nat.le_succ _), Nat.le_trans h.ft (Nat.le_succ _), ?_, h.fp, hs', h.fs, (fun b hb => h.vq b (hsub.subset hb)), h.f64, ?_, ?_, ?_, h.fe⟩
  · have h1 : (a.no :: (cut S.V i).map Vt.no).Perm S.av.L := (List.Perm.map Vt.no hp).trans h.vp
    have h2 := filter_ne_perm (List.nodup_append.1 h.va.nd).1 (h.vmem hmem).1
    have h3 : (a.no :: S.av.L.filter (fun y => decide (y ≠ a.no))).Perm S.av.L := (List.perm_append_comm (l₁ := [a.no])).trans h2
    exact (List.perm_cons _).1 (h1.trans h3.symm)
  · intro c hc j hj
    obtain ⟨b, hb, e⟩ := isV_iff.1 (h.fi c hc j hj)
    exact isV_iff.2 ⟨b, hin b hb (by rw [e]; exact hno c hc j hj), e⟩
  · intro c hc j hj
    rw [(plOk_eq (S := S) (S' := S.dropV a.no i) rfl (hpos c hc j hj)).1]
    exact h.fo c hc j hj
  · intro c hc
    rw [areaT_eq (S := S) (S' := S.dropV a.no i) rfl (hpos c hc)]
    exact h.fl c hc
theorem MsOk.dropF (h : MsOk S m) {f : Int} {i : Nat} {c : Ce} (hc : S.C[i]? = some c) (hf : c.no = f) : MsOk (S.dropF f i) (m + 1) := by
  subst hf
  have hmem := List.mem_of_getElem? hc
  have hp := cut_perm hc
  have hsub := cut_sub S.C i
  refine ⟨h.n1, h.va, h.fa.free (h.fmem hmem).1, Nat.le_trans h.vt (Nat.le_succ _), Nat.le_trans h.ft (Nat.le_succ _), h.vp, ?_, h.vs, List.Pairwise.sublist hsub h.fs, h.vq, (fun c hc => h.f64 c (hsub.subset hc)), (fun c hc => h.fi c (hsub.subset hc)), (fun c hc => h.fo c (hsub.subset hc)), (fun c hc => h.fl c (hsub.subset hc)), (fun c hc c' hc' => h.fe c (hsub.subset hc) c' (hsub.subset hc'))⟩
  have h1 : (c.no :: (cut S.C i).map Ce.no).Perm S.af.L := (List.Perm.map Ce.no hp).trans h.fp
  have h2 := filter_ne_perm (List.nodup_append.1 h.fa.nd).1 (h.fmem hmem).1
  have h3 : (c.no :: S.af.L.filter (fun y => decide (y ≠ c.no))).Perm S.af.L := (List.perm_append_comm (l₁ := [c.no])).trans h2
  exact (List.perm_cons _).1 (h1.trans h3.symm)
theorem area_line {px py x0 y0 x1 y1 x2 y2 n : Int} (h1 : x1 - x0 = x2 - x1) (h2 : y1 - y0 = y2 - y1) : areaP (px + x0 * n) (py + y0 * n) (px + x1 * n) (py + y1 * n) (px + x2 * n) (py + y2 * n) = 0 := by
  obtain rfl : x2 = 2 * x1 - x0 := by omega
  obtain rfl : y2 = 2 * y1 - y0 := by omega
  unfold areaP
  grind
theorem self_edge {t : Tr} (o : ∀ i, i < 3 → plOk S t i = true) (hg : (areaT S t).sign = 1) {i k : Nat} (hi : i < 3) (hk : k < 3) (h : same t i t k = true) : i = k := by
  have key : ∀ i, i < 3 → same t i t (nx i) = true → False := by
    intro i hi h
    obtain ⟨e1, e2, e3, e4⟩ := of_decide_eq_true h
    have X : ∀ j, j < 3 → plX S t j = (pos S.V (t.v j)).1 + t.x j * S.n ∧ plY S t j = (pos S.V (t.v j)).2 + t.y j * S.n := by
      intro j hj
      unfold plX plY
      rw [o j hj]
      exact ⟨rfl, rfl⟩
    have z : areaT S t = 0 := by
      unfold areaT
      rw [(X 0 (by omega)).1, (X 0 (by omega)).2, (X 1 (by omega)).1, (X 1 (by omega)).2, (X 2 (by omega)).1, (X 2 (by omega)).2]
      rcases (by omega : i = 0 ∨ i = 1 ∨ i = 2) with rfl | rfl | rfl
      · have v1 : t.v 1 = t.v 0 := e1.symm
        have v2 : t.v 2 = t.v 0 := by rw [← v1]; exact e2.symm
        rw [v1, v2]
        exact area_line e3 e4
      · have v2 : t.v 2 = t.v 1 := e1.symm
        have v0 : t.v 0 = t.v 1 := by rw [← v2]; exact e2.symm
        rw [v2, v0]
        rw [← area_turn]
        exact area_line e3 e4
      · have v0 : t.v 0 = t.v 2 := e1.symm
        have v1 : t.v 1 = t.v 2 := by rw [← v0]; exact e2.symm
        rw [v1, v0]
        rw [← area_turn, ← area_turn]
        exact area_line e3 e4
    rw [z] at hg
    exact absurd hg (by decide)
  by_cases e : i = k
  · exact e
  · rcases (by unfold nx; omega : k = nx i ∨ i = nx k) with rfl | rfl
    · exact (key i hi h).elim
    · rw [same_symm] at h
      exact (key k hk h).elim
theorem fErr_ok {t : Tr} (h : fErr S t = 0) : (∀ i, i < 3 → isV S (t.v i) = true) ∧ (∀ i, i < 3 → plOk S t i = true) ∧ (areaT S t).sign = 1 ∧ there t S.C = false := by
  unfold fErr at h
  split at h
  · exact absurd h (by decide)
  · rename_i h1
    split at h
    · exact absurd h (by decide)
    · rename_i h2
      simp only [not_or] at h1 h2
      refine ⟨?_, ?_, Decidable.of_not_not h2.2.2.2.1, by simpa using h2.2.2.2.2⟩
      · intro i hi
        rcases (by omega : i = 0 ∨ i = 1 ∨ i = 2) with rfl | rfl | rfl
        · show isV S t.v0 = true; simpa using h1.1
        · show isV S t.v1 = true; simpa using h1.2.1
        · show isV S t.v2 = true; simpa using h1.2.2
      · intro i hi
        rcases (by omega : i = 0 ∨ i = 1 ∨ i = 2) with rfl | rfl | rfl
        · simpa using h2.1
        · simpa using h2.2.1
        · simpa using h2.2.2.1
theorem MsOk.addF (h : MsOk S m) {t : Tr} (he : fErr S t = 0) (h64 : ∀ i, (-9223372036854775808 ≤ t.v i ∧ t.v i ≤ 9223372036854775807) ∧ (-9223372036854775808 ≤ t.x i ∧ t.x i ≤ 9223372036854775807) ∧ (-9223372036854775808 ≤ t.y i ∧ t.y i ≤ 9223372036854775807)) : MsOk (S.addF t) (m + 1) := by
  obtain ⟨h1, h2, h3, h4⟩ := fErr_ok he
  have htk := h.fa.take
  have hnew : ∀ a ∈ S.C, a.no ≠ S.af.num := fun a ha e => htk.2 (by have := (h.fmem ha).1; rw [e] at this; exact this)
  refine ⟨h.n1, h.va, htk.1, Nat.le_trans h.vt (Nat.le_succ _), ?_, h.vp, ?_, h.vs, insBy_sorted h.fs hnew, h.vq, ?_, ?_, ?_, ?_, ?_⟩
  · show tkT S.af.B S.af.T ≤ m + 1
    have := h.ft
    unfold tkT
    split <;> omega
  · refine (List.Perm.map _ (insBy_perm _ _ _)).trans ?_
    exact (h.fp.cons _).trans (List.perm_append_comm (l₁ := [S.af.num]) (l₂ := S.af.L))
  · intro c hc
    rcases insBy_mem.1 hc with rfl | hc
    · exact h64
    · exact h.f64 c hc
  · intro c hc
    rcases insBy_mem.1 hc with rfl | hc
    · exact h1
    · exact h.fi c hc
  · intro c hc
    rcases insBy_mem.1 hc with rfl | hc
    · exact h2
    · exact h.fo c hc
  · intro c hc
    rcases insBy_mem.1 hc with rfl | hc
    · exact h3
    · exact h.fl c hc
  · intro c hc c' hc' i k hi hk hs
    rcases insBy_mem.1 hc with rfl | hc <;> rcases insBy_mem.1 hc' with rfl | hc'
    · exact ⟨rfl, self_edge h2 h3 hi hk hs⟩
    · rw [there_not h4 hc' hi hk] at hs
      exact absurd hs Bool.false_ne_true
    · rw [same_symm, there_not h4 hc hk hi] at hs
      exact absurd hs Bool.false_ne_true
    · exact h.fe c hc c' hc' i k hi hk hs
end
end Go.Proofs.Ytjdeehffbgpenaa

namespace Go.Proofs.Ytjdeehffbgpenaa
open Go.RowKit
set_option linter.unusedVariables false

/-- A slice of n elements of s cells each, in memory of one's own, from base on. -/
abbrev OwnS (w : World) (base : Nat) (T : TypeId) (s : Nat) (a : Option Addr) (n cap : Nat) (xs : List Value) : Prop := w.ownsRow base T s (.slice a n cap) n xs
section
variable {w w' : World} {base n cap s : Nat} {T : TypeId} {a : Option Addr} {xs : List Value}
theorem OwnS.keep {F : Nat → Prop} (h : OwnS w base T s a n cap xs) (hk : Keep F w w') (hF : ∀ k, Slot a k → ¬ F k) : OwnS w' base T s a n cap xs := by
  obtain ⟨hl, h1 | ⟨g, cap', cur, hv, hb', hg, r⟩⟩ := h
  · exact ⟨hl, Or.inl h1⟩
  · refine ⟨hl, Or.inr ⟨g, cap', cur, hv, hb', ?_, r⟩⟩
    rw [hk.block g (Array.getElem?_eq_some_iff.1 hg).1 (hF g (by cases hv; exact ⟨0, rfl⟩))]
    exact hg
theorem OwnS.below (h : OwnS w base T s a n cap xs) (hb : Below w.heap.size w w') : OwnS w' base T s a n cap xs := h.keep (Keep.of (F := fun _ => False) hb) (fun _ _ x => x)
theorem OwnS.lt (h : OwnS w base T s a n cap xs) {k : Nat} (hk : Slot a k) : k < w.heap.size ∧ base ≤ k := by
  obtain ⟨o, rfl⟩ := hk
  obtain ⟨hl, ⟨h1, _⟩ | ⟨g, cap', cur, hv, hb', hg, r⟩⟩ := h
  · cases h1
  · cases hv
    exact ⟨(Array.getElem?_eq_some_iff.1 hg).1, hb'⟩
theorem OwnS.put {k i : Nat} (h : OwnS w base T s a n cap xs) (hk : ¬ Slot a k) (u : Value) : OwnS (w.setCell ⟨k, i, none⟩ u) base T s a n cap xs :=
  h.keep ((Keep.refl (fun x => x = k) w).set (Or.inl rfl) u) (fun j hj e => hk (e ▸ hj))
theorem OwnS.slot (h : OwnS w base T s a n cap xs) {k : Nat} (e : (Value.slice a n cap).ownBlock = some k) : Slot a k := by
  cases a with
  | none => cases e
  | some q => obtain ⟨_, ⟨h5, _⟩ | ⟨g, _, _, hv, _⟩⟩ := h; cases h5; cases hv; cases e; exact ⟨0, rfl⟩
theorem OwnS.mono {base' : Nat} (h : OwnS w base T s a n cap xs) (hb : base' ≤ base) : OwnS w base' T s a n cap xs := by
  obtain ⟨hl, h1 | ⟨g, cap', cur, hv, hb', r⟩⟩ := h
  · exact ⟨hl, Or.inl h1⟩
  · exact ⟨hl, Or.inr ⟨g, cap', cur, hv, by omega, r⟩⟩
theorem OwnS.len (h : OwnS w base T s a n cap xs) : xs.length = n * s := h.1
theorem OwnS.room (h : OwnS w base T s a n cap xs) : n ≤ cap ∧ cap ≤ maxLen := by
  obtain ⟨hl, ⟨h1, h2⟩ | ⟨g, cap', cur, hv, hb', hg, h1, h2, _⟩⟩ := h
  · cases h1; exact ⟨Nat.le_refl _, by unfold maxLen; omega⟩
  · cases hv; exact ⟨h1, h2⟩
theorem OwnS.at (h : OwnS w base T s a n cap xs) (hn : 0 < n) : ∃ b, a = some ⟨b, 0, none⟩ ∧ b < w.heap.size ∧ base ≤ b ∧ Seg w b 0 xs := by
  obtain ⟨hl, ⟨h1, h2⟩ | ⟨g, cap', cur, hv, hb', hg, h1, h2, h3, h4⟩⟩ := h
  · omega
  · cases hv
    refine ⟨g, rfl, (Array.getElem?_eq_some_iff.1 hg).1, hb', ?_⟩
    intro j u hu
    have hj : j < n * s := by
      have := (List.getElem?_eq_some_iff.1 hu).1
      omega
    rw [← h4, List.getElem?_take, if_pos hj] at hu
    refine ⟨by simp [World.cell?, hg]; simpa using hu, by simp [World.frozen?, hg]⟩
theorem ownS_none (w : World) (base : Nat) (T : TypeId) (s : Nat) : OwnS w base T s none 0 0 [] := ⟨by simp, Or.inl ⟨rfl, rfl⟩⟩
theorem OwnS.form {v : Value} (h : w.ownsRow base T s v n xs) : ∃ a cap, v = .slice a n cap ∧ OwnS w base T s a n cap xs := by
  obtain ⟨hl, ⟨h1, h2⟩ | ⟨g, cap', cur, hv, hb, hg, h1, h2, h3, h4⟩⟩ := h
  · subst h1 h2
    exact ⟨none, 0, rfl, hl, Or.inl ⟨rfl, rfl⟩⟩
  · subst hv
    exact ⟨_, _, rfl, hl, Or.inr ⟨g, cap', cur, rfl, hb, hg, h1, h2, h3, h4⟩⟩
end
/-- What lies in new memory behind an address: elements that are appended. -/
def News (w : World) (ad : Addr) (news : List Value) : Prop := (∀ j u, news[j]? = some u → w.cell? (ad.add j) = some u)
/-- append onto what one owns, of elements of several cells. -/
theorem app_atS {P : Program} (w : World) {ops : Array Oper} {rest : List Oper} {o : Oper} {a : Act} {Q : Exit → Act → World → Prop} (hgd : o.guard = none) (s x : Operand) (t : TypeId)
    (ho : o.op = .call { callee := .builtin .append, args := #[s, x], argTypes := #[t, t] })
    (base : Nat) (e : TypeId) (i : TypeInfo) (z : Value) (size bytes : Nat) (ht : P.underlying t = some (.slice e)) (hi : P.info? e = some i) (hz : i.zero = some z)
    (hsize : i.size = size) (hby : i.bytes = bytes) (hzs : z.cells.size = size) (hsz : 0 < size)
    (a0 : Option Addr) (n0 c0 : Nat) (xs : List Value) (hs : a.eval s = .slice a0 n0 c0) (hown : OwnS w base e size a0 n0 c0 xs)
    (ad : Addr) (m c : Nat) (news : List Value) (hx : a.eval x = .slice (some ad) m c) (hl : news.length = m * size) (hnews : News w ad news) (h1 : ∀ u ∈ news, u.oneCell' = true)
    (h63 : n0 + m ≤ maxLen) (hbytes : (n0 + m) * bytes ≤ 140737488355328) (hbase : base ≤ w.heap.size)
    (h : ∀ a' cap' w', OwnS w' base e size a' (n0 + m) cap' (xs ++ news) → w.grownBy w' (Value.slice a0 n0 c0).ownBlock → (∀ k, Slot a' k → Slot a0 k ∨ w.heap.size ≤ k) → wpList P ops Q rest (a.put o.dst (.slice a' (n0 + m) cap')) w') : wpList P ops Q (o :: rest) a w := by
  refine wpList_append_own_at w hgd s x t ho base e i z size bytes ht hi hz hsize hby hzs hsz _ n0 xs hs hown ad m c news hx hl hnews h1 h63 hbytes hbase ?_
  intro v' w' h1 h2 _ h4
  obtain ⟨a', cap', rfl, h3⟩ := OwnS.form h1
  refine h a' cap' w' h3 h2 ?_
  rintro k ⟨q, rfl⟩
  rcases h4 with h4 | h4
  · cases a0 with
    | none => cases h4
    | some b0 =>
      have : k = b0.block := by simpa [Value.ownBlock] using h4
      subst this
      obtain ⟨hl, ⟨h5, _⟩ | ⟨g, cap', cur, hv, r⟩⟩ := hown
      · cases h5
      · cases hv; exact Or.inl ⟨0, rfl⟩
  · have : k = w.heap.size := by simpa [Value.ownBlock] using h4
    exact Or.inr (by omega)
/-- New memory: what was just laid there. -/
theorem news_new (w : World) (xs : List Value) (T : TypeId) : News (w.alloc (.cells xs.toArray T)) ⟨w.heap.size, 0, none⟩ xs := by
  intro j u hu
  rw [Addr.add_lit, Nat.zero_add]
  exact (Row.new w xs T).cell j u hu
/-- Elements laid side by side. -/
def flat {α : Type} (f : α → List Value) (L : List α) : List Value := L.flatMap f
section
variable {α : Type} {f : α → List Value}
theorem flat_at {s : Nat} (hf : ∀ x, (f x).length = s) {L : List α} {k j : Nat} {x : α} {u : Value} (hk : L[k]? = some x) (hj : (f x)[j]? = some u) : (flat f L)[k * s + j]? = some u := by
  induction L generalizing k with
  | nil => simp at hk
  | cons a L ih =>
    rw [show flat f (a :: L) = f a ++ flat f L from by simp [flat]]
    cases k with
    | zero =>
      simp only [List.getElem?_cons_zero, Option.some.injEq] at hk
      subst hk
      rw [List.getElem?_append_left (by have := (List.getElem?_eq_some_iff.1 hj).1; omega)]
      simpa using hj
    | succ k =>
      rw [List.getElem?_append_right (by rw [hf, Nat.add_mul]; omega), hf, show (k + 1) * s + j - s = k * s + j by rw [Nat.add_mul]; omega]
      exact ih (by simpa using hk)
end
end Go.Proofs.Ytjdeehffbgpenaa

namespace Go.Proofs.Ytjdeehffbgpenaa
open Go.RowKit
set_option linter.unusedVariables false

/-- A new list of ints in memory of the call's own. -/
def GotL (w : World) (L : List Int) (e : Ending) (w' : World) : Prop := ∃ (a : Option Addr) (c : Nat), e = .returned (.slice a L.length c) ∧ Own w' w.heap.size 3 a L.length c (ints L) ∧ Below w.heap.size w w'
/-- What has been put so far. -/
def Put (w : World) (L M : List Int) (s i : Value) (wr : World) (k : Nat) : Prop := k ≤ L.length ∧ i = .int .i64 (k : Int) ∧ ∃ (a : Option Addr) (c : Nat), s = .slice a M.length c ∧ Own wr w.heap.size 3 a M.length c (ints M) ∧ Below w.heap.size w wr
end Go.Proofs.Ytjdeehffbgpenaa

namespace Go.Proofs.Ytjdeehffbgpenaa
open Go.RowKit
set_option linter.unusedVariables false

/-- The document's arena at p: lent L, come back B, there ever were T; its blocks are among F, all from base on. -/
structure ArR (base p : Nat) (L B : List Int) (T : Nat) (F : Nat → Prop) (w : World) : Prop where
  ex : ∃ (a : Option Addr) (ca : Nat) (b : Option Addr) (cb : Nat), Row w p [.slice a L.length ca, .slice b B.length cb, .int .i64 (T : Int)] ∧ Own w base 3 a L.length ca (ints L) ∧ Own w base 3 b B.length cb (ints B) ∧ F p ∧ (∀ k, Slot a k → F k ∧ k ≠ p) ∧ (∀ k, Slot b k → F k ∧ k ≠ p ∧ ¬ Slot a k)
  ft : ∀ k, F k → base ≤ k ∧ k < w.heap.size
/-- What a call leaves: an object with blocks of its own and new ones; all else stays. -/
def Left (Ob : (Nat → Prop) → World → Prop) (F : Nat → Prop) (w w' : World) : Prop := Keep F w w' ∧ ∃ F', Ob F' w' ∧ ∀ k, F' k → F k ∨ w.heap.size ≤ k
theorem ArR.keep {base p : Nat} {L B : List Int} {T : Nat} {F G : Nat → Prop} {w w' : World} (h : ArR base p L B T F w) (hk : Keep G w w') (hd : ∀ k, F k → ¬ G k) : ArR base p L B T F w' := by
  obtain ⟨a, ca, b, cb, hrow, ha, hb, hp, hFa, hFb⟩ := h.ex
  exact ⟨⟨a, ca, b, cb, hrow.keep hk hrow.lt (hd p hp), ha.keep hk (fun k s => hd k (hFa k s).1), hb.keep hk (fun k s => hd k (hFb k s).1), hp, hFa, hFb⟩, fun k hF => ⟨(h.ft k hF).1, Nat.lt_of_lt_of_le (h.ft k hF).2 hk.size⟩⟩
theorem ArR.new (w : World) (base : Nat) (t : TypeId) (hb : base ≤ w.heap.size) : ArR base w.heap.size [] [] 0 (fun k => k = w.heap.size) (w.alloc (.cells #[.slice none 0 0, .slice none 0 0, .int .i64 0] t)) :=
  ⟨⟨none, 0, none, 0, Row.new w [.slice none 0 0, .slice none 0 0, .int .i64 0] t, own_none _ _ _, own_none _ _ _, rfl, (fun k s => by obtain ⟨o, s⟩ := s; cases s), (fun k s => by obtain ⟨o, s⟩ := s; cases s)⟩, fun k e => ⟨by omega, by simp; omega⟩⟩
/-- One more lent behind the last store: the list, wherever append put it. -/
theorem ArR.lend {base p : Nat} {L B : List Int} {T : Nat} {F : Nat → Prop} {w w1 w2 w3 : World} {a b a' : Option Addr} {ca cb c' : Nat} {n : Int} (hft : ∀ k, F k → base ≤ k ∧ k < w.heap.size)
    (hk : Keep F w w1) (hrow : Row w1 p [.slice a L.length ca, .slice b B.length cb, .int .i64 (T : Int)]) (ha : Own w1 base 3 a L.length ca (ints L)) (hb : Own w1 base 3 b B.length cb (ints B)) (hp : F p) (hFa : ∀ k, Slot a k → F k ∧ k ≠ p) (hFb : ∀ k, Slot b k → (F k ∨ w.heap.size ≤ k) ∧ k ≠ p ∧ ¬ Slot a k)
    (h2 : Below w1.heap.size w1 w2) (h3 : Own w3 base 3 a' (L.length + 1) c' (ints L ++ [.int .i64 n])) (hg : w2.grownBy w3 (Value.slice a L.length ca).ownBlock) (hs : ∀ k, Slot a' k → Slot a k ∨ w2.heap.size ≤ k) :
    Left (ArR base p (L ++ [n]) B T) F w (w3.setCell ⟨p, 0, none⟩ (.slice a' (L.length + 1) c')) := by
  have hown : ∀ k, (Value.slice a L.length ca).ownBlock = some k → Slot a k := fun k e => own_slot ha e
  have k2 : Keep F w w2 := hk.to h2
  have k3 : Keep F w w3 := k2.grown hg (fun k e => Or.inl (hFa k (hown k e)).1)
  have k4 : Keep F w (w3.setCell ⟨p, 0, none⟩ (.slice a' (L.length + 1) c')) := k3.set (Or.inl hp) _
  have K23 : Keep (fun k => Slot a k) w1 w3 := (Keep.of h2).grown hg (fun k e => Or.inl (hown k e))
  have hpl : p < w1.heap.size := hrow.lt
  have row3 := hrow.keep K23 hpl (fun s => (hFa p s).2 rfl)
  have b3 := hb.keep K23 (fun k s => (hFb k s).2.2)
  have na' : ¬ Slot a' p := fun s => (hs p s).elim (fun s => (hFa p s).2 rfl) (fun e => by have := h2.size; omega)
  have nb' : ¬ Slot b p := fun s => (hFb p s).2.1 rfl
  refine ⟨k4, fun k => F k ∨ (w.heap.size ≤ k ∧ k < w3.heap.size), ⟨⟨a', c', b, cb, ?_, ?_, b3.put nb' _, Or.inl hp, ?_, ?_⟩, ?_⟩, fun k hk => hk.imp id (fun e => e.1)⟩
  · have := row3.set 0 (.slice a' (L.length + 1) c') (by simp)
    rw [List.length_append]
    exact this
  · rw [List.length_append, ints_append]
    exact h3.put na' _
  · intro k s
    refine ⟨(hs k s).elim (fun s => Or.inl (hFa k s).1) (fun e => Or.inr ⟨by have := h2.size; have := hk.size; omega, (h3.lt s).1⟩), fun e => na' (e ▸ s)⟩
  · intro k s
    have hlt := (hb.lt s).1
    refine ⟨(hFb k s).1.imp id (fun e => ⟨e, (b3.lt s).1⟩), (hFb k s).2.1, fun s' => (hs k s').elim (hFb k s).2.2 (fun e => by have := h2.size; omega)⟩
  · intro k hk'
    have := k4.size
    have hb2 : base ≤ w.heap.size := by have := hft p hp; omega
    rcases hk' with e | e
    · exact ⟨(hft k e).1, by have := (hft k e).2; omega⟩
    · exact ⟨by omega, by simp; exact e.2⟩
end Go.Proofs.Ytjdeehffbgpenaa

namespace Go.Proofs.Ytjdeehffbgpenaa
open Go.RowKit
set_option linter.unusedVariables false

theorem ArR.back {base p : Nat} {L B : List Int} {T : Nat} {F : Nat → Prop} {w w1 w2 w3 : World} {a b b' : Option Addr} {ca cb c' : Nat} {n : Int} (hft : ∀ k, F k → base ≤ k ∧ k < w.heap.size)
    (hk : Keep F w w1) (hrow : Row w1 p [.slice a L.length ca, .slice b B.length cb, .int .i64 (T : Int)]) (ha : Own w1 base 3 a L.length ca (ints L)) (hb : Own w1 base 3 b B.length cb (ints B)) (hp : F p) (hFa : ∀ k, Slot a k → (F k ∨ w.heap.size ≤ k) ∧ k ≠ p) (hFb : ∀ k, Slot b k → F k ∧ k ≠ p ∧ ¬ Slot a k)
    (h2 : Below w1.heap.size w1 w2) (h3 : Own w3 base 3 b' (B.length + 1) c' (ints B ++ [.int .i64 n])) (hg : w2.grownBy w3 (Value.slice b B.length cb).ownBlock) (hs : ∀ k, Slot b' k → Slot b k ∨ w2.heap.size ≤ k) :
    Left (ArR base p L (B ++ [n]) T) F w (w3.setCell ⟨p, 1, none⟩ (.slice b' (B.length + 1) c')) := by
  have hown : ∀ k, (Value.slice b B.length cb).ownBlock = some k → Slot b k := fun k e => own_slot hb e
  have k2 : Keep F w w2 := hk.to h2
  have k3 : Keep F w w3 := k2.grown hg (fun k e => Or.inl (hFb k (hown k e)).1)
  have k4 : Keep F w (w3.setCell ⟨p, 1, none⟩ (.slice b' (B.length + 1) c')) := k3.set (Or.inl hp) _
  have K23 : Keep (fun k => Slot b k) w1 w3 := (Keep.of h2).grown hg (fun k e => Or.inl (hown k e))
  have hpl : p < w1.heap.size := hrow.lt
  have row3 := hrow.keep K23 hpl (fun s => (hFb p s).2.1 rfl)
  have a3 := ha.keep K23 (fun k s q => (hFb k q).2.2 s)
  have nb' : ¬ Slot b' p := fun s => (hs p s).elim (fun s => (hFb p s).2.1 rfl) (fun e => by have := h2.size; omega)
  have na' : ¬ Slot a p := fun s => (hFa p s).2 rfl
  refine ⟨k4, fun k => F k ∨ (w.heap.size ≤ k ∧ k < w3.heap.size), ⟨⟨a, ca, b', c', ?_, a3.put na' _, ?_, Or.inl hp, ?_, ?_⟩, ?_⟩, fun k hk => hk.imp id (fun e => e.1)⟩
  · have := row3.set 1 (.slice b' (B.length + 1) c') (by simp)
    rw [List.length_append]
    exact this
  · rw [List.length_append, ints_append]
    exact h3.put nb' _
  · intro k s
    exact ⟨(hFa k s).1.imp id (fun e => ⟨e, (a3.lt s).1⟩), (hFa k s).2⟩
  · intro k s
    refine ⟨(hs k s).elim (fun s => Or.inl (hFb k s).1) (fun e => Or.inr ⟨by have := h2.size; have := hk.size; omega, (h3.lt s).1⟩), fun e => nb' (e ▸ s), fun s' => (hs k s).elim (fun q => (hFb k q).2.2 s') (fun e => by have := h2.size; have := (ha.lt s').1; omega)⟩
  · intro k hk'
    have := k4.size
    have hb2 : base ≤ w.heap.size := by have := hft p hp; omega
    rcases hk' with e | e
    · exact ⟨(hft k e).1, by have := (hft k e).2; omega⟩
    · exact ⟨by omega, by simp; exact e.2⟩
end Go.Proofs.Ytjdeehffbgpenaa

namespace Go.Proofs.Ytjdeehffbgpenaa
open Go.RowKit
set_option linter.unusedVariables false

abbrev ptR (p : Nat) : Value := .pointer (some ⟨p, 0, none⟩)
def vtC (a : Vt) : List Value := [.int .i64 a.no, .int .i64 a.x, .int .i64 a.y, .int .i64 a.id]
def trC (t : Tr) : List Value := [.int .i64 t.v0, .int .i64 t.v1, .int .i64 t.v2, .int .i64 t.x0, .int .i64 t.y0, .int .i64 t.x1, .int .i64 t.y1, .int .i64 t.x2, .int .i64 t.y2]
def ceC (c : Ce) : List Value := .int .i64 c.no :: trC c.t
abbrev trV (t : Tr) : Value := .agg #[.int .i64 t.v0, .int .i64 t.v1, .int .i64 t.v2, .int .i64 t.x0, .int .i64 t.y0, .int .i64 t.x1, .int .i64 t.y1, .int .i64 t.x2, .int .i64 t.y2]
theorem vtC_len (a : Vt) : (vtC a).length = 4 := rfl
theorem ceC_len (c : Ce) : (ceC c).length = 10 := rfl
/-- The document's mesh at p. -/
structure MeR (base p : Nat) (S : Ms) (F : Nat → Prop) (w : World) : Prop where
  ex : ∃ (pv pf : Nat) (Fv Ff : Nat → Prop) (a : Option Addr) (ca : Nat) (b : Option Addr) (cb : Nat),
    Row w p [.int .i64 S.n, ptR pv, ptR pf, .slice a S.V.length ca, .slice b S.C.length cb] ∧ ArR base pv S.av.L S.av.B S.av.T Fv w ∧ ArR base pf S.af.L S.af.B S.af.T Ff w ∧
    OwnS w base 44 4 a S.V.length ca (flat vtC S.V) ∧ OwnS w base 72 10 b S.C.length cb (flat ceC S.C) ∧
    F p ∧ (∀ k, Fv k → F k ∧ k ≠ p) ∧ (∀ k, Ff k → F k ∧ k ≠ p ∧ ¬ Fv k) ∧ (∀ k, Slot a k → F k ∧ k ≠ p ∧ ¬ Fv k ∧ ¬ Ff k) ∧ (∀ k, Slot b k → F k ∧ k ≠ p ∧ ¬ Fv k ∧ ¬ Ff k)
  ft : ∀ k, F k → base ≤ k ∧ k < w.heap.size
theorem MeR.keep {base p : Nat} {S : Ms} {F G : Nat → Prop} {w w' : World} (h : MeR base p S F w) (hk : Keep G w w') (hd : ∀ k, F k → ¬ G k) : MeR base p S F w' := by
  obtain ⟨pv, pf, Fv, Ff, a, ca, b, cb, hrow, hv, hf, ha, hb, hp, hFv, hFf, hFa, hFb⟩ := h.ex
  exact ⟨⟨pv, pf, Fv, Ff, a, ca, b, cb, hrow.keep hk hrow.lt (hd p hp), hv.keep hk (fun k s => hd k (hFv k s).1), hf.keep hk (fun k s => hd k (hFf k s).1), ha.keep hk (fun k s => hd k (hFa k s).1), hb.keep hk (fun k s => hd k (hFb k s).1), hp, hFv, hFf, hFa, hFb⟩, fun k hF => ⟨(h.ft k hF).1, Nat.lt_of_lt_of_le (h.ft k hF).2 hk.size⟩⟩
theorem MeR.below {base p : Nat} {S : Ms} {F : Nat → Prop} {w w' : World} (h : MeR base p S F w) (hb : Below w.heap.size w w') : MeR base p S F w' := h.keep (Keep.of (F := fun _ => False) hb) (fun _ _ x => x)
/-- What is read of it. -/
structure MeLook (p : Nat) (S : Ms) (w : World) : Prop where
  ex : ∃ (x y : Value) (base : Nat) (a : Option Addr) (ca : Nat) (b : Option Addr) (cb : Nat),
    Row w p [.int .i64 S.n, x, y, .slice a S.V.length ca, .slice b S.C.length cb] ∧ OwnS w base 44 4 a S.V.length ca (flat vtC S.V) ∧ OwnS w base 72 10 b S.C.length cb (flat ceC S.C)
theorem MeR.look {base p : Nat} {S : Ms} {F : Nat → Prop} {w : World} (h : MeR base p S F w) : MeLook p S w := by
  obtain ⟨pv, pf, Fv, Ff, a, ca, b, cb, hrow, hv, hf, ha, hb, _⟩ := h.ex
  exact ⟨_, _, base, a, ca, b, cb, hrow, ha, hb⟩
theorem MeLook.below {p : Nat} {S : Ms} {w w' : World} (h : MeLook p S w) (hb : Below w.heap.size w w') : MeLook p S w' := by
  obtain ⟨x, y, base, a, ca, b, cb, hrow, ha, hb2⟩ := h.ex
  exact ⟨x, y, base, a, ca, b, cb, hrow.keep (Keep.of (F := fun _ => False) hb) hrow.lt (fun x => x), ha.below hb, hb2.below hb⟩
/-- A vertex's, a face's cells. -/
theorem MeLook.vert {p : Nat} {S : Ms} {w : World} (h : MeLook p S w) {k : Nat} {v : Vt} (hk : S.V[k]? = some v) : ∃ (b c : Nat) (x y z : Value), Row w p [.int .i64 S.n, x, y, .slice (some ⟨b, 0, none⟩) S.V.length c, z] ∧ S.V.length ≤ c ∧ b < w.heap.size ∧ w.cell? ⟨b, k * 4, none⟩ = some (.int .i64 v.no) ∧ w.cell? ⟨b, k * 4 + 1, none⟩ = some (.int .i64 v.x) ∧ w.cell? ⟨b, k * 4 + 2, none⟩ = some (.int .i64 v.y) ∧ w.cell? ⟨b, k * 4 + 3, none⟩ = some (.int .i64 v.id) := by
  obtain ⟨x, y, base, a, ca, b, cb, hrow, ha, hb⟩ := h.ex
  obtain ⟨g, rfl, hg, _, hseg⟩ := ha.at (by have := (List.getElem?_eq_some_iff.1 hk).1; omega)
  have H : ∀ j u, (vtC v)[j]? = some u → w.cell? ⟨g, k * 4 + j, none⟩ = some u := fun j u hj => by
    have := hseg.cell _ u (flat_at vtC_len hk hj)
    rw [Nat.zero_add] at this
    exact this
  exact ⟨g, ca, x, y, _, hrow, ha.room.1, hg, H 0 _ rfl, H 1 _ rfl, H 2 _ rfl, H 3 _ rfl⟩
theorem MeLook.face {p : Nat} {S : Ms} {w : World} (h : MeLook p S w) {k : Nat} {c : Ce} (hk : S.C[k]? = some c) : ∃ (b cp : Nat) (x y z : Value), Row w p [.int .i64 S.n, x, y, z, .slice (some ⟨b, 0, none⟩) S.C.length cp] ∧ S.C.length ≤ cp ∧ b < w.heap.size ∧ ∀ j u, (ceC c)[j]? = some u → w.cell? ⟨b, k * 10 + j, none⟩ = some u := by
  obtain ⟨x, y, base, a, ca, b, cb, hrow, ha, hb⟩ := h.ex
  obtain ⟨g, rfl, hg, _, hseg⟩ := hb.at (by have := (List.getElem?_eq_some_iff.1 hk).1; omega)
  refine ⟨g, cb, x, y, _, hrow, hb.room.1, hg, fun j u hj => ?_⟩
  have := hseg.cell _ u (flat_at ceC_len hk hj)
  rw [Nat.zero_add] at this
  exact this
theorem MeLook.row {p : Nat} {S : Ms} {w : World} (h : MeLook p S w) : ∃ (x y : Value) (a : Option Addr) (ca : Nat) (b : Option Addr) (cb : Nat), Row w p [.int .i64 S.n, x, y, .slice a S.V.length ca, .slice b S.C.length cb] := by
  obtain ⟨x, y, base, a, ca, b, cb, hrow, ha, hb⟩ := h.ex
  exact ⟨x, y, a, ca, b, cb, hrow⟩
end Go.Proofs.Ytjdeehffbgpenaa

namespace Go.Proofs.Ytjdeehffbgpenaa
open Go.RowKit
set_option linter.unusedVariables false

theorem cell_lt {w : World} {p : Addr} {v : Value} (h : w.cell? p = some v) : p.block < w.heap.size := by
  refine Nat.lt_of_not_le fun hle => ?_
  unfold World.cell? at h
  rw [Array.getElem?_eq_none hle] at h
  simp at h
theorem cell_far {w w' : World} {b g i : Nat} {v : Value} (h : w.cell? ⟨b, i, none⟩ = some v) (hg : w.grownBy w' (some g)) (hne : b ≠ g) : w'.cell? ⟨b, i, none⟩ = some v :=
  (hg.cell_far ⟨b, i, none⟩ (cell_lt h) (by simpa using hne)).trans h
theorem free_far {w w' : World} {b g i : Nat} {v : Value} (h : w.cell? ⟨b, i, none⟩ = some v) (hf : w.frozen? ⟨b, i, none⟩ = false) (hg : w.grownBy w' (some g)) (hne : b ≠ g) : w'.frozen? ⟨b, i, none⟩ = false :=
  (hg.frozen_far ⟨b, i, none⟩ (cell_lt h) (by simpa using hne)).trans hf
/-- A block of 3 cells. -/
structure B3 (w : World) (b : Nat) (x0 x1 x2 : Value) : Prop where
  c0 : w.cell? ⟨b, 0, none⟩ = some x0
  c1 : w.cell? ⟨b, 1, none⟩ = some x1
  c2 : w.cell? ⟨b, 2, none⟩ = some x2
  f0 : w.frozen? ⟨b, 0, none⟩ = false
  f1 : w.frozen? ⟨b, 1, none⟩ = false
  f2 : w.frozen? ⟨b, 2, none⟩ = false
theorem B3.on {w w' : World} {b : Nat} {x0 x1 x2 : Value} (h : B3 w b x0 x1 x2) (hb : Below w.heap.size w w') : B3 w' b x0 x1 x2 := ⟨cell_on hb h.c0, cell_on hb h.c1, cell_on hb h.c2, free_on hb h.c0 h.f0, free_on hb h.c1 h.f1, free_on hb h.c2 h.f2⟩
theorem B3.put {w : World} {b k i : Nat} {x0 x1 x2 v : Value} (h : B3 w b x0 x1 x2) (hk : k ≠ b) : B3 (w.setCell ⟨k, i, none⟩ v) b x0 x1 x2 := by
  refine ⟨?_, ?_, ?_, by rw [World.frozen?_setCell]; exact h.f0, by rw [World.frozen?_setCell]; exact h.f1, by rw [World.frozen?_setCell]; exact h.f2⟩
  · rw [World.cell?_setCell_other _ _ _ _ (by intro q; simp only [Addr.mk.injEq] at q; omega)]; exact h.c0
  · rw [World.cell?_setCell_other _ _ _ _ (by intro q; simp only [Addr.mk.injEq] at q; omega)]; exact h.c1
  · rw [World.cell?_setCell_other _ _ _ _ (by intro q; simp only [Addr.mk.injEq] at q; omega)]; exact h.c2
theorem B3.set {w : World} {b : Nat} {x0 x1 x2 u0 u1 u2 : Value} (h : B3 w b x0 x1 x2) : B3 (((w.setCell ⟨b, 0, none⟩ u0).setCell ⟨b, 1, none⟩ u1).setCell ⟨b, 2, none⟩ u2) b u0 u1 u2 := by
  refine ⟨?_, ?_, ?_, by simp only [World.frozen?_setCell]; exact h.f0, by simp only [World.frozen?_setCell]; exact h.f1, by simp only [World.frozen?_setCell]; exact h.f2⟩
  · rw [World.cell?_setCell_other _ _ _ _ (by intro q; simp only [Addr.mk.injEq] at q; omega)]; rw [World.cell?_setCell_other _ _ _ _ (by intro q; simp only [Addr.mk.injEq] at q; omega)]; have hh : _ = some x0 := h.c0
    have h1 : w.cell? ⟨b, 0, none⟩ = some x0 := by
      exact hh
    exact World.cell?_setCell_same _ _ _ h1
  · rw [World.cell?_setCell_other _ _ _ _ (by intro q; simp only [Addr.mk.injEq] at q; omega)]; have hh : _ = some x1 := h.c1
    have h1 : (w.setCell ⟨b, 0, none⟩ u0).cell? ⟨b, 1, none⟩ = some x1 := by
      rw [World.cell?_setCell_other _ _ _ _ (by intro q; simp only [Addr.mk.injEq] at q; omega)]; exact hh
    exact World.cell?_setCell_same _ _ _ h1
  · have hh : _ = some x2 := h.c2
    have h1 : ((w.setCell ⟨b, 0, none⟩ u0).setCell ⟨b, 1, none⟩ u1).cell? ⟨b, 2, none⟩ = some x2 := by
      rw [World.cell?_setCell_other _ _ _ _ (by intro q; simp only [Addr.mk.injEq] at q; omega)]; rw [World.cell?_setCell_other _ _ _ _ (by intro q; simp only [Addr.mk.injEq] at q; omega)]; exact hh
    exact World.cell?_setCell_same _ _ _ h1
theorem B3.drew {w : World} {b : Nat} {x0 x1 x2 : Value} (h : B3 w b x0 x1 x2) : B3 w.drew b x0 x1 x2 := ⟨h.c0, h.c1, h.c2, h.f0, h.f1, h.f2⟩
theorem B3.grown {w w' : World} {b g : Nat} {x0 x1 x2 : Value} (h : B3 w b x0 x1 x2) (hg : w.grownBy w' (some g)) (hne : b ≠ g) : B3 w' b x0 x1 x2 := ⟨cell_far h.c0 hg hne, cell_far h.c1 hg hne, cell_far h.c2 hg hne, free_far h.c0 h.f0 hg hne, free_far h.c1 h.f1 hg hne, free_far h.c2 h.f2 hg hne⟩
/-- A block of 4 cells. -/
structure B4 (w : World) (b : Nat) (x0 x1 x2 x3 : Value) : Prop where
  c0 : w.cell? ⟨b, 0, none⟩ = some x0
  c1 : w.cell? ⟨b, 1, none⟩ = some x1
  c2 : w.cell? ⟨b, 2, none⟩ = some x2
  c3 : w.cell? ⟨b, 3, none⟩ = some x3
  f0 : w.frozen? ⟨b, 0, none⟩ = false
  f1 : w.frozen? ⟨b, 1, none⟩ = false
  f2 : w.frozen? ⟨b, 2, none⟩ = false
  f3 : w.frozen? ⟨b, 3, none⟩ = false
theorem B4.on {w w' : World} {b : Nat} {x0 x1 x2 x3 : Value} (h : B4 w b x0 x1 x2 x3) (hb : Below w.heap.size w w') : B4 w' b x0 x1 x2 x3 := ⟨cell_on hb h.c0, cell_on hb h.c1, cell_on hb h.c2, cell_on hb h.c3, free_on hb h.c0 h.f0, free_on hb h.c1 h.f1, free_on hb h.c2 h.f2, free_on hb h.c3 h.f3⟩
theorem B4.put {w : World} {b k i : Nat} {x0 x1 x2 x3 v : Value} (h : B4 w b x0 x1 x2 x3) (hk : k ≠ b) : B4 (w.setCell ⟨k, i, none⟩ v) b x0 x1 x2 x3 := by
  refine ⟨?_, ?_, ?_, ?_, by rw [World.frozen?_setCell]; exact h.f0, by rw [World.frozen?_setCell]; exact h.f1, by rw [World.frozen?_setCell]; exact h.f2, by rw [World.frozen?_setCell]; exact h.f3⟩
  · rw [World.cell?_setCell_other _ _ _ _ (by intro q; simp only [Addr.mk.injEq] at q; omega)]; exact h.c0
  · rw [World.cell?_setCell_other _ _ _ _ (by intro q; simp only [Addr.mk.injEq] at q; omega)]; exact h.c1
  · rw [World.cell?_setCell_other _ _ _ _ (by intro q; simp only [Addr.mk.injEq] at q; omega)]; exact h.c2
  · rw [World.cell?_setCell_other _ _ _ _ (by intro q; simp only [Addr.mk.injEq] at q; omega)]; exact h.c3
theorem B4.set {w : World} {b : Nat} {x0 x1 x2 x3 u0 u1 u2 u3 : Value} (h : B4 w b x0 x1 x2 x3) : B4 ((((w.setCell ⟨b, 0, none⟩ u0).setCell ⟨b, 1, none⟩ u1).setCell ⟨b, 2, none⟩ u2).setCell ⟨b, 3, none⟩ u3) b u0 u1 u2 u3 := by
  refine ⟨?_, ?_, ?_, ?_, by simp only [World.frozen?_setCell]; exact h.f0, by simp only [World.frozen?_setCell]; exact h.f1, by simp only [World.frozen?_setCell]; exact h.f2, by simp only [World.frozen?_setCell]; exact h.f3⟩
  · rw [World.cell?_setCell_other _ _ _ _ (by intro q; simp only [Addr.mk.injEq] at q; omega)]; rw [World.cell?_setCell_other _ _ _ _ (by intro q; simp only [Addr.mk.injEq] at q; omega)]; rw [World.cell?_setCell_other _ _ _ _ (by intro q; simp only [Addr.mk.injEq] at q; omega)]; have hh : _ = some x0 := h.c0
    have h1 : w.cell? ⟨b, 0, none⟩ = some x0 := by
      exact hh
    exact World.cell?_setCell_same _ _ _ h1
  · rw [World.cell?_setCell_other _ _ _ _ (by intro q; simp only [Addr.mk.injEq] at q; omega)]; rw [World.cell?_setCell_other _ _ _ _ (by intro q; simp only [Addr.mk.injEq] at q; omega)]; have hh : _ = some x1 := h.c1
    have h1 : (w.setCell ⟨b, 0, none⟩ u0).cell? ⟨b, 1, none⟩ = some x1 := by
      rw [World.cell?_setCell_other _ _ _ _ (by intro q; simp only [Addr.mk.injEq] at q; omega)]; exact hh
    exact World.cell?_setCell_same _ _ _ h1
  · rw [World.cell?_setCell_other _ _ _ _ (by intro q; simp only [Addr.mk.injEq] at q; omega)]; have hh : _ = some x2 := h.c2
    have h1 : ((w.setCell ⟨b, 0, none⟩ u0).setCell ⟨b, 1, none⟩ u1).cell? ⟨b, 2, none⟩ = some x2 := by
      rw [World.cell?_setCell_other _ _ _ _ (by intro q; simp only [Addr.mk.injEq] at q; omega)]; rw [World.cell?_setCell_other _ _ _ _ (by intro q; simp only [Addr.mk.injEq] at q; omega)]; exact hh
    exact World.cell?_setCell_same _ _ _ h1
  · have hh : _ = some x3 := h.c3
    have h1 : (((w.setCell ⟨b, 0, none⟩ u0).setCell ⟨b, 1, none⟩ u1).setCell ⟨b, 2, none⟩ u2).cell? ⟨b, 3, none⟩ = some x3 := by
      rw [World.cell?_setCell_other _ _ _ _ (by intro q; simp only [Addr.mk.injEq] at q; omega)]; rw [World.cell?_setCell_other _ _ _ _ (by intro q; simp only [Addr.mk.injEq] at q; omega)]; rw [World.cell?_setCell_other _ _ _ _ (by intro q; simp only [Addr.mk.injEq] at q; omega)]; exact hh
    exact World.cell?_setCell_same _ _ _ h1
theorem B4.drew {w : World} {b : Nat} {x0 x1 x2 x3 : Value} (h : B4 w b x0 x1 x2 x3) : B4 w.drew b x0 x1 x2 x3 := ⟨h.c0, h.c1, h.c2, h.c3, h.f0, h.f1, h.f2, h.f3⟩
theorem B4.grown {w w' : World} {b g : Nat} {x0 x1 x2 x3 : Value} (h : B4 w b x0 x1 x2 x3) (hg : w.grownBy w' (some g)) (hne : b ≠ g) : B4 w' b x0 x1 x2 x3 := ⟨cell_far h.c0 hg hne, cell_far h.c1 hg hne, cell_far h.c2 hg hne, cell_far h.c3 hg hne, free_far h.c0 h.f0 hg hne, free_far h.c1 h.f1 hg hne, free_far h.c2 h.f2 hg hne, free_far h.c3 h.f3 hg hne⟩
end Go.Proofs.Ytjdeehffbgpenaa

namespace Go.Proofs.Ytjdeehffbgpenaa
open Go.RowKit
set_option linter.unusedVariables false
theorem cell_put1 {w : World} {n k i j : Nat} {v : Value} (h : w.cell? ⟨n, i, none⟩ = some v) (hk : n ≠ k) (u : Value) : (w.setCell ⟨k, j, none⟩ u).cell? ⟨n, i, none⟩ = some v := by
  rw [World.cell?_setCell_other _ _ _ _ (by intro q; simp only [Addr.mk.injEq] at q; omega)]; exact h
theorem cell_put2 {w : World} {n k i : Nat} {x : Value} (h : w.cell? ⟨n, i, none⟩ = some x) (hk : n ≠ k) (u v : Value) : ((w.setCell ⟨k, 0, none⟩ u).setCell ⟨k, 1, none⟩ v).cell? ⟨n, i, none⟩ = some x := cell_put1 (cell_put1 h hk u) hk v
theorem bs_2 (w : World) (x00 x01 : Value) (t0 : TypeId) : ∃ W, W = (w.alloc (.cells #[x00, x01] t0)) ∧ Below w.heap.size w W ∧ Bx W (w.heap.size) x00 x01 ∧ w.heap.size < W.heap.size := by
  have e0 : Below w.heap.size w (w.alloc (.cells #[x00, x01] t0)) := (Below.refl _ _).alloc (Nat.le_refl _) _
  have h0 := bx_new w x00 x01 t0
  exact ⟨_, rfl, e0, h0, by simp⟩
theorem bs_222 (w : World) (x00 x01 x10 x11 x20 x21 : Value) (t0 t1 t2 : TypeId) : ∃ W, W = (((w.alloc (.cells #[x00, x01] t0)).alloc (.cells #[x10, x11] t1)).alloc (.cells #[x20, x21] t2)) ∧ Below w.heap.size w W ∧ Bx W (w.heap.size) x00 x01 ∧ Bx W (w.heap.size + 1) x10 x11 ∧ Bx W (w.heap.size + 1 + 1) x20 x21 ∧ w.heap.size + 1 + 1 < W.heap.size := by
  have e0 : Below w.heap.size w (w.alloc (.cells #[x00, x01] t0)) := (Below.refl _ _).alloc (Nat.le_refl _) _
  have h0 := bx_new w x00 x01 t0
  have e1 : Below (w.alloc (.cells #[x00, x01] t0)).heap.size (w.alloc (.cells #[x00, x01] t0)) ((w.alloc (.cells #[x00, x01] t0)).alloc (.cells #[x10, x11] t1)) := (Below.refl _ _).alloc (Nat.le_refl _) _
  have h1 := bx_new (w.alloc (.cells #[x00, x01] t0)) x10 x11 t1
  rw [World.size_alloc] at h1
  have e2 : Below ((w.alloc (.cells #[x00, x01] t0)).alloc (.cells #[x10, x11] t1)).heap.size ((w.alloc (.cells #[x00, x01] t0)).alloc (.cells #[x10, x11] t1)) (((w.alloc (.cells #[x00, x01] t0)).alloc (.cells #[x10, x11] t1)).alloc (.cells #[x20, x21] t2)) := (Below.refl _ _).alloc (Nat.le_refl _) _
  have h2 := bx_new ((w.alloc (.cells #[x00, x01] t0)).alloc (.cells #[x10, x11] t1)) x20 x21 t2
  rw [World.size_alloc, World.size_alloc] at h2
  exact ⟨_, rfl, also (also (e0) e1) e2, ((h0.on e1).on e2), (h1.on e2), h2, by simp⟩
theorem bs_2222 (w : World) (x00 x01 x10 x11 x20 x21 x30 x31 : Value) (t0 t1 t2 t3 : TypeId) : ∃ W, W = ((((w.alloc (.cells #[x00, x01] t0)).alloc (.cells #[x10, x11] t1)).alloc (.cells #[x20, x21] t2)).alloc (.cells #[x30, x31] t3)) ∧ Below w.heap.size w W ∧ Bx W (w.heap.size) x00 x01 ∧ Bx W (w.heap.size + 1) x10 x11 ∧ Bx W (w.heap.size + 1 + 1) x20 x21 ∧ Bx W (w.heap.size + 1 + 1 + 1) x30 x31 ∧ w.heap.size + 1 + 1 + 1 < W.heap.size := by
  have e0 : Below w.heap.size w (w.alloc (.cells #[x00, x01] t0)) := (Below.refl _ _).alloc (Nat.le_refl _) _
  have h0 := bx_new w x00 x01 t0
  have e1 : Below (w.alloc (.cells #[x00, x01] t0)).heap.size (w.alloc (.cells #[x00, x01] t0)) ((w.alloc (.cells #[x00, x01] t0)).alloc (.cells #[x10, x11] t1)) := (Below.refl _ _).alloc (Nat.le_refl _) _
  have h1 := bx_new (w.alloc (.cells #[x00, x01] t0)) x10 x11 t1
  rw [World.size_alloc] at h1
  have e2 : Below ((w.alloc (.cells #[x00, x01] t0)).alloc (.cells #[x10, x11] t1)).heap.size ((w.alloc (.cells #[x00, x01] t0)).alloc (.cells #[x10, x11] t1)) (((w.alloc (.cells #[x00, x01] t0)).alloc (.cells #[x10, x11] t1)).alloc (.cells #[x20, x21] t2)) := (Below.refl _ _).alloc (Nat.le_refl _) _
  have h2 := bx_new ((w.alloc (.cells #[x00, x01] t0)).alloc (.cells #[x10, x11] t1)) x20 x21 t2
  rw [World.size_alloc, World.size_alloc] at h2
  have e3 : Below (((w.alloc (.cells #[x00, x01] t0)).alloc (.cells #[x10, x11] t1)).alloc (.cells #[x20, x21] t2)).heap.size (((w.alloc (.cells #[x00, x01] t0)).alloc (.cells #[x10, x11] t1)).alloc (.cells #[x20, x21] t2)) ((((w.alloc (.cells #[x00, x01] t0)).alloc (.cells #[x10, x11] t1)).alloc (.cells #[x20, x21] t2)).alloc (.cells #[x30, x31] t3)) := (Below.refl _ _).alloc (Nat.le_refl _) _
  have h3 := bx_new (((w.alloc (.cells #[x00, x01] t0)).alloc (.cells #[x10, x11] t1)).alloc (.cells #[x20, x21] t2)) x30 x31 t3
  rw [World.size_alloc, World.size_alloc, World.size_alloc] at h3
  exact ⟨_, rfl, also (also (also (e0) e1) e2) e3, (((h0.on e1).on e2).on e3), ((h1.on e2).on e3), (h2.on e3), h3, by simp⟩
end Go.Proofs.Ytjdeehffbgpenaa

namespace Go.Proofs.Ytjdeehffbgpenaa
open Go.RowKit
set_option linter.unusedVariables false

end Go.Proofs.Ytjdeehffbgpenaa

namespace Go.Proofs.Ytjdeehffbgpenaa
open Go.RowKit
set_option linter.unusedVariables false

end Go.Proofs.Ytjdeehffbgpenaa

namespace Go.Proofs.Ytjdeehffbgpenaa
open Go.RowKit
set_option linter.unusedVariables false

theorem lCoord (c : Int) (w : World) {b : Bool} (hb : b = inC c) : Calls Try.prog 76 #[.int .i64 c] w fun e w' => e = .returned (.bool b) ∧ Below w.heap.size w w' := by
  subst hb
  unfold inC
  go_enter Try.func76, Try.ntmps76
  go_wp2
  all_goals (go_ret; exact ⟨by simp; omega, Below.refl _ _⟩)
theorem lSide (c : Int) (w : World) {b : Bool} (hb : b = sideC c) : Calls Try.prog 66 #[.int .i64 c] w fun e w' => e = .returned (.bool b) ∧ Below w.heap.size w w' := by
  subst hb
  unfold sideC
  go_enter Try.func66, Try.ntmps66
  go_wp2
  all_goals (go_ret; exact ⟨by simp; omega, Below.refl _ _⟩)
theorem lReach (i s : Int) (w : World) (hs : sideC s = true) {b : Bool} (hb : b = reachC i s) : Calls Try.prog 67 #[.int .i64 i, .int .i64 s] w fun e w' => e = .returned (.bool b) ∧ Below w.heap.size w w' := by
  subst hb
  obtain ⟨s1, s2⟩ := sideC_true.1 hs
  have hq : (2199023255552 : Int).tdiv s = 2199023255552 / s := tdiv_big (by omega)
  have q1 : (0 : Int) ≤ 2199023255552 / s := Int.ediv_nonneg (by decide) (by omega)
  have q2 : (2199023255552 : Int) / s ≤ 2199023255552 := Int.ediv_le_self _ (by decide)
  have hs0 : ¬ s = 0 := by omega
  clear hs
  unfold reachC
  generalize (2199023255552 : Int) / s = m at hq q1 q2 ⊢
  have hw1 : wrap64 m = m := wrap_in (by omega) (by omega)
  have hw2 : wrap64 (-m) = -m := wrap_in (by omega) (by omega)
  go_enter Try.func67, Try.ntmps67
  go_wp2
  all_goals (go_ret; exact ⟨by simp; omega, Below.refl _ _⟩)
theorem lLess (x y z t : Int) (w : World) {u v : Int} (hu : u = wrap64 (x - z)) (hv : v = wrap64 (y - t)) : Calls Try.prog 39 #[.agg #[.int .i64 x, .int .i64 y], .agg #[.int .i64 z, .int .i64 t]] w fun e w' => e = .returned (.agg #[.int .i64 u, .int .i64 v]) ∧ Below w.heap.size w w' := by
  subst hu hv
  go_enter Try.func39, Try.ntmps39
  go_wp2
  exact bodyPost_ret (v := .agg #[.int .i64 (wrap64 (x - z)), .int .i64 (wrap64 (y - t))]) (by simp [results, Try.results39, go_sem]) rfl ⟨rfl, (((Below.refl _ _).alloc (Nat.le_refl _) _).alloc (by simp) _).alloc (by simp; omega) _⟩
set_option maxRecDepth 100000 in
theorem lCan (x y : Int) (w : World) {b : Bool} (hb : b = canC x y) : Calls Try.prog 65 #[.agg #[.int .i64 x, .int .i64 y]] w fun e w' => e = .returned (.bool b) ∧ Below w.heap.size w w' := by
  subst hb
  unfold canC
  cases hx : inC x
  · skip
    obtain ⟨W, hW, bW, x_p, sW⟩ := bs_2 w (.int .i64 x) (.int .i64 y) 32
    have zbW := bW.size
    have BB := bW
    go_enter Try.func65, Try.ntmps65
    go_wp2_with (go_at_call 76; fail)
    rw [← hW]
    clear hW
    refine (lCoord x W hx.symm).mono ?_
    rintro e w1 ⟨rfl, bw1⟩
    have zbw1 := bw1.size
    replace BB := also BB bw1
    replace x_p := x_p.on bw1
    have ⟨x_p_0, x_p_1, x_p_2, x_p_3⟩ := x_p
    go_wp2
    go_ret
    exact ⟨by simp, BB⟩
  · skip
    obtain ⟨W, hW, bW, x_p, sW⟩ := bs_2 w (.int .i64 x) (.int .i64 y) 32
    have zbW := bW.size
    have BB := bW
    go_enter Try.func65, Try.ntmps65
    go_wp2_with (go_at_call 76; fail)
    rw [← hW]
    clear hW
    refine (lCoord x W hx.symm).mono ?_
    rintro e w1 ⟨rfl, bw1⟩
    have zbw1 := bw1.size
    replace BB := also BB bw1
    replace x_p := x_p.on bw1
    have ⟨x_p_0, x_p_1, x_p_2, x_p_3⟩ := x_p
    go_wp2_with (go_at_call 76; fail)
    refine (lCoord y w1 rfl).mono ?_
    rintro e w2 ⟨rfl, bw2⟩
    clear x_p_0 x_p_1 x_p_2 x_p_3
    have zbw2 := bw2.size
    replace BB := also BB bw2
    replace x_p := x_p.on bw2
    go_wp2
    go_ret
    exact ⟨by simp, BB⟩
end Go.Proofs.Ytjdeehffbgpenaa

namespace Go.Proofs.Ytjdeehffbgpenaa
open Go.RowKit
set_option linter.unusedVariables false

theorem at_no_can {x y i k s : Int} (h : canC x y = false) : atC x y i k s = false := by unfold atC; rw [h]; simp
theorem at_no_side {x y i k s : Int} (h : sideC s = false) : atC x y i k s = false := by unfold atC; rw [h]; rfl
theorem at_no_right {x y i k s : Int} (hs : sideC s = true) (hr : reachC i s = false) : atC x y i k s = false := by
  cases h : atC x y i k s
  · rfl
  · obtain ⟨_, q1, q2, _⟩ := atC_true.1 h
    have := reach_in hs (canC_true.1 q1).1 q2
    rw [hr] at this; cases this
theorem at_no_up {x y i k s : Int} (hs : sideC s = true) (hr : reachC k s = false) : atC x y i k s = false := by
  cases h : atC x y i k s
  · rfl
  · obtain ⟨_, q1, _, q2⟩ := atC_true.1 h
    have := reach_in hs (canC_true.1 q1).2 q2
    rw [hr] at this; cases this
theorem at_no_there {x y i k s : Int} (h : canC (x + i * s) (y + k * s) = false) : atC x y i k s = false := by unfold atC; unfold canC at h ⊢; rw [h]; simp
theorem at_yes {x y i k s : Int} (h1 : canC x y = true) (h2 : sideC s = true) (h : canC (x + i * s) (y + k * s) = true) : atC x y i k s = true := by unfold atC; unfold canC at h h1 ⊢; rw [h, h1, h2]; rfl
set_option maxRecDepth 100000 in
set_option maxHeartbeats 4000000 in
theorem lAt (x y i k s : Int) (w : World) {u v : Int} {b : Bool} (hb : b = atC x y i k s) (hu : u = if b then x + i * s else 0) (hv : v = if b then y + k * s else 0) :
    Calls Try.prog 54 #[.agg #[.int .i64 x, .int .i64 y], .agg #[.int .i64 i, .int .i64 k], .int .i64 s] w fun e w' => e = .returned (.tuple #[.agg #[.int .i64 u, .int .i64 v], .bool b]) ∧ Below w.heap.size w w' := by
  cases hc : canC x y
  · skip
    have h0 := @at_no_can x y i k s hc
    obtain rfl : b = false := by rw [hb, h0]
    obtain rfl : u = 0 := hu
    obtain rfl : v = 0 := hv
    clear hb h0
    obtain ⟨W, hW, bW, x_p, x_o, x_z, sW⟩ := bs_222 w (.int .i64 x) (.int .i64 y) (.int .i64 i) (.int .i64 k) (.int .i64 0) (.int .i64 0) 32 39 32
    have zbW := bW.size
    have BB := bW
    go_enter Try.func54, Try.ntmps54
    go_wp2_with (go_at_call 65; fail)
    rw [← hW]
    clear hW
    refine (lCan x y W hc.symm).mono ?_
    rintro e w1 ⟨rfl, bw1⟩
    have zbw1 := bw1.size
    replace BB := also BB bw1
    replace x_p := x_p.on bw1
    replace x_o := x_o.on bw1
    replace x_z := x_z.on bw1
    have ⟨x_p_0, x_p_1, x_p_2, x_p_3⟩ := x_p
    have ⟨x_o_0, x_o_1, x_o_2, x_o_3⟩ := x_o
    have ⟨x_z_0, x_z_1, x_z_2, x_z_3⟩ := x_z
    go_wp2
    exact bodyPost_ret (v := .tuple #[.agg #[.int .i64 0, .int .i64 0], .bool false]) (by simp [results, Try.results54, go_sem, *]) rfl (⟨rfl, below_put2 BB (by omega) _ _⟩)
  · skip
    cases hs : sideC s
    · skip
      have h0 := @at_no_side x y i k s hs
      obtain rfl : b = false := by rw [hb, h0]
      obtain rfl : u = 0 := hu
      obtain rfl : v = 0 := hv
      clear hb h0
      obtain ⟨W, hW, bW, x_p, x_o, x_z, sW⟩ := bs_222 w (.int .i64 x) (.int .i64 y) (.int .i64 i) (.int .i64 k) (.int .i64 0) (.int .i64 0) 32 39 32
      have zbW := bW.size
      have BB := bW
      go_enter Try.func54, Try.ntmps54
      go_wp2_with (go_at_call 65; fail)
      rw [← hW]
      clear hW
      refine (lCan x y W hc.symm).mono ?_
      rintro e w1 ⟨rfl, bw1⟩
      have zbw1 := bw1.size
      replace BB := also BB bw1
      replace x_p := x_p.on bw1
      replace x_o := x_o.on bw1
      replace x_z := x_z.on bw1
      have ⟨x_p_0, x_p_1, x_p_2, x_p_3⟩ := x_p
      have ⟨x_o_0, x_o_1, x_o_2, x_o_3⟩ := x_o
      have ⟨x_z_0, x_z_1, x_z_2, x_z_3⟩ := x_z
      go_wp2_with (go_at_call 66; fail)
      refine (lSide s w1 hs.symm).mono ?_
      rintro e w2 ⟨rfl, bw2⟩
      clear x_p_0 x_p_1 x_p_2 x_p_3 x_o_0 x_o_1 x_o_2 x_o_3 x_z_0 x_z_1 x_z_2 x_z_3
      have zbw2 := bw2.size
      replace BB := also BB bw2
      replace x_p := x_p.on bw2
      replace x_o := x_o.on bw2
      replace x_z := x_z.on bw2
      have ⟨x_p_0, x_p_1, x_p_2, x_p_3⟩ := x_p
      have ⟨x_o_0, x_o_1, x_o_2, x_o_3⟩ := x_o
      have ⟨x_z_0, x_z_1, x_z_2, x_z_3⟩ := x_z
      go_wp2
      exact bodyPost_ret (v := .tuple #[.agg #[.int .i64 0, .int .i64 0], .bool false]) (by simp [results, Try.results54, go_sem, *]) rfl (⟨rfl, below_put2 BB (by omega) _ _⟩)
    · skip
      cases hr : reachC i s
      · skip
        have h0 := @at_no_right x y i k s hs hr
        obtain rfl : b = false := by rw [hb, h0]
        obtain rfl : u = 0 := hu
        obtain rfl : v = 0 := hv
        clear hb h0
        obtain ⟨W, hW, bW, x_p, x_o, x_z, sW⟩ := bs_222 w (.int .i64 x) (.int .i64 y) (.int .i64 i) (.int .i64 k) (.int .i64 0) (.int .i64 0) 32 39 32
        have zbW := bW.size
        have BB := bW
        go_enter Try.func54, Try.ntmps54
        go_wp2_with (go_at_call 65; fail)
        rw [← hW]
        clear hW
        refine (lCan x y W hc.symm).mono ?_
        rintro e w1 ⟨rfl, bw1⟩
        have zbw1 := bw1.size
        replace BB := also BB bw1
        replace x_p := x_p.on bw1
        replace x_o := x_o.on bw1
        replace x_z := x_z.on bw1
        have ⟨x_p_0, x_p_1, x_p_2, x_p_3⟩ := x_p
        have ⟨x_o_0, x_o_1, x_o_2, x_o_3⟩ := x_o
        have ⟨x_z_0, x_z_1, x_z_2, x_z_3⟩ := x_z
        go_wp2_with (go_at_call 66; fail)
        refine (lSide s w1 hs.symm).mono ?_
        rintro e w2 ⟨rfl, bw2⟩
        clear x_p_0 x_p_1 x_p_2 x_p_3 x_o_0 x_o_1 x_o_2 x_o_3 x_z_0 x_z_1 x_z_2 x_z_3
        have zbw2 := bw2.size
        replace BB := also BB bw2
        replace x_p := x_p.on bw2
        replace x_o := x_o.on bw2
        replace x_z := x_z.on bw2
        have ⟨x_p_0, x_p_1, x_p_2, x_p_3⟩ := x_p
        have ⟨x_o_0, x_o_1, x_o_2, x_o_3⟩ := x_o
        have ⟨x_z_0, x_z_1, x_z_2, x_z_3⟩ := x_z
        go_wp2_with (go_at_call 67; fail)
        refine (lReach i s w2 hs hr.symm).mono ?_
        rintro e w3 ⟨rfl, bw3⟩
        clear x_p_0 x_p_1 x_p_2 x_p_3 x_o_0 x_o_1 x_o_2 x_o_3 x_z_0 x_z_1 x_z_2 x_z_3
        have zbw3 := bw3.size
        replace BB := also BB bw3
        replace x_p := x_p.on bw3
        replace x_o := x_o.on bw3
        replace x_z := x_z.on bw3
        have ⟨x_p_0, x_p_1, x_p_2, x_p_3⟩ := x_p
        have ⟨x_o_0, x_o_1, x_o_2, x_o_3⟩ := x_o
        have ⟨x_z_0, x_z_1, x_z_2, x_z_3⟩ := x_z
        go_wp2
        exact bodyPost_ret (v := .tuple #[.agg #[.int .i64 0, .int .i64 0], .bool false]) (by simp [results, Try.results54, go_sem, *]) rfl (⟨rfl, below_put2 BB (by omega) _ _⟩)
      · skip
        cases ht : reachC k s
        · skip
          have h0 := @at_no_up x y i k s hs ht
          obtain rfl : b = false := by rw [hb, h0]
          obtain rfl : u = 0 := hu
          obtain rfl : v = 0 := hv
          clear hb h0
          obtain ⟨W, hW, bW, x_p, x_o, x_z, sW⟩ := bs_222 w (.int .i64 x) (.int .i64 y) (.int .i64 i) (.int .i64 k) (.int .i64 0) (.int .i64 0) 32 39 32
          have zbW := bW.size
          have BB := bW
          go_enter Try.func54, Try.ntmps54
          go_wp2_with (go_at_call 65; fail)
          rw [← hW]
          clear hW
          refine (lCan x y W hc.symm).mono ?_
          rintro e w1 ⟨rfl, bw1⟩
          have zbw1 := bw1.size
          replace BB := also BB bw1
          replace x_p := x_p.on bw1
          replace x_o := x_o.on bw1
          replace x_z := x_z.on bw1
          have ⟨x_p_0, x_p_1, x_p_2, x_p_3⟩ := x_p
          have ⟨x_o_0, x_o_1, x_o_2, x_o_3⟩ := x_o
          have ⟨x_z_0, x_z_1, x_z_2, x_z_3⟩ := x_z
          go_wp2_with (go_at_call 66; fail)
          refine (lSide s w1 hs.symm).mono ?_
          rintro e w2 ⟨rfl, bw2⟩
          clear x_p_0 x_p_1 x_p_2 x_p_3 x_o_0 x_o_1 x_o_2 x_o_3 x_z_0 x_z_1 x_z_2 x_z_3
          have zbw2 := bw2.size
          replace BB := also BB bw2
          replace x_p := x_p.on bw2
          replace x_o := x_o.on bw2
          replace x_z := x_z.on bw2
          have ⟨x_p_0, x_p_1, x_p_2, x_p_3⟩ := x_p
          have ⟨x_o_0, x_o_1, x_o_2, x_o_3⟩ := x_o
          have ⟨x_z_0, x_z_1, x_z_2, x_z_3⟩ := x_z
          go_wp2_with (go_at_call 67; fail)
          refine (lReach i s w2 hs hr.symm).mono ?_
          rintro e w3 ⟨rfl, bw3⟩
          clear x_p_0 x_p_1 x_p_2 x_p_3 x_o_0 x_o_1 x_o_2 x_o_3 x_z_0 x_z_1 x_z_2 x_z_3
          have zbw3 := bw3.size
          replace BB := also BB bw3
          replace x_p := x_p.on bw3
          replace x_o := x_o.on bw3
          replace x_z := x_z.on bw3
          have ⟨x_p_0, x_p_1, x_p_2, x_p_3⟩ := x_p
          have ⟨x_o_0, x_o_1, x_o_2, x_o_3⟩ := x_o
          have ⟨x_z_0, x_z_1, x_z_2, x_z_3⟩ := x_z
          go_wp2_with (go_at_call 67; fail)
          refine (lReach k s w3 hs ht.symm).mono ?_
          rintro e w4 ⟨rfl, bw4⟩
          clear x_p_0 x_p_1 x_p_2 x_p_3 x_o_0 x_o_1 x_o_2 x_o_3 x_z_0 x_z_1 x_z_2 x_z_3
          have zbw4 := bw4.size
          replace BB := also BB bw4
          replace x_p := x_p.on bw4
          replace x_o := x_o.on bw4
          replace x_z := x_z.on bw4
          have ⟨x_p_0, x_p_1, x_p_2, x_p_3⟩ := x_p
          have ⟨x_o_0, x_o_1, x_o_2, x_o_3⟩ := x_o
          have ⟨x_z_0, x_z_1, x_z_2, x_z_3⟩ := x_z
          go_wp2
          exact bodyPost_ret (v := .tuple #[.agg #[.int .i64 0, .int .i64 0], .bool false]) (by simp [results, Try.results54, go_sem, *]) rfl (⟨rfl, below_put2 BB (by omega) _ _⟩)
        · skip
          cases hq : canC (x + i * s) (y + k * s)
          · skip
            have h0 := @at_no_there x y i k s hq
            obtain rfl : b = false := by rw [hb, h0]
            obtain rfl : u = 0 := hu
            obtain rfl : v = 0 := hv
            clear hb h0
            obtain ⟨p1, p2⟩ := reach_prod hs hr
            obtain ⟨p3, p4⟩ := reach_prod hs ht
            obtain ⟨c1, c2⟩ := inC_true.1 (canC_true.1 hc).1
            obtain ⟨c3, c4⟩ := inC_true.1 (canC_true.1 hc).2
            obtain ⟨u, hu⟩ : ∃ u, u = x + i * s := ⟨_, rfl⟩
            obtain ⟨v, hv⟩ : ∃ v, v = y + k * s := ⟨_, rfl⟩
            rw [← hu, ← hv] at hq
            obtain ⟨P, hP⟩ : ∃ P, P = i * s := ⟨_, rfl⟩
            obtain ⟨R, hR⟩ : ∃ R, R = k * s := ⟨_, rfl⟩
            rw [← hP] at p1 p2 hu
            rw [← hR] at p3 p4 hv
            have hw1 : wrap64 (i * s) = P := by rw [← hP]; exact wrap_in (by omega) (by omega)
            have hw2 : wrap64 (k * s) = R := by rw [← hR]; exact wrap_in (by omega) (by omega)
            have hw3 : wrap64 (x + P) = u := by rw [hu]; exact wrap_in (by omega) (by omega)
            have hw4 : wrap64 (y + R) = v := by rw [hv]; exact wrap_in (by omega) (by omega)
            clear hP hR hu hv p1 p2 p3 p4 c1 c2 c3 c4
            obtain ⟨W, hW, bW, x_p, x_o, x_z, sW⟩ := bs_222 w (.int .i64 x) (.int .i64 y) (.int .i64 i) (.int .i64 k) (.int .i64 0) (.int .i64 0) 32 39 32
            have zbW := bW.size
            have BB := bW
            go_enter Try.func54, Try.ntmps54
            go_wp2_with (go_at_call 65; fail)
            rw [← hW]
            clear hW
            refine (lCan x y W hc.symm).mono ?_
            rintro e w1 ⟨rfl, bw1⟩
            have zbw1 := bw1.size
            replace BB := also BB bw1
            replace x_p := x_p.on bw1
            replace x_o := x_o.on bw1
            replace x_z := x_z.on bw1
            have ⟨x_p_0, x_p_1, x_p_2, x_p_3⟩ := x_p
            have ⟨x_o_0, x_o_1, x_o_2, x_o_3⟩ := x_o
            have ⟨x_z_0, x_z_1, x_z_2, x_z_3⟩ := x_z
            go_wp2_with (go_at_call 66; fail)
            refine (lSide s w1 hs.symm).mono ?_
            rintro e w2 ⟨rfl, bw2⟩
            clear x_p_0 x_p_1 x_p_2 x_p_3 x_o_0 x_o_1 x_o_2 x_o_3 x_z_0 x_z_1 x_z_2 x_z_3
            have zbw2 := bw2.size
            replace BB := also BB bw2
            replace x_p := x_p.on bw2
            replace x_o := x_o.on bw2
            replace x_z := x_z.on bw2
            have ⟨x_p_0, x_p_1, x_p_2, x_p_3⟩ := x_p
            have ⟨x_o_0, x_o_1, x_o_2, x_o_3⟩ := x_o
            have ⟨x_z_0, x_z_1, x_z_2, x_z_3⟩ := x_z
            go_wp2_with (go_at_call 67; fail)
            refine (lReach i s w2 hs hr.symm).mono ?_
            rintro e w3 ⟨rfl, bw3⟩
            clear x_p_0 x_p_1 x_p_2 x_p_3 x_o_0 x_o_1 x_o_2 x_o_3 x_z_0 x_z_1 x_z_2 x_z_3
            have zbw3 := bw3.size
            replace BB := also BB bw3
            replace x_p := x_p.on bw3
            replace x_o := x_o.on bw3
            replace x_z := x_z.on bw3
            have ⟨x_p_0, x_p_1, x_p_2, x_p_3⟩ := x_p
            have ⟨x_o_0, x_o_1, x_o_2, x_o_3⟩ := x_o
            have ⟨x_z_0, x_z_1, x_z_2, x_z_3⟩ := x_z
            go_wp2_with (go_at_call 67; fail)
            refine (lReach k s w3 hs ht.symm).mono ?_
            rintro e w4 ⟨rfl, bw4⟩
            clear x_p_0 x_p_1 x_p_2 x_p_3 x_o_0 x_o_1 x_o_2 x_o_3 x_z_0 x_z_1 x_z_2 x_z_3
            have zbw4 := bw4.size
            replace BB := also BB bw4
            replace x_p := x_p.on bw4
            replace x_o := x_o.on bw4
            replace x_z := x_z.on bw4
            have ⟨x_p_0, x_p_1, x_p_2, x_p_3⟩ := x_p
            have ⟨x_o_0, x_o_1, x_o_2, x_o_3⟩ := x_o
            have ⟨x_z_0, x_z_1, x_z_2, x_z_3⟩ := x_z
            obtain ⟨V, hV, bV, x_q, sV⟩ := bs_2 w4 (.int .i64 u) (.int .i64 v) 32
            have zbV := bV.size
            replace BB := also BB bV
            replace x_p := x_p.on bV
            replace x_o := x_o.on bV
            replace x_z := x_z.on bV
            go_wp2_with (go_at_call 65; fail)
            rw [← hV]
            clear hV
            refine (lCan u v V hq.symm).mono ?_
            rintro e w5 ⟨rfl, bw5⟩
            clear x_p_0 x_p_1 x_p_2 x_p_3 x_o_0 x_o_1 x_o_2 x_o_3 x_z_0 x_z_1 x_z_2 x_z_3
            have zbw5 := bw5.size
            replace BB := also BB bw5
            replace x_p := x_p.on bw5
            replace x_o := x_o.on bw5
            replace x_z := x_z.on bw5
            replace x_q := x_q.on bw5
            have ⟨x_z_0, x_z_1, x_z_2, x_z_3⟩ := x_z
            have ⟨x_q_0, x_q_1, x_q_2, x_q_3⟩ := x_q
            go_wp2
            exact bodyPost_ret (v := .tuple #[.agg #[.int .i64 0, .int .i64 0], .bool false]) (by simp [results, Try.results54, go_sem, *]) rfl (⟨rfl, below_put2 BB (by omega) _ _⟩)
          · skip
            have h0 := @at_yes x y i k s hc hs hq
            obtain rfl : b = true := by rw [hb, h0]
            replace hu : u = x + i * s := hu
            replace hv : v = y + k * s := hv
            clear hb h0
            obtain ⟨p1, p2⟩ := reach_prod hs hr
            obtain ⟨p3, p4⟩ := reach_prod hs ht
            obtain ⟨c1, c2⟩ := inC_true.1 (canC_true.1 hc).1
            obtain ⟨c3, c4⟩ := inC_true.1 (canC_true.1 hc).2
            rw [← hu, ← hv] at hq
            obtain ⟨P, hP⟩ : ∃ P, P = i * s := ⟨_, rfl⟩
            obtain ⟨R, hR⟩ : ∃ R, R = k * s := ⟨_, rfl⟩
            rw [← hP] at p1 p2 hu
            rw [← hR] at p3 p4 hv
            have hw1 : wrap64 (i * s) = P := by rw [← hP]; exact wrap_in (by omega) (by omega)
            have hw2 : wrap64 (k * s) = R := by rw [← hR]; exact wrap_in (by omega) (by omega)
            have hw3 : wrap64 (x + P) = u := by rw [hu]; exact wrap_in (by omega) (by omega)
            have hw4 : wrap64 (y + R) = v := by rw [hv]; exact wrap_in (by omega) (by omega)
            clear hP hR hu hv p1 p2 p3 p4 c1 c2 c3 c4
            obtain ⟨W, hW, bW, x_p, x_o, x_z, sW⟩ := bs_222 w (.int .i64 x) (.int .i64 y) (.int .i64 i) (.int .i64 k) (.int .i64 0) (.int .i64 0) 32 39 32
            have zbW := bW.size
            have BB := bW
            go_enter Try.func54, Try.ntmps54
            go_wp2_with (go_at_call 65; fail)
            rw [← hW]
            clear hW
            refine (lCan x y W hc.symm).mono ?_
            rintro e w1 ⟨rfl, bw1⟩
            have zbw1 := bw1.size
            replace BB := also BB bw1
            replace x_p := x_p.on bw1
            replace x_o := x_o.on bw1
            replace x_z := x_z.on bw1
            have ⟨x_p_0, x_p_1, x_p_2, x_p_3⟩ := x_p
            have ⟨x_o_0, x_o_1, x_o_2, x_o_3⟩ := x_o
            have ⟨x_z_0, x_z_1, x_z_2, x_z_3⟩ := x_z
            go_wp2_with (go_at_call 66; fail)
            refine (lSide s w1 hs.symm).mono ?_
            rintro e w2 ⟨rfl, bw2⟩
            clear x_p_0 x_p_1 x_p_2 x_p_3 x_o_0 x_o_1 x_o_2 x_o_3 x_z_0 x_z_1 x_z_2 x_z_3
            have zbw2 := bw2.size
            replace BB := also BB bw2
            replace x_p := x_p.on bw2
            replace x_o := x_o.on bw2
            replace x_z := x_z.on bw2
            have ⟨x_p_0, x_p_1, x_p_2, x_p_3⟩ := x_p
            have ⟨x_o_0, x_o_1, x_o_2, x_o_3⟩ := x_o
            have ⟨x_z_0, x_z_1, x_z_2, x_z_3⟩ := x_z
            go_wp2_with (go_at_call 67; fail)
            refine (lReach i s w2 hs hr.symm).mono ?_
            rintro e w3 ⟨rfl, bw3⟩
            clear x_p_0 x_p_1 x_p_2 x_p_3 x_o_0 x_o_1 x_o_2 x_o_3 x_z_0 x_z_1 x_z_2 x_z_3
            have zbw3 := bw3.size
            replace BB := also BB bw3
            replace x_p := x_p.on bw3
            replace x_o := x_o.on bw3
            replace x_z := x_z.on bw3
            have ⟨x_p_0, x_p_1, x_p_2, x_p_3⟩ := x_p
            have ⟨x_o_0, x_o_1, x_o_2, x_o_3⟩ := x_o
            have ⟨x_z_0, x_z_1, x_z_2, x_z_3⟩ := x_z
            go_wp2_with (go_at_call 67; fail)
            refine (lReach k s w3 hs ht.symm).mono ?_
            rintro e w4 ⟨rfl, bw4⟩
            clear x_p_0 x_p_1 x_p_2 x_p_3 x_o_0 x_o_1 x_o_2 x_o_3 x_z_0 x_z_1 x_z_2 x_z_3
            have zbw4 := bw4.size
            replace BB := also BB bw4
            replace x_p := x_p.on bw4
            replace x_o := x_o.on bw4
            replace x_z := x_z.on bw4
            have ⟨x_p_0, x_p_1, x_p_2, x_p_3⟩ := x_p
            have ⟨x_o_0, x_o_1, x_o_2, x_o_3⟩ := x_o
            have ⟨x_z_0, x_z_1, x_z_2, x_z_3⟩ := x_z
            obtain ⟨V, hV, bV, x_q, sV⟩ := bs_2 w4 (.int .i64 u) (.int .i64 v) 32
            have zbV := bV.size
            replace BB := also BB bV
            replace x_p := x_p.on bV
            replace x_o := x_o.on bV
            replace x_z := x_z.on bV
            go_wp2_with (go_at_call 65; fail)
            rw [← hV]
            clear hV
            refine (lCan u v V hq.symm).mono ?_
            rintro e w5 ⟨rfl, bw5⟩
            clear x_p_0 x_p_1 x_p_2 x_p_3 x_o_0 x_o_1 x_o_2 x_o_3 x_z_0 x_z_1 x_z_2 x_z_3
            have zbw5 := bw5.size
            replace BB := also BB bw5
            replace x_p := x_p.on bw5
            replace x_o := x_o.on bw5
            replace x_z := x_z.on bw5
            replace x_q := x_q.on bw5
            have ⟨x_z_0, x_z_1, x_z_2, x_z_3⟩ := x_z
            have ⟨x_q_0, x_q_1, x_q_2, x_q_3⟩ := x_q
            go_wp2
            exact bodyPost_ret (v := .tuple #[.agg #[.int .i64 u, .int .i64 v], .bool true]) (by simp [results, Try.results54, go_sem, *]) rfl (⟨rfl, below_put2 BB (by omega) _ _⟩)
end Go.Proofs.Ytjdeehffbgpenaa

namespace Go.Proofs.Ytjdeehffbgpenaa.hf
open Go.RowKit

/-- Digit i of v, to the base 65536 (of a number below nought: of v modulo as many digits as you like). -/
def dg (v : Int) (i : Nat) : Int := v / 65536 ^ i % 65536
def dcells (n : Nat) (v : Int) : List Value := (List.range n).map fun j => .int .i64 (dg v j)
end Go.Proofs.Ytjdeehffbgpenaa.hf

namespace Go.Proofs.Ytjdeehffbgpenaa.hf
open Go.RowKit
set_option linter.unusedVariables false

/-- v needs n digits: none for nought. -/
def IsLen (v n : Nat) : Prop := v < 65536 ^ n ∧ (n = 0 ∨ 65536 ^ (n - 1) ≤ v)
theorem isLen_one {v n m : Nat} (h : IsLen v n) (h' : IsLen v m) : n = m := by
  obtain ⟨a, b⟩ := h
  obtain ⟨a', b'⟩ := h'
  rcases Nat.lt_trichotomy n m with e | e | e
  · rcases b' with b' | b'
    · omega
    · have := Nat.pow_le_pow_right (n := 65536) (by decide) (show n ≤ m - 1 by omega)
      omega
  · exact e
  · rcases b with b | b
    · omega
    · have := Nat.pow_le_pow_right (n := 65536) (by decide) (show m ≤ n - 1 by omega)
      omega
/-- A number below 65536^n has a length of n at most, and is found by cutting noughts off the end. -/
theorem isLen_cut : ∀ (n v : Nat), v < 65536 ^ n → ∃ m, m ≤ n ∧ IsLen v m
  | 0, v, h => ⟨0, Nat.le_refl _, h, Or.inl rfl⟩
  | n + 1, v, h => by
    by_cases c : v < 65536 ^ n
    · obtain ⟨m, h1, h2⟩ := isLen_cut n v c
      exact ⟨m, by omega, h2⟩
    · exact ⟨n + 1, Nat.le_refl _, h, Or.inr (by simp; omega)⟩
/-- How many digits v needs. -/
def nlen (v : Nat) : Nat := if h : v = 0 then 0 else nlen (v / 65536) + 1
  termination_by v
  decreasing_by exact Nat.div_lt_self (Nat.pos_of_ne_zero h) (by decide)
theorem nlen_is (v : Nat) : IsLen v (nlen v) := by
  induction v using Nat.strongRecOn with
  | ind v ih =>
    unfold nlen
    split
    · rename_i h
      rw [h]
      exact ⟨by decide, Or.inl rfl⟩
    · rename_i h
      obtain ⟨h1, h2⟩ := ih (v / 65536) (Nat.div_lt_self (Nat.pos_of_ne_zero h) (by decide))
      refine ⟨?_, Or.inr ?_⟩
      · rw [Nat.pow_succ]
        exact (Nat.div_lt_iff_lt_mul (by decide)).1 h1
      · rw [Nat.add_sub_cancel]
        rcases h2 with h2 | h2
        · rw [h2]
          exact Nat.pos_of_ne_zero h
        · rcases Nat.eq_zero_or_pos (nlen (v / 65536)) with h3 | h3
          · rw [h3]
            exact Nat.pos_of_ne_zero h
          · have h4 := (Nat.le_div_iff_mul_le (by decide)).1 h2
            rw [← Nat.pow_succ] at h4
            rwa [show (nlen (v / 65536) - 1).succ = nlen (v / 65536) by omega] at h4
theorem nlen_eq {v n : Nat} (h : IsLen v n) : nlen v = n := isLen_one (nlen_is v) h
theorem nlen_le {v n : Nat} (h : v < 65536 ^ n) : nlen v ≤ n := by
  obtain ⟨m, h1, h2⟩ := isLen_cut n v h
  rw [nlen_eq h2]; exact h1
theorem nlen_zero : nlen 0 = 0 := nlen_eq ⟨by decide, Or.inl rfl⟩
theorem nlen_lt (v : Nat) : v < 65536 ^ nlen v := (nlen_is v).1
theorem nlen_pos {v : Nat} (h : 0 < v) : 0 < nlen v := by
  rcases Nat.lt_or_ge 0 (nlen v) with l | l
  · exact l
  · have := nlen_lt v
    rw [show nlen v = 0 by omega] at this
    simp at this
    omega
end Go.Proofs.Ytjdeehffbgpenaa.hf

namespace Go.Proofs.Ytjdeehffbgpenaa.hf
open Go.RowKit
set_option linter.unusedVariables false

/-- The borrow, under a name. -/
def bor (x y : Int) : Int := if x < y then 1 else 0
end Go.Proofs.Ytjdeehffbgpenaa.hf

namespace Go.Proofs.Ytjdeehffbgpenaa.hf
set_option linter.unusedVariables false

/-- What stands below place i + k, and over it, when k digits of y have been taken times digit i of x. -/
def tk (O xi y : Int) (i k : Nat) : Int := O % 65536 ^ (i + k) + xi * 65536 ^ i * (y % 65536 ^ k)
def cy (O xi y : Int) (i k : Nat) : Int := tk O xi y i k / 65536 ^ (i + k)
end Go.Proofs.Ytjdeehffbgpenaa.hf

namespace Go.Proofs.Ytjdeehffbgpenaa.hf
open Go.RowKit
set_option linter.unusedVariables false

theorem dcells_take (n m : Nat) (v : Int) (h : m ≤ n) : (dcells n v).take m = dcells m v := by
  unfold dcells
  rw [← List.map_take, List.take_range, Nat.min_eq_left h]
end Go.Proofs.Ytjdeehffbgpenaa.hf

namespace Go.Proofs.Ytjdeehffbgpenaa
open Go.RowKit
set_option linter.unusedVariables false

end Go.Proofs.Ytjdeehffbgpenaa

namespace Go.Proofs.Ytjdeehffbgpenaa
open Go.RowKit
set_option linter.unusedVariables false

end Go.Proofs.Ytjdeehffbgpenaa

namespace Go.Proofs.Ytjdeehffbgpenaa
open Go.RowKit
set_option linter.unusedVariables false

end Go.Proofs.Ytjdeehffbgpenaa

namespace Go.Proofs.Ytjdeehffbgpenaa
open Go.RowKit
set_option linter.unusedVariables false

end Go.Proofs.Ytjdeehffbgpenaa

namespace Go.Proofs.Ytjdeehffbgpenaa
open Go.RowKit
set_option linter.unusedVariables false

end Go.Proofs.Ytjdeehffbgpenaa

namespace Go.Proofs.Ytjdeehffbgpenaa
open Go.RowKit
set_option linter.unusedVariables false

/-- The slice is the digits of the number u. -/
structure HD (w : World) (a : Option Addr) (l c u : Nat) : Prop where
  sl : Sl w a l c (hf.dcells l (u : Int))
  len : l = hf.nlen u
theorem HD.below {w w' : World} {a : Option Addr} {l c u : Nat} (h : HD w a l c u) (hb : Below w.heap.size w w') : HD w' a l c u := ⟨h.sl.below hb, h.len⟩
end Go.Proofs.Ytjdeehffbgpenaa

namespace Go.Proofs.Ytjdeehffbgpenaa
open Go.RowKit
set_option linter.unusedVariables false

theorem HD.put {w : World} {a : Option Addr} {l c u b : Nat} (h : HD w a l c u) (hn : NA b a l) (i : Nat) (v : Value) : HD (w.setCell ⟨b, i, none⟩ v) a l c u := ⟨h.sl.put hn i v, h.len⟩
end Go.Proofs.Ytjdeehffbgpenaa

namespace Go.Proofs.Ytjdeehffbgpenaa
open Go.RowKit
set_option linter.unusedVariables false

/-- A whole number as a sign and digits. -/
structure RN (w : World) (s : Int) (d : Option Addr) (l c : Nat) (z : Int) : Prop where
  hd : HD w d l c z.natAbs
  sg : s = z.sign
theorem RN.below {w w' : World} {s : Int} {d : Option Addr} {l c : Nat} {z : Int} (h : RN w s d l c z) (hb : Below w.heap.size w w') : RN w' s d l c z := ⟨h.hd.below hb, h.sg⟩
theorem RN.put {w : World} {s : Int} {d : Option Addr} {l c b : Nat} {z : Int} (h : RN w s d l c z) (hn : NA b d l) (i : Nat) (v : Value) : RN (w.setCell ⟨b, i, none⟩ v) s d l c z := ⟨h.hd.put hn i v, h.sg⟩
theorem HD.pos {w : World} {d : Option Addr} {l c u : Nat} (h : HD w d l c u) : l = 0 ↔ u = 0 := by
  rw [h.len]
  constructor
  · intro e
    rcases Nat.eq_zero_or_pos u with z | z
    · exact z
    · have := hf.nlen_pos z; omega
  · rintro rfl; exact hf.nlen_zero
end Go.Proofs.Ytjdeehffbgpenaa

namespace Go.Proofs.Ytjdeehffbgpenaa
open Go.RowKit
set_option linter.unusedVariables false

end Go.Proofs.Ytjdeehffbgpenaa

namespace Go.Proofs.Ytjdeehffbgpenaa
open Go.RowKit
set_option linter.unusedVariables false

end Go.Proofs.Ytjdeehffbgpenaa

namespace Go.Proofs.Ytjdeehffbgpenaa
open Go.RowKit
set_option linter.unusedVariables false

end Go.Proofs.Ytjdeehffbgpenaa

namespace Go.Proofs.Ytjdeehffbgpenaa
open Go.RowKit
set_option linter.unusedVariables false

end Go.Proofs.Ytjdeehffbgpenaa

namespace Go.Proofs.Ytjdeehffbgpenaa
open Go.RowKit
set_option linter.unusedVariables false

end Go.Proofs.Ytjdeehffbgpenaa

namespace Go.Proofs.Ytjdeehffbgpenaa
open Go.RowKit
set_option linter.unusedVariables false

/-- A number of 64 bits. -/
abbrev In64 (x : Int) : Prop := -9223372036854775808 ≤ x ∧ x ≤ 9223372036854775807
structure Tr64 (t : Tr) : Prop where
  v : ∀ i, In64 (t.v i)
  x : ∀ i, In64 (t.x i)
  y : ∀ i, In64 (t.y i)

end Go.Proofs.Ytjdeehffbgpenaa

namespace Go.Proofs.Ytjdeehffbgpenaa
open Go.RowKit
set_option linter.unusedVariables false

end Go.Proofs.Ytjdeehffbgpenaa

namespace Go.Proofs.Ytjdeehffbgpenaa
open Go.RowKit
set_option linter.unusedVariables false

theorem infoV : (Try.prog.info? 44).map (fun i => (i.zero, i.size, i.bytes)) = some (some (.agg #[.int .i64 0, .int .i64 0, .int .i64 0, .int .i64 0]), 4, 32) := by kernel_rfl
theorem infoC : (Try.prog.info? 72).map (fun i => (i.zero, i.size, i.bytes)) = some (some (.agg #[.int .i64 0, .int .i64 0, .int .i64 0, .int .i64 0, .int .i64 0, .int .i64 0, .int .i64 0, .int .i64 0, .int .i64 0, .int .i64 0]), 10, 80) := by kernel_rfl
end Go.Proofs.Ytjdeehffbgpenaa
