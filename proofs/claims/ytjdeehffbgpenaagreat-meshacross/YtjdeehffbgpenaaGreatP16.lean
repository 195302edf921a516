/-
  Joined texts, part 16:
  The landed mesh's Dump.
  The landed mesh's area2, Check.
  The landed mesh's Check.
  slices.Sorted(maps.Keys(m)) at a map[int]struct{}: the library's contracts laid over this dump (their tables: the kit's own laying command, printed plain, numbers turned into names), and what they tell together.
  The landed mesh's Around: the keys of a vertex's map of faces, sorted.
  The landed mesh does what a mesh must do.
-/
import Derived.Test.YtjdeehffbgpenaaGreatP15
import Derived.Shelf.SlIterI.Nil
import Derived.Shelf.SortM.Plain
import Derived.Shelf.SortM.SortNone
import Derived.Ground.GgzProg
import Derived.Ground.SlgmProg
import Derived.Shelf.AbstractIn
namespace Go.Proofs.YtjdeehffbgpenaaGreat
open Go.RowKit Go.Maps
set_option linter.unusedVariables false

set_option maxRecDepth 100000 in
theorem mTellV (base p : Nat) (X : Mx) (S : Ms) (m : Nat) (F : Nat → Prop) (w : World) (h : MeI base p X F w) (hS : MeOk X S) (hk : MsOk S m) (B : Nat) (R : Row w B [ptR p]) (a : Vt) (ha : a ∈ S.V) :
    Calls Tryz.prog 30 #[.int .i64 a.no, ptR B] w fun e w' => e = .returned (.agg (vtC a).toArray) ∧ Below w.heap.size w w' := by
  obtain ⟨g, k, hXa, hg, hak, hkn, hcap, hc⟩ := h.vcell hS hk ha
  obtain ⟨W, hW⟩ : ∃ W, W = w.alloc (.cells #[.int .i64 0, .int .i64 0, .int .i64 0, .int .i64 0] 43) := ⟨_, rfl⟩
  have BW : Below w.heap.size w W := by rw [hW]; exact (Below.refl _ _).alloc (Nat.le_refl _) _
  have R0 : Row W w.heap.size [.int .i64 0, .int .i64 0, .int .i64 0, .int .i64 0] := by rw [hW]; exact Row.new w [.int .i64 0, .int .i64 0, .int .i64 0, .int .i64 0] _
  have hW' := hW.symm
  have q3 := (h.below BW).row.cell 3 _ rfl
  rw [hXa] at q3
  have rb := (R.below BW R.lt).cell 0 _ rfl
  have u0 := (BW.cell (p := ⟨g, k * 5, none⟩) hg).trans (hc 0 _ rfl).1
  have u1 := (BW.cell (p := ⟨g, k * 5 + 1, none⟩) hg).trans (hc 1 _ rfl).1
  have u2 := (BW.cell (p := ⟨g, k * 5 + 2, none⟩) hg).trans (hc 2 _ rfl).1
  have u3 := (BW.cell (p := ⟨g, k * 5 + 3, none⟩) hg).trans (hc 3 _ rfl).1
  obtain ⟨nv, hnv⟩ : ∃ v, v = X.nv := ⟨_, rfl⟩
  obtain ⟨ca, hca⟩ : ∃ v, v = X.ca := ⟨_, rfl⟩
  rw [← hnv, ← hca] at q3
  rw [← hnv] at hkn
  have hlt : (k : Int) < (nv : Int) := by omega
  obtain ⟨a0, a1, a2, a3⟩ := a
  replace hak : a0 = (k : Int) := hak
  subst hak
  have c0 := R0.cell 0 _ rfl
  have c1 := R0.cell 1 _ rfl
  have c2 := R0.cell 2 _ rfl
  have c3 := R0.cell 3 _ rfl
  have f0 := R0.free 0 (by simp)
  have f1 := R0.free 1 (by simp)
  have f2 := R0.free 2 (by simp)
  have f3 := R0.free 3 (by simp)
  clear hW h hS hk hc hXa hnv hca ha hcap R
  go_enter Tryz.func30, Tryz.ntmps30
  go_wp2
  have R2 := (((R0.set 0 (.int .i64 (k : Int)) (by simp)).set 1 (.int .i64 a1) (by simp)).set 2 (.int .i64 a2) (by simp)).set 3 (.int .i64 a3) (by simp)
  have d0 := R2.cell 0 _ rfl
  have d1 := R2.cell 1 _ rfl
  have d2 := R2.cell 2 _ rfl
  have d3 := R2.cell 3 _ rfl
  refine bodyPost_ret (v := .agg #[.int .i64 (k : Int), .int .i64 a1, .int .i64 a2, .int .i64 a3]) (by simp [results, Tryz.results30, go_sem, *]) rfl ?_
  exact ⟨rfl, (((BW.setCell (Nat.le_refl _) _).setCell (Nat.le_refl _) _).setCell (Nat.le_refl _) _).setCell (Nat.le_refl _) _⟩

set_option maxRecDepth 100000 in
theorem mTellC (base p : Nat) (X : Mx) (S : Ms) (m : Nat) (F : Nat → Prop) (w : World) (h : MeI base p X F w) (hS : MeOk X S) (hk : MsOk S m) (B : Nat) (R : Row w B [ptR p]) (c : Ce) (hcm : c ∈ S.C) :
    Calls Tryz.prog 32 #[.int .i64 c.no, ptR B] w fun e w' => e = .returned (.agg (ceC c).toArray) ∧ Below w.heap.size w w' := by
  obtain ⟨g, k, hXb, hg, hak, hkn, hcap, hc⟩ := h.fcell hS hk hcm
  obtain ⟨W, hW⟩ : ∃ W, W = w.alloc (.cells #[.int .i64 0, .int .i64 0, .int .i64 0, .int .i64 0, .int .i64 0, .int .i64 0, .int .i64 0, .int .i64 0, .int .i64 0, .int .i64 0] 65) := ⟨_, rfl⟩
  have BW : Below w.heap.size w W := by rw [hW]; exact (Below.refl _ _).alloc (Nat.le_refl _) _
  have R0 : Row W w.heap.size [.int .i64 0, .int .i64 0, .int .i64 0, .int .i64 0, .int .i64 0, .int .i64 0, .int .i64 0, .int .i64 0, .int .i64 0, .int .i64 0] := by rw [hW]; exact Row.new w [.int .i64 0, .int .i64 0, .int .i64 0, .int .i64 0, .int .i64 0, .int .i64 0, .int .i64 0, .int .i64 0, .int .i64 0, .int .i64 0] _
  have hW' := hW.symm
  have q4 := (h.below BW).row.cell 4 _ rfl
  rw [hXb] at q4
  have rb := (R.below BW R.lt).cell 0 _ rfl
  obtain ⟨no, t⟩ := c
  have u0 := (BW.cell (p := ⟨g, k * 9, none⟩) hg).trans (hc 0 _ rfl).1
  have u1 := (BW.cell (p := ⟨g, k * 9 + 1, none⟩) hg).trans (hc 1 _ rfl).1
  have u2 := (BW.cell (p := ⟨g, k * 9 + 2, none⟩) hg).trans (hc 2 _ rfl).1
  have u3 := (BW.cell (p := ⟨g, k * 9 + 3, none⟩) hg).trans (hc 3 _ rfl).1
  have u4 := (BW.cell (p := ⟨g, k * 9 + 4, none⟩) hg).trans (hc 4 _ rfl).1
  have u5 := (BW.cell (p := ⟨g, k * 9 + 5, none⟩) hg).trans (hc 5 _ rfl).1
  have u6 := (BW.cell (p := ⟨g, k * 9 + 6, none⟩) hg).trans (hc 6 _ rfl).1
  have u7 := (BW.cell (p := ⟨g, k * 9 + 7, none⟩) hg).trans (hc 7 _ rfl).1
  have u8 := (BW.cell (p := ⟨g, k * 9 + 8, none⟩) hg).trans (hc 8 _ rfl).1
  obtain ⟨nf, hnf⟩ : ∃ v, v = X.nf := ⟨_, rfl⟩
  obtain ⟨cb, hcb⟩ : ∃ v, v = X.cb := ⟨_, rfl⟩
  rw [← hnf, ← hcb] at q4
  rw [← hnf] at hkn
  have hlt : (k : Int) < (nf : Int) := by omega
  replace hak : no = (k : Int) := hak
  subst hak
  have c0 := R0.cell 0 _ rfl
  have f0 := R0.free 0 (by simp)
  have c1 := R0.cell 1 _ rfl
  have f1 := R0.free 1 (by simp)
  have c2 := R0.cell 2 _ rfl
  have f2 := R0.free 2 (by simp)
  have c3 := R0.cell 3 _ rfl
  have f3 := R0.free 3 (by simp)
  have c4 := R0.cell 4 _ rfl
  have f4 := R0.free 4 (by simp)
  have c5 := R0.cell 5 _ rfl
  have f5 := R0.free 5 (by simp)
  have c6 := R0.cell 6 _ rfl
  have f6 := R0.free 6 (by simp)
  have c7 := R0.cell 7 _ rfl
  have f7 := R0.free 7 (by simp)
  have c8 := R0.cell 8 _ rfl
  have f8 := R0.free 8 (by simp)
  have c9 := R0.cell 9 _ rfl
  have f9 := R0.free 9 (by simp)
  clear hW h hS hk hc hXb hnf hcb hcm hcap R
  go_enter Tryz.func32, Tryz.ntmps32
  go_wp2
  have R2 := ((((((((((R0.set 0 (.int .i64 (k : Int)) (by simp)).set 1 (.int .i64 t.v0) (by simp)).set 2 (.int .i64 t.v1) (by simp)).set 3 (.int .i64 t.v2) (by simp)).set 4 (.int .i64 t.x0) (by simp)).set 5 (.int .i64 t.y0) (by simp)).set 6 (.int .i64 t.x1) (by simp)).set 7 (.int .i64 t.y1) (by simp)).set 8 (.int .i64 t.x2) (by simp)).set 9 (.int .i64 t.y2) (by simp))
  have d0 := R2.cell 0 _ rfl
  have d1 := R2.cell 1 _ rfl
  have d2 := R2.cell 2 _ rfl
  have d3 := R2.cell 3 _ rfl
  have d4 := R2.cell 4 _ rfl
  have d5 := R2.cell 5 _ rfl
  have d6 := R2.cell 6 _ rfl
  have d7 := R2.cell 7 _ rfl
  have d8 := R2.cell 8 _ rfl
  have d9 := R2.cell 9 _ rfl
  refine bodyPost_ret (v := .agg #[.int .i64 (k : Int), .int .i64 t.v0, .int .i64 t.v1, .int .i64 t.v2, .int .i64 t.x0, .int .i64 t.y0, .int .i64 t.x1, .int .i64 t.y1, .int .i64 t.x2, .int .i64 t.y2]) (by simp [results, Tryz.results32, go_sem, *]) rfl ?_
  exact ⟨rfl, ((((((((((BW.setCell (Nat.le_refl _) _).setCell (Nat.le_refl _) _).setCell (Nat.le_refl _) _).setCell (Nat.le_refl _) _).setCell (Nat.le_refl _) _).setCell (Nat.le_refl _) _).setCell (Nat.le_refl _) _).setCell (Nat.le_refl _) _).setCell (Nat.le_refl _) _).setCell (Nat.le_refl _) _)⟩
set_option maxRecDepth 100000 in
set_option maxHeartbeats 1000000 in
theorem mDump (base p : Nat) (X : Mx) (S : Ms) (m : Nat) (F : Nat → Prop) (w : World) (h : MeI base p X F w) (hS : MeOk X S) (hk : MsOk S m) (hm : m ≤ 1000) :
    Calls Tryz.prog 9 #[ptR p] w (GotDump w S) := by
  have hTv : X.av.T ≤ 1000 := by rw [hS.av]; have := hk.vt; omega
  have hTf : X.af.T ≤ 1000 := by rw [hS.af]; have := hk.ft; omega
  have hLv : X.av.L.length ≤ 1000 := by rw [hS.av]; have := hk.lens; omega
  have hLf : X.af.L.length ≤ 1000 := by rw [hS.af]; have := hk.lens; omega
  have hnv : S.V.map Vt.no = allN X.av.L X.av.T := by rw [hS.av]; exact vs_all hk
  have hnf : S.C.map Ce.no = allN X.af.L X.af.T := by rw [hS.af]; exact fs_all hk
  obtain ⟨W, hW⟩ : ∃ W, W = (w.alloc (.cells #[ptR p] 24)).alloc (.cells #[.int .i64 0, .slice none 0 0, .slice none 0 0] 32) := ⟨_, rfl⟩
  have BW : Below w.heap.size w W := by rw [hW]; exact ((Below.refl _ _).alloc (Nat.le_refl _) _).alloc (by simp) _
  have zW : W.heap.size = w.heap.size + 2 := by rw [hW]; simp
  have R1 : Row W w.heap.size [ptR p] := by rw [hW]; exact (Row.new w [ptR p] _).alloc _ (by simp)
  have R0 : Row W (w.heap.size + 1) [.int .i64 0, .slice none 0 0, .slice none 0 0] := by rw [hW]; have := Row.new (w.alloc (.cells #[ptR p] 24)) [.int .i64 0, .slice none 0 0, .slice none 0 0] 32; simpa using this
  have hW' := hW.symm
  have hIW := h.below BW
  have HGV : Hid (∀ w', Below W.heap.size W w' → Calls Tryz.prog 29 #[ptR X.pv, .func (.func 30) #[] #[ptR w.heap.size]] w' fun e w'' => ∃ (a : Option Addr) (c : Nat), e = .returned (.slice a S.V.length c) ∧ OwnS w'' w'.heap.size 43 4 a S.V.length c (flat vtC S.V) ∧ Below w'.heap.size w' w'') := by
    unfold Hid
    intro w' hb
    have hz := hb.size
    refine mGatherV base X.pv X.av X.Fv w' (hIW.below hb).arv hLv hTv _ w.heap.size (enters_of Tryz.func30 (by kernel_rfl) rfl) S.V hnv ?_
    intro x hx w'' hb''
    exact mTellV base p X S m F w'' ((hIW.below hb).below hb'') hS hk w.heap.size ((R1.below hb (by omega)).below hb'' (by omega)) x hx
  have HGC : Hid (∀ w', Below W.heap.size W w' → Calls Tryz.prog 31 #[ptR X.pf, .func (.func 32) #[] #[ptR w.heap.size]] w' fun e w'' => ∃ (a : Option Addr) (c : Nat), e = .returned (.slice a S.C.length c) ∧ OwnS w'' w'.heap.size 65 10 a S.C.length c (flat ceC S.C) ∧ Below w'.heap.size w' w'') := by
    unfold Hid
    intro w' hb
    have hz := hb.size
    refine mGatherC base X.pf X.af X.Ff w' (hIW.below hb).arf hLf hTf _ w.heap.size (enters_of Tryz.func32 (by kernel_rfl) rfl) S.C hnf ?_
    intro x hx w'' hb''
    exact mTellC base p X S m F w'' ((hIW.below hb).below hb'') hS hk w.heap.size ((R1.below hb (by omega)).below hb'' (by omega)) x hx
  have q0 := hIW.row.cell 0 _ rfl
  have q1 := hIW.row.cell 1 _ rfl
  have q2 := hIW.row.cell 2 _ rfl
  have r0 := R1.cell 0 _ rfl
  have lp : p < w.heap.size + 1 := by have := h.row.lt; omega
  have lb : w.heap.size < w.heap.size + 1 := by omega
  have HSN : Hid (X.n = S.n) := hS.n
  obtain ⟨n, hn⟩ : ∃ n, n = X.n := ⟨_, rfl⟩
  obtain ⟨pv, hpv⟩ : ∃ n, n = X.pv := ⟨_, rfl⟩
  obtain ⟨pf, hpf⟩ : ∃ n, n = X.pf := ⟨_, rfl⟩
  obtain ⟨lv, hlv⟩ : ∃ n, n = S.V.length := ⟨_, rfl⟩
  obtain ⟨lf, hlf⟩ : ∃ n, n = S.C.length := ⟨_, rfl⟩
  rw [← hn] at q0 HSN
  rw [← hpv] at q1 HGV
  rw [← hpf] at q2 HGC
  rw [← hlv] at HGV
  rw [← hlf] at HGC
  have HLV : Hid _ := hlv
  have HLF : Hid _ := hlf
  clear hW h hS hk hIW hn hpv hpf hnv hnf hlv hlf
  go_enter Tryz.func9, Tryz.ntmps9
  go_wp2
  clear hW'
  have HSdu : Hid (∀ w', Below (w.heap.size + 1) W w' → (fun w' => w'.cell? ⟨w.heap.size, 0, none⟩ = some (ptR p) ∧ w'.cell? ⟨p, 0, none⟩ = some (.int .i64 n) ∧ w'.cell? ⟨p, 1, none⟩ = some (ptR pv) ∧ w'.cell? ⟨p, 2, none⟩ = some (ptR pf) ∧ Below (w.heap.size + 1) W w') w') := by
    unfold Hid
    intro w' hb
    exact ⟨(hb.cell (p := ⟨w.heap.size, 0, none⟩) lb).trans r0, (hb.cell (p := ⟨p, 0, none⟩) lp).trans q0, (hb.cell (p := ⟨p, 1, none⟩) lp).trans q1, (hb.cell (p := ⟨p, 2, none⟩) lp).trans q2, hb⟩
  refine wp_region_held_drew (S := fun w' => w'.cell? ⟨w.heap.size, 0, none⟩ = some (ptR p) ∧ w'.cell? ⟨p, 0, none⟩ = some (.int .i64 n) ∧ w'.cell? ⟨p, 1, none⟩ = some (ptR pv) ∧ w'.cell? ⟨p, 2, none⟩ = some (ptR pf) ∧ Below (w.heap.size + 1) W w') (by kernel_rfl) ?_ (fun hHeld => ?_)
  · exact HSdu.out _ ((Below.refl _ _).drew)
  refine ty (i := 0) (v := ?vdu0) rfl ?hydu0 ?_
  case hydu0 => (intro w hSw; (try dsimp only at hSw); go_simp <;> with_reducible rfl)
  simp only [Act.put, ps1, ps2, ps3]
  refine ty (i := 1) (v := ?vdu1) rfl ?hydu1 ?_
  case hydu1 => (intro w hSw; (try dsimp only at hSw); go_simp <;> with_reducible rfl)
  simp only [Act.put, ps1, ps2, ps3]
  refine ty (i := 2) (v := ?vdu2) rfl ?hydu2 ?_
  case hydu2 => (intro w hSw; (try dsimp only at hSw); go_simp <;> with_reducible rfl)
  simp only [Act.put, ps1, ps2, ps3]
  refine ty (i := 3) (v := ?vdu3) rfl ?hydu3 ?_
  case hydu3 => (intro w hSw; (try dsimp only at hSw); go_simp <;> with_reducible rfl)
  simp only [Act.put, ps1, ps2, ps3]
  refine ty (i := 4) (v := ?vdu4) rfl ?hydu4 ?_
  case hydu4 => (intro w hSw; (try dsimp only at hSw); go_simp <;> with_reducible rfl)
  simp only [Act.put, ps1, ps2, ps3]
  refine ty (i := 5) (v := ?vdu5) rfl ?hydu5 ?_
  case hydu5 => (intro w hSw; (try dsimp only at hSw); go_simp <;> with_reducible rfl)
  simp only [Act.put, ps1, ps2, ps3]
  refine ty (i := 6) (v := ?vdu6) rfl ?hydu6 ?_
  case hydu6 => (intro w hSw; (try dsimp only at hSw); go_simp <;> with_reducible rfl)
  simp only [Act.put, ps1, ps2, ps3]
  refine ty (i := 7) (v := ?vdu7) rfl ?hydu7 ?_
  case hydu7 => (intro w hSw; (try dsimp only at hSw); go_simp <;> with_reducible rfl)
  simp only [Act.put, ps1, ps2, ps3]
  refine ty (i := 8) (v := ?vdu8) rfl ?hydu8 ?_
  case hydu8 => (intro w hSw; (try dsimp only at hSw); go_simp <;> with_reducible rfl)
  simp only [Act.put, ps1, ps2, ps3]
  refine ty (i := 10) (v := ?vdu10) rfl ?hydu10 ?_
  case hydu10 => (intro w hSw; (try dsimp only at hSw); go_simp <;> with_reducible rfl)
  simp only [Act.put, ps1, ps2, ps3]
  refine ty (i := 11) (v := ?vdu11) rfl ?hydu11 ?_
  case hydu11 => (intro w hSw; (try dsimp only at hSw); go_simp <;> with_reducible rfl)
  simp only [Act.put, ps1, ps2, ps3]
  refine ty (i := 12) (v := ?vdu12) rfl ?hydu12 ?_
  case hydu12 => (intro w hSw; (try dsimp only at hSw); go_simp <;> with_reducible rfl)
  simp only [Act.put, ps1, ps2, ps3]
  refine ty (i := 13) (v := ?vdu13) rfl ?hydu13 ?_
  case hydu13 => (intro w hSw; (try dsimp only at hSw); go_simp <;> with_reducible rfl)
  simp only [Act.put, ps1, ps2, ps3]
  refine ty (i := 14) (v := ?vdu14) rfl ?hydu14 ?_
  case hydu14 => (intro w hSw; (try dsimp only at hSw); go_simp <;> with_reducible rfl)
  simp only [Act.put, ps1, ps2, ps3]
  refine take_call (i := 9) rfl (by kernel_rfl) (fun Kc hK => ?_)
  go_simp
  (go_at_call 29; refine (HGV.out _ (Below.refl _ _).drew).mono ?_; rintro e w2 ⟨a2, c2, rfl, o2, b2⟩)
  refine hK.out _ _ ?_ (fun hHeld => ?_)
  · exact HSdu.out _ (hHeld.2.2.2.2.trans (b2.mono (Nat.le_trans (by omega) hHeld.2.2.2.2.size)))
  clear hK Kc
  refine take_call (i := 15) rfl (by kernel_rfl) (fun Kc hK => ?_)
  go_simp
  (go_at_call 31; refine (HGC.out _ ((Below.refl _ _).drew.trans (b2.mono (Nat.le_refl _)))).mono ?_; rintro e w3 ⟨a3, c3, rfl, o3, b3⟩)
  refine hK.out _ _ ?_ (fun hHeld => ?_)
  · exact HSdu.out _ (hHeld.2.2.2.2.trans (b3.mono (Nat.le_trans (by omega) hHeld.2.2.2.2.size)))
  clear hK Kc
  refine ty (i := 16) (v := ?vdu16) rfl ?hydu16 ?_
  case hydu16 => (intro w hSw; (try dsimp only at hSw); go_simp <;> with_reducible rfl)
  simp only [Act.put, ps1, ps2, ps3]
  have z2 := b2.size
  have z3 := b3.size
  replace R0 := ((show Row W.drew (w.heap.size + 1) [.int .i64 0, .slice none 0 0, .slice none 0 0] from R0).below b2 (by simp; omega)).below b3 (by simp at z2; omega)
  have f0 := R0.free 0 (by simp)
  have f1 := R0.free 1 (by simp)
  have f2 := R0.free 2 (by simp)
  have g0 := R0.cell 0 _ rfl
  have g1 := R0.cell 1 _ rfl
  have g2 := R0.cell 2 _ rfl
  refine take_call (i := 17) rfl (by kernel_rfl) (fun Kc hK => ?_)
  go_simp
  refine hK.out _ _ ?_ (fun hHeld => ?_)
  · exact HSdu.out _ ((((hHeld.2.2.2.2.setCell (by simp; try omega) _).setCell (by simp; try omega) _).setCell (by simp; try omega) _))
  clear hK Kc
  refine wpAnyH_done (by kernel_rfl) ?_ _
  have BF := hHeld.2.2.2.2
  have R2 := ((R0.set 0 (.int .i64 n) (by simp)).set 1 (.slice a2 lv c2) (by simp)).set 2 (.slice a3 lf c3) (by simp)
  have d0 := R2.cell 0 _ rfl
  have d1 := R2.cell 1 _ rfl
  have d2 := R2.cell 2 _ rfl
  go_wp2
  refine bodyPost_ret (v := .agg #[.int .i64 n, .slice a2 lv c2, .slice a3 lf c3]) (by simp [results, Tryz.results9, go_sem, *]) rfl ?_
  have zz2 : W.heap.size ≤ w2.heap.size := b2.size
  have o2' := OwnS.below o2 b3
  have p2 := ((o2'.put (k := w.heap.size + 1) (i := 0) (fun s => by have := (OwnS.lt o2 s).2; simp at this; omega) (.int .i64 n)).put (k := w.heap.size + 1) (i := 1) (fun s => by have := (OwnS.lt o2 s).2; simp at this; omega) (.slice a2 lv c2)).put (k := w.heap.size + 1) (i := 2) (fun s => by have := (OwnS.lt o2 s).2; simp at this; omega) (.slice a3 lf c3)
  have p3 := ((OwnS.put o3 (k := w.heap.size + 1) (i := 0) (fun s => by have := (OwnS.lt o3 s).2; omega) (.int .i64 n)).put (k := w.heap.size + 1) (i := 1) (fun s => by have := (OwnS.lt o3 s).2; omega) (.slice a2 lv c2)).put (k := w.heap.size + 1) (i := 2) (fun s => by have := (OwnS.lt o3 s).2; omega) (.slice a3 lf c3)
  have BB := BW.trans (BF.mono (Nat.le_succ _))
  rw [HLV.out] at p2 p3 BB ⊢
  rw [HLF.out] at p2 p3 BB ⊢
  rw [HSN.out] at p2 p3 BB ⊢
  exact ⟨a2, c2, a3, c3, rfl, ⟨0, p2.mono (Nat.zero_le _), p3.mono (Nat.zero_le _)⟩, BB⟩
end Go.Proofs.YtjdeehffbgpenaaGreat

namespace Go.Proofs.YtjdeehffbgpenaaGreat
open Go.RowKit Go.Maps
set_option linter.unusedVariables false

def sumK (S : Ms) (k : Nat) : Int := ((S.C.take k).map fun c => areaT S c.t).sum
theorem sumK_next {S : Ms} {k : Nat} {c : Ce} (h : S.C[k]? = some c) : sumK S (k + 1) = sumK S k + areaT S c.t := by
  unfold sumK
  rw [List.take_add_one, h]
  simp
theorem area_bound (S : Ms) {t : Tr} (h0 : plOk S t 0 = true) (h1 : plOk S t 1 = true) (h2 : plOk S t 2 = true) : -10000000000000000000000000 ≤ areaT S t ∧ areaT S t ≤ 10000000000000000000000000 := by
  rw [← pl_area h0 h1 h2]
  exact ar_wide _ _ _ _ _ _
theorem sumK_bound {S : Ms} {m : Nat} (hk : MsOk S m) (k : Nat) : -(10000000000000000000000000 * (k : Int)) ≤ sumK S k ∧ sumK S k ≤ 10000000000000000000000000 * (k : Int) := by
  induction k with
  | zero => simp [sumK]
  | succ k ih =>
    cases h : S.C[k]? with
    | none =>
      have e : sumK S (k + 1) = sumK S k := by unfold sumK; rw [List.take_add_one, h]; simp
      rw [e]
      omega
    | some c =>
      have hc := List.mem_of_getElem? h
      have := area_bound S (hk.fo c hc 0 (by omega)) (hk.fo c hc 1 (by omega)) (hk.fo c hc 2 (by omega))
      rw [sumK_next h]
      omega
theorem MeI.fcell9 {base p : Nat} {X : Mx} {F : Nat → Prop} {w : World} {S : Ms} {m : Nat} (h : MeI base p X F w) (hS : MeOk X S) (hk : MsOk S m) {c : Ce} (hc : c ∈ S.C) : ∃ (g k nf cb : Nat), w.cell? ⟨p, 4, none⟩ = some (.slice (some ⟨g, 0, none⟩) nf cb) ∧ g < w.heap.size ∧ c.no = (k : Int) ∧ k < nf ∧ ∀ j u, (trC c.t)[j]? = some u → w.cell? ⟨g, k * 9 + j, none⟩ = some u := by
  obtain ⟨g, k, hXb, hg, hak, hkn, hcap, hcc⟩ := h.fcell hS hk hc
  have q4 := h.row.cell 4 _ rfl
  rw [hXb] at q4
  exact ⟨g, k, X.nf, X.cb, q4, hg, hak, hkn, fun j u hu => (hcc j u hu).1⟩

set_option maxRecDepth 100000 in
set_option maxHeartbeats 2000000 in
theorem mArea (base p : Nat) (X : Mx) (S : Ms) (m : Nat) (F : Nat → Prop) (w : World) (h : MeI base p X F w) (hS : MeOk X S) (hk : MsOk S m) (hm : m ≤ 1000) {u v : Int} (hu : u = lw.hi (sumK S S.C.length)) (hv : v = lw.lo (sumK S S.C.length)) :
    Calls Tryz.prog 36 #[ptR p] w fun e w' => e = .returned (.agg #[.int .i64 u, .int .u64 v]) ∧ Below w.heap.size w w' := by
  have hTf : X.af.T ≤ 1000 := by rw [hS.af]; have := hk.ft; omega
  have hLf : X.af.L.length ≤ 1000 := by rw [hS.af]; have := hk.lens; omega
  have hnf : S.C.map Ce.no = allN X.af.L X.af.T := by rw [hS.af]; exact fs_all hk
  obtain ⟨W, hW⟩ : ∃ W, W = (w.alloc (.cells #[.int .i64 0, .int .u64 0] 90)).alloc (.cells #[.int .i64 0, .int .u64 0] 90) := ⟨_, rfl⟩
  have BW : Below w.heap.size w W := by rw [hW]; exact ((Below.refl _ _).alloc (Nat.le_refl _) _).alloc (by simp) _
  have HZW : Hid (W.heap.size = w.heap.size + 2) := by unfold Hid; rw [hW]; simp
  have R0 : Row W w.heap.size [.int .i64 0, .int .u64 0] := by rw [hW]; exact (Row.new w [.int .i64 0, .int .u64 0] _).alloc _ (by simp)
  have R1 : Row W (w.heap.size + 1) [.int .i64 0, .int .u64 0] := by rw [hW]; have := Row.new (w.alloc (.cells #[.int .i64 0, .int .u64 0] 90)) [.int .i64 0, .int .u64 0] 90; simpa using this
  have hW' := hW.symm
  have q2 := (h.below BW).row.cell 2 _ rfl
  have HI : Hid _ := h
  have HS : Hid _ := hS
  have HK : Hid _ := hk
  have HNF : Hid _ := hnf
  have HU : Hid _ := hu
  have HV : Hid _ := hv
  obtain ⟨n, hn⟩ : ∃ n, n = S.C.length := ⟨_, rfl⟩
  have hnl : n ≤ 1000 := by have := hk.lens.2.1; omega
  have HN : Hid _ := hn
  clear hW h hS hk hnf hn hu hv
  go_enter Tryz.func36, Tryz.ntmps36
  go_wp2_with (go_at_call 66; fail)
  refine (arAll (HI.out.below BW).arf hLf hTf HNF.out).mono ?_
  rintro e w1 ⟨a1, c1, rfl, own1, b1⟩
  rw [List.length_map] at own1 ⊢
  rw [← HN.out] at own1 ⊢
  have z1 := b1.size
  have B1 : Below w.heap.size w w1 := BW.trans (b1.mono BW.size)
  have HO : Hid _ := own1
  have R0' := R0.below b1 (by have := HZW.out; omega)
  have R1' := R1.below b1 (by have := HZW.out; omega)
  have HR0 : Hid _ := R0'
  have HR1 : Hid _ := R1'
  clear own1 q2 hW' R0 R1 R0' R1'
  go_wp2
  go_loopw [14] (fun i wr => ∃ k : Nat, k ≤ n ∧ i = .int .i64 (k : Int) ∧ Row wr w.heap.size [.int .i64 0, .int .u64 0] ∧ Row wr (w.heap.size + 1) [.int .i64 (lw.hi (sumK S k)), .int .u64 (lw.lo (sumK S k))] ∧ Own wr W.heap.size 3 a1 n c1 (ints (S.C.map Ce.no)) ∧ Below w.heap.size w wr) (fun i _ => n - (iv i).toNat)
  case atStart => exact ⟨0, by omega, rfl, HR0.out, HR1.out, HO.out, B1⟩
  case round =>
    clear HR0 HR1 HO
    obtain ⟨k, hk, rfl, R0, R1, own, bel⟩ := hrel
    have hbs := bel.size
    have HOW : Hid _ := own
    have l0 := R0.lt
    have l1 := R1.lt
    by_cases hlt : k < n
    · obtain ⟨c, hx⟩ : ∃ x, S.C[k]? = some x := ⟨S.C[k]'(by rw [← HN.out]; exact hlt), List.getElem?_eq_getElem _⟩
      have HX : Hid _ := hx
      have hxm := List.mem_of_getElem? hx
      have HXM : Hid _ := hxm
      obtain ⟨bb, hbb, hbl, hbw, hseg⟩ := Own.at own (by omega)
      have ci := hseg.cell k (.int .i64 c.no) (by rw [ints, List.getElem?_map, List.getElem?_map, hx]; rfl)
      rw [Nat.zero_add] at ci
      subst hbb
      have hIr := HI.out.below bel
      have HIR : Hid _ := hIr
      obtain ⟨g, kf, nf, cb, q4, hg, hak, hkn, hcc⟩ := hIr.fcell9 HS.out HK.out hxm
      rw [hak] at ci
      have u0 : wr.cell? ⟨g, kf * 9, none⟩ = some (.int .i64 c.t.v0) := hcc 0 _ rfl
      have u1 : wr.cell? ⟨g, kf * 9 + 1, none⟩ = some (.int .i64 c.t.v1) := hcc 1 _ rfl
      have u2 : wr.cell? ⟨g, kf * 9 + 2, none⟩ = some (.int .i64 c.t.v2) := hcc 2 _ rfl
      have u3 : wr.cell? ⟨g, kf * 9 + 3, none⟩ = some (.int .i64 c.t.x0) := hcc 3 _ rfl
      have u4 : wr.cell? ⟨g, kf * 9 + 4, none⟩ = some (.int .i64 c.t.y0) := hcc 4 _ rfl
      have u5 : wr.cell? ⟨g, kf * 9 + 5, none⟩ = some (.int .i64 c.t.x1) := hcc 5 _ rfl
      have u6 : wr.cell? ⟨g, kf * 9 + 6, none⟩ = some (.int .i64 c.t.y1) := hcc 6 _ rfl
      have u7 : wr.cell? ⟨g, kf * 9 + 7, none⟩ = some (.int .i64 c.t.x2) := hcc 7 _ rfl
      have u8 : wr.cell? ⟨g, kf * 9 + 8, none⟩ = some (.int .i64 c.t.y2) := hcc 8 _ rfl
      have hlt' : (k : Int) < (n : Int) := by omega
      have hkv : (kf : Int) < (nf : Int) := by omega
      obtain ⟨sh, HSH⟩ : ∃ s, Hid (s = lw.hi (sumK S k)) := ⟨_, rfl⟩
      obtain ⟨sl, HSL⟩ : ∃ s, Hid (s = lw.lo (sumK S k)) := ⟨_, rfl⟩
      rw [← HSH.out, ← HSL.out] at R1
      have HNE : Hid (bb ≠ w.heap.size + 1) := by unfold Hid; have := HZW.out; omega
      clear hx hxm hseg hIr hak hcc own
      go_wp2_with (go_at_call 70; fail)
      refine (mPlaces base p X S m F wr HIR.out HS.out HK.out c.t (HK.out.fi c HXM.out)).mono ?_
      clear u0 u1 u2 u3 u4 u5 u6 u7 u8 ci q4
      rintro e w2 ⟨X0, Y0, X1, Y1, X2, Y2, r, rfl, hr, hc, b2⟩
      have o0 := HK.out.fo c HXM.out 0 (by omega)
      have o1 := HK.out.fo c HXM.out 1 (by omega)
      have o2 := HK.out.fo c HXM.out 2 (by omega)
      obtain rfl : r = true := by rw [hr, o0, o1, o2]; rfl
      have HA : Hid (arP X0 Y0 X1 Y1 X2 Y2 = areaT S c.t) := by
        unfold Hid
        obtain ⟨e0, e1, e2, e3, e4, e5⟩ := hc rfl
        rw [e0, e1, e2, e3, e4, e5]
        exact pl_area o0 o1 o2
      obtain ⟨V, hV⟩ : ∃ V, V = w2.alloc (.cells #[.int .i64 X0, .int .i64 Y0, .int .i64 X1, .int .i64 Y1, .int .i64 X2, .int .i64 Y2] 129) := ⟨_, rfl⟩
      have z2 := b2.size
      have bV : Below wr.heap.size wr V := by rw [hV]; exact b2.alloc b2.size _
      have RP : Row V w2.heap.size (six X0 Y0 X1 Y1 X2 Y2) := by rw [hV]; exact Row.new w2 (six X0 Y0 X1 Y1 X2 Y2) _
      have zV : w2.heap.size < V.heap.size := by rw [hV]; simp
      have hV' := hV.symm
      have R1V := R1.below bV l1
      have R0V := R0.below bV l0
      have l1V : w.heap.size + 1 < V.heap.size := R1V.lt
      have s0 := R1V.cell 0 _ rfl
      have s1 := R1V.cell 1 _ rfl
      have p0 := RP.cell 0 _ rfl
      have p1 := RP.cell 1 _ rfl
      have p2 := RP.cell 2 _ rfl
      have p3 := RP.cell 3 _ rfl
      have p4 := RP.cell 4 _ rfl
      have p5 := RP.cell 5 _ rfl
      obtain ⟨ah, HAH⟩ : ∃ s, Hid (s = lw.hi (arP X0 Y0 X1 Y1 X2 Y2)) := ⟨_, rfl⟩
      obtain ⟨al, HAL⟩ : ∃ s, Hid (s = lw.lo (arP X0 Y0 X1 Y1 X2 Y2)) := ⟨_, rfl⟩
      have HAH2 : Hid (ah = lw.hi (areaT S c.t)) := by unfold Hid; rw [HAH.out, HA.out]
      have HAL2 : Hid (al = lw.lo (areaT S c.t)) := by unfold Hid; rw [HAL.out, HA.out]
      obtain ⟨th, HTH⟩ : ∃ s, Hid (s = lw.hi (sumK S k + areaT S c.t)) := ⟨_, rfl⟩
      obtain ⟨tl, HTL⟩ : ∃ s, Hid (s = lw.lo (sumK S k + areaT S c.t)) := ⟨_, rfl⟩
      have HAD : Hid (∀ w', Calls Tryz.prog 71 #[.agg #[.int .i64 sh, .int .u64 sl], .agg #[.int .i64 ah, .int .u64 al]] w' fun e w'' => e = .returned (.agg #[.int .i64 th, .int .u64 tl]) ∧ Below w'.heap.size w' w'') := by
        unfold Hid
        intro w'
        rw [HTH.out, HTL.out]
        exact lw.add_any (sumK S k) (areaT S c.t) HSH.out HSL.out HAH2.out HAL2.out w'
      clear hV hr hc o0 o1 o2
      go_wp2
      clear hV'
      have HSar : Hid (∀ w', Below (V.heap.size) V w' → (fun w' => w'.cell? ⟨w.heap.size + 1, 0, none⟩ = some (.int .i64 sh) ∧ w'.cell? ⟨w.heap.size + 1, 1, none⟩ = some (.int .u64 sl) ∧ w'.cell? ⟨w2.heap.size, 0, none⟩ = some (.int .i64 X0) ∧ w'.cell? ⟨w2.heap.size, 1, none⟩ = some (.int .i64 Y0) ∧ w'.cell? ⟨w2.heap.size, 2, none⟩ = some (.int .i64 X1) ∧ w'.cell? ⟨w2.heap.size, 3, none⟩ = some (.int .i64 Y1) ∧ w'.cell? ⟨w2.heap.size, 4, none⟩ = some (.int .i64 X2) ∧ w'.cell? ⟨w2.heap.size, 5, none⟩ = some (.int .i64 Y2) ∧ Below (V.heap.size) V w') w') := by
        unfold Hid
        intro w' hb
        exact ⟨(hb.cell (p := ⟨w.heap.size + 1, 0, none⟩) l1V).trans s0, (hb.cell (p := ⟨w.heap.size + 1, 1, none⟩) l1V).trans s1, (hb.cell (p := ⟨w2.heap.size, 0, none⟩) zV).trans p0, (hb.cell (p := ⟨w2.heap.size, 1, none⟩) zV).trans p1, (hb.cell (p := ⟨w2.heap.size, 2, none⟩) zV).trans p2, (hb.cell (p := ⟨w2.heap.size, 3, none⟩) zV).trans p3, (hb.cell (p := ⟨w2.heap.size, 4, none⟩) zV).trans p4, (hb.cell (p := ⟨w2.heap.size, 5, none⟩) zV).trans p5, hb⟩
      refine regionL 9 (S := fun w' => w'.cell? ⟨w.heap.size + 1, 0, none⟩ = some (.int .i64 sh) ∧ w'.cell? ⟨w.heap.size + 1, 1, none⟩ = some (.int .u64 sl) ∧ w'.cell? ⟨w2.heap.size, 0, none⟩ = some (.int .i64 X0) ∧ w'.cell? ⟨w2.heap.size, 1, none⟩ = some (.int .i64 Y0) ∧ w'.cell? ⟨w2.heap.size, 2, none⟩ = some (.int .i64 X1) ∧ w'.cell? ⟨w2.heap.size, 3, none⟩ = some (.int .i64 Y1) ∧ w'.cell? ⟨w2.heap.size, 4, none⟩ = some (.int .i64 X2) ∧ w'.cell? ⟨w2.heap.size, 5, none⟩ = some (.int .i64 Y2) ∧ Below (V.heap.size) V w') (by kernel_rfl) ?_ (fun hHeld => ?_)
      · exact HSar.out _ ((Below.refl _ _).drew)
      refine tyL (i := 0) (v := ?var0) rfl ?hyar0 ?_
      case hyar0 => (intro w hSw; (try dsimp only at hSw); go_simp <;> with_reducible rfl)
      simp only [Act.put, ps1, ps2, ps3]
      refine tyL (i := 1) (v := ?var1) rfl ?hyar1 ?_
      case hyar1 => (intro w hSw; (try dsimp only at hSw); go_simp <;> with_reducible rfl)
      simp only [Act.put, ps1, ps2, ps3]
      refine tyL (i := 2) (v := ?var2) rfl ?hyar2 ?_
      case hyar2 => (intro w hSw; (try dsimp only at hSw); go_simp <;> with_reducible rfl)
      simp only [Act.put, ps1, ps2, ps3]
      refine tyL (i := 3) (v := ?var3) rfl ?hyar3 ?_
      case hyar3 => (intro w hSw; (try dsimp only at hSw); go_simp <;> with_reducible rfl)
      simp only [Act.put, ps1, ps2, ps3]
      refine tyL (i := 4) (v := ?var4) rfl ?hyar4 ?_
      case hyar4 => (intro w hSw; (try dsimp only at hSw); go_simp <;> with_reducible rfl)
      simp only [Act.put, ps1, ps2, ps3]
      refine tyL (i := 5) (v := ?var5) rfl ?hyar5 ?_
      case hyar5 => (intro w hSw; (try dsimp only at hSw); go_simp <;> with_reducible rfl)
      simp only [Act.put, ps1, ps2, ps3]
      refine tyL (i := 6) (v := ?var6) rfl ?hyar6 ?_
      case hyar6 => (intro w hSw; (try dsimp only at hSw); go_simp <;> with_reducible rfl)
      simp only [Act.put, ps1, ps2, ps3]
      refine takeL_call (i := 7) rfl (by kernel_rfl) (fun Kc hK => ?_)
      go_simp
      (go_at_call 72; refine (pArea X0 Y0 X1 Y1 X2 Y2 _ HAH.out HAL.out).mono ?_; rintro e w4 ⟨rfl, b4⟩)
      refine hK.out _ _ ?_ (fun hHeld => ?_)
      · exact HSar.out _ (hHeld.2.2.2.2.2.2.2.2.trans (b4.mono hHeld.2.2.2.2.2.2.2.2.size))
      clear hK Kc
      refine takeL_call (i := 8) rfl (by kernel_rfl) (fun Kc hK => ?_)
      go_simp
      (go_at_call 71; refine (HAD.out _).mono ?_; rintro e w5 ⟨rfl, b5⟩)
      refine hK.out _ _ ?_ (fun hHeld => ?_)
      · exact HSar.out _ (hHeld.2.2.2.2.2.2.2.2.trans (b5.mono hHeld.2.2.2.2.2.2.2.2.size))
      clear hK Kc
      have HB : Hid _ := hHeld.2.2.2.2.2.2.2.2
      have R1L := R1V.below hHeld.2.2.2.2.2.2.2.2 l1V
      have f0 := R1L.free 0 (by simp)
      have f1 := R1L.free 1 (by simp)
      have g0 := R1L.cell 0 _ rfl
      have g1 := R1L.cell 1 _ rfl
      refine takeL_last rfl (by kernel_rfl) (fun Kc hK => ?_)
      go_simp
      refine hK.out _ _ ?_
      clear hK Kc
      refine anyL_done (by kernel_rfl) ?_ _
      have BL := HB.out
      have bF : Below wr.heap.size wr w5 := bV.trans (BL.mono bV.size)
      have R1F := (R1L.set 0 (.int .i64 th) (by simp)).set 1 (.int .u64 tl) (by simp)
      have kS : Keep (fun q => q = w.heap.size + 1) w5 ((w5.setCell ⟨w.heap.size + 1, 0, none⟩ (.int .i64 th)).setCell ⟨w.heap.size + 1, 1, none⟩ (.int .u64 tl)) := ((Keep.refl (fun q => q = w.heap.size + 1) w5).set (Or.inl rfl) _).set (Or.inl rfl) _
      have zF := bF.size
      have R0F := (R0.below bF l0).keep kS (by omega) (by omega)
      have OF := Own.keep (Own.below HOW.out bF) kS (fun q s e => by obtain ⟨o, s⟩ := s; cases s; exact HNE.out e)
      have BFF : Below w.heap.size w ((w5.setCell ⟨w.heap.size + 1, 0, none⟩ (.int .i64 th)).setCell ⟨w.heap.size + 1, 1, none⟩ (.int .u64 tl)) := (bel.trans (bF.mono bel.size)).trans (kS.below (by omega) (fun q e => by omega))
      have HR0 : Hid _ := R0F
      have HR1 : Hid (Row ((w5.setCell ⟨w.heap.size + 1, 0, none⟩ (.int .i64 th)).setCell ⟨w.heap.size + 1, 1, none⟩ (.int .u64 tl)) (w.heap.size + 1) [.int .i64 (lw.hi (sumK S (k + 1))), .int .u64 (lw.lo (sumK S (k + 1)))]) := by
        unfold Hid
        rw [sumK_next HX.out, ← HTH.out, ← HTL.out]
        exact R1F
      have HO : Hid _ := OF
      clear R0F R1F OF s0 s1 p0 p1 p2 p3 p4 p5 g0 g1 f0 f1
      go_wp2
      go_roundw
      case rel => exact ⟨k + 1, by omega, by simp, HR0.out, HR1.out, HO.out, BFF⟩
      case measure => simp [iv]; omega
    · obtain rfl : k = n := by omega
      rw [HN.out, ← HU.out, ← HV.out] at R1
      have s0 := R1.cell 0 _ rfl
      have s1 := R1.cell 1 _ rfl
      have f0 := R0.free 0 (by simp)
      have f1 := R0.free 1 (by simp)
      have g0 := R0.cell 0 _ rfl
      have g1 := R0.cell 1 _ rfl
      go_wp2
      have R2 := (R0.set 0 (.int .i64 u) (by simp)).set 1 (.int .u64 v) (by simp)
      have d0 := R2.cell 0 _ rfl
      have d1 := R2.cell 1 _ rfl
      refine bodyPost_ret (v := .agg #[.int .i64 u, .int .u64 v]) (by simp [results, Tryz.results36, go_sem, *]) rfl ?_
      exact ⟨rfl, (bel.setCell (Nat.le_refl _) _).setCell (Nat.le_refl _) _⟩
end Go.Proofs.YtjdeehffbgpenaaGreat

namespace Go.Proofs.YtjdeehffbgpenaaGreat
open Go.RowKit Go.Maps
set_option linter.unusedVariables false

theorem crossed_at {S : Ms} {m : Nat} (hk : MsOk S m) {c : Ce} (hc : c ∈ S.C) (i : Int) : (crossed S c.no i).isSome = (acr c.t (nx (corner i)) S.C).isSome := by
  unfold crossed
  rw [m_faceOf_at hk hc]
  show (match acr c.t (nx (corner i)) S.C with | none => none | some r => some (c.t, r) : Option (Tr × Ce × Nat)).isSome = _
  cases acr c.t (nx (corner i)) S.C <;> rfl
theorem closed_eq {S : Ms} {m : Nat} (hk : MsOk S m) : (S.C.all fun c => (List.range 3).all fun k => (crossed S c.no (k : Int)).isSome) = closedB S := by
  unfold closedB
  rw [Bool.eq_iff_iff, List.all_eq_true, List.all_eq_true]
  refine forall_congr' fun c => forall_congr' fun hc => ?_
  rw [List.all_eq_true, List.all_eq_true]
  have e : ∀ k : Nat, k < 3 → corner (k : Int) = k := fun k hk => by unfold corner; omega
  constructor
  · intro h k hk3
    have hk3 := List.mem_range.1 hk3
    have h1 := h ((k + 2) % 3) (List.mem_range.2 (by omega))
    rw [crossed_at hk hc, e _ (by omega)] at h1
    rw [show nx ((k + 2) % 3) = k by unfold nx; omega] at h1
    exact h1
  · intro h k hk3
    have hk3 := List.mem_range.1 hk3
    rw [crossed_at hk hc, e _ hk3]
    exact h (nx k) (List.mem_range.2 (nx_lt k))
theorem whole_eq {S : Ms} {m : Nat} (hk : MsOk S m) : whole S = (closedB S && (usesB S && decide (sumK S S.C.length = 2 * (S.n * S.n)))) := by
  unfold whole
  rw [closed_eq hk]
  unfold usesB sumK
  rw [List.take_length]
set_option maxRecDepth 100000 in
set_option maxHeartbeats 1000000 in
theorem mCheck (base p : Nat) (X : Mx) (S : Ms) (m : Nat) (F : Nat → Prop) (w : World) (h : MeI base p X F w) (hS : MeOk X S) (hk : MsOk S m) (hm : m ≤ 1000) {r : Int} (hr : r = if whole S = true then 0 else 6) :
    Calls Tryz.prog 11 #[ptR p] w fun e w' => e = .returned (.int .i64 r) ∧ Below w.heap.size w w' := by
  rw [whole_eq hk] at hr
  have q0 := h.row.cell 0 _ rfl
  have lp := h.row.lt
  have hn1 := hk.n1
  rw [← hS.n] at hn1 hr
  have HI : Hid _ := h
  have HS : Hid _ := hS
  have HK : Hid _ := hk
  have HR : Hid _ := hr
  obtain ⟨n, hn⟩ : ∃ n, n = X.n := ⟨_, rfl⟩
  rw [← hn] at q0 hn1 HR
  obtain ⟨n1, n2⟩ := hn1
  obtain ⟨cl, HCL⟩ : ∃ b, Hid (b = closedB S) := ⟨_, rfl⟩
  obtain ⟨us, HUS⟩ : ∃ b, Hid (b = usesB S) := ⟨_, rfl⟩
  clear h hS hk hr hn
  cases cl with
  | false =>
    obtain rfl : r = 6 := by rw [HR.out, ← HCL.out]; rfl
    go_enter Tryz.func11, Tryz.ntmps11
    go_wp2
    have HSk0 : Hid (∀ w', Below (w.heap.size) w w' → (fun w' => w'.cell? ⟨p, 0, none⟩ = some (.int .i64 n) ∧ Below (w.heap.size) w w') w') := by
      unfold Hid
      intro w' hb
      exact ⟨(hb.cell (p := ⟨p, 0, none⟩) lp).trans q0, hb⟩
    refine wp_region_held_drew (S := fun w' => w'.cell? ⟨p, 0, none⟩ = some (.int .i64 n) ∧ Below (w.heap.size) w w') (by kernel_rfl) ?_ (fun hHeld => ?_)
    · exact HSk0.out _ ((Below.refl _ _).drew)
    refine ty (i := 0) (v := ?vk00) rfl ?hyk00 ?_
    case hyk00 => (intro w hSw; (try dsimp only at hSw); go_simp <;> with_reducible rfl)
    simp only [Act.put, ps1, ps2, ps3]
    refine take_call (i := 1) rfl (by kernel_rfl) (fun Kc hK => ?_)
    go_simp
    (go_at_call 33; refine (mClosed base p X S m F _ (HI.out.below (Below.refl _ _).drew) HS.out HK.out hm HCL.out).mono ?_; rintro e w1 ⟨rfl, b1⟩)
    refine hK.out _ _ ?_ (fun hHeld => ?_)
    · exact HSk0.out _ (hHeld.2.trans (b1.mono hHeld.2.size))
    clear hK Kc
    refine ty (i := 2) (v := ?vk02) rfl ?hyk02 ?_
    case hyk02 => (intro w hSw; (try dsimp only at hSw); go_simp <;> with_reducible rfl)
    simp only [Act.put, ps1, ps2, ps3]
    refine ty (i := 3) (v := ?vk03) rfl ?hyk03 ?_
    case hyk03 => (intro w hSw; (try dsimp only at hSw); go_simp <;> with_reducible rfl)
    simp only [Act.put, ps1, ps2, ps3]
    refine take_no (i := 4) rfl (by kernel_rfl) (by kernel_rfl) (by kernel_rfl) (fun _ _ _ h => h) (by rfl) (by assumption) ?_
    simp only [Act.put, ps1, ps2, ps3]
    refine take_no (i := 5) rfl (by kernel_rfl) (by kernel_rfl) (by kernel_rfl) (fun _ _ _ h => h) (by rfl) (by assumption) ?_
    simp only [Act.put, ps1, ps2, ps3]
    refine take_no (i := 6) rfl (by kernel_rfl) (by kernel_rfl) (by kernel_rfl) (fun _ _ _ h => h) (by rfl) (by assumption) ?_
    simp only [Act.put, ps1, ps2, ps3]
    refine ty (i := 7) (v := ?vk07) rfl ?hyk07 ?_
    case hyk07 => (intro w hSw; (try dsimp only at hSw); go_simp <;> with_reducible rfl)
    simp only [Act.put, ps1, ps2, ps3]
    refine ty (i := 8) (v := ?vk08) rfl ?hyk08 ?_
    case hyk08 => (intro w hSw; (try dsimp only at hSw); go_simp <;> with_reducible rfl)
    simp only [Act.put, ps1, ps2, ps3]
    refine take_no (i := 9) rfl (by kernel_rfl) (by kernel_rfl) (by kernel_rfl) (fun _ _ _ h => h) (by rfl) (by assumption) ?_
    simp only [Act.put, ps1, ps2, ps3]
    refine take_no (i := 10) rfl (by kernel_rfl) (by kernel_rfl) (by kernel_rfl) (fun _ _ _ h => h) (by rfl) (by assumption) ?_
    simp only [Act.put, ps1, ps2, ps3]
    refine take_no (i := 11) rfl (by kernel_rfl) (by kernel_rfl) (by kernel_rfl) (fun _ _ _ h => h) (by rfl) (by assumption) ?_
    simp only [Act.put, ps1, ps2, ps3]
    refine take_no (i := 12) rfl (by kernel_rfl) (by kernel_rfl) (by kernel_rfl) (fun _ _ _ h => h) (by rfl) (by assumption) ?_
    simp only [Act.put, ps1, ps2, ps3]
    refine take_no (i := 13) rfl (by kernel_rfl) (by kernel_rfl) (by kernel_rfl) (fun _ _ _ h => h) (by rfl) (by assumption) ?_
    simp only [Act.put, ps1, ps2, ps3]
    refine take_no (i := 14) rfl (by kernel_rfl) (by kernel_rfl) (by kernel_rfl) (fun _ _ _ h => h) (by rfl) (by assumption) ?_
    simp only [Act.put, ps1, ps2, ps3]
    refine take_no (i := 15) rfl (by kernel_rfl) (by kernel_rfl) (by kernel_rfl) (fun _ _ _ h => h) (by rfl) (by assumption) ?_
    simp only [Act.put, ps1, ps2, ps3]
    refine take_no (i := 16) rfl (by kernel_rfl) (by kernel_rfl) (by kernel_rfl) (fun _ _ _ h => h) (by rfl) (by assumption) ?_
    simp only [Act.put, ps1, ps2, ps3]
    refine take_no (i := 17) rfl (by kernel_rfl) (by kernel_rfl) (by kernel_rfl) (fun _ _ _ h => h) (by rfl) (by assumption) ?_
    simp only [Act.put, ps1, ps2, ps3]
    refine take_no (i := 18) rfl (by kernel_rfl) (by kernel_rfl) (by kernel_rfl) (fun _ _ _ h => h) (by rfl) (by assumption) ?_
    simp only [Act.put, ps1, ps2, ps3]
    refine take_no (i := 19) rfl (by kernel_rfl) (by kernel_rfl) (by kernel_rfl) (fun _ _ _ h => h) (by rfl) (by assumption) ?_
    simp only [Act.put, ps1, ps2, ps3]
    refine take_no (i := 20) rfl (by kernel_rfl) (by kernel_rfl) (by kernel_rfl) (fun _ _ _ h => h) (by rfl) (by assumption) ?_
    simp only [Act.put, ps1, ps2, ps3]
    refine take_no (i := 21) rfl (by kernel_rfl) (by kernel_rfl) (by kernel_rfl) (fun _ _ _ h => h) (by rfl) (by assumption) ?_
    simp only [Act.put, ps1, ps2, ps3]
    refine take_no (i := 22) rfl (by kernel_rfl) (by kernel_rfl) (by kernel_rfl) (fun _ _ _ h => h) (by rfl) (by assumption) ?_
    simp only [Act.put, ps1, ps2, ps3]
    refine ty (i := 23) (v := ?vk023) rfl ?hyk023 ?_
    case hyk023 => (intro w hSw; (try dsimp only at hSw); go_simp <;> with_reducible rfl)
    simp only [Act.put, ps1, ps2, ps3]
    refine wpAnyH_done (by kernel_rfl) ?_ _
    have BF := hHeld.2
    go_wp2
    go_ret
    exact ⟨rfl, BF⟩
  | true =>
    cases us with
    | false =>
      obtain rfl : r = 6 := by rw [HR.out, ← HCL.out, ← HUS.out]; rfl
      go_enter Tryz.func11, Tryz.ntmps11
      go_wp2
      have HSk1 : Hid (∀ w', Below (w.heap.size) w w' → (fun w' => w'.cell? ⟨p, 0, none⟩ = some (.int .i64 n) ∧ Below (w.heap.size) w w') w') := by
        unfold Hid
        intro w' hb
        exact ⟨(hb.cell (p := ⟨p, 0, none⟩) lp).trans q0, hb⟩
      refine wp_region_held_drew (S := fun w' => w'.cell? ⟨p, 0, none⟩ = some (.int .i64 n) ∧ Below (w.heap.size) w w') (by kernel_rfl) ?_ (fun hHeld => ?_)
      · exact HSk1.out _ ((Below.refl _ _).drew)
      refine ty (i := 0) (v := ?vk10) rfl ?hyk10 ?_
      case hyk10 => (intro w hSw; (try dsimp only at hSw); go_simp <;> with_reducible rfl)
      simp only [Act.put, ps1, ps2, ps3]
      refine take_call (i := 1) rfl (by kernel_rfl) (fun Kc hK => ?_)
      go_simp
      (go_at_call 33; refine (mClosed base p X S m F _ (HI.out.below (Below.refl _ _).drew) HS.out HK.out hm HCL.out).mono ?_; rintro e w1 ⟨rfl, b1⟩)
      refine hK.out _ _ ?_ (fun hHeld => ?_)
      · exact HSk1.out _ (hHeld.2.trans (b1.mono hHeld.2.size))
      clear hK Kc
      refine ty (i := 2) (v := ?vk12) rfl ?hyk12 ?_
      case hyk12 => (intro w hSw; (try dsimp only at hSw); go_simp <;> with_reducible rfl)
      simp only [Act.put, ps1, ps2, ps3]
      refine ty (i := 3) (v := ?vk13) rfl ?hyk13 ?_
      case hyk13 => (intro w hSw; (try dsimp only at hSw); go_simp <;> with_reducible rfl)
      simp only [Act.put, ps1, ps2, ps3]
      refine ty (i := 4) (v := ?vk14) rfl ?hyk14 ?_
      case hyk14 => (intro w hSw; (try dsimp only at hSw); go_simp <;> with_reducible rfl)
      simp only [Act.put, ps1, ps2, ps3]
      refine take_call (i := 5) rfl (by kernel_rfl) (fun Kc hK => ?_)
      go_simp
      (go_at_call 34; refine (mUses base p X S m F _ (HI.out.below hHeld.2) HS.out HK.out hm HUS.out).mono ?_; rintro e w2 ⟨rfl, b2⟩)
      refine hK.out _ _ ?_ (fun hHeld => ?_)
      · exact HSk1.out _ (hHeld.2.trans (b2.mono hHeld.2.size))
      clear hK Kc
      refine ty (i := 6) (v := ?vk16) rfl ?hyk16 ?_
      case hyk16 => (intro w hSw; (try dsimp only at hSw); go_simp <;> with_reducible rfl)
      simp only [Act.put, ps1, ps2, ps3]
      refine ty (i := 7) (v := ?vk17) rfl ?hyk17 ?_
      case hyk17 => (intro w hSw; (try dsimp only at hSw); go_simp <;> with_reducible rfl)
      simp only [Act.put, ps1, ps2, ps3]
      refine ty (i := 8) (v := ?vk18) rfl ?hyk18 ?_
      case hyk18 => (intro w hSw; (try dsimp only at hSw); go_simp <;> with_reducible rfl)
      simp only [Act.put, ps1, ps2, ps3]
      refine take_no (i := 9) rfl (by kernel_rfl) (by kernel_rfl) (by kernel_rfl) (fun _ _ _ h => h) (by rfl) (by assumption) ?_
      simp only [Act.put, ps1, ps2, ps3]
      refine take_no (i := 10) rfl (by kernel_rfl) (by kernel_rfl) (by kernel_rfl) (fun _ _ _ h => h) (by rfl) (by assumption) ?_
      simp only [Act.put, ps1, ps2, ps3]
      refine take_no (i := 11) rfl (by kernel_rfl) (by kernel_rfl) (by kernel_rfl) (fun _ _ _ h => h) (by rfl) (by assumption) ?_
      simp only [Act.put, ps1, ps2, ps3]
      refine take_no (i := 12) rfl (by kernel_rfl) (by kernel_rfl) (by kernel_rfl) (fun _ _ _ h => h) (by rfl) (by assumption) ?_
      simp only [Act.put, ps1, ps2, ps3]
      refine take_no (i := 13) rfl (by kernel_rfl) (by kernel_rfl) (by kernel_rfl) (fun _ _ _ h => h) (by rfl) (by assumption) ?_
      simp only [Act.put, ps1, ps2, ps3]
      refine take_no (i := 14) rfl (by kernel_rfl) (by kernel_rfl) (by kernel_rfl) (fun _ _ _ h => h) (by rfl) (by assumption) ?_
      simp only [Act.put, ps1, ps2, ps3]
      refine take_no (i := 15) rfl (by kernel_rfl) (by kernel_rfl) (by kernel_rfl) (fun _ _ _ h => h) (by rfl) (by assumption) ?_
      simp only [Act.put, ps1, ps2, ps3]
      refine take_no (i := 16) rfl (by kernel_rfl) (by kernel_rfl) (by kernel_rfl) (fun _ _ _ h => h) (by rfl) (by assumption) ?_
      simp only [Act.put, ps1, ps2, ps3]
      refine take_no (i := 17) rfl (by kernel_rfl) (by kernel_rfl) (by kernel_rfl) (fun _ _ _ h => h) (by rfl) (by assumption) ?_
      simp only [Act.put, ps1, ps2, ps3]
      refine take_no (i := 18) rfl (by kernel_rfl) (by kernel_rfl) (by kernel_rfl) (fun _ _ _ h => h) (by rfl) (by assumption) ?_
      simp only [Act.put, ps1, ps2, ps3]
      refine take_no (i := 19) rfl (by kernel_rfl) (by kernel_rfl) (by kernel_rfl) (fun _ _ _ h => h) (by rfl) (by assumption) ?_
      simp only [Act.put, ps1, ps2, ps3]
      refine take_no (i := 20) rfl (by kernel_rfl) (by kernel_rfl) (by kernel_rfl) (fun _ _ _ h => h) (by rfl) (by assumption) ?_
      simp only [Act.put, ps1, ps2, ps3]
      refine take_no (i := 21) rfl (by kernel_rfl) (by kernel_rfl) (by kernel_rfl) (fun _ _ _ h => h) (by rfl) (by assumption) ?_
      simp only [Act.put, ps1, ps2, ps3]
      refine take_no (i := 22) rfl (by kernel_rfl) (by kernel_rfl) (by kernel_rfl) (fun _ _ _ h => h) (by rfl) (by assumption) ?_
      simp only [Act.put, ps1, ps2, ps3]
      refine ty (i := 23) (v := ?vk123) rfl ?hyk123 ?_
      case hyk123 => (intro w hSw; (try dsimp only at hSw); go_simp <;> with_reducible rfl)
      simp only [Act.put, ps1, ps2, ps3]
      refine wpAnyH_done (by kernel_rfl) ?_ _
      have BF := hHeld.2
      go_wp2
      go_ret
      exact ⟨rfl, BF⟩
    | true =>
      obtain ⟨ah, HAH⟩ : ∃ s, Hid (s = lw.hi (sumK S S.C.length)) := ⟨_, rfl⟩
      obtain ⟨al, HAL⟩ : ∃ s, Hid (s = lw.lo (sumK S S.C.length)) := ⟨_, rfl⟩
      obtain ⟨n22, HN2⟩ : ∃ s, Hid (s = 2 * n) := ⟨_, rfl⟩
      have hw2 : IntKind.i64.wrap (2 * n) = n22 := by rw [wrap_i64, HN2.out]; unfold wrap64; omega
      obtain ⟨bh, HBH⟩ : ∃ s, Hid (s = lw.hi (n22 * n)) := ⟨_, rfl⟩
      obtain ⟨bl, HBL⟩ : ∃ s, Hid (s = lw.lo (n22 * n)) := ⟨_, rfl⟩
      have HMU : Hid (∀ w', Calls Tryz.prog 37 #[.int .i64 n22, .int .i64 n] w' fun e w'' => e = .returned (.agg #[.int .i64 bh, .int .u64 bl]) ∧ Below w'.heap.size w' w'') := by
        unfold Hid
        intro w'
        have e2 := HN2.out
        rw [HBH.out, HBL.out]
        exact lw.mul_any n22 n (by omega) (by omega) (by omega) (by omega) w'
      have HPR : Hid (n22 * n = 2 * (n * n)) := by unfold Hid; rw [HN2.out, Int.mul_assoc]
      obtain ⟨g, HG⟩ : ∃ s, Hid (s = lw.cmpI (sumK S S.C.length) (n22 * n)) := ⟨_, rfl⟩
      have HCM : Hid (∀ w', Calls Tryz.prog 35 #[.agg #[.int .i64 ah, .int .u64 al], .agg #[.int .i64 bh, .int .u64 bl]] w' fun e w'' => e = .returned (.int .i64 g) ∧ Below w'.heap.size w' w'') := by
        unfold Hid
        intro w'
        have hs := sumK_bound HK.out S.C.length
        have hl := HK.out.lens.2.1
        have hq : 0 ≤ n * n ∧ n * n ≤ 17179869184 * 17179869184 := ⟨Int.mul_nonneg (by omega) (by omega), Int.mul_le_mul n2 n2 (by omega) (by decide)⟩
        rw [HG.out]
        exact lw.cmp_any (sumK S S.C.length) (n22 * n) HAH.out HAL.out HBH.out HBL.out (by omega) (by omega) (by rw [HPR.out]; omega) (by rw [HPR.out]; omega) w'
      have HRG : Hid (r = if g = 0 then 0 else 6) := by
        unfold Hid
        rw [HR.out, ← HCL.out, ← HUS.out, ← HPR.out, HG.out]
        unfold lw.cmpI
        by_cases e : sumK S S.C.length = n22 * n
        · rw [e]
          simp
        · rcases Int.lt_or_gt_of_ne e with e1 | e1
          · simp [e, e1]
          · have e2 : ¬ sumK S S.C.length < n22 * n := by omega
            have e3 : n22 * n < sumK S S.C.length := e1
            simp [e, e2, e3]
      obtain ⟨q, hq, hqb⟩ : ∃ q : Bool, (g != 0) = q ∧ r = if q then 6 else 0 := by
        refine ⟨_, rfl, ?_⟩
        rw [HRG.out]
        by_cases e : g = 0
        · simp [e]
        · simp [e]
      have HQB : Hid _ := hqb
      clear hqb
      go_enter Tryz.func11, Tryz.ntmps11
      go_wp2
      have HSk2 : Hid (∀ w', Below (w.heap.size) w w' → (fun w' => w'.cell? ⟨p, 0, none⟩ = some (.int .i64 n) ∧ Below (w.heap.size) w w') w') := by
        unfold Hid
        intro w' hb
        exact ⟨(hb.cell (p := ⟨p, 0, none⟩) lp).trans q0, hb⟩
      refine wp_region_held_drew (S := fun w' => w'.cell? ⟨p, 0, none⟩ = some (.int .i64 n) ∧ Below (w.heap.size) w w') (by kernel_rfl) ?_ (fun hHeld => ?_)
      · exact HSk2.out _ ((Below.refl _ _).drew)
      refine ty (i := 0) (v := ?vk20) rfl ?hyk20 ?_
      case hyk20 => (intro w hSw; (try dsimp only at hSw); go_simp <;> with_reducible rfl)
      simp only [Act.put, ps1, ps2, ps3]
      refine take_call (i := 1) rfl (by kernel_rfl) (fun Kc hK => ?_)
      go_simp
      (go_at_call 33; refine (mClosed base p X S m F _ (HI.out.below (Below.refl _ _).drew) HS.out HK.out hm HCL.out).mono ?_; rintro e w1 ⟨rfl, b1⟩)
      refine hK.out _ _ ?_ (fun hHeld => ?_)
      · exact HSk2.out _ (hHeld.2.trans (b1.mono hHeld.2.size))
      clear hK Kc
      refine ty (i := 2) (v := ?vk22) rfl ?hyk22 ?_
      case hyk22 => (intro w hSw; (try dsimp only at hSw); go_simp <;> with_reducible rfl)
      simp only [Act.put, ps1, ps2, ps3]
      refine ty (i := 3) (v := ?vk23) rfl ?hyk23 ?_
      case hyk23 => (intro w hSw; (try dsimp only at hSw); go_simp <;> with_reducible rfl)
      simp only [Act.put, ps1, ps2, ps3]
      refine ty (i := 4) (v := ?vk24) rfl ?hyk24 ?_
      case hyk24 => (intro w hSw; (try dsimp only at hSw); go_simp <;> with_reducible rfl)
      simp only [Act.put, ps1, ps2, ps3]
      refine take_call (i := 5) rfl (by kernel_rfl) (fun Kc hK => ?_)
      go_simp
      (go_at_call 34; refine (mUses base p X S m F _ (HI.out.below hHeld.2) HS.out HK.out hm HUS.out).mono ?_; rintro e w2 ⟨rfl, b2⟩)
      refine hK.out _ _ ?_ (fun hHeld => ?_)
      · exact HSk2.out _ (hHeld.2.trans (b2.mono hHeld.2.size))
      clear hK Kc
      refine ty (i := 6) (v := ?vk26) rfl ?hyk26 ?_
      case hyk26 => (intro w hSw; (try dsimp only at hSw); go_simp <;> with_reducible rfl)
      simp only [Act.put, ps1, ps2, ps3]
      refine ty (i := 7) (v := ?vk27) rfl ?hyk27 ?_
      case hyk27 => (intro w hSw; (try dsimp only at hSw); go_simp <;> with_reducible rfl)
      simp only [Act.put, ps1, ps2, ps3]
      refine ty (i := 8) (v := ?vk28) rfl ?hyk28 ?_
      case hyk28 => (intro w hSw; (try dsimp only at hSw); go_simp <;> with_reducible rfl)
      simp only [Act.put, ps1, ps2, ps3]
      refine ty (i := 9) (v := ?vk29) rfl ?hyk29 ?_
      case hyk29 => (intro w hSw; (try dsimp only at hSw); go_simp <;> with_reducible rfl)
      simp only [Act.put, ps1, ps2, ps3]
      refine ty (i := 11) (v := ?vk211) rfl ?hyk211 ?_
      case hyk211 => (intro w hSw; (try dsimp only at hSw); go_simp <;> with_reducible rfl)
      simp only [Act.put, ps1, ps2, ps3]
      refine ty (i := 12) (v := ?vk212) rfl ?hyk212 ?_
      case hyk212 => (intro w hSw; (try dsimp only at hSw); go_simp <;> with_reducible rfl)
      simp only [Act.put, ps1, ps2, ps3]
      refine ty (i := 13) (v := ?vk213) rfl ?hyk213 ?_
      case hyk213 => (intro w hSw; (try dsimp only at hSw); go_simp <;> with_reducible rfl)
      simp only [Act.put, ps1, ps2, ps3]
      refine ty (i := 14) (v := ?vk214) rfl ?hyk214 ?_
      case hyk214 => (intro w hSw; (try dsimp only at hSw); go_simp <;> with_reducible rfl)
      simp only [Act.put, ps1, ps2, ps3]
      refine ty (i := 15) (v := ?vk215) rfl ?hyk215 ?_
      case hyk215 => (intro w hSw; (try dsimp only at hSw); go_simp <;> with_reducible rfl)
      simp only [Act.put, ps1, ps2, ps3]
      refine ty (i := 16) (v := ?vk216) rfl ?hyk216 ?_
      case hyk216 => (intro w hSw; (try dsimp only at hSw); go_simp <;> with_reducible rfl)
      simp only [Act.put, ps1, ps2, ps3]
      refine ty (i := 17) (v := ?vk217) rfl ?hyk217 ?_
      case hyk217 => (intro w hSw; (try dsimp only at hSw); go_simp <;> with_reducible rfl)
      simp only [Act.put, ps1, ps2, ps3]
      refine ty (i := 18) (v := ?vk218) rfl ?hyk218 ?_
      case hyk218 => (intro w hSw; (try dsimp only at hSw); go_simp <;> with_reducible rfl)
      simp only [Act.put, ps1, ps2, ps3]
      refine ty (i := 19) (v := ?vk219) rfl ?hyk219 ?_
      case hyk219 => (intro w hSw; (try dsimp only at hSw); go_simp <;> with_reducible rfl)
      simp only [Act.put, ps1, ps2, ps3]
      refine take_call (i := 10) rfl (by kernel_rfl) (fun Kc hK => ?_)
      go_simp
      (go_at_call 36; refine (mArea base p X S m F _ (HI.out.below hHeld.2) HS.out HK.out hm HAH.out HAL.out).mono ?_; rintro e w3 ⟨rfl, b3⟩)
      refine hK.out _ _ ?_ (fun hHeld => ?_)
      · exact HSk2.out _ (hHeld.2.trans (b3.mono hHeld.2.size))
      clear hK Kc
      refine take_call (i := 20) rfl (by kernel_rfl) (fun Kc hK => ?_)
      go_simp
      (go_at_call 37; refine (HMU.out _).mono ?_; rintro e w4 ⟨rfl, b4⟩)
      refine hK.out _ _ ?_ (fun hHeld => ?_)
      · exact HSk2.out _ (hHeld.2.trans (b4.mono hHeld.2.size))
      clear hK Kc
      refine take_call (i := 21) rfl (by kernel_rfl) (fun Kc hK => ?_)
      go_simp
      (go_at_call 35; refine (HCM.out _).mono ?_; rintro e w5 ⟨rfl, b5⟩)
      refine hK.out _ _ ?_ (fun hHeld => ?_)
      · exact HSk2.out _ (hHeld.2.trans (b5.mono hHeld.2.size))
      clear hK Kc
      refine ty (i := 22) (v := ?vk222) rfl ?hyk222 ?_
      case hyk222 => (intro w hSw; (try dsimp only at hSw); go_simp <;> with_reducible rfl)
      simp only [Act.put, ps1, ps2, ps3]
      refine ty (i := 23) (v := ?vk223) rfl ?hyk223 ?_
      case hyk223 => (intro w hSw; (try dsimp only at hSw); go_simp <;> with_reducible rfl)
      simp only [Act.put, ps1, ps2, ps3]
      refine wpAnyH_done (by kernel_rfl) ?_ _
      have BF := hHeld.2
      cases q with
      | true =>
        obtain rfl : r = 6 := HQB.out
        go_wp2
        go_ret
        exact ⟨rfl, BF⟩
      | false =>
        obtain rfl : r = 0 := HQB.out
        go_wp2
        go_ret
        exact ⟨rfl, BF⟩
end Go.Proofs.YtjdeehffbgpenaaGreat

namespace Go.Proofs.YtjdeehffbgpenaaGreat
open Go.RowKit Go.Maps Go.Sort Go.Shelf
set_option linter.unusedVariables false

def keysAR : Ren where
  f := fun | 7 => 49 | 10 => 86 | n => n
  t := fun | 23 => 81 | 26 => 3 | 3 => 106 | 28 => 104 | 0 => 0 | 27 => 103 | 33 => 101 | 4 => 4 | n => n
  g := fun n => n
theorem keysA : SlLaysZI.n7 Tryz.prog keysAR where
  mixed := by kernel_rfl
  f7 := ⟨Tryz.f49.name, by decide, Tryz.func49.trans (congrArg some (by kernel_rfl))⟩
  f10 := ⟨Tryz.f86.name, by decide, Tryz.func86.trans (congrArg some (by kernel_rfl))⟩
  t0 := Tryz.underlying0
  a0 := Tryz.isAgg0
  z0 := Tryz.sizeOf0
  v0 := Tryz.zeroValue0
  t4 := Tryz.underlying4
  a4 := Tryz.isAgg4
  z4 := Tryz.sizeOf4
  v4 := Tryz.zeroValue4
  t23 := Tryz.underlying81
  a23 := Tryz.isAgg81
  z23 := Tryz.sizeOf81
  v23 := Tryz.zeroValue81
  t26 := Tryz.underlying3
  a26 := Tryz.isAgg3
  z26 := Tryz.sizeOf3
  v26 := Tryz.zeroValue3
  t27 := Tryz.underlying103
  a27 := Tryz.isAgg103
  z27 := Tryz.sizeOf103
  v27 := Tryz.zeroValue103
  t28 := Tryz.underlying104
  a28 := Tryz.isAgg104
  z28 := Tryz.sizeOf104
  v28 := Tryz.zeroValue104
  t33 := Tryz.underlying101
  a33 := Tryz.isAgg101
  z33 := Tryz.sizeOf101
  v33 := Tryz.zeroValue101
def sortedAR : Ren where
  f := fun | 6 => 48 | 8 => 84 | 9 => 85 | 11 => 114 | 13 => 116 | 12 => 115 | 23 => 134 | 24 => 135 | 14 => 125 | 15 => 126 | 16 => 127 | 17 => 128 | 18 => 129 | 19 => 130 | 20 => 131 | 21 => 132 | 22 => 133 | 25 => 138 | 26 => 139 | 27 => 140 | 28 => 141 | 29 => 142 | 30 => 143 | 31 => 144 | n => n
  t := fun | 26 => 3 | 28 => 104 | 24 => 58 | 0 => 0 | 3 => 3 | 37 => 142 | 48 => 141 | 50 => 88 | 4 => 4 | 40 => 179 | 39 => 178 | 45 => 184 | 5 => 5 | 9 => 9 | 51 => 189 | 55 => 193 | 57 => 195 | 58 => 196 | 33 => 101 | n => n
  g := fun n => n
theorem sortedA : SlLaysZI.n6 Tryz.prog sortedAR where
  mixed := by kernel_rfl
  f6 := ⟨Tryz.f48.name, by decide, Tryz.func48.trans (congrArg some (by kernel_rfl))⟩
  f8 := ⟨Tryz.f84.name, by decide, Tryz.func84.trans (congrArg some (by kernel_rfl))⟩
  f11 := ⟨Tryz.f114.name, by decide, Tryz.func114.trans (congrArg some (by kernel_rfl))⟩
  t0 := Tryz.underlying0
  a0 := Tryz.isAgg0
  z0 := Tryz.sizeOf0
  v0 := Tryz.zeroValue0
  t24 := Tryz.underlying58
  a24 := Tryz.isAgg58
  z24 := Tryz.sizeOf58
  v24 := Tryz.zeroValue58
  t26 := Tryz.underlying3
  a26 := Tryz.isAgg3
  z26 := Tryz.sizeOf3
  v26 := Tryz.zeroValue3
  t28 := Tryz.underlying104
  a28 := Tryz.isAgg104
  z28 := Tryz.sizeOf104
  v28 := Tryz.zeroValue104
  i26 := by kernel_rfl
def sortAR : Ren where
  f := fun | 5 => 85 | 8 => 116 | 7 => 115 | 19 => 134 | 20 => 135 | 10 => 125 | 11 => 126 | 12 => 127 | 13 => 128 | 14 => 129 | 15 => 130 | 16 => 131 | 17 => 132 | 18 => 133 | 30 => 138 | 31 => 139 | 32 => 140 | 33 => 141 | 34 => 142 | 35 => 143 | 40 => 144 | n => n
  t := fun | 23 => 58 | 25 => 3 | 3 => 3 | 32 => 142 | 22 => 58 | 0 => 0 | 44 => 141 | 46 => 88 | 4 => 4 | 36 => 179 | 35 => 178 | 41 => 184 | 5 => 5 | 9 => 9 | 53 => 189 | 57 => 193 | 63 => 195 | 64 => 196 | n => n
  g := fun n => n
theorem sortA : SlLaysM.n5 Tryz.prog sortAR where
  mixed := by kernel_rfl
  f5 := ⟨Tryz.f85.name, by decide, Tryz.func85.trans (congrArg some (by kernel_rfl))⟩
  f7 := ⟨Tryz.f115.name, by decide, Tryz.func115.trans (congrArg some (by kernel_rfl))⟩
  f8 := Tryz.func116.trans (congrArg some (by kernel_rfl))
  f10 := ⟨Tryz.f125.name, by decide, Tryz.func125.trans (congrArg some (by kernel_rfl))⟩
  f11 := ⟨Tryz.f126.name, by decide, Tryz.func126.trans (congrArg some (by kernel_rfl))⟩
  f12 := ⟨Tryz.f127.name, by decide, Tryz.func127.trans (congrArg some (by kernel_rfl))⟩
  f13 := ⟨Tryz.f128.name, by decide, Tryz.func128.trans (congrArg some (by kernel_rfl))⟩
  f14 := ⟨Tryz.f129.name, by decide, Tryz.func129.trans (congrArg some (by kernel_rfl))⟩
  f15 := ⟨Tryz.f130.name, by decide, Tryz.func130.trans (congrArg some (by kernel_rfl))⟩
  f16 := ⟨Tryz.f131.name, by decide, Tryz.func131.trans (congrArg some (by kernel_rfl))⟩
  f17 := ⟨Tryz.f132.name, by decide, Tryz.func132.trans (congrArg some (by kernel_rfl))⟩
  f18 := ⟨Tryz.f133.name, by decide, Tryz.func133.trans (congrArg some (by kernel_rfl))⟩
  f19 := Tryz.func134.trans (congrArg some (by kernel_rfl))
  f20 := Tryz.func135.trans (congrArg some (by kernel_rfl))
  f30 := ⟨Tryz.f138.name, by decide, Tryz.func138.trans (congrArg some (by kernel_rfl))⟩
  f31 := Tryz.func139.trans (congrArg some (by kernel_rfl))
  f32 := Tryz.func140.trans (congrArg some (by kernel_rfl))
  f33 := ⟨Tryz.f141.name, by decide, Tryz.func141.trans (congrArg some (by kernel_rfl))⟩
  f34 := ⟨Tryz.f142.name, by decide, Tryz.func142.trans (congrArg some (by kernel_rfl))⟩
  f35 := ⟨Tryz.f143.name, by decide, Tryz.func143.trans (congrArg some (by kernel_rfl))⟩
  f40 := ⟨Tryz.f144.name, by decide, Tryz.func144.trans (congrArg some (by kernel_rfl))⟩
  t0 := Tryz.underlying0
  a0 := Tryz.isAgg0
  z0 := Tryz.sizeOf0
  v0 := Tryz.zeroValue0
  t3 := Tryz.underlying3
  a3 := Tryz.isAgg3
  z3 := Tryz.sizeOf3
  v3 := Tryz.zeroValue3
  t4 := Tryz.underlying4
  a4 := Tryz.isAgg4
  z4 := Tryz.sizeOf4
  v4 := Tryz.zeroValue4
  t5 := Tryz.underlying5
  a5 := Tryz.isAgg5
  z5 := Tryz.sizeOf5
  v5 := Tryz.zeroValue5
  t9 := Tryz.underlying9
  a9 := Tryz.isAgg9
  z9 := Tryz.sizeOf9
  v9 := Tryz.zeroValue9
  t22 := Tryz.underlying58
  a22 := Tryz.isAgg58
  z22 := Tryz.sizeOf58
  v22 := Tryz.zeroValue58
  t23 := Tryz.underlying58
  a23 := Tryz.isAgg58
  z23 := Tryz.sizeOf58
  v23 := Tryz.zeroValue58
  t25 := Tryz.underlying3
  a25 := Tryz.isAgg3
  z25 := Tryz.sizeOf3
  v25 := Tryz.zeroValue3
  t32 := Tryz.underlying142
  a32 := Tryz.isAgg142
  z32 := Tryz.sizeOf142
  v32 := Tryz.zeroValue142
  t35 := Tryz.underlying178
  a35 := Tryz.isAgg178
  z35 := Tryz.sizeOf178
  v35 := Tryz.zeroValue178
  t36 := Tryz.underlying179
  a36 := Tryz.isAgg179
  z36 := Tryz.sizeOf179
  v36 := Tryz.zeroValue179
  t41 := Tryz.underlying184
  a41 := Tryz.isAgg184
  z41 := Tryz.sizeOf184
  v41 := Tryz.zeroValue184
  t44 := Tryz.underlying141
  a44 := Tryz.isAgg141
  z44 := Tryz.sizeOf141
  v44 := Tryz.zeroValue141
  t46 := Tryz.underlying88
  a46 := Tryz.isAgg88
  z46 := Tryz.sizeOf88
  v46 := Tryz.zeroValue88
  t53 := Tryz.underlying189
  a53 := Tryz.isAgg189
  z53 := Tryz.sizeOf189
  v53 := Tryz.zeroValue189
  t57 := Tryz.underlying193
  a57 := Tryz.isAgg193
  z57 := Tryz.sizeOf193
  v57 := Tryz.zeroValue193
  t63 := Tryz.underlying195
  a63 := Tryz.isAgg195
  z63 := Tryz.sizeOf195
  v63 := Tryz.zeroValue195
  t64 := Tryz.underlying196
  a64 := Tryz.isAgg196
  z64 := Tryz.sizeOf196
  v64 := Tryz.zeroValue196
theorem sortsI (m : Nat) : AnyZI.SortsIn Tryz.prog sortedAR Fence.wide m :=
  ⟨fun blk off cap ss W hH hblk hsz => callsIn_wide.2 (AnyM.slices_Sort_int sortA blk off cap ss W hH hblk hsz),
   fun p cap W => callsIn_wide.2 (AnyM.slices_Sort_int_none sortA p cap W)⟩
/-- The iterator over a map's keys, as a value. -/
abbrev itV (b : Nat) : Value := .func (.func 86) #[] #[.pointer (some ⟨b, 0, none⟩)]
theorem keysC (mb : Option Nat) (W : World) : Calls Tryz.prog 49 #[.map mb] W fun e w' => e = .returned (itV W.heap.size) ∧ w' = W.alloc (.cells #[.map mb] 81) := by
  have cK : CallsIn Fence.wide 5 Tryz.prog 49 #[.map mb] W fun e w' => e = .returned (itV W.heap.size) ∧ w' = W.alloc (.cells #[.map mb] 81) := AnyZI.keys_in keysA Fence.wide 5 trivial rfl mb W
  exact (callsIn_wide (n := 5)).1 cK
theorem sortedC {H : Type} (b nn : Nat) (D0 : DataW H) (R : Value → Option (DataW H × List MemPlace)) (w : World) (hown : w.ownsMap Tryz.prog 3 R b nn D0) (hmax : Maps.size D0 ≤ maxLen) (hbytes : Maps.size D0 * 8 ≤ 140737488355328) :
    Calls Tryz.prog 48 #[itV w.heap.size] (w.alloc (.cells #[.map (some b)] 81)) fun e w' => ∃ (v : Value) (ss : List Int), e = .returned v ∧ ss.Perm (intKeys D0) ∧
      w'.ownsRow w.heap.size 3 1 v ss.length ((ss.mergeSort (fun x y => decide (x ≤ y))).map encZ) ∧ (v = .slice none 0 0 ↔ ss = []) ∧ Below w.heap.size w w' := by
  have hbl := hown.lt
  have hseq : SeqGives Fence.wide 2 Tryz.prog 86 #[.pointer (some ⟨w.heap.size, 0, none⟩)] encZ (fun ss => ss.Perm (intKeys D0)) (Maps.size D0) (w.alloc (.cells #[.map (some b)] 81)) :=
    AnyZI.keys_gives (ρ := keysAR) { keysA with } Fence.wide _ trivial rfl (by omega) w.heap.size b nn D0 _ (by simp) (by simp) (by
      obtain ⟨es, clock, hb, Ft, hs, hD⟩ := hown
      exact ⟨es, clock, (Below.heap_alloc _ _ b hbl).trans hb, Ft, hs, hD⟩)
  have cS := AnyZI.sorted_in sortedA Fence.wide 5 trivial trivial trivial trivial rfl (by omega) (sortsI _) (enters_of Tryz.func85 (by kernel_rfl) rfl) 86 #[.pointer (some ⟨w.heap.size, 0, none⟩)] trivial (enters_of Tryz.func86 (by kernel_rfl) rfl) _ _ hmax hbytes _ hseq
  change CallsIn _ _ Tryz.prog 48 _ _ _ at cS
  refine ((callsIn_wide (n := 5)).1 cS).mono ?_
  rintro e w' ⟨v, ss, rfl, hS, hrow, hnil, hb⟩
  exact ⟨v, ss, rfl, hS, ownsRow_base_a hrow (by simp), hnil, ((Below.refl _ w).alloc (Nat.le_refl _) _).trans (hb.mono (by simp))⟩
end Go.Proofs.YtjdeehffbgpenaaGreat

namespace Go.Proofs.YtjdeehffbgpenaaGreat
open Go.RowKit Go.Maps Go.Sort
set_option linter.unusedVariables false

theorem around_sorted {S : Ms} {m : Nat} (hk : MsOk S m) (v : Int) : (around S.C v).Pairwise (· < ·) := by
  unfold around
  rw [List.pairwise_map]
  exact hk.fs.filter _
theorem merge_around {S : Ms} {m : Nat} (hk : MsOk S m) (v : Int) {ss : List Int} (h : ss.Perm (around S.C v)) : ss.mergeSort (fun x y => decide (x ≤ y)) = around S.C v := by
  rw [mergeSort_of_perm_i h]
  exact List.mergeSort_of_pairwise ((around_sorted hk v).imp (fun {a b} h => by simp only [decide_eq_true_eq]; omega))
theorem keys_perm {w : World} {b n : Nat} {D : DataW Value} {g : Int → Option Value} (hown : w.ownsMap Tryz.prog 3 rV b n D) (hg : ∀ a kl, keyOf Tryz.prog 3 (.int .i64 a) = some kl → Maps.has D kl = (g a).isSome) {L : List Int} (hn : L.Nodup) (h64 : ∀ x ∈ L, I64 x) (hL : ∀ x, g x ≠ none ↔ x ∈ L) : L.Perm (intKeys D) := by
  refine CollectedI.perm (left := fun _ => false) ⟨hn, fun x => ?_⟩ hown (int_keyed Tryz.underlying3) Tryz.underlying3 (fun _ => rfl)
  constructor
  · intro hx
    refine ⟨?_, rfl⟩
    rw [hg x _ (intKey (h64 x hx))]
    cases e : g x with
    | none => exact absurd e ((hL x).2 hx)
    | some u => rfl
  · rintro ⟨h1, _⟩
    obtain ⟨es, rfl, hko⟩ := hown.keysOf
    have h1' := h1
    rw [has_eq, List.any_eq_true] at h1
    obtain ⟨q, hq, hs⟩ := h1
    obtain ⟨u, hu⟩ := hko q hq
    obtain ⟨y, rfl, hy, _⟩ := Maps.keyOf_i64 Tryz.underlying3 hu
    rw [hy] at hs
    have e : y = x := by simpa [Lit.sameKey] using hs
    subst e
    have h2 := hg y _ hu
    rw [hy, h1'] at h2
    refine (hL y).1 (fun e => ?_)
    rw [e] at h2
    cases h2
theorem gotL_nil (w w' : World) (h : Below w.heap.size w w') : GotL w [] (.returned (.slice none 0 0)) w' := ⟨none, 0, rfl, own_none _ _ _, h⟩
/-- Of a vertex that is not. -/
theorem around_no {S : Ms} {m : Nat} (hk : MsOk S m) {v : Int} (h : isV S v = false) : around S.C v = [] := by
  refine List.eq_nil_iff_forall_not_mem.2 (fun x hx => ?_)
  obtain ⟨c, hc, _, j, hj, e⟩ := around_iff.1 hx
  have := hk.fi c hc j hj
  rw [e, h] at this
  cases this
set_option maxRecDepth 100000 in
theorem mAround (base p : Nat) (X : Mx) (S : Ms) (m : Nat) (F : Nat → Prop) (w : World) (h : MeI base p X F w) (hS : MeOk X S) (hk : MsOk S m) (hm : m ≤ 1000) (v : Int) (hv : In64 v) {M : List Int} (hM : M = around S.C v) :
    Calls Tryz.prog 21 #[ptR p, .int .i64 v] w (GotL w M) := by
  have hT : X.av.T ≤ 1000 := by rw [hS.av]; have := hk.vt; omega
  have HI : Hid _ := h
  have HD : Hid (isV S v = decide (v ∈ X.av.L)) := isV_dec hS hk v
  cases hb : isV S v with
  | false =>
    rw [hb] at HD
    have hM0 : M = [] := hM.trans (around_no hk hb)
    subst hM0
    clear h hS hk hM
    go_enter Tryz.func21, Tryz.ntmps21
    go_wp2_with (go_at_call 44; fail)
    refine (mHasV base p X F w HI.out hT v hv HD.out).mono ?_
    rintro e w1 ⟨rfl, b1⟩
    go_wp2
    go_ret
    exact gotL_nil _ _ b1
  | true =>
    rw [hb] at HD
    obtain ⟨a, ha, rfl⟩ := isV_iff.1 hb
    obtain ⟨g, k, hXa, hg, hak, hkn, hcap, hc⟩ := h.vcell hS hk ha
    have q3 := h.row.cell 3 _ rfl
    rw [hXa] at q3
    have u4 := (hc 4 _ rfl).1
    have lp := h.row.lt
    have HF : Hid _ := h.fcs a.no ((hS.Lv _).2 hb)
    have HG : Hid (∀ f, X.gf a.no f ≠ none ↔ f ∈ around S.C a.no) := hS.gf a ha
    have HK : Hid _ := hk
    have HM : Hid _ := hM
    have h64 : Hid (∀ x ∈ around S.C a.no, I64 x ∧ x ∈ S.C.map Ce.no) := by
      intro x hx
      obtain ⟨c, hc, rfl, _⟩ := around_iff.1 hx
      have := hk.fmem hc
      have := hk.ft
      exact ⟨⟨by omega, by omega⟩, List.mem_map.2 ⟨c, hc, rfl⟩⟩
    have hCl : Hid (S.C.length ≤ 1000) := by
      have h1 := hk.fp.length_eq
      have h2 := hk.ft
      have h3 := nodup_sub (l := S.C.map Ce.no) (m := (List.range S.af.T).map fun k : Nat => (k : Int)) (List.pairwise_map.2 (hk.fs.imp (fun {a b} h => by omega))) (by
        intro x hx
        obtain ⟨c, hc, rfl⟩ := List.mem_map.1 hx
        have := (hk.fmem hc).2
        exact List.mem_map.2 ⟨c.no.toNat, List.mem_range.2 (by omega), by omega⟩)
      simp only [List.length_map, List.length_range] at h3
      unfold Hid
      omega
    obtain ⟨mb, hmb⟩ : ∃ v, v = X.M a.no := ⟨_, rfl⟩
    rw [← hmb] at u4 HF
    obtain ⟨nv, hnv⟩ : ∃ v, v = X.nv := ⟨_, rfl⟩
    obtain ⟨ca, hca⟩ : ∃ v, v = X.ca := ⟨_, rfl⟩
    rw [← hnv, ← hca] at q3
    rw [← hnv] at hkn
    have hlt : (k : Int) < (nv : Int) := by omega
    have HAK : Hid _ := hak
    have hv' : In64 (k : Int) := hak ▸ hv
    rw [hak]
    rw [hak] at HD
    clear h hS hk hM hc hXa hnv hca hmb ha hb hcap hak hv
    go_enter Tryz.func21, Tryz.ntmps21
    go_wp2_with (go_at_call 44; fail)
    refine (mHasV base p X F w HI.out hT (k : Int) hv' HD.out).mono ?_
    rintro e w1 ⟨rfl, b1⟩
    replace q3 := (b1.cell (p := ⟨p, 3, none⟩) lp).trans q3
    replace u4 := (b1.cell (p := ⟨g, k * 5 + 4, none⟩) hg).trans u4
    go_wp2_with (go_at_call 49; refine (keysC (some mb) w1).mono ?_; rintro e w2 ⟨rfl, rfl⟩; fail)
    refine (keysC (some mb) w1).mono ?_
    rintro e w2 ⟨rfl, rfl⟩
    go_wp2_with (go_at_call 48; fail)
    obtain ⟨D, n, hown, hgD⟩ := (MapL.below HF.out b1).ex
    have hsz := (MapL.bound intL hown hgD (S.C.map Ce.no) (fun x _ hne => (h64.out x ((HG.out x).1 hne)).2)).2
    rw [List.length_map] at hsz
    have hper := keys_perm hown (fun a kl ha => has_lk (hgD a kl ha)) ((around_sorted HK.out a.no).imp (fun {a b} h => by omega)) (fun x hx => (h64.out x hx).1) HG.out
    refine (sortedC mb n D rV w1 hown (by have := hCl.out; unfold maxLen; omega) (by have := hCl.out; omega)).mono ?_
    rintro e w3 ⟨v, ss, rfl, hss, hrow, hnil, b3⟩
    go_wp2
    go_ret
    have hp2 : ss.Perm (around S.C a.no) := hss.trans hper.symm
    rw [merge_around HK.out a.no hp2, hp2.length_eq, ← HM.out] at hrow
    obtain ⟨a', c', rfl, hO⟩ := OwnS.form hrow
    exact ⟨a', c', rfl, ownsRow_base_a hO b1.size, b1.trans (b3.mono b1.size)⟩
end Go.Proofs.YtjdeehffbgpenaaGreat

namespace Go.Proofs.YtjdeehffbgpenaaGreat
open Go.RowKit Go.Maps
set_option linter.unusedVariables false

theorem faceOf_zero {S : Ms} {f : Int} (h : isF S f = false) : faceOf S f = trZero := by
  unfold faceOf
  rw [m_faceOf_no h]
theorem crossed_no {S : Ms} {f i : Int} (h : isF S f = false) : crossed S f i = none := by
  unfold crossed
  rw [m_faceOf_no h]
theorem noFace {base p : Nat} {X : Mx} {S : Ms} {m : Nat} {F : Nat → Prop} {w : World} (h : MeI base p X F w) (hS : MeOk X S) (hk : MsOk S m) (hm : m ≤ 1000) {f : Int} (hf : In64 f) (hn : isF S f = false) : ∀ w', Below w.heap.size w w' → Calls Tryz.prog 16 #[ptR p, .int .i64 f] w' fun e w'' => e = .returned (.tuple #[trV trZero, .bool false]) ∧ Below w'.heap.size w' w'' :=
  fun w' hb => mFaceL base p X S m F w' (h.below hb) hS hk hm f hf (faceOf_zero hn).symm hn.symm
theorem tr64v {t : Tr} (h : Tr64 t) {i : Nat} (hi : i < 3) : In64 (t.v i) := h.v i
theorem meSpec : MeSpec MeP where
  keep := MeP.keep
  ft := MeP.ft
  new base n w hb hn := mNew base n w hb hn
  side base p S m F w h hk hm := by
    obtain ⟨X, hX, hS⟩ := h.ex
    rw [← hS.n]
    exact mSide base p X F w hX
  addV0 base p S m F w h hk hm x y id _ _ _ hq := by
    obtain ⟨X, hX, hS⟩ := h.ex
    refine (mAddV0 base p X F w hX x y id ?_).mono ?_
    · rw [hS.n]
      intro hh
      have : inSq S x y = true := decide_eq_true ⟨hh.1.1, hh.1.2, hh.2.1, hh.2.2⟩
      rw [hq] at this
      cases this
    · rintro e w' ⟨rfl, b⟩
      exact ⟨rfl, h.left b⟩
  addV base p S m F w h hk hm x y id _ _ _ hq := by
    obtain ⟨X, hX, hS⟩ := h.ex
    exact mAddV base p X S m F w hX hS hk hm x y id hq
  dropV0 base p S m F w h hk hm v hv hno := by
    obtain ⟨X, hX, hS⟩ := h.ex
    refine (mDropV0 base p X S m F w hX hS hk hm v hv hno).mono ?_
    rintro e w' ⟨rfl, b⟩
    exact ⟨rfl, h.left b⟩
  dropV base p S m F w h hk hm v i a hv ha hav har := by
    obtain ⟨X, hX, hS⟩ := h.ex
    subst hav
    exact mDropV base p X S m F w hX hS hk hm i a ha har
  vert base p S m F w h hk hm v hv := by
    obtain ⟨X, hX, hS⟩ := h.ex
    exact mVert base p X S m F w hX hS hk hm v hv
  addF0 base p S m F w h hk hm t e0 ht he hne := by
    obtain ⟨X, hX, hS⟩ := h.ex
    subst he
    refine (mAddF base p X S m F w hX hS hk hm t ?_).mono ?_
    · exact fun i hi => tr64v ht hi
    · rintro e w' (⟨_, rfl, b⟩ | ⟨h0, _⟩)
      · exact ⟨rfl, h.left b⟩
      · exact absurd h0 hne
  addF base p S m F w h hk hm t ht h0 := by
    obtain ⟨X, hX, hS⟩ := h.ex
    refine (mAddF base p X S m F w hX hS hk hm t ?_).mono ?_
    · exact fun i hi => tr64v ht hi
    · rintro e w' (⟨hne, _⟩ | ⟨_, rfl, b⟩)
      · exact absurd h0 hne
      · exact ⟨rfl, b⟩
  dropF0 base p S m F w h hk hm f hf hn := by
    obtain ⟨X, hX, hS⟩ := h.ex
    refine (mDropF0 (ptR p) f w (noFace hX hS hk hm hf hn w (Below.refl _ _))).mono ?_
    rintro e w' ⟨rfl, b⟩
    exact ⟨rfl, h.left b⟩
  dropF base p S m F w h hk hm f i c hf hc hcf := by
    obtain ⟨X, hX, hS⟩ := h.ex
    subst hcf
    exact mDropF base p X S m F w hX hS hk hm i c hc
  face base p S m F w h hk hm f hf := by
    obtain ⟨X, hX, hS⟩ := h.ex
    exact mFace base p X S m F w hX hS hk hm f hf
  corner0 base p S m F w h hk hm f i hf hi hn := by
    obtain ⟨X, hX, hS⟩ := h.ex
    exact mCorner0 (ptR p) f i w (noFace hX hS hk hm hf hn)
  corner base p S m F w h hk hm f i hf hi hb := by
    obtain ⟨X, hX, hS⟩ := h.ex
    exact mCorner base p X S m F w hX hS hk hm f i hf hi hb
  across base p S m F w h hk hm f i hf hi := by
    obtain ⟨X, hX, hS⟩ := h.ex
    cases hb : isF S f with
    | true => exact mAcross base p X S m F w hX hS hk hm f i hf hi hb
    | false =>
      rw [crossed_no hb]
      exact mAcross0 (ptR p) f i w (noFace hX hS hk hm hf hb)
  around base p S m F w h hk hm v hv M hM := by
    obtain ⟨X, hX, hS⟩ := h.ex
    exact mAround base p X S m F w hX hS hk hm v hv hM
  dump base p S m F w h hk hm := by
    obtain ⟨X, hX, hS⟩ := h.ex
    exact mDump base p X S m F w hX hS hk hm
  check base p S m F w h hk hm r hr := by
    obtain ⟨X, hX, hS⟩ := h.ex
    exact mCheck base p X S m F w hX hS hk hm hr
end Go.Proofs.YtjdeehffbgpenaaGreat
