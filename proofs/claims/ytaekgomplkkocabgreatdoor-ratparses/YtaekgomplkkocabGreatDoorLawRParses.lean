/-
  RatParses: which fraction any text is of, and which is of none.
-/
import Derived.Test.YtaekgomplkkocabGreatDoorP5
import Derived.Test.YtaekgomplkkocabGreatDoorP9
import Derived.Test.YtaekgomplkkocabGreatDoorP10
namespace Go.Proofs.YtaekgomplkkocabGreatDoor
open Go.RowKit
set_option linter.unusedVariables false

namespace rparses
open Go.ChangeShapes Go.WideShapes Go.ChangeAt
open Go.ChangeMaps (open_string shut_string)
theorem byte_at {u : ByteArray} {l1 l2 : List UInt8} (h : u.data.toList = l1 ++ l2) (k : Nat) (hk : k < u.size) (h1 : k < l1.length) : u[k] ∈ l1 := by
  have hk' : k < u.data.toList.length := by simpa using hk
  have e : u[k] = u.data.toList[k] := rfl
  rw [e]
  have : u.data.toList[k] = l1[k] := by simp only [h]; exact List.getElem_append_left h1
  rw [this]
  exact List.getElem_mem h1
theorem not47 {b : UInt8} (h : b ≠ 47) : ¬ (b.toNat : Int) = 47 := fun e => h (UInt8.toNat_inj.1 (by show b.toNat = 47; omega))
/-- What each case asks, brought together: the text u of two hundred bytes at most. -/
theorem walk (s : ByteArray) (w : World) (hs : s.size ≤ maxLen) :
    Calls Tryz.prog 3 #[.string s] w fun e w' => e = .returned (.bool true) ∧ Below w.heap.size w w' := by
  unfold maxLen at hs
  obtain ⟨u, hu, hu'⟩ : ∃ u : ByteArray, u.size ≤ 200 ∧ u = (if 200 < s.size then s.extract 0 200 else s) := by
    refine ⟨_, ?_, rfl⟩
    split
    · rw [ByteArray.size_extract]; omega
    · omega
  rcases slash_split u with hno | ⟨t1, t2, hc, hn1⟩
  · have hne : ∀ k (hk : k < u.size), k < u.size → ¬ (u[k].toNat : Int) = 47 := fun k hk _ => not47 (fun e => hno (by rw [← e]; exact byte_at (l2 := []) (by simp) k hk (by simpa using hk)))
    have hC := cutAt_no hno
    have hb := behind_size u
    have hW : WReads u (zOf (minus? u) (pz (behind u)).1 (pz (behind u)).2).1 (zOf (minus? u) (pz (behind u)).1 (pz (behind u)).2).2 := fun w => wParse u _ _ w (by omega) (fun w => nParseZ _ (by omega) w)
    have hw1 : ∀ w, Calls Tryz.prog 5 #[.string u] w (GotW1 w (zOf (minus? u) (pz (behind u)).1 (pz (behind u)).2).1 (zOf (minus? u) (pz (behind u)).1 (pz (behind u)).2).2) := fun w => whole1_any u _ _ _ _ w hu rfl rfl (fun w => hParseZ _ (by omega) w)
    have hz : (zOf (minus? u) (pz (behind u)).1 (pz (behind u)).2).1.natAbs < 4294967296 ^ 21 := zOf_lt _ _ (pz_lt _ (by omega))
    have hd : (zOf (minus? u) (pz (behind u)).1 (pz (behind u)).2).2 = 0 → u = decZ (zOf (minus? u) (pz (behind u)).1 (pz (behind u)).2).1 := fun h => whole_dec (by rw [← h])
    generalize (zOf (minus? u) (pz (behind u)).1 (pz (behind u)).2).1 = z at hW hw1 hz hd
    generalize (zOf (minus? u) (pz (behind u)).1 (pz (behind u)).2).2 = Ez at hW hw1 hd
    by_cases hE : Ez = 0
    · subst hE
      have hu1 := hd rfl
      have hS : u = qText (lowN z 1) (lowD z 1) := by rw [← (prsw.low_by_one z).1, ← (prsw.low_by_one z).2]; unfold qText; rw [if_pos rfl]; exact hu1
      have hpa : ∀ w, Calls Tryz.prog 4 #[.string u] w (GotMk w z 1 0) := fun w => qpNo u u _ z 0 0 w hC hW
      by_cases hl : 200 < s.size
      · rw [if_pos hl] at hu'
        exact prsc.cB s u u u u.size z w hpa hw1 hl hu' hne rfl hu hz hS
      · rw [if_neg hl] at hu'
        subst hu'
        exact prsw.cB u u u u.size z w hpa hw1 hu hne rfl hz hS
    · have hpa : ∀ w, Calls Tryz.prog 4 #[.string u] w (GotMk w 0 1 Ez) := fun w => qpErr1 u u _ z Ez 0 w false hC hW hE
      by_cases hl : 200 < s.size
      · rw [if_pos hl] at hu'
        exact prsc.cAn s u u u u.size z Ez w hpa hw1 hl hu' hne rfl hu hE
      · rw [if_neg hl] at hu'
        subst hu'
        exact prsw.cAn u u u u.size z Ez w hpa hw1 hu hne rfl hE
  · have hl0 : u.data.toList = t1.data.toList ++ (47 :: t2.data.toList) := by rw [hc]; simp [ByteArray.data_append]
    have hsz : u.size = t1.size + 1 + t2.size := by rw [hc, ByteArray.size_append, ByteArray.size_append]; rfl
    have hs1 : t1.data.toList.length = t1.size := by simp
    have hT : t1.size < u.size := by omega
    have hne : ∀ k (hk : k < u.size), k < t1.size → ¬ (u[k].toNat : Int) = 47 := fun k hk h => not47 (fun e => hn1 (by rw [← e]; exact byte_at hl0 k hk (by omega)))
    have hch : ∀ hk : t1.size < u.size, (u[t1.size].toNat : Int) = 47 := by
      intro hk
      have e : u[t1.size] = u.data.toList[t1.size]'(by simpa using hk) := rfl
      have e2 : u.data.toList[t1.size]'(by simpa using hk) = 47 := by
        simp only [hl0]
        rw [List.getElem_append_right (by omega)]
        simp [hs1]
      rw [e, e2]
      rfl
    have he1 : u.extract 0 t1.size = t1 := by rw [hc]; exact ext_ahead t1 t2
    have he2 : u.extract (t1.size + 1) u.size = t2 := by rw [hc]; exact ext_behind t1 t2
    have hC : CutAt u t1 t2 true := by rw [hc]; exact cutAt_yes hn1 (by rw [← hc]; omega)
    have hb := behind_size t1
    have hW : WReads t1 (zOf (minus? t1) (pz (behind t1)).1 (pz (behind t1)).2).1 (zOf (minus? t1) (pz (behind t1)).1 (pz (behind t1)).2).2 := fun w => wParse t1 _ _ w (by omega) (fun w => nParseZ _ (by omega) w)
    have hw1 : ∀ w, Calls Tryz.prog 5 #[.string t1] w (GotW1 w (zOf (minus? t1) (pz (behind t1)).1 (pz (behind t1)).2).1 (zOf (minus? t1) (pz (behind t1)).1 (pz (behind t1)).2).2) := fun w => whole1_any t1 _ _ _ _ w (by omega) rfl rfl (fun w => hParseZ _ (by omega) w)
    have hz : (zOf (minus? t1) (pz (behind t1)).1 (pz (behind t1)).2).1.natAbs < 4294967296 ^ 21 := zOf_lt _ _ (pz_lt _ (by omega))
    have hd : (zOf (minus? t1) (pz (behind t1)).1 (pz (behind t1)).2).2 = 0 → t1 = decZ (zOf (minus? t1) (pz (behind t1)).1 (pz (behind t1)).2).1 := fun h => whole_dec (by rw [← h])
    generalize (zOf (minus? t1) (pz (behind t1)).1 (pz (behind t1)).2).1 = z at hW hw1 hz hd
    generalize (zOf (minus? t1) (pz (behind t1)).1 (pz (behind t1)).2).2 = Ez at hW hw1 hd
    by_cases hE : Ez = 0
    · subst hE
      have ht1 := hd rfl
      have hN : NReads t2 (pz t2).1 (pz t2).2 := fun w => nParseZ _ (by omega) w
      have hp2 : ∀ w, Calls Tryz.prog 6 #[.string t2] w (GotHPF w (pz t2).1 (pz t2).2) := fun w => hParseZ _ (by omega) w
      have hn2 := pz_lt t2 (by omega)
      have ht2 := fun h => pz_dec (u := t2) h
      generalize (pz t2).1 = N2 at hN hp2 hn2 ht2
      generalize (pz t2).2 = E2 at hN hp2 ht2
      by_cases hE2 : E2 = 0
      · subst hE2
        have ht2' := ht2 rfl
        have hcu : u = (decZ z ++ ⟨#[47]⟩) ++ decS N2 := by rw [hc, ht1, ht2']
        by_cases hN0 : N2 = 0
        · subst hN0
          have hq : qText (lowN (pN z 0) (pD 0)) (lowD (pN z 0) (pD 0)) ≠ u := by
            intro e
            have e1 : lowN (pN z 0) (pD 0) = 0 := by simp [pN, pD, lowN]
            have e2 : lowD (pN z 0) (pD 0) = 1 := by simp [pN, pD, lowD]
            rw [e1, e2, hcu] at e
            have := text_parts e
            omega
          have hpa : ∀ w, Calls Tryz.prog 4 #[.string u] w (GotMk w 0 1 4) := fun w => qpForm u t1 t2 z 0 0 w hC hW hN hz hn2 hq
          have hq' : qText (lowN 0 1) (lowD 0 1) ≠ u := hq
          by_cases hl : 200 < s.size
          · rw [if_pos hl] at hu'
            exact prsc.cD s u t1 t2 t1.size z w hpa hw1 hl hu' he1 hne he2 hT hch hu hp2 hq'
          · rw [if_neg hl] at hu'
            subst hu'
            exact prsw.cD u t1 t2 t1.size z w hpa hw1 hu he1 hne he2 hT hch hp2 hq'
        · have hN1 : 0 < N2 := by omega
          have en : pN z N2 = z := if_neg hN0
          have ed : pD N2 = N2 := if_neg hN0
          by_cases hq : qText (lowN z N2) (lowD z N2) = u
          · have hparts := hq
            rw [hcu] at hparts
            obtain ⟨hL1, hL2⟩ := text_parts hparts
            have hpa : ∀ w, Calls Tryz.prog 4 #[.string u] w (GotMk w z N2 0) := fun w => qpYes u t1 t2 z 0 N2 w hC hW hN hz hn2 (by rw [en, ed]; exact hq)
            by_cases hl : 200 < s.size
            · rw [if_pos hl] at hu'
              exact prsc.cF s u t1 t2 t1.size z N2 w hpa hw1 hl hu' he1 hne he2 hT hch hu hp2 hz hn2 hN1 hq.symm hL1.symm hL2.symm
            · rw [if_neg hl] at hu'
              subst hu'
              exact prsw.cF u t1 t2 t1.size z N2 w hpa hw1 hu he1 hne he2 hT hch hp2 hz hn2 hN1 hq.symm hL1.symm hL2.symm
          · have hpa : ∀ w, Calls Tryz.prog 4 #[.string u] w (GotMk w 0 1 4) := fun w => qpForm u t1 t2 z 0 N2 w hC hW hN hz hn2 (by rw [en, ed]; exact hq)
            by_cases hl : 200 < s.size
            · rw [if_pos hl] at hu'
              exact prsc.cE s u t1 t2 t1.size z N2 w hpa hw1 hl hu' he1 hne he2 hT hch hu hp2 hz hn2 hN1 hq
            · rw [if_neg hl] at hu'
              subst hu'
              exact prsw.cE u t1 t2 t1.size z N2 w hpa hw1 hu he1 hne he2 hT hch hp2 hz hn2 hN1 hq
      · have hpa : ∀ w, Calls Tryz.prog 4 #[.string u] w (GotMk w 0 1 E2) := fun w => qpErr2 u t1 t2 z E2 N2 w hC hW hN hE2
        by_cases hl : 200 < s.size
        · rw [if_pos hl] at hu'
          exact prsc.cC s u t1 t2 t1.size z E2 N2 w hpa hw1 hl hu' he1 hne he2 hT hch hu hp2 hE2
        · rw [if_neg hl] at hu'
          subst hu'
          exact prsw.cC u t1 t2 t1.size z E2 N2 w hpa hw1 hu he1 hne he2 hT hch hp2 hE2
    · have hpa : ∀ w, Calls Tryz.prog 4 #[.string u] w (GotMk w 0 1 Ez) := fun w => qpErr1 u t1 t2 z Ez 0 w true hC hW hE
      by_cases hl : 200 < s.size
      · rw [if_pos hl] at hu'
        exact prsc.cAy s u t1 t2 t1.size z Ez w hpa hw1 hl hu' he1 hne he2 hT hch hu hE
      · rw [if_neg hl] at hu'
        subst hu'
        exact prsw.cAy u t1 t2 t1.size z Ez w hpa hw1 hu he1 hne he2 hT hch hE
theorem own : ownKnob Tryz.prog.godebug = none := by kernel_rfl
set_option maxRecDepth 100000 in
theorem lifted (os : Os) (started : os.Started) (H : Type) (enc : TypeId × Value → H) :
    ReturnsInHanded {} Tryz.checked os 3 .any (fun w args => (Rows.ratParsesSpec.pre enc Tryz.prog Tryz.f3 [] false w args ∧ laidMetH Tryz.prog Rows.ratParsesRow.laid w) ∧ sizedMet enc Tryz.prog Tryz.f3 (OpenSpec.ofChange Rows.ratParsesSpec) false w args)
      (Rows.ratParsesSpec.post enc Tryz.prog Tryz.f3 false true false false) := by
  refine returnsInHanded_of_change_and (C := Tryz.checked) (X := fun w _ => laidMetH Tryz.prog Rows.ratParsesRow.laid w) (fun _ _ _ hh h => h.of_heap hh) own started (by kernel_rfl) Tryz.func3
    (ChangeSpec.witness_shaped (enc := enc) (C := Tryz.checked) (os := os) (X := fun w _ => laidMetH Tryz.prog Rows.ratParsesRow.laid w) false (World.laidAll Tryz.prog os Rows.ratParsesRow.laid) #[.string ByteArray.empty] 8 (World.laidAll_os _ _ _)
      (World.shaped_of_ZipB (by kernel_rfl) (by kernel_rfl)) (by kernel_rfl) (by kernel_rfl) (by kernel_rfl)
      (by rw [MakeChecks.laidMetH_plain _ _ _ (by kernel_rfl)]; exact laidMet_laidAll _ (by kernel_rfl) (by kernel_rfl))) ?_
  intro W base args ds gs before hval0 hW _ _ hL _
  have hval : ∀ (j : Nat) t v, Tryz.f3.params[j]? = some t → args[j]? = some v → Value.okWide Tryz.prog W .any base t v := hval0
  have hW' := hW
  obtain ⟨p, q, hA0, hV, rfl, hfz, hnd⟩ := hW
  have hA : DataW.TrodAll enc Tryz.prog W 0 (fun _ => true) true Tryz.f3.params.toList args.toList ds p := hA0
  rw [Tryz.params3] at hA hval
  obtain ⟨v0, vs0, d0, ds0, p0, q0, hargs, rfl, rfl, h0, r0⟩ := trodAll_cons hA
  obtain ⟨rfl, rfl, rfl⟩ := trodAll_nil r0
  obtain rfl : args = #[v0] := by cases args; simp_all
  obtain ⟨rfl, rfl⟩ := trodVars_none hV
  have hlt : ∀ x ∈ p0, x.block < W.heap.size := fun x hx => by simpa using hW'.lt x (by simpa using hx)
  obtain ⟨a0, rfl, rfl, rfl, w0⟩ := open_string Tryz.underlying9 (hval 0 9 v0 rfl rfl) h0
  clear hA0 hval0
  refine (walk a0 W w0).mono fun e W' ⟨he, bel⟩ => ?_
  subst he
  exact ⟨_, rfl, _, _, _, [], _, [], hW', trodAll_mk1 (shut_bool Tryz.underlying4 _), (trodAll_cons_mk (shut_string Tryz.underlying9 w0) trodAll_mk0), rfl, bel.frame _, fun h => by cases h⟩

theorem said : Rows.RatParsesSaid :=
  OpenClaim.holds_of_wide 3 Tryz.f3 rfl rfl rfl rfl rfl rfl rfl ⟨rfl, rfl, rfl, rfl, rfl⟩ rfl rfl rfl rfl rfl (by kernel_rfl) Tryz.func3 (by kernel_rfl)
    (of_decide_eq_true (by kernel_rfl)) (by unfold Func.isWrapper; first | (rw [if_pos (by decide +kernel)]; kernel_rfl) | (rw [if_neg (by decide +kernel)]; exact ⟨rfl, rfl⟩))
    (fun os started H enc _ => lifted os started H enc)
/-- The program's own looks are off, and no parameter wants a stand-in: what the card asks. -/
theorem plain (f : FuncId) (fn : Func) (hf : Tryz.pinned.checked.prog.funcNamed "zellige/zelligelaw05.RatParses" = some f) (hfn : Tryz.pinned.checked.prog.funcs[f]? = some fn) :
    false = Tryz.pinned.checked.prog.looks [] ∧ ∀ (j : Nat) t, fn.params[j]? = some t → Tryz.pinned.checked.prog.wantsStandIn t = false := by
  obtain rfl : f = 3 := Option.some.inj ((show Tryz.prog.funcNamed "zellige/zelligelaw05.RatParses" = some 3 by kernel_rfl).symm.trans hf) |>.symm
  obtain rfl : fn = Tryz.f3 := (Option.some.inj (Tryz.func3.symm.trans hfn)).symm
  refine ⟨by kernel_rfl, fun j t ht => ?_⟩
  rw [Tryz.params3] at ht
  have hm : t ∈ [9] := by simpa using Array.mem_of_getElem? ht
  have hall : ([9].all fun u => !Tryz.prog.wantsStandIn u) = true := by kernel_rfl
  exact (show Tryz.prog.wantsStandIn t = false by simpa using List.all_eq_true.1 hall t hm)
/-- The statement: the card. -/
theorem proved : Rows.RatParsesCardSaid :=
  Claim7.holds_tied_plain_at .later [] _ _ _ _ said (fun _ h => by cases h) (by kernel_rfl) (fun _ h => by cases h) ratParses_row_tie rfl ⟨rfl, rfl⟩ (by kernel_rfl) rfl plain (by kernel_rfl)
#print axioms proved
end rparses
end Go.Proofs.YtaekgomplkkocabGreatDoor
