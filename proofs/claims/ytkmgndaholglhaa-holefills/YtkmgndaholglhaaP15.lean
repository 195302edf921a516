/-
  Joined texts, part 15:
  Layer 13's reference: zelligeref13's Fill: what is left waits in a list.
-/
import Derived.Test.YtkmgndaholglhaaP14
import Derived.Deep.LoopGhost
namespace Go.Proofs.Ytkmgndaholglhaa
open Go.RowKit
set_option linter.unusedVariables false
set_option linter.unusedSimpArgs false

structure WtAt (w : World) (b : Nat) (st : List (List Nat)) (no : Nat → Prop) : Prop where
 lt : b < w.heap.size
 ne : ¬ no b
 ex : ∃ xs : List Value, Seg w b 0 xs ∧ xs.length = st.length ∧ (∀ u ∈ xs, u.oneCell' = true) ∧ ∀ (i : Nat) (P : List Nat), st[i]? = some P → ∃ pb po pc : Nat, xs[i]? = some (.slice (some ⟨pb, po, none⟩) P.length pc) ∧ pb < w.heap.size ∧ ¬ no pb ∧ P.length ≤ pc ∧ pc ≤ maxLen ∧ Seg w pb po (natC P)
theorem WtAt.turn {w w' : World} {b : Nat} {st : List (List Nat)} {no no' F : Nat → Prop} (h : WtAt w b st no) (hk : Keep F w w') (hF : ∀ k, F k → no k) (hn : ∀ k, k < w.heap.size → no' k → no k) : WtAt w' b st no' := by
 obtain ⟨xs, h1, h2, h0, h3⟩ := h.ex
 refine ⟨Nat.lt_of_lt_of_le h.lt hk.size, fun q => h.ne (hn b h.lt q), xs, h1.block (hk.block b h.lt (fun q => h.ne (hF b q))), h2, h0, fun i P hi => ?_⟩
 obtain ⟨pb, po, pc, e1, e2, e3, e4, e5, e6⟩ := h3 i P hi
 exact ⟨pb, po, pc, e1, Nat.lt_of_lt_of_le e2 hk.size, fun q => e3 (hn pb e2 q), e4, e5, e6.block (hk.block pb e2 (fun q => e3 (hF pb q)))⟩
theorem WtAt.below {w w' : World} {b : Nat} {st : List (List Nat)} {no : Nat → Prop} (h : WtAt w b st no) (hb : Below w.heap.size w w') : WtAt w' b st no := h.turn (Keep.of (F := fun _ => False) hb) (fun _ x => x.elim) (fun _ _ q => q)
theorem WtAt.take {w : World} {b : Nat} {st : List (List Nat)} {no : Nat → Prop} (h : WtAt w b st no) (m : Nat) : WtAt w b (st.take m) no := by
 obtain ⟨xs, h1, h2, h0, h3⟩ := h.ex
 refine ⟨h.lt, h.ne, xs.take m, h1.take m, by rw [List.length_take, List.length_take, h2], fun u hu => h0 u (List.mem_of_mem_take hu), fun i P hi => ?_⟩
 rw [List.getElem?_take] at hi
 split at hi
 ·obtain ⟨pb, po, pc, e1, r⟩ := h3 i P hi
  exact ⟨pb, po, pc, by rw [List.getElem?_take]; split; exact e1; omega, r⟩
 ·cases hi
theorem WtAt.push {w w' : World} {b' B : Nat} {st : List (List Nat)} {no : Nat → Prop} {P Q : List Nat} {xs : List Value} {pa pc qa qc : Nat} (h1 : ∀ (i : Nat) (R : List Nat), st[i]? = some R → ∃ pb po pc : Nat, xs[i]? = some (.slice (some ⟨pb, po, none⟩) R.length pc) ∧ pb < w.heap.size ∧ ¬ no pb ∧ R.length ≤ pc ∧ pc ≤ maxLen ∧ Seg w pb po (natC R)) (hxl : xs.length = st.length) (hx1 : ∀ u ∈ xs, u.oneCell' = true) (hk : Below w.heap.size w w') (hno : ∀ k, no k → k < B) (hB : B ≤ pa ∧ B ≤ qa ∧ B ≤ b') (hb' : b' < w'.heap.size)
  (sg : Seg w' b' 0 (xs ++ [.slice (some ⟨pa, 0, none⟩) P.length pc, .slice (some ⟨qa, 0, none⟩) Q.length qc])) (sp : pa < w'.heap.size ∧ P.length ≤ pc ∧ pc ≤ maxLen ∧ Seg w' pa 0 (natC P)) (sq : qa < w'.heap.size ∧ Q.length ≤ qc ∧ qc ≤ maxLen ∧ Seg w' qa 0 (natC Q)) : WtAt w' b' (st ++ [P, Q]) no := by
 refine ⟨hb', fun q => by have := hno _ q; omega, _, sg, by rw [List.length_append, List.length_append, hxl]; rfl, fun u hu => ?_, fun i R hi => ?_⟩
 ·rcases List.mem_append.1 hu with q | q
  ·exact hx1 u q
  ·simp only [List.mem_cons, List.not_mem_nil, or_false] at q
   rcases q with rfl | rfl <;> rfl
 ·by_cases hlt : i < st.length
  ·rw [List.getElem?_append_left hlt] at hi
   obtain ⟨pb, po, pc, e1, e2, e3, e4, e5, e6⟩ := h1 i R hi
   exact ⟨pb, po, pc, by rw [List.getElem?_append_left (by omega)]; exact e1, Nat.lt_of_lt_of_le e2 hk.size, e3, e4, e5, e6.below hk e2⟩
  ·rw [List.getElem?_append_right (by omega)] at hi
   by_cases h0 : i = st.length
   ·subst h0
    rw [Nat.sub_self] at hi
    simp at hi
    subst hi
    exact ⟨pa, 0, pc, by rw [List.getElem?_append_right (by omega), hxl, Nat.sub_self]; rfl, sp.1, fun q => by have := hno _ q; omega, sp.2⟩
   ·by_cases h2 : i = st.length + 1
    ·subst h2
     rw [show st.length + 1 - st.length = 1 by omega] at hi
     simp at hi
     subst hi
     exact ⟨qa, 0, qc, by rw [List.getElem?_append_right (by omega), hxl, show st.length + 1 - st.length = 1 by omega]; rfl, sq.1, fun q => by have := hno _ q; omega, sq.2⟩
    ·have := (List.getElem?_eq_some_iff.1 hi).1
     simp at this
     omega
theorem row_news {w : World} {b : Nat} {xs : List Value} (h : Row w b xs) : News w ⟨b, 0, none⟩ xs := by
 intro j u hu
 rw [Addr.add_lit, Nat.zero_add]
 exact h.cell j u hu
theorem seg_news {w : World} {b o : Nat} {xs : List Value} (h : Seg w b o xs) : News w ⟨b, o, none⟩ xs := by
 intro j u hu
 rw [Addr.add_lit]
 exact h.cell j u hu
theorem infoSl : (Try.prog.info? 33).map (fun i => (i.zero, i.size, i.bytes)) = some (some (.slice none 0 0), 1, 24) := by kernel_rfl
theorem left_app (st : List (List Nat)) (P : List Nat) : leftN (st ++ [P]) = leftN st + (2 * P.length - 3) := by unfold leftN; simp
theorem last_split {st : List (List Nat)} {m : Nat} {P : List Nat} (hm : st.length = m + 1) (hP : st[m]? = some P) : st = st.take m ++ [P] := by
 conv => lhs; rw [← List.take_of_length_le (Nat.le_of_eq hm), List.take_add_one, hP]
 rfl
theorem left_len {st : List (List Nat)} (h : ∀ P ∈ st, 2 ≤ P.length) : st.length ≤ leftN st := by
 induction st with
 | nil => exact Nat.zero_le _
 | cons P st ih =>
  have := ih (fun Q hQ => h Q (List.mem_cons_of_mem _ hQ))
  have := h P List.mem_cons_self
  rw [leftN_cons, List.length_cons]
  omega
structure FillW (L : List Pt) (nl : Nat) (st : List (List Nat)) (O : List T3) (R : Option (List T3)) : Prop where
 eq : onto O (fillS (bestB L) st.reverse) = R
 mem : ∀ P ∈ st, 2 ≤ P.length ∧ ∀ j ∈ P, j < nl
 few : O.length + leftN st ≤ 200
section
variable {L : List Pt} {nl : Nat} {st : List (List Nat)} {O : List T3} {R : Option (List T3)}
theorem FillW.done (h : FillW L nl [] O R) : R = some O := by rw [← h.eq]; show onto O (some []) = _; simp [onto]
theorem FillW.pop {m : Nat} {P : List Nat} (h : FillW L nl st O R) (hm : st.length = m + 1) (hP : st[m]? = some P) (h3 : P.length < 3) : FillW L nl (st.take m) O R ∧ leftN (st.take m) < leftN st := by
 have e := last_split hm hP
 have hl : leftN st = leftN (st.take m) + (2 * P.length - 3) := by conv => lhs; rw [e, left_app]
 have h2 := (h.mem P (List.mem_of_getElem? hP)).1
 refine ⟨⟨?_, fun Q hQ => h.mem Q (List.mem_of_mem_take hQ), by have := h.few; omega⟩, by omega⟩
 rw [← h.eq]
 conv => rhs; rw [e, List.reverse_append]
 show _ = onto O (fillS (bestB L) (P :: (st.take m).reverse))
 rw [fillS_few h3]
theorem FillW.none {m : Nat} {P : List Nat} (h : FillW L nl st O R) (hm : st.length = m + 1) (hP : st[m]? = some P) (h3 : 3 ≤ P.length) (hb : bestB L P < 0) : R = none := by
 have e := last_split hm hP
 rw [← h.eq, e, List.reverse_append]
 show onto O (fillS (bestB L) (P :: (st.take m).reverse)) = _
 rw [fillS_no h3 hb]
 rfl
theorem FillW.step {m n cc x0 x1 x2 : Nat} {P : List Nat} (h : FillW L nl st O R) (hm : st.length = m + 1) (hP : st[m]? = some P) (hn : P.length = n) (h3 : 3 ≤ n) (hb : (cc : Int) = bestB L P) (e0 : P[0]? = some x0) (e1 : P[1]? = some x1) (e2 : P[cc + 2]? = some x2) : FillW L nl (st.take m ++ [cutB P (cc + 2), cutA P (cc + 2)]) (O ++ [(x0, x1, x2)]) R ∧ leftN (st.take m ++ [cutB P (cc + 2), cutA P (cc + 2)]) < leftN st := by
 have e := last_split hm hP
 have hc := best_lt hn h3 hb
 have la := cutA_len (P := P) (c := cc + 2) (by omega)
 have lb := cutB_len (P := P) (c := cc + 2) (by omega)
 have hl : leftN st = leftN (st.take m) + (2 * P.length - 3) := by conv => lhs; rw [e, left_app]
 have hl2 : leftN (st.take m ++ [cutB P (cc + 2), cutA P (cc + 2)]) = leftN (st.take m) + (2 * (cutB P (cc + 2)).length - 3) + (2 * (cutA P (cc + 2)).length - 3) := by
  have : st.take m ++ [cutB P (cc + 2), cutA P (cc + 2)] = (st.take m ++ [cutB P (cc + 2)]) ++ [cutA P (cc + 2)] := by simp
  rw [this, left_app, left_app]
 have hp := h.mem P (List.mem_of_getElem? hP)
 refine ⟨⟨?_, fun Q hQ => ?_, ?_⟩, by omega⟩
 ·rw [← h.eq]
  conv => rhs; rw [e, List.reverse_append]
  show _ = onto O (fillS (bestB L) (P :: (st.take m).reverse))
  rw [fillS_step (bestB_in L) O (by omega) hb.symm, List.reverse_append, getD_nat e0, getD_nat e1, getD_nat e2]
  rfl
 ·rcases List.mem_append.1 hQ with q | q
  ·exact h.mem Q (List.mem_of_mem_take q)
  ·simp only [List.mem_cons, List.not_mem_nil, or_false] at q
   rcases q with rfl | rfl
   ·exact ⟨by omega, fun j hj => hp.2 j (mem_cutB hj)⟩
   ·exact ⟨by omega, fun j hj => hp.2 j (mem_cutA hj)⟩
 ·have := h.few
  rw [List.length_append]
  show O.length + 1 + _ ≤ _
  omega
end
theorem best_rb {L : List Pt} {P : List Nat} {n x0 x1 : Nat} {a1 a2 b1 b2 : Int} (hn : P.length = n) (h0 : P[0]? = some x0) (h1 : P[1]? = some x1) (e0 : ptAt L x0 = (a1, a2)) (e1 : ptAt L x1 = (b1, b2)) : bestB L P = rbQ (a1, a2) (b1, b2) ((P.drop 2).map (ptAt L)) := by
 rw [bestB_of hn h0 h1 e0 e1, ← (best_same (a1, a2) (b1, b2) ((P.drop 2).map (ptAt L))).1]
 congr 1
 rw [List.length_map, List.length_drop, hn]
theorem wrap_i {a b k : Nat} (h : b = a + k) (hb : b ≤ 100000) : IntKind.i64.wrap ((a : Int) + (k : Int)) = (b : Int) := by rw [IntKind.wrap_i64]; omega
def RefTold (base : Nat) (r : Option (List T3)) (a : Option Addr) (m c : Nat) (q : Bool) (w' : World) : Prop := match r with
 | some T => q = true ∧ m = T.length ∧ OwnS w' base 37 3 a m c (flat t3C T)
 | none => q = false ∧ m = 0 ∧ OwnS w' base 37 3 a 0 c []
structure RefRes (L : List Pt) (w : World) (e : Ending) (w' : World) : Prop where
 ex : ∃ (a : Option Addr) (m c : Nat) (q : Bool), e = .returned (.tuple #[.slice a m c, .bool q]) ∧ RefTold w.heap.size (fillTop L) a m c q w'
 be : Below w.heap.size w w'
structure FillRel (L : List Pt) (nl : Nat) (w : World) (k : Nat) (ov wv : Value) (wr : World) : Prop where
 ex : ∃ (st : List (List Nat)) (O : List T3) (oa : Option Addr) (on oc wb wn wc : Nat), ov = .slice oa on oc ∧ wv = .slice (some ⟨wb, 0, none⟩) wn wc ∧ on = O.length ∧ wn = st.length ∧ (wn ≤ wc ∧ wc ≤ maxLen) ∧ leftN st = k ∧ OwnS wr w.heap.size 37 3 oa on oc (flat t3C O) ∧ WtAt wr wb st (Slot oa) ∧ FillW L nl st O (fillP (bestB L) (List.range nl))
 be : Below w.heap.size w wr
set_option maxRecDepth 100000 in
set_option maxHeartbeats 8000000 in
theorem rhFill (la : Option Addr) (nl lc : Nat) (L : List Pt) (w : World) (hL : PSl w la nl lc L) (hnl : nl ≤ 60) (hR : ∀ (j : Nat) (x y : Int), L[j]? = some (x, y) → R2 (x, y)) :
  Calls Try.prog 6 #[.slice la nl lc] w (RefRes L w) := by
 obtain ⟨i0, hi0, hz0, hz1, hz2⟩ := info_of infoI
 obtain ⟨i3, ki0, kz0, kz1, kz2⟩ := info_of info3
 obtain ⟨ip, pi0, pz0, pz1, pz2⟩ := info_of infoPtH
 obtain ⟨is, si0, sz0, sz1, sz2⟩ := info_of infoSl
 have hlen := hL.len
 have HL : Hid (PSl w la nl lc L) := hL
 have HRR : Hid _ := hR
 obtain ⟨W, hW⟩ : ∃ W, W = w.alloc (.cells #[] 37) := ⟨_, rfl⟩
 have bW : Below w.heap.size w W := by rw [hW]; exact (Below.refl _ _).alloc (Nat.le_refl _) _
 have zW : w.heap.size < W.heap.size := by rw [hW]; simp
 have owO : OwnS W w.heap.size 37 3 (some ⟨w.heap.size, 0, none⟩) 0 0 (flat t3C []) := by rw [hW]; exact ownS_new w w.heap.size 37 3 (Nat.le_refl _)
 have HW : w.alloc (.cells #[] 37) = W := hW.symm
 by_cases h3 : nl < 3
 ·have h3' : (nl : Int) < 3 := by omega
  have RES : Hid (RefTold w.heap.size (fillTop L) (some ⟨w.heap.size, 0, none⟩) 0 0 false W) := by
   unfold Hid fillTop; rw [if_pos (Or.inl (by omega))]; exact ⟨rfl, rfl, owO⟩
  clear hL hR owO hW
  go_enter Try.func6, Try.ntmps6
  go_wp2
  exact bodyPost_ret (v := .tuple #[.slice (some ⟨w.heap.size, 0, none⟩) 0 0, .bool false]) (by simp [results, Try.results6, go_sem]) rfl ⟨⟨_, 0, 0, false, rfl, RES.out⟩, bW⟩
 have h3' : ¬ (nl : Int) < 3 := by omega
 have d3 : decide ((nl : Int) < 3) = false := decide_eq_false h3'
 have h5' : ¬ (nl : Int) > 500 := by omega
 have TOP : Hid (fillTop L = fillP (bestB L) (List.range nl)) := by unfold Hid fillTop; rw [if_neg (by omega), hlen]
 obtain ⟨lb, lo, _, _, rfl, hlb, _, _⟩ := hL.at (k := 0) (by omega)
 obtain ⟨W2, hW2⟩ : ∃ W2, W2 = W.alloc (.cells #[] 3) := ⟨_, rfl⟩
 have bW2 : Below W.heap.size W W2 := by rw [hW2]; exact (Below.refl _ _).alloc (Nat.le_refl _) _
 have owA : Own W2 W.heap.size 3 (some ⟨W.heap.size, 0, none⟩) 0 0 (natC (List.range 0)) := by rw [hW2]; exact own_new W W.heap.size 3 (Nat.le_refl _)
 have HW2 : W.alloc (.cells #[] 3) = W2 := hW2.symm
 have HOO : Hid (OwnS W w.heap.size 37 3 (some ⟨w.heap.size, 0, none⟩) 0 0 (flat t3C [])) := owO
 clear hL hR owO hW hW2
 go_enter Try.func6, Try.ntmps6
 go_wp2
 go_loopw [5, 6] (fun s i wr => ∃ (k : Nat) (a : Option Addr) (c : Nat), k ≤ nl ∧ i = .int .i64 (k : Int) ∧ s = .slice a k c ∧ Own wr W.heap.size 3 a k c (natC (List.range k)) ∧ Below W.heap.size W wr) (fun _ i _ => nl - (Go.RowKit.intOf i).toNat)
 case atStart => exact ⟨0, _, 0, by omega, rfl, rfl, owA, bW2⟩
 case round =>
  clear owA bW2 HW2
  obtain ⟨k, a, c, hk, rfl, rfl, ow, be⟩ := hrel
  have zr := be.size
  by_cases hlt : k < nl
  ·have hlt' : (k : Int) < (nl : Int) := by omega
   have b4 : Below wr.heap.size wr (wr.alloc (.cells #[.int .i64 (k : Int)] 3)) := (Below.refl _ _).alloc (Nat.le_refl _) _
   have owX := OwnS.below ow b4
   have S1 := sl_one wr (k : Int) 3
   have be4 := also be b4
   go_wp2_with (at_builtin; go_loud (refine app_at _ rfl _ _ 33 rfl W.heap.size 3 i0 _ 8 Try.underlying33 hi0 hz0 hz1 hz2 rfl a k c _ rfl owX _ 1 1 [.int .i64 (k : Int)] rfl S1 (by simp [Value.oneCell']) (by unfold maxLen; omega) (by omega) (by simp; omega) ?_; intro a6 c6 w6 h6 g6 s6))
   have be6 := grown_low be4 (by simp; omega) owX g6
   have own6 : Own w6 W.heap.size 3 a6 (k + 1) c6 (natC (List.range (k + 1))) := by rw [List.range_succ, natC_app]; exact h6
   clear owX S1 h6 g6 s6 b4 be4 ow be
   go_wp2
   go_roundw
   case rel => exact ⟨k + 1, a6, c6, by omega, by simp, rfl, own6, be6⟩
   case measure => simp [Go.RowKit.intOf]; omega
  ·obtain rfl : nl = k := by omega
   obtain ⟨ab, rfl, hab, hab2, sgA⟩ := OwnS.at ow (by omega)
   have hroom := OwnS.room ow
   obtain ⟨V, hV⟩ : ∃ V, V = wr.alloc (.cells #[.slice (some ⟨ab, 0, none⟩) nl c] 33) := ⟨_, rfl⟩
   have bV : Below wr.heap.size wr V := by rw [hV]; exact (Below.refl _ _).alloc (Nat.le_refl _) _
   have zV : V.heap.size = wr.heap.size + 1 := by rw [hV]; simp
   have RV : Row V wr.heap.size [.slice (some ⟨ab, 0, none⟩) nl c] := by rw [hV]; exact Row.new wr _ _
   have START : Hid (FillRel L nl w (2 * nl - 3) (.slice (some ⟨w.heap.size, 0, none⟩) 0 0) (.slice (some ⟨wr.heap.size, 0, none⟩) 1 1) V) := by
    have b0 : Below w.heap.size w V := (bW.trans (be.mono (by omega))).trans (bV.mono (by omega))
    refine ⟨⟨[List.range nl], [], _, 0, 0, _, 1, 1, rfl, rfl, rfl, rfl, ⟨Nat.le_refl _, by unfold maxLen; omega⟩, by unfold leftN; simp, (OwnS.below HOO.out be).below bV, ⟨by omega, fun q => by have := Slot.eq q; omega, _, RV.seg, rfl, (by intro u hu; simp at hu; subst hu; rfl), fun i P hi => ?_⟩, ⟨?_, ?_, ?_⟩⟩, b0⟩
    ·cases i with
     | zero =>
      simp at hi
      subst hi
      exact ⟨ab, 0, c, by rw [List.length_range]; rfl, by omega, fun q => by have := Slot.eq q; omega, by rw [List.length_range]; exact hroom.1, hroom.2, sgA.below bV hab⟩
     | succ i => simp at hi
    ·exact fillS_one _
    ·intro P hP
     rw [List.mem_singleton] at hP
     subst hP
     exact ⟨by rw [List.length_range]; omega, fun j hj => List.mem_range.1 hj⟩
    ·unfold leftN; simp; omega
   have HV : wr.alloc (.cells #[.slice (some ⟨ab, 0, none⟩) nl c] 33) = V := hV.symm
   clear ow sgA RV hV
   go_wp2
   clear HV
   go_loopg [4, 7] (2 * nl - 3) (fun k ov wv wq => FillRel L nl w k ov wv wq)
   case atStart => exact START.out
   case round =>
    clear START
    obtain ⟨wq, hwq⟩ : ∃ q, q = wr := ⟨_, rfl⟩
    rw [← hwq] at hrel ⊢
    clear hwq
    obtain ⟨⟨st, O, oa, on, oc, wb, wn, wc, rfl, rfl, hon, hwn, hwc, hgk, owO, wt, fw⟩, bq⟩ := hrel
    have zq := bq.size
    have HFW : Hid (FillW L nl st O (fillP (bestB L) (List.range nl))) := fw
    have HGK : Hid _ := hgk
    have HON : Hid _ := hon
    have HWT : Hid (WtAt wq wb st (Slot oa)) := wt
    have HOO2 : Hid (OwnS wq w.heap.size 37 3 oa on oc (flat t3C O)) := owO
    by_cases h0 : wn = 0
    ·subst h0
     have RES : Hid (RefTold w.heap.size (fillTop L) oa on oc true wq) := by
      unfold Hid
      obtain rfl : st = [] := List.eq_nil_of_length_eq_zero hwn.symm
      rw [TOP.out, fw.done]
      exact ⟨rfl, hon, owO⟩
     clear hwn hgk hon wt fw owO
     go_wp2
     exact bodyPost_ret (v := .tuple #[.slice oa on oc, .bool true]) (by simp [results, Try.results6, go_sem]) rfl ⟨⟨oa, on, oc, true, rfl, RES.out⟩, bq⟩
    obtain ⟨m, rfl⟩ : ∃ m, wn = m + 1 := ⟨wn - 1, by omega⟩
    have HWN : Hid (st.length = m + 1) := hwn.symm
    obtain ⟨P, hP⟩ : ∃ P, st[m]? = some P := ⟨st[m]'(by omega), List.getElem?_eq_getElem _⟩
    have HP : Hid _ := hP
    have hmem := fw.mem P (List.mem_of_getElem? hP)
    obtain ⟨xs, sx, hxl, hx1, hxe⟩ := wt.ex
    obtain ⟨pb, po, pc, ex, hpb, npb, hpl, hpc, sgP⟩ := hxe m P hP
    obtain ⟨n, hn⟩ : ∃ n, n = P.length := ⟨_, rfl⟩
    have HN : Hid (P.length = n) := hn.symm
    rw [← hn] at ex hpl hmem
    have q0 : wq.cell? ⟨wb, m, none⟩ = some (.slice (some ⟨pb, po, none⟩) n pc) := by have := sx.cell m _ ex; rwa [Nat.zero_add] at this
    have hn60 : n ≤ 200 := by
     have e := last_split HWN.out hP
     have hl : leftN st = leftN (st.take m) + (2 * P.length - 3) := by conv => lhs; rw [e, left_app]
     have := fw.few
     omega
    have hm200 : m ≤ 200 := by
     have := left_len (fun P hP => (fw.mem P hP).1)
     have := fw.few
     omega
    have HM : Hid (∀ j ∈ P, j < nl) := hmem.2
    have HSP : Hid (Seg wq pb po (natC P)) := sgP
    have hmn : (0 : Int) < (m : Int) + 1 := by omega
    have hm2 : 2 ≤ n := hmem.1
    have hon200 : on ≤ 200 := by have := fw.few; omega
    clear hwn hgk hon wt fw owO hP hmem hxe sx hxl hx1 ex sgP hn
    by_cases hn3 : n < 3
    ·have hn3' : (n : Int) < 3 := by omega
     have FP := HFW.out.pop HWN.out HP.out (by rw [HN.out]; exact hn3)
     have HFP : Hid _ := FP
     clear FP
     go_wp2
     go_roundg (leftN (st.take m))
     case measure => rw [← HGK.out]; exact HFP.out.2
     case rel => exact ⟨⟨st.take m, O, oa, on, oc, wb, m, wc, rfl, rfl, HON.out, by rw [List.length_take, HWN.out]; omega, ⟨by omega, hwc.2⟩, rfl, HOO2.out, HWT.out.take m, HFP.out.1⟩, bq⟩
    have hn3' : ¬ (n : Int) < 3 := by omega
    have own0 : OwnS (wq.alloc (.cells #[] 31)) wq.heap.size 31 2 (some ⟨wq.heap.size, 0, none⟩) 0 0 [] := ownS_new wq wq.heap.size 31 2 (Nat.le_refl _)
    have B0 : Below wq.heap.size wq (wq.alloc (.cells #[] 31)) := (Below.refl _ _).alloc (Nat.le_refl _) _
    go_wp2
    clear q0
    go_loopw [9, 10] (fun s i wr => ∃ (k : Nat) (a : Option Addr) (c : Nat), (2 ≤ k ∧ k ≤ n) ∧ i = .int .i64 (k : Int) ∧ s = .slice a (k - 2) c ∧ OwnS wr wq.heap.size 31 2 a (k - 2) c (pcells (((P.drop 2).take (k - 2)).map (ptAt L))) ∧ Below wq.heap.size wq wr) (fun _ i _ => n - (Go.RowKit.intOf i).toNat)
    case atStart => exact ⟨2, _, 0, ⟨by omega, by omega⟩, rfl, rfl, own0, B0⟩
    case round =>
     clear own0 B0
     obtain ⟨k, a, c, ⟨hk2, hk⟩, rfl, rfl, ow, be⟩ := hrel
     have zr := be.size
     by_cases hlt : k < n
     ·have hlt' : (k : Int) < (n : Int) := by omega
      have KN := HN.out
      obtain ⟨x, hx⟩ : ∃ x, P[k]? = some x := ⟨P[k]'(by omega), List.getElem?_eq_getElem _⟩
      have cx := (HSP.out.below be hpb).cell k _ (natC_at hx)
      have hxl := HM.out x (List.mem_of_getElem? hx)
      obtain ⟨_, _, u, v, e9, hlb2, hxy, hpc2⟩ := (HL.out.below (also bq be)).at hxl
      cases e9
      have pcx := hpc2 x u v hxy
      have g0 := pcx.c0
      have g1 := pcx.c1
      have hroom2 := HL.out.room
      have hxl' : (x : Int) < (nl : Int) := by omega
      have b4 : Below wr.heap.size wr (wr.alloc (.cells #[.int .i64 u, .int .i64 v] 31)) := (Below.refl _ _).alloc (Nat.le_refl _) _
      have owX := OwnS.below ow b4
      have NW := news_new wr [.int .i64 u, .int .i64 v] 31
      have be4 := also be b4
      have HPT : Hid (pcells (((P.drop 2).take (k - 2)).map (ptAt L)) ++ [.int .i64 u, .int .i64 v] = pcells (((P.drop 2).take (k - 2 + 1)).map (ptAt L))) := by
       unfold Hid
       rw [List.take_add_one, List.getElem?_drop, show 2 + (k - 2) = k by omega, hx, List.map_append, pcells_app]
       show _ = _ ++ pcells [ptAt L x]
       rw [ptAt_of hxy]
       rfl
      clear hx hxy hpc2 pcx KN
      go_wp2_with (at_builtin; go_loud (refine app_atS _ rfl _ _ 22 rfl wq.heap.size 31 ip _ 2 16 Try.underlying22 pi0 pz0 pz1 pz2 rfl (by decide) a (k - 2) c _ rfl owX ⟨wr.heap.size, 0, none⟩ 1 1 [.int .i64 u, .int .i64 v] rfl rfl NW (by intro t ht; simp at ht; rcases ht with rfl | rfl <;> rfl) (by unfold maxLen; omega) (by omega) (by simp; omega) ?_; intro a6 c6 w6 h6 g6 s6))
      have be6 := grown_low be4 (by simp; omega) owX g6
      rw [HPT.out] at h6
      clear owX NW g6 s6 b4 be4 ow be cx g0 g1
      go_wp2
      go_roundw
      case rel => exact ⟨k + 1, a6, c6, ⟨by omega, by omega⟩, by simp, by first | rfl | (rw [show k + 1 - 2 = k - 2 + 1 by omega]), by rw [show k + 1 - 2 = k - 2 + 1 by omega]; exact h6, be6⟩
      case measure => simp [Go.RowKit.intOf]; omega
     ·obtain rfl : n = k := by omega
      have KN := HN.out
      obtain ⟨x0, hx0⟩ : ∃ x, P[0]? = some x := ⟨P[0]'(by omega), List.getElem?_eq_getElem _⟩
      obtain ⟨x1, hx1⟩ : ∃ x, P[1]? = some x := ⟨P[1]'(by omega), List.getElem?_eq_getElem _⟩
      have HX0 : Hid _ := hx0
      have HX1 : Hid _ := hx1
      have sg := HSP.out.below be hpb
      have hpr : pb < wr.heap.size := by omega
      have p0 : wr.cell? ⟨pb, po, none⟩ = some (.int .i64 (x0 : Int)) := sg.cell 0 _ (natC_at hx0)
      have p1 : wr.cell? ⟨pb, po + 1, none⟩ = some (.int .i64 (x1 : Int)) := sg.cell 1 _ (natC_at hx1)
      have l0 := HM.out x0 (List.mem_of_getElem? hx0)
      have l1 := HM.out x1 (List.mem_of_getElem? hx1)
      have l0' : (x0 : Int) < (nl : Int) := by omega
      have l1' : (x1 : Int) < (nl : Int) := by omega
      have PLr := HL.out.below (also bq be)
      obtain ⟨_, _, a1, a2, e9, hlr, hxy0, hpc2⟩ := PLr.at l0
      cases e9
      obtain ⟨_, _, b1, b2, e9, _, hxy1, _⟩ := PLr.at l1
      cases e9
      have u0 := (hpc2 x0 a1 a2 hxy0).c0
      have u1 := (hpc2 x0 a1 a2 hxy0).c1
      have u2 := (hpc2 x1 b1 b2 hxy1).c0
      have u3 := (hpc2 x1 b1 b2 hxy1).c1
      have Ra : Hid (R2 (a1, a2)) := HRR.out x0 a1 a2 hxy0
      have Rb : Hid (R2 (b1, b2)) := HRR.out x1 b1 b2 hxy1
      obtain ⟨r, hr⟩ : ∃ r, r = bestB L P := ⟨_, rfl⟩
      have HR : Hid _ := hr
      have HR2 : Hid (r = rbQ (a1, a2) (b1, b2) ((P.drop 2).map (ptAt L))) := by unfold Hid; rw [hr]; exact best_rb KN hx0 hx1 (ptAt_of hxy0) (ptAt_of hxy1)
      have PSr : Hid (PSl wr a (n - 2) c ((P.drop 2).map (ptAt L))) := by
       have e : (P.drop 2).take (n - 2) = P.drop 2 := List.take_of_length_le (by rw [List.length_drop]; omega)
       rw [e] at ow
       obtain ⟨b, e2, h1, _, h2⟩ := ow.at (by omega)
       exact ⟨by rw [List.length_map, List.length_drop]; omega, ow.room.1, (by intro e; rw [e] at e2; cases e2), Or.inr ⟨b, 0, e2, h1, h2⟩⟩
      have RRest : Hid (∀ (j : Nat) (x y : Int), ((P.drop 2).map (ptAt L))[j]? = some (x, y) → R2 (x, y)) := by
       intro j x y h
       rw [List.getElem?_map] at h
       cases q : (P.drop 2)[j]? with
       | none => rw [q] at h; cases h
       | some t =>
        rw [q] at h
        have ht := HM.out t (List.mem_of_mem_drop (List.mem_of_getElem? q))
        obtain ⟨_, _, u, v, _, _, hz, _⟩ := PLr.at ht
        have e := ptAt_of hz
        simp only [Option.map_some, Option.some.injEq] at h
        rw [e] at h
        cases h
        exact HRR.out t _ _ hz
      have hroom2 := HL.out.room
      have nz0 : 0 < n := by omega
      have nzi1 : (1 : Int) < (n : Int) := by omega
      clear hx0 hx1 sg hxy0 hxy1 hpc2 hr ow PLr KN
      go_wp2

      have HSb : Hid (∀ w', Below (wr.heap.size) wr w' → (fun w' => w'.cell? ⟨pb, po, none⟩ = some (.int .i64 (x0 : Int)) ∧ w'.cell? ⟨pb, po + 1, none⟩ = some (.int .i64 (x1 : Int)) ∧ w'.cell? ⟨lb, lo + x0 * 2, none⟩ = some (.int .i64 a1) ∧ w'.cell? ⟨lb, lo + x0 * 2 + 1, none⟩ = some (.int .i64 a2) ∧ w'.cell? ⟨lb, lo + x1 * 2, none⟩ = some (.int .i64 b1) ∧ w'.cell? ⟨lb, lo + x1 * 2 + 1, none⟩ = some (.int .i64 b2) ∧ Below (wr.heap.size) wr w') w') := by
       unfold Hid
       intro w' hb
       exact ⟨(hb.cell (p := ⟨pb, po, none⟩) hpr).trans p0, (hb.cell (p := ⟨pb, po + 1, none⟩) hpr).trans p1, (hb.cell (p := ⟨lb, lo + x0 * 2, none⟩) hlr).trans u0, (hb.cell (p := ⟨lb, lo + x0 * 2 + 1, none⟩) hlr).trans u1, (hb.cell (p := ⟨lb, lo + x1 * 2, none⟩) hlr).trans u2, (hb.cell (p := ⟨lb, lo + x1 * 2 + 1, none⟩) hlr).trans u3, hb⟩
      refine wp_region_held_drew (S := fun w' => w'.cell? ⟨pb, po, none⟩ = some (.int .i64 (x0 : Int)) ∧ w'.cell? ⟨pb, po + 1, none⟩ = some (.int .i64 (x1 : Int)) ∧ w'.cell? ⟨lb, lo + x0 * 2, none⟩ = some (.int .i64 a1) ∧ w'.cell? ⟨lb, lo + x0 * 2 + 1, none⟩ = some (.int .i64 a2) ∧ w'.cell? ⟨lb, lo + x1 * 2, none⟩ = some (.int .i64 b1) ∧ w'.cell? ⟨lb, lo + x1 * 2 + 1, none⟩ = some (.int .i64 b2) ∧ Below (wr.heap.size) wr w') (by kernel_rfl) ?_ (fun hHeld => ?_)
      ·exact HSb.out _ ((Below.refl _ _).drew)
      refine tz (i := 0) rfl ?_
      simp only [Act.put, ps1, ps2, ps3]
      refine tz (i := 1) rfl ?_
      simp only [Act.put, ps1, ps2, ps3]
      refine tz (i := 2) rfl ?_
      simp only [Act.put, ps1, ps2, ps3]
      refine tz (i := 3) rfl ?_
      simp only [Act.put, ps1, ps2, ps3]
      refine tz (i := 4) rfl ?_
      simp only [Act.put, ps1, ps2, ps3]
      refine tz (i := 5) rfl ?_
      simp only [Act.put, ps1, ps2, ps3]
      refine tz (i := 6) rfl ?_
      simp only [Act.put, ps1, ps2, ps3]
      refine tz (i := 7) rfl ?_
      simp only [Act.put, ps1, ps2, ps3]
      refine tz (i := 8) rfl ?_
      simp only [Act.put, ps1, ps2, ps3]
      refine tz (i := 9) rfl ?_
      simp only [Act.put, ps1, ps2, ps3]
      refine tz (i := 10) rfl ?_
      simp only [Act.put, ps1, ps2, ps3]
      refine tz (i := 11) rfl ?_
      simp only [Act.put, ps1, ps2, ps3]
      refine tz (i := 12) rfl ?_
      simp only [Act.put, ps1, ps2, ps3]
      refine take_call (i := 13) rfl (by kernel_rfl) (fun Kc hK => ?_)
      go_simp
      (go_at_call 10; refine Calls.mono (rtBest a1 a2 b1 b2 a (n - 2) c _ _ (PSr.out.below hHeld.2.2.2.2.2.2) (by omega) Ra Rb RRest.out HR2.out) ?_; rintro e w5 ⟨rfl, bo5⟩)
      refine hK.out _ _ ?_ (fun hHeld => ?_)
      ·exact HSb.out _ (hHeld.2.2.2.2.2.2.trans (bo5.mono hHeld.2.2.2.2.2.2.size))
      clear hK Kc
      refine tz (i := 14) rfl ?_
      simp only [Act.put, ps1, ps2, ps3]
      refine wpAnyH_done (by kernel_rfl) ?_ _
      have b5 : Below wq.heap.size wq w5 := also be hHeld.2.2.2.2.2.2
      have b05 : Below w.heap.size w w5 := also bq b5
      have z5 := b5.size
      clear hHeld HSb PSr RRest Ra Rb HR2 p0 p1 u0 u1 u2 u3 be bo5
      by_cases hr0 : r < 0
      ·obtain ⟨V6, hV6⟩ : ∃ V, V = w5.alloc (.cells #[] 37) := ⟨_, rfl⟩
       have bV6 : Below w5.heap.size w5 V6 := by rw [hV6]; exact (Below.refl _ _).alloc (Nat.le_refl _) _
       have RES : Hid (RefTold w.heap.size (fillTop L) (some ⟨w5.heap.size, 0, none⟩) 0 0 false V6) := by
        unfold Hid
        rw [TOP.out, HFW.out.none HWN.out HP.out (by rw [HN.out]; omega) (by rw [← HR.out]; exact hr0), hV6]
        exact ⟨rfl, rfl, (ownS_new w5 w5.heap.size 37 3 (Nat.le_refl _)).mono (by omega)⟩
       have HV6 : w5.alloc (.cells #[] 37) = V6 := hV6.symm
       clear hV6
       go_wp2
       exact bodyPost_ret (v := .tuple #[.slice (some ⟨w5.heap.size, 0, none⟩) 0 0, .bool false]) (by simp [results, Try.results6, go_sem]) rfl ⟨⟨_, 0, 0, false, rfl, RES.out⟩, also b05 bV6⟩
      obtain ⟨cc, rfl⟩ : ∃ cc : Nat, r = (cc : Int) := ⟨r.toNat, by omega⟩
      have hcc : cc + 2 < n := best_lt HN.out (by omega) HR.out
      obtain ⟨x2, hx2⟩ : ∃ x, P[cc + 2]? = some x := ⟨P[cc + 2]'(by rw [HN.out]; exact hcc), List.getElem?_eq_getElem _⟩
      obtain ⟨c2, hc2⟩ : ∃ c2, c2 = cc + 2 := ⟨_, rfl⟩
      obtain ⟨c3, hc3⟩ : ∃ c3, c3 = cc + 3 := ⟨_, rfl⟩
      have HC2 : Hid _ := hc2
      have HC3 : Hid _ := hc3
      have HW2 : Hid (IntKind.i64.wrap ((cc : Int) + 2) = (c2 : Int)) := wrap_i (k := 2) hc2 (by omega)
      have HW3 : Hid (IntKind.i64.wrap ((cc : Int) + 3) = (c3 : Int)) := wrap_i (k := 3) hc3 (by omega)
      have k2 : (c2 : Int) < (n : Int) := by omega
      have k2n : c2 < n := by omega
      have k2p : 0 < c2 := by omega
      have k3 : (c3 : Int) ≤ (n : Int) := by omega
      have k31 : (1 : Int) ≤ (c3 : Int) := by omega
      have k20 : (0 : Int) ≤ (c2 : Int) := by omega
      have k2e : (c2 : Int) ≤ (n : Int) := by omega
      have kpc2 : ¬ pc = c2 := by omega
      have kpc1 : ¬ pc = 1 := by omega
      have kc : c3 - 1 = c2 := by omega
      have kp3 : (c3 : Int) ≤ (pc : Int) := by omega
      have sg5 := HSP.out.below b5 hpb
      have hp5 : pb < w5.heap.size := by omega
      have p0 : w5.cell? ⟨pb, po, none⟩ = some (.int .i64 (x0 : Int)) := sg5.cell 0 _ (natC_at HX0.out)
      have p1 : w5.cell? ⟨pb, po + 1, none⟩ = some (.int .i64 (x1 : Int)) := sg5.cell 1 _ (natC_at HX1.out)
      have p2 : w5.cell? ⟨pb, po + c2, none⟩ = some (.int .i64 (x2 : Int)) := by rw [hc2]; exact sg5.cell (cc + 2) _ (natC_at hx2)
      have HST : Hid _ := HFW.out.step HWN.out HP.out HN.out (by omega) HR.out HX0.out HX1.out hx2
      have ow5 : OwnS w5 w.heap.size 37 3 oa on oc (flat t3C O) := HOO2.out.below b5
      have bA : Below w5.heap.size w5 (w5.drew.alloc (.cells #[.int .i64 (x0 : Int), .int .i64 (x1 : Int), .int .i64 (x2 : Int)] 37)) := ((Below.refl _ _).drew).alloc (by simp) _
      have owX := ow5.below bA
      have NW := news_new w5.drew (t3C (x0, x1, x2)) 37
      have A1 : on + 1 ≤ maxLen := by unfold maxLen; omega
      have A2 : (on + 1) * 24 ≤ 140737488355328 := by omega
      have A3 : w.heap.size ≤ (w5.drew.alloc (.cells #[.int .i64 (x0 : Int), .int .i64 (x1 : Int), .int .i64 (x2 : Int)] 37)).heap.size := by simp; omega
      clear hc2 hc3 hx2 sg5
      have hw2 := HW2.out
      go_wp2
      have HSo : Hid (∀ w', Keep (Slot oa) w5 w' → (fun w' => w'.cell? ⟨pb, po, none⟩ = some (.int .i64 (x0 : Int)) ∧ w'.cell? ⟨pb, po + 1, none⟩ = some (.int .i64 (x1 : Int)) ∧ w'.cell? ⟨pb, po + c2, none⟩ = some (.int .i64 (x2 : Int)) ∧ Keep (Slot oa) w5 w') w') := by
       unfold Hid
       intro w' hb
       exact ⟨(hb.cellK (p := ⟨pb, po, none⟩) hp5 npb).trans p0, (hb.cellK (p := ⟨pb, po + 1, none⟩) hp5 npb).trans p1, (hb.cellK (p := ⟨pb, po + c2, none⟩) hp5 npb).trans p2, hb⟩
      refine wp_region_held_drew (S := fun w' => w'.cell? ⟨pb, po, none⟩ = some (.int .i64 (x0 : Int)) ∧ w'.cell? ⟨pb, po + 1, none⟩ = some (.int .i64 (x1 : Int)) ∧ w'.cell? ⟨pb, po + c2, none⟩ = some (.int .i64 (x2 : Int)) ∧ Keep (Slot oa) w5 w') (by kernel_rfl) ?_ (fun hHeld => ?_)
      ·exact HSo.out _ ((Keep.refl _ _).drew)
      refine tz (i := 0) rfl ?_
      simp only [Act.put, ps1, ps2, ps3]
      refine tz (i := 1) rfl ?_
      simp only [Act.put, ps1, ps2, ps3]
      refine tz (i := 2) rfl ?_
      simp only [Act.put, ps1, ps2, ps3]
      refine tz (i := 3) rfl ?_
      simp only [Act.put, ps1, ps2, ps3]
      refine tz (i := 4) rfl ?_
      simp only [Act.put, ps1, ps2, ps3]
      refine tz (i := 5) rfl ?_
      simp only [Act.put, ps1, ps2, ps3]
      refine tz (i := 6) rfl ?_
      simp only [Act.put, ps1, ps2, ps3]
      refine tz (i := 7) rfl ?_
      simp only [Act.put, ps1, ps2, ps3]
      refine tz (i := 8) rfl ?_
      simp only [Act.put, ps1, ps2, ps3]
      refine tz (i := 9) rfl ?_
      simp only [Act.put, ps1, ps2, ps3]
      refine tz (i := 10) rfl ?_
      simp only [Act.put, ps1, ps2, ps3]
      refine tz (i := 11) rfl ?_
      simp only [Act.put, ps1, ps2, ps3]
      refine tz (i := 12) rfl ?_
      simp only [Act.put, ps1, ps2, ps3]
      refine take_call (i := 13) rfl (by kernel_rfl) (fun Kc hK => ?_)
      go_simp
      refine hK.out _ _ ?_ (fun hHeld => ?_)
      ·exact HSo.out _ (hHeld.2.2.2.alloc _)
      clear hK Kc
      refine take_call (i := 14) rfl (by kernel_rfl) (fun Kc hK => ?_)
      refine step_append_S rfl (.tmp 88) (.tmp 101) 23 rfl w.heap.size 37 i3 _ 3 24 Try.underlying23 ki0 kz0 kz1 kz2 rfl (by decide) oa on oc _ rfl owX ⟨w5.drew.heap.size, 0, none⟩ 1 1 (t3C (x0, x1, x2)) rfl rfl NW (t3C_one _) A1 A2 A3 ?_; intro a6 c6 w6 h6 g6 s6
      refine hK.out _ _ ?_ (fun hHeld => ?_)
      ·exact HSo.out _ (Keep.grown hHeld.2.2.2 g6 (fun k e => Or.inl (owX.slot e)))
      clear hK Kc
      refine tz (i := 15) rfl ?_
      simp only [Act.put, ps1, ps2, ps3]
      refine wpAnyH_done (by kernel_rfl) ?_ _
      have K6 := hHeld.2.2.2
      rw [← flat_t3] at h6
      have z6 := K6.size
      have s6' : ∀ k, Slot a6 k → Slot oa k ∨ w5.heap.size ≤ k := fun k hk => (s6 k hk).imp id (fun h => by simp at h; omega)
      have HO6 : Hid (OwnS w6 w.heap.size 37 3 a6 (on + 1) c6 (flat t3C (O ++ [(x0, x1, x2)]))) := h6
      have HWT6 : Hid (WtAt w6 wb (st.take m) (Slot a6)) := ((HWT.out.below b5).take m).turn K6 (fun k hk => hk) (fun k hk h => (s6' k h).elim id (fun q => absurd q (by omega)))
      have np6 : ¬ Slot a6 pb := fun h => (s6' pb h).elim npb (fun q => by omega)
      have hp6 : pb < w6.heap.size := by omega
      have HSP6 : Hid (Seg w6 pb po (natC P)) := ((HSP.out.below b5 hpb).block (K6.block pb hp5 npb))
      have b06 : Below w.heap.size w w6 := b05.trans (K6.below (by omega) (fun k hk => (HOO2.out.lt hk).2))
      have p0 : w6.cell? ⟨pb, po, none⟩ = some (.int .i64 (x0 : Int)) := HSP6.out.cell 0 _ (natC_at HX0.out)
      have CL := cutA_len (P := P) (c := c2) (by rw [HN.out]; omega)
      have CM := cutB_len (P := P) (c := c2) (by rw [HN.out]; omega)
      rw [HN.out] at CM
      have HCA : Hid ((cutA P c2).length = c2) := CL
      have HCM : Hid ((cutB P c2).length = n - c2 + 1) := CM
      have HLA : Hid ((natC (cutA P c2)).length = c2 * 1) := by unfold Hid; rw [natC_len, CL]; omega
      have HLD : Hid ((natC (P.drop c2)).length = (n - c2) * 1) := by unfold Hid; rw [natC_len, List.length_drop, HN.out]; omega
      have HCB : Hid (natC (P.drop c2) ++ [.int .i64 (x0 : Int)] = natC (cutB P c2)) := by
       unfold Hid cutB
       rw [natC_app]
       congr 1
       have e : P.take 1 = [x0] := by rw [List.take_add_one, HX0.out]; rfl
       rw [e]
       rfl
      have HNWA : Hid (∀ w', Below w6.heap.size w6 w' → News w' ⟨pb, po + 1, none⟩ (natC (cutA P c2))) := by
       intro w' hb
       have h := ((HSP6.out.below hb hp6).drop 1).take c2
       rw [← natC_drop, ← natC_take] at h
       exact seg_news h
      have HNWB : Hid (∀ w', Below w6.heap.size w6 w' → News w' ⟨pb, po + c2, none⟩ (natC (P.drop c2))) := by
       intro w' hb
       have h := (HSP6.out.below hb hp6).drop c2
       rw [← natC_drop] at h
       exact seg_news h
      have LT6 : Hid (∀ k, Slot a6 k → k < w6.heap.size) := fun k hk => (HO6.out.lt hk).1
      clear hHeld HSo owX NW h6 g6 s6 s6' K6 bA ow5 p1 p2 CL CM
      have hw3 := HW3.out
      go_wp2

      have HSt : Hid (∀ w', Below w6.heap.size w6 w' → (fun w' => w'.cell? ⟨pb, po, none⟩ = some (.int .i64 (x0 : Int)) ∧ Below w6.heap.size w6 w') w') := by
       unfold Hid
       intro w' hb
       exact ⟨(hb.cell (p := ⟨pb, po, none⟩) hp6).trans p0, hb⟩
      refine wp_region_held_drew (S := fun w' => w'.cell? ⟨pb, po, none⟩ = some (.int .i64 (x0 : Int)) ∧ Below w6.heap.size w6 w') (by kernel_rfl) ?_ (fun hHeld => ?_)
      ·exact HSt.out _ (Below.refl _ _).drew
      refine tz (i := 1) rfl ?_
      simp only [Act.put, ps1, ps2, ps3]
      refine tz (i := 2) rfl ?_
      simp only [Act.put, ps1, ps2, ps3]
      refine tz (i := 3) rfl ?_
      simp only [Act.put, ps1, ps2, ps3]
      refine tz (i := 4) rfl ?_
      simp only [Act.put, ps1, ps2, ps3]
      refine tz (i := 7) rfl ?_
      simp only [Act.put, ps1, ps2, ps3]
      refine tz (i := 8) rfl ?_
      simp only [Act.put, ps1, ps2, ps3]
      refine tz (i := 9) rfl ?_
      simp only [Act.put, ps1, ps2, ps3]
      refine tz (i := 10) rfl ?_
      simp only [Act.put, ps1, ps2, ps3]
      refine tz (i := 12) rfl ?_
      simp only [Act.put, ps1, ps2, ps3]
      refine tz (i := 13) rfl ?_
      simp only [Act.put, ps1, ps2, ps3]
      refine tz (i := 14) rfl ?_
      simp only [Act.put, ps1, ps2, ps3]
      clear hw2 hw3
      obtain ⟨X0, hX0⟩ : ∃ q, q = w6.drew := ⟨_, rfl⟩
      rw [← hX0] at hHeld ⊢
      clear hX0
      refine wpAnyH_ready (rs := [0, 6, 15]) (by kernel_rfl) (by simp) (AllReadyH.cons (i := 0) rfl (fun Kc hK => ?_) (AllReadyH.cons (i := 6) rfl (fun Kc hK => ?_) (AllReadyH.cons (i := 15) rfl (fun Kc hK => ?_) AllReadyH.nil)))
      ·skip
       have gc : w6.heap.size ≤ X0.heap.size := hHeld.2.size
       go_simp
       have eX1 : Below X0.heap.size X0 (X0.alloc (.cells #[] 3)) := (Below.refl _ _).alloc (Nat.le_refl _) _
       refine hK.out _ _ (HSt.out _ (also hHeld.2 eX1)) (fun hHeld => ?_)
       clear hK Kc
       obtain ⟨X1, hX1⟩ : ∃ q, q = X0.alloc (.cells #[] 3) := ⟨_, rfl⟩
       rw [← hX1] at hHeld eX1 ⊢
       have zX1 : X0.heap.size < X1.heap.size := by rw [hX1]; simp
       have oA : Own X1 w6.heap.size 3 (some ⟨X0.heap.size, 0, none⟩) 0 0 [] := by rw [hX1]; exact own_new X0 w6.heap.size 3 (by omega)
       have lAX1 : ∀ k, Slot (some ⟨X0.heap.size, 0, none⟩) k → k < X1.heap.size := fun k h => (OwnS.lt oA h).1
       clear hX1
       refine wpAnyH_ready (rs := [5, 6, 15]) (by kernel_rfl) (by simp) (AllReadyH.cons (i := 5) rfl (fun Kc hK => ?_) (AllReadyH.cons (i := 6) rfl (fun Kc hK => ?_) (AllReadyH.cons (i := 15) rfl (fun Kc hK => ?_) AllReadyH.nil)))
       ·skip
        refine step_append_S rfl (.tmp 103) (.tmp 107) 33 rfl w6.heap.size 3 i0 _ 1 8 Try.underlying33 hi0 hz0 hz1 hz2 rfl (by decide) (some ⟨X0.heap.size, 0, none⟩) 0 0 [] rfl oA ⟨pb, po + 1, none⟩ c2 _ (natC (cutA P c2)) rfl HLA.out (HNWA.out _ hHeld.2) (by first | exact natC_one _ | (intro t ht; simp at ht; subst ht; rfl)) (by unfold maxLen; omega) (by omega) hHeld.2.size ?_
        intro aX2 cX2 X2 hX2 gX2 sX2
        have kX2 : Keep (Slot (some ⟨X0.heap.size, 0, none⟩)) X1 X2 := Keep.grown (Keep.refl _ _) gX2 (fun k e => Or.inl (OwnS.slot oA e))
        refine hK.out _ _ (HSt.out _ (hHeld.2.trans (kX2.below hHeld.2.size (fun k h => (OwnS.lt oA h).2)))) (fun hHeld => ?_)
        clear hK Kc
        simp only [Act.put, List.setIfInBounds_toArray, List.set_cons_zero, List.set_cons_succ, Nat.zero_add]
        rw [List.nil_append, Nat.zero_add] at hX2
        have zX2 := kX2.size
        replace oA := hX2
        have lAX2 : ∀ k, Slot (aX2) k → k < X2.heap.size := fun k h => (OwnS.lt oA h).1
        clear hX2 gX2 sX2 kX2
        refine wpAnyH_ready (rs := [6, 15]) (by kernel_rfl) (by simp) (AllReadyH.cons (i := 6) rfl (fun Kc hK => ?_) (AllReadyH.cons (i := 15) rfl (fun Kc hK => ?_) AllReadyH.nil))
        ·skip
         have gc : w6.heap.size ≤ X2.heap.size := hHeld.2.size
         go_simp
         have eX3 : Below X2.heap.size X2 (X2.alloc (.cells #[] 3)) := (Below.refl _ _).alloc (Nat.le_refl _) _
         refine hK.out _ _ (HSt.out _ (also hHeld.2 eX3)) (fun hHeld => ?_)
         clear hK Kc
         obtain ⟨X3, hX3⟩ : ∃ q, q = X2.alloc (.cells #[] 3) := ⟨_, rfl⟩
         rw [← hX3] at hHeld eX3 ⊢
         have zX3 : X2.heap.size < X3.heap.size := by rw [hX3]; simp
         replace oA := OwnS.below oA eX3
         have oB : Own X3 w6.heap.size 3 (some ⟨X2.heap.size, 0, none⟩) 0 0 [] := by rw [hX3]; exact own_new X2 w6.heap.size 3 (by omega)
         have apAB : ∀ k, Slot (aX2) k → ¬ Slot (some ⟨X2.heap.size, 0, none⟩) k := fun k h q => by have := lAX2 k h; have := Slot.eq q; omega
         have lAX3 : ∀ k, Slot (aX2) k → k < X3.heap.size := fun k h => (OwnS.lt oA h).1
         have lBX3 : ∀ k, Slot (some ⟨X2.heap.size, 0, none⟩) k → k < X3.heap.size := fun k h => (OwnS.lt oB h).1
         clear hX3
         refine wpAnyH_ready (rs := [11, 15]) (by kernel_rfl) (by simp) (AllReadyH.cons (i := 11) rfl (fun Kc hK => ?_) (AllReadyH.cons (i := 15) rfl (fun Kc hK => ?_) AllReadyH.nil))
         ·skip
          refine step_append_S rfl (.tmp 109) (.tmp 113) 33 rfl w6.heap.size 3 i0 _ 1 8 Try.underlying33 hi0 hz0 hz1 hz2 rfl (by decide) (some ⟨X2.heap.size, 0, none⟩) 0 0 [] rfl oB ⟨pb, po + c2, none⟩ (n - c2) _ (natC (P.drop c2)) rfl HLD.out (HNWB.out _ hHeld.2) (by first | exact natC_one _ | (intro t ht; simp at ht; subst ht; rfl)) (by unfold maxLen; omega) (by omega) hHeld.2.size ?_
          intro aX4 cX4 X4 hX4 gX4 sX4
          have kX4 : Keep (Slot (some ⟨X2.heap.size, 0, none⟩)) X3 X4 := Keep.grown (Keep.refl _ _) gX4 (fun k e => Or.inl (OwnS.slot oB e))
          refine hK.out _ _ (HSt.out _ (hHeld.2.trans (kX4.below hHeld.2.size (fun k h => (OwnS.lt oB h).2)))) (fun hHeld => ?_)
          clear hK Kc
          simp only [Act.put, List.setIfInBounds_toArray, List.set_cons_zero, List.set_cons_succ, Nat.zero_add]
          rw [List.nil_append, Nat.zero_add] at hX4
          have zX4 := kX4.size
          replace oA := OwnS.keep oA kX4 (fun k h q => apAB k h q)
          replace apAB : ∀ k, Slot (aX2) k → ¬ Slot aX4 k := fun k h q => (sX4 k q).elim (fun q => apAB k h q) (fun q => by have := lAX3 k h; omega)
          replace oB := hX4
          have lAX4 : ∀ k, Slot (aX2) k → k < X4.heap.size := fun k h => (OwnS.lt oA h).1
          have lBX4 : ∀ k, Slot (aX4) k → k < X4.heap.size := fun k h => (OwnS.lt oB h).1
          clear hX4 gX4 sX4 kX4
          refine take_call (i := 15) rfl (by kernel_rfl) (fun Kc hK => ?_)
          have gc : w6.heap.size ≤ X4.heap.size := hHeld.2.size
          go_simp
          have eX5 : Below X4.heap.size X4 (X4.alloc (.cells #[.int .i64 (x0 : Int)] 3)) := (Below.refl _ _).alloc (Nat.le_refl _) _
          refine hK.out _ _ (HSt.out _ (also hHeld.2 eX5)) (fun hHeld => ?_)
          clear hK Kc
          obtain ⟨X5, hX5⟩ : ∃ q, q = X4.alloc (.cells #[.int .i64 (x0 : Int)] 3) := ⟨_, rfl⟩
          rw [← hX5] at hHeld eX5 ⊢
          have zX5 : X4.heap.size < X5.heap.size := by rw [hX5]; simp
          replace oA := OwnS.below oA eX5
          replace oB := OwnS.below oB eX5
          have rC : Row X5 X4.heap.size [.int .i64 (x0 : Int)] := by rw [hX5]; exact Row.new X4 _ _
          have lC : X4.heap.size < X5.heap.size := by omega
          have apAC : ∀ k, Slot (aX2) k → k ≠ X4.heap.size := fun k h => by have := lAX4 k h; omega
          have apBC : ∀ k, Slot (aX4) k → k ≠ X4.heap.size := fun k h => by have := lBX4 k h; omega
          have lAX5 : ∀ k, Slot (aX2) k → k < X5.heap.size := fun k h => (OwnS.lt oA h).1
          have lBX5 : ∀ k, Slot (aX4) k → k < X5.heap.size := fun k h => (OwnS.lt oB h).1
          clear hX5
          refine take_call (i := 16) rfl (by kernel_rfl) (fun Kc hK => ?_)
          refine step_append_S rfl (.tmp 114) (.tmp 118) 33 rfl w6.heap.size 3 i0 _ 1 8 Try.underlying33 hi0 hz0 hz1 hz2 rfl (by decide) (aX4) (n - c2) cX4 (natC (P.drop c2)) rfl oB ⟨X4.heap.size, 0, none⟩ 1 _ [.int .i64 (x0 : Int)] rfl rfl (row_news rC) (by first | exact natC_one _ | (intro t ht; simp at ht; subst ht; rfl)) (by unfold maxLen; omega) (by omega) hHeld.2.size ?_
          intro aX6 cX6 X6 hX6 gX6 sX6
          have kX6 : Keep (Slot (aX4)) X5 X6 := Keep.grown (Keep.refl _ _) gX6 (fun k e => Or.inl (OwnS.slot oB e))
          refine hK.out _ _ (HSt.out _ (hHeld.2.trans (kX6.below hHeld.2.size (fun k h => (OwnS.lt oB h).2)))) (fun hHeld => ?_)
          clear hK Kc
          simp only [Act.put, List.setIfInBounds_toArray, List.set_cons_zero, List.set_cons_succ, Nat.zero_add]
          have zX6 := kX6.size
          replace oA := OwnS.keep oA kX6 (fun k h q => apAB k h q)
          replace apAB : ∀ k, Slot (aX2) k → ¬ Slot aX6 k := fun k h q => (sX6 k q).elim (fun q => apAB k h q) (fun q => by have := lAX5 k h; omega)
          replace rC := Row.keep rC kX6 lC (fun h => apBC _ h rfl)
          replace lC : X4.heap.size < X6.heap.size := by omega
          replace apBC : ∀ k, Slot aX6 k → k ≠ X4.heap.size := fun k h e => (sX6 k h).elim (fun q => apBC k q e) (fun q => by omega)
          replace oB := hX6
          have lAX6 : ∀ k, Slot (aX2) k → k < X6.heap.size := fun k h => (OwnS.lt oA h).1
          have lBX6 : ∀ k, Slot (aX6) k → k < X6.heap.size := fun k h => (OwnS.lt oB h).1
          clear hX6 gX6 sX6 kX6
          refine tz (i := 17) rfl ?_
          simp only [Act.put, ps1, ps2, ps3]
          refine tz (i := 18) rfl ?_
          simp only [Act.put, ps1, ps2, ps3]
          refine wpAnyH_done (by kernel_rfl) ?_ _
          have bL : Below w6.heap.size w6 X6 := hHeld.2
          have zL := bL.size
          have oA2 : Own X6 w6.heap.size 3 aX2 c2 cX2 (natC (cutA P c2)) := oA
          have oB2 : Own X6 w6.heap.size 3 aX6 (n - c2 + 1) cX6 (natC (cutB P c2)) := by rw [HCB.out] at oB; exact oB
          obtain ⟨ga, rfl, hga, hga2, sgA⟩ := OwnS.at oA2 (by omega)
          obtain ⟨gb, rfl, hgb, hgb2, sgB⟩ := OwnS.at oB2 (by omega)
          have rA := OwnS.room oA2
          have rB := OwnS.room oB2
          obtain ⟨xs, sx, hxl, hx1, hxe⟩ := (HWT6.out.below bL).ex
          have hxm : xs.length = m := by rw [hxl, List.length_take, HWN.out]; omega
          have hwl : wb < X6.heap.size := (HWT6.out.below bL).lt
          clear HSt hHeld oA2 oB2 oA oB
          have b1 : Below X6.heap.size X6 (X6.alloc (.cells #[] 33)) := (Below.refl _ _).alloc (Nat.le_refl _) _
          have owT : Own (X6.alloc (.cells #[] 33)) X6.heap.size 33 (some ⟨X6.heap.size, 0, none⟩) 0 0 [] := own_new X6 X6.heap.size 33 (Nat.le_refl _)
          have SW : Sl (X6.alloc (.cells #[] 33)) (some ⟨wb, 0, none⟩) m wc xs := ⟨hxm, by omega, hwc.2, (by intro e; cases e), Or.inr ⟨wb, 0, rfl, by simp; omega, sx.below b1 hwl⟩⟩
          go_wp2_with (at_builtin; first
           | (refine app_at _ rfl _ _ 35 rfl X6.heap.size 33 is _ 24 Try.underlying35 si0 sz0 sz1 sz2 rfl _ 0 0 _ rfl owT _ m wc xs rfl SW hx1 (by unfold maxLen; omega) (by omega) (by simp) ?_
              intro a7 c7 w7 h7 g7 s7
              have b7 : Below X6.heap.size X6 w7 := grown_low b1 (by simp) owT g7
              have z7 := b7.size
              have b8 : Below w7.heap.size w7 (w7.alloc (.cells #[.slice (some ⟨gb, 0, none⟩) (n - c2 + 1) cX6, .slice (some ⟨ga, 0, none⟩) c2 cX2] 33)) := (Below.refl _ _).alloc (Nat.le_refl _) _
              have S2 : Sl (w7.alloc (.cells #[.slice (some ⟨gb, 0, none⟩) (n - c2 + 1) cX6, .slice (some ⟨ga, 0, none⟩) c2 cX2] 33)) (some ⟨w7.heap.size, 0, none⟩) 2 2 [.slice (some ⟨gb, 0, none⟩) (n - c2 + 1) cX6, .slice (some ⟨ga, 0, none⟩) c2 cX2] := ⟨rfl, Nat.le_refl _, by unfold maxLen; omega, (by intro e; cases e), Or.inr ⟨_, 0, rfl, by simp, (Row.new w7 _ _).seg⟩⟩
              rw [List.nil_append, Nat.zero_add] at h7
              have owU := OwnS.below h7 b8
              clear owT SW g7 s7)
           | (refine app_at _ rfl _ _ 35 rfl X6.heap.size 33 is _ 24 Try.underlying35 si0 sz0 sz1 sz2 rfl a7 m c7 _ (by first | rfl | simp) owU _ 2 2 _ rfl S2 (by intro t ht; simp at ht; rcases ht with rfl | rfl <;> rfl) (by unfold maxLen; omega) (by omega) (by simp; omega) ?_
              intro a9 c9 w9 h9 g9 s9))
          have b9 : Below X6.heap.size X6 w9 := grown_low (also b7 b8) (by simp; omega) owU g9
          obtain ⟨g9b, rfl, hg9, hg92, sg9⟩ := OwnS.at h9 (by omega)
          have r9 := OwnS.room h9
          have NEXT : Hid (FillRel L nl w (leftN (st.take m ++ [cutB P c2, cutA P c2])) (.slice a6 (on + 1) c6) (.slice (some ⟨g9b, 0, none⟩) (m + 2) c9) w9) := by
           have b69 : Below w6.heap.size w6 w9 := also bL b9
           have e1 := HC2.out
           refine ⟨⟨_, O ++ [(x0, x1, x2)], a6, on + 1, c6, g9b, m + 2, c9, rfl, rfl, by rw [List.length_append, ← HON.out]; rfl, by rw [List.length_append, List.length_take, HWN.out]; show _ = min m (m + 1) + 2; omega, r9, rfl, HO6.out.below b69, ?_, by rw [e1]; exact HST.out.1⟩, also b06 b69⟩
           refine WtAt.push hxe hxl hx1 b9 LT6.out (B := w6.heap.size) ⟨hgb2, hga2, by omega⟩ hg9 (by rw [HCM.out, HCA.out]; exact sg9) ⟨Nat.lt_of_lt_of_le hgb b9.size, by rw [HCM.out]; exact rB.1, rB.2, sgB.below b9 hgb⟩ ⟨Nat.lt_of_lt_of_le hga b9.size, by rw [HCA.out]; exact rA.1, rA.2, sgA.below b9 hga⟩
          have MEA : Hid (leftN (st.take m ++ [cutB P c2, cutA P c2]) < gk) := by unfold Hid; rw [← HGK.out, HC2.out]; exact HST.out.2
          clear h9 g9 s9 S2 owU b8 h7 hxe sx hx1 sgA sgB sg9
          go_wp2
          go_roundg (leftN (st.take m ++ [cutB P c2, cutA P c2]))
          case measure => exact MEA.out
          case rel => exact NEXT.out
         ·skip
          have gc : w6.heap.size ≤ X3.heap.size := hHeld.2.size
          go_simp
          have eX7 : Below X3.heap.size X3 (X3.alloc (.cells #[.int .i64 (x0 : Int)] 3)) := (Below.refl _ _).alloc (Nat.le_refl _) _
          refine hK.out _ _ (HSt.out _ (also hHeld.2 eX7)) (fun hHeld => ?_)
          clear hK Kc
          obtain ⟨X7, hX7⟩ : ∃ q, q = X3.alloc (.cells #[.int .i64 (x0 : Int)] 3) := ⟨_, rfl⟩
          rw [← hX7] at hHeld eX7 ⊢
          have zX7 : X3.heap.size < X7.heap.size := by rw [hX7]; simp
          replace oA := OwnS.below oA eX7
          replace oB := OwnS.below oB eX7
          have rC : Row X7 X3.heap.size [.int .i64 (x0 : Int)] := by rw [hX7]; exact Row.new X3 _ _
          have lC : X3.heap.size < X7.heap.size := by omega
          have apAC : ∀ k, Slot (aX2) k → k ≠ X3.heap.size := fun k h => by have := lAX3 k h; omega
          have apBC : ∀ k, Slot (some ⟨X2.heap.size, 0, none⟩) k → k ≠ X3.heap.size := fun k h => by have := lBX3 k h; omega
          have lAX7 : ∀ k, Slot (aX2) k → k < X7.heap.size := fun k h => (OwnS.lt oA h).1
          have lBX7 : ∀ k, Slot (some ⟨X2.heap.size, 0, none⟩) k → k < X7.heap.size := fun k h => (OwnS.lt oB h).1
          clear hX7
          refine take_call (i := 11) rfl (by kernel_rfl) (fun Kc hK => ?_)
          refine step_append_S rfl (.tmp 109) (.tmp 113) 33 rfl w6.heap.size 3 i0 _ 1 8 Try.underlying33 hi0 hz0 hz1 hz2 rfl (by decide) (some ⟨X2.heap.size, 0, none⟩) 0 0 [] rfl oB ⟨pb, po + c2, none⟩ (n - c2) _ (natC (P.drop c2)) rfl HLD.out (HNWB.out _ hHeld.2) (by first | exact natC_one _ | (intro t ht; simp at ht; subst ht; rfl)) (by unfold maxLen; omega) (by omega) hHeld.2.size ?_
          intro aX8 cX8 X8 hX8 gX8 sX8
          have kX8 : Keep (Slot (some ⟨X2.heap.size, 0, none⟩)) X7 X8 := Keep.grown (Keep.refl _ _) gX8 (fun k e => Or.inl (OwnS.slot oB e))
          refine hK.out _ _ (HSt.out _ (hHeld.2.trans (kX8.below hHeld.2.size (fun k h => (OwnS.lt oB h).2)))) (fun hHeld => ?_)
          clear hK Kc
          simp only [Act.put, List.setIfInBounds_toArray, List.set_cons_zero, List.set_cons_succ, Nat.zero_add]
          rw [List.nil_append, Nat.zero_add] at hX8
          have zX8 := kX8.size
          replace oA := OwnS.keep oA kX8 (fun k h q => apAB k h q)
          replace apAB : ∀ k, Slot (aX2) k → ¬ Slot aX8 k := fun k h q => (sX8 k q).elim (fun q => apAB k h q) (fun q => by have := lAX7 k h; omega)
          replace rC := Row.keep rC kX8 lC (fun h => apBC _ h rfl)
          replace lC : X3.heap.size < X8.heap.size := by omega
          replace apBC : ∀ k, Slot aX8 k → k ≠ X3.heap.size := fun k h e => (sX8 k h).elim (fun q => apBC k q e) (fun q => by omega)
          replace oB := hX8
          have lAX8 : ∀ k, Slot (aX2) k → k < X8.heap.size := fun k h => (OwnS.lt oA h).1
          have lBX8 : ∀ k, Slot (aX8) k → k < X8.heap.size := fun k h => (OwnS.lt oB h).1
          clear hX8 gX8 sX8 kX8
          refine take_call (i := 16) rfl (by kernel_rfl) (fun Kc hK => ?_)
          refine step_append_S rfl (.tmp 114) (.tmp 118) 33 rfl w6.heap.size 3 i0 _ 1 8 Try.underlying33 hi0 hz0 hz1 hz2 rfl (by decide) (aX8) (n - c2) cX8 (natC (P.drop c2)) rfl oB ⟨X3.heap.size, 0, none⟩ 1 _ [.int .i64 (x0 : Int)] rfl rfl (row_news rC) (by first | exact natC_one _ | (intro t ht; simp at ht; subst ht; rfl)) (by unfold maxLen; omega) (by omega) hHeld.2.size ?_
          intro aX9 cX9 X9 hX9 gX9 sX9
          have kX9 : Keep (Slot (aX8)) X8 X9 := Keep.grown (Keep.refl _ _) gX9 (fun k e => Or.inl (OwnS.slot oB e))
          refine hK.out _ _ (HSt.out _ (hHeld.2.trans (kX9.below hHeld.2.size (fun k h => (OwnS.lt oB h).2)))) (fun hHeld => ?_)
          clear hK Kc
          simp only [Act.put, List.setIfInBounds_toArray, List.set_cons_zero, List.set_cons_succ, Nat.zero_add]
          have zX9 := kX9.size
          replace oA := OwnS.keep oA kX9 (fun k h q => apAB k h q)
          replace apAB : ∀ k, Slot (aX2) k → ¬ Slot aX9 k := fun k h q => (sX9 k q).elim (fun q => apAB k h q) (fun q => by have := lAX8 k h; omega)
          replace rC := Row.keep rC kX9 lC (fun h => apBC _ h rfl)
          replace lC : X3.heap.size < X9.heap.size := by omega
          replace apBC : ∀ k, Slot aX9 k → k ≠ X3.heap.size := fun k h e => (sX9 k h).elim (fun q => apBC k q e) (fun q => by omega)
          replace oB := hX9
          have lAX9 : ∀ k, Slot (aX2) k → k < X9.heap.size := fun k h => (OwnS.lt oA h).1
          have lBX9 : ∀ k, Slot (aX9) k → k < X9.heap.size := fun k h => (OwnS.lt oB h).1
          clear hX9 gX9 sX9 kX9
          refine tz (i := 17) rfl ?_
          simp only [Act.put, ps1, ps2, ps3]
          refine tz (i := 18) rfl ?_
          simp only [Act.put, ps1, ps2, ps3]
          refine wpAnyH_done (by kernel_rfl) ?_ _
          have bL : Below w6.heap.size w6 X9 := hHeld.2
          have zL := bL.size
          have oA2 : Own X9 w6.heap.size 3 aX2 c2 cX2 (natC (cutA P c2)) := oA
          have oB2 : Own X9 w6.heap.size 3 aX9 (n - c2 + 1) cX9 (natC (cutB P c2)) := by rw [HCB.out] at oB; exact oB
          obtain ⟨ga, rfl, hga, hga2, sgA⟩ := OwnS.at oA2 (by omega)
          obtain ⟨gb, rfl, hgb, hgb2, sgB⟩ := OwnS.at oB2 (by omega)
          have rA := OwnS.room oA2
          have rB := OwnS.room oB2
          obtain ⟨xs, sx, hxl, hx1, hxe⟩ := (HWT6.out.below bL).ex
          have hxm : xs.length = m := by rw [hxl, List.length_take, HWN.out]; omega
          have hwl : wb < X9.heap.size := (HWT6.out.below bL).lt
          clear HSt hHeld oA2 oB2 oA oB
          have b1 : Below X9.heap.size X9 (X9.alloc (.cells #[] 33)) := (Below.refl _ _).alloc (Nat.le_refl _) _
          have owT : Own (X9.alloc (.cells #[] 33)) X9.heap.size 33 (some ⟨X9.heap.size, 0, none⟩) 0 0 [] := own_new X9 X9.heap.size 33 (Nat.le_refl _)
          have SW : Sl (X9.alloc (.cells #[] 33)) (some ⟨wb, 0, none⟩) m wc xs := ⟨hxm, by omega, hwc.2, (by intro e; cases e), Or.inr ⟨wb, 0, rfl, by simp; omega, sx.below b1 hwl⟩⟩
          go_wp2_with (at_builtin; first
           | (refine app_at _ rfl _ _ 35 rfl X9.heap.size 33 is _ 24 Try.underlying35 si0 sz0 sz1 sz2 rfl _ 0 0 _ rfl owT _ m wc xs rfl SW hx1 (by unfold maxLen; omega) (by omega) (by simp) ?_
              intro a7 c7 w7 h7 g7 s7
              have b7 : Below X9.heap.size X9 w7 := grown_low b1 (by simp) owT g7
              have z7 := b7.size
              have b8 : Below w7.heap.size w7 (w7.alloc (.cells #[.slice (some ⟨gb, 0, none⟩) (n - c2 + 1) cX9, .slice (some ⟨ga, 0, none⟩) c2 cX2] 33)) := (Below.refl _ _).alloc (Nat.le_refl _) _
              have S2 : Sl (w7.alloc (.cells #[.slice (some ⟨gb, 0, none⟩) (n - c2 + 1) cX9, .slice (some ⟨ga, 0, none⟩) c2 cX2] 33)) (some ⟨w7.heap.size, 0, none⟩) 2 2 [.slice (some ⟨gb, 0, none⟩) (n - c2 + 1) cX9, .slice (some ⟨ga, 0, none⟩) c2 cX2] := ⟨rfl, Nat.le_refl _, by unfold maxLen; omega, (by intro e; cases e), Or.inr ⟨_, 0, rfl, by simp, (Row.new w7 _ _).seg⟩⟩
              rw [List.nil_append, Nat.zero_add] at h7
              have owU := OwnS.below h7 b8
              clear owT SW g7 s7)
           | (refine app_at _ rfl _ _ 35 rfl X9.heap.size 33 is _ 24 Try.underlying35 si0 sz0 sz1 sz2 rfl a7 m c7 _ (by first | rfl | simp) owU _ 2 2 _ rfl S2 (by intro t ht; simp at ht; rcases ht with rfl | rfl <;> rfl) (by unfold maxLen; omega) (by omega) (by simp; omega) ?_
              intro a9 c9 w9 h9 g9 s9))
          have b9 : Below X9.heap.size X9 w9 := grown_low (also b7 b8) (by simp; omega) owU g9
          obtain ⟨g9b, rfl, hg9, hg92, sg9⟩ := OwnS.at h9 (by omega)
          have r9 := OwnS.room h9
          have NEXT : Hid (FillRel L nl w (leftN (st.take m ++ [cutB P c2, cutA P c2])) (.slice a6 (on + 1) c6) (.slice (some ⟨g9b, 0, none⟩) (m + 2) c9) w9) := by
           have b69 : Below w6.heap.size w6 w9 := also bL b9
           have e1 := HC2.out
           refine ⟨⟨_, O ++ [(x0, x1, x2)], a6, on + 1, c6, g9b, m + 2, c9, rfl, rfl, by rw [List.length_append, ← HON.out]; rfl, by rw [List.length_append, List.length_take, HWN.out]; show _ = min m (m + 1) + 2; omega, r9, rfl, HO6.out.below b69, ?_, by rw [e1]; exact HST.out.1⟩, also b06 b69⟩
           refine WtAt.push hxe hxl hx1 b9 LT6.out (B := w6.heap.size) ⟨hgb2, hga2, by omega⟩ hg9 (by rw [HCM.out, HCA.out]; exact sg9) ⟨Nat.lt_of_lt_of_le hgb b9.size, by rw [HCM.out]; exact rB.1, rB.2, sgB.below b9 hgb⟩ ⟨Nat.lt_of_lt_of_le hga b9.size, by rw [HCA.out]; exact rA.1, rA.2, sgA.below b9 hga⟩
          have MEA : Hid (leftN (st.take m ++ [cutB P c2, cutA P c2]) < gk) := by unfold Hid; rw [← HGK.out, HC2.out]; exact HST.out.2
          clear h9 g9 s9 S2 owU b8 h7 hxe sx hx1 sgA sgB sg9
          go_wp2
          go_roundg (leftN (st.take m ++ [cutB P c2, cutA P c2]))
          case measure => exact MEA.out
          case rel => exact NEXT.out
        ·skip
         have gc : w6.heap.size ≤ X2.heap.size := hHeld.2.size
         go_simp
         have eX10 : Below X2.heap.size X2 (X2.alloc (.cells #[.int .i64 (x0 : Int)] 3)) := (Below.refl _ _).alloc (Nat.le_refl _) _
         refine hK.out _ _ (HSt.out _ (also hHeld.2 eX10)) (fun hHeld => ?_)
         clear hK Kc
         obtain ⟨X10, hX10⟩ : ∃ q, q = X2.alloc (.cells #[.int .i64 (x0 : Int)] 3) := ⟨_, rfl⟩
         rw [← hX10] at hHeld eX10 ⊢
         have zX10 : X2.heap.size < X10.heap.size := by rw [hX10]; simp
         replace oA := OwnS.below oA eX10
         have rC : Row X10 X2.heap.size [.int .i64 (x0 : Int)] := by rw [hX10]; exact Row.new X2 _ _
         have lC : X2.heap.size < X10.heap.size := by omega
         have apAC : ∀ k, Slot (aX2) k → k ≠ X2.heap.size := fun k h => by have := lAX2 k h; omega
         have lAX10 : ∀ k, Slot (aX2) k → k < X10.heap.size := fun k h => (OwnS.lt oA h).1
         clear hX10
         refine take_call (i := 6) rfl (by kernel_rfl) (fun Kc hK => ?_)
         have gc : w6.heap.size ≤ X10.heap.size := hHeld.2.size
         go_simp
         have eX11 : Below X10.heap.size X10 (X10.alloc (.cells #[] 3)) := (Below.refl _ _).alloc (Nat.le_refl _) _
         refine hK.out _ _ (HSt.out _ (also hHeld.2 eX11)) (fun hHeld => ?_)
         clear hK Kc
         obtain ⟨X11, hX11⟩ : ∃ q, q = X10.alloc (.cells #[] 3) := ⟨_, rfl⟩
         rw [← hX11] at hHeld eX11 ⊢
         have zX11 : X10.heap.size < X11.heap.size := by rw [hX11]; simp
         replace oA := OwnS.below oA eX11
         replace rC := rC.below eX11 lC
         replace lC : X2.heap.size < X11.heap.size := by omega
         have oB : Own X11 w6.heap.size 3 (some ⟨X10.heap.size, 0, none⟩) 0 0 [] := by rw [hX11]; exact own_new X10 w6.heap.size 3 (by omega)
         have apAB : ∀ k, Slot (aX2) k → ¬ Slot (some ⟨X10.heap.size, 0, none⟩) k := fun k h q => by have := lAX10 k h; have := Slot.eq q; omega
         have apBC : ∀ k, Slot (some ⟨X10.heap.size, 0, none⟩) k → k ≠ X2.heap.size := fun k h => by have := Slot.eq h; omega
         have lAX11 : ∀ k, Slot (aX2) k → k < X11.heap.size := fun k h => (OwnS.lt oA h).1
         have lBX11 : ∀ k, Slot (some ⟨X10.heap.size, 0, none⟩) k → k < X11.heap.size := fun k h => (OwnS.lt oB h).1
         clear hX11
         refine take_call (i := 11) rfl (by kernel_rfl) (fun Kc hK => ?_)
         refine step_append_S rfl (.tmp 109) (.tmp 113) 33 rfl w6.heap.size 3 i0 _ 1 8 Try.underlying33 hi0 hz0 hz1 hz2 rfl (by decide) (some ⟨X10.heap.size, 0, none⟩) 0 0 [] rfl oB ⟨pb, po + c2, none⟩ (n - c2) _ (natC (P.drop c2)) rfl HLD.out (HNWB.out _ hHeld.2) (by first | exact natC_one _ | (intro t ht; simp at ht; subst ht; rfl)) (by unfold maxLen; omega) (by omega) hHeld.2.size ?_
         intro aX12 cX12 X12 hX12 gX12 sX12
         have kX12 : Keep (Slot (some ⟨X10.heap.size, 0, none⟩)) X11 X12 := Keep.grown (Keep.refl _ _) gX12 (fun k e => Or.inl (OwnS.slot oB e))
         refine hK.out _ _ (HSt.out _ (hHeld.2.trans (kX12.below hHeld.2.size (fun k h => (OwnS.lt oB h).2)))) (fun hHeld => ?_)
         clear hK Kc
         simp only [Act.put, List.setIfInBounds_toArray, List.set_cons_zero, List.set_cons_succ, Nat.zero_add]
         rw [List.nil_append, Nat.zero_add] at hX12
         have zX12 := kX12.size
         replace oA := OwnS.keep oA kX12 (fun k h q => apAB k h q)
         replace apAB : ∀ k, Slot (aX2) k → ¬ Slot aX12 k := fun k h q => (sX12 k q).elim (fun q => apAB k h q) (fun q => by have := lAX11 k h; omega)
         replace rC := Row.keep rC kX12 lC (fun h => apBC _ h rfl)
         replace lC : X2.heap.size < X12.heap.size := by omega
         replace apBC : ∀ k, Slot aX12 k → k ≠ X2.heap.size := fun k h e => (sX12 k h).elim (fun q => apBC k q e) (fun q => by omega)
         replace oB := hX12
         have lAX12 : ∀ k, Slot (aX2) k → k < X12.heap.size := fun k h => (OwnS.lt oA h).1
         have lBX12 : ∀ k, Slot (aX12) k → k < X12.heap.size := fun k h => (OwnS.lt oB h).1
         clear hX12 gX12 sX12 kX12
         refine take_call (i := 16) rfl (by kernel_rfl) (fun Kc hK => ?_)
         refine step_append_S rfl (.tmp 114) (.tmp 118) 33 rfl w6.heap.size 3 i0 _ 1 8 Try.underlying33 hi0 hz0 hz1 hz2 rfl (by decide) (aX12) (n - c2) cX12 (natC (P.drop c2)) rfl oB ⟨X2.heap.size, 0, none⟩ 1 _ [.int .i64 (x0 : Int)] rfl rfl (row_news rC) (by first | exact natC_one _ | (intro t ht; simp at ht; subst ht; rfl)) (by unfold maxLen; omega) (by omega) hHeld.2.size ?_
         intro aX13 cX13 X13 hX13 gX13 sX13
         have kX13 : Keep (Slot (aX12)) X12 X13 := Keep.grown (Keep.refl _ _) gX13 (fun k e => Or.inl (OwnS.slot oB e))
         refine hK.out _ _ (HSt.out _ (hHeld.2.trans (kX13.below hHeld.2.size (fun k h => (OwnS.lt oB h).2)))) (fun hHeld => ?_)
         clear hK Kc
         simp only [Act.put, List.setIfInBounds_toArray, List.set_cons_zero, List.set_cons_succ, Nat.zero_add]
         have zX13 := kX13.size
         replace oA := OwnS.keep oA kX13 (fun k h q => apAB k h q)
         replace apAB : ∀ k, Slot (aX2) k → ¬ Slot aX13 k := fun k h q => (sX13 k q).elim (fun q => apAB k h q) (fun q => by have := lAX12 k h; omega)
         replace rC := Row.keep rC kX13 lC (fun h => apBC _ h rfl)
         replace lC : X2.heap.size < X13.heap.size := by omega
         replace apBC : ∀ k, Slot aX13 k → k ≠ X2.heap.size := fun k h e => (sX13 k h).elim (fun q => apBC k q e) (fun q => by omega)
         replace oB := hX13
         have lAX13 : ∀ k, Slot (aX2) k → k < X13.heap.size := fun k h => (OwnS.lt oA h).1
         have lBX13 : ∀ k, Slot (aX13) k → k < X13.heap.size := fun k h => (OwnS.lt oB h).1
         clear hX13 gX13 sX13 kX13
         refine tz (i := 17) rfl ?_
         simp only [Act.put, ps1, ps2, ps3]
         refine tz (i := 18) rfl ?_
         simp only [Act.put, ps1, ps2, ps3]
         refine wpAnyH_done (by kernel_rfl) ?_ _
         have bL : Below w6.heap.size w6 X13 := hHeld.2
         have zL := bL.size
         have oA2 : Own X13 w6.heap.size 3 aX2 c2 cX2 (natC (cutA P c2)) := oA
         have oB2 : Own X13 w6.heap.size 3 aX13 (n - c2 + 1) cX13 (natC (cutB P c2)) := by rw [HCB.out] at oB; exact oB
         obtain ⟨ga, rfl, hga, hga2, sgA⟩ := OwnS.at oA2 (by omega)
         obtain ⟨gb, rfl, hgb, hgb2, sgB⟩ := OwnS.at oB2 (by omega)
         have rA := OwnS.room oA2
         have rB := OwnS.room oB2
         obtain ⟨xs, sx, hxl, hx1, hxe⟩ := (HWT6.out.below bL).ex
         have hxm : xs.length = m := by rw [hxl, List.length_take, HWN.out]; omega
         have hwl : wb < X13.heap.size := (HWT6.out.below bL).lt
         clear HSt hHeld oA2 oB2 oA oB
         have b1 : Below X13.heap.size X13 (X13.alloc (.cells #[] 33)) := (Below.refl _ _).alloc (Nat.le_refl _) _
         have owT : Own (X13.alloc (.cells #[] 33)) X13.heap.size 33 (some ⟨X13.heap.size, 0, none⟩) 0 0 [] := own_new X13 X13.heap.size 33 (Nat.le_refl _)
         have SW : Sl (X13.alloc (.cells #[] 33)) (some ⟨wb, 0, none⟩) m wc xs := ⟨hxm, by omega, hwc.2, (by intro e; cases e), Or.inr ⟨wb, 0, rfl, by simp; omega, sx.below b1 hwl⟩⟩
         go_wp2_with (at_builtin; first
          | (refine app_at _ rfl _ _ 35 rfl X13.heap.size 33 is _ 24 Try.underlying35 si0 sz0 sz1 sz2 rfl _ 0 0 _ rfl owT _ m wc xs rfl SW hx1 (by unfold maxLen; omega) (by omega) (by simp) ?_
             intro a7 c7 w7 h7 g7 s7
             have b7 : Below X13.heap.size X13 w7 := grown_low b1 (by simp) owT g7
             have z7 := b7.size
             have b8 : Below w7.heap.size w7 (w7.alloc (.cells #[.slice (some ⟨gb, 0, none⟩) (n - c2 + 1) cX13, .slice (some ⟨ga, 0, none⟩) c2 cX2] 33)) := (Below.refl _ _).alloc (Nat.le_refl _) _
             have S2 : Sl (w7.alloc (.cells #[.slice (some ⟨gb, 0, none⟩) (n - c2 + 1) cX13, .slice (some ⟨ga, 0, none⟩) c2 cX2] 33)) (some ⟨w7.heap.size, 0, none⟩) 2 2 [.slice (some ⟨gb, 0, none⟩) (n - c2 + 1) cX13, .slice (some ⟨ga, 0, none⟩) c2 cX2] := ⟨rfl, Nat.le_refl _, by unfold maxLen; omega, (by intro e; cases e), Or.inr ⟨_, 0, rfl, by simp, (Row.new w7 _ _).seg⟩⟩
             rw [List.nil_append, Nat.zero_add] at h7
             have owU := OwnS.below h7 b8
             clear owT SW g7 s7)
          | (refine app_at _ rfl _ _ 35 rfl X13.heap.size 33 is _ 24 Try.underlying35 si0 sz0 sz1 sz2 rfl a7 m c7 _ (by first | rfl | simp) owU _ 2 2 _ rfl S2 (by intro t ht; simp at ht; rcases ht with rfl | rfl <;> rfl) (by unfold maxLen; omega) (by omega) (by simp; omega) ?_
             intro a9 c9 w9 h9 g9 s9))
         have b9 : Below X13.heap.size X13 w9 := grown_low (also b7 b8) (by simp; omega) owU g9
         obtain ⟨g9b, rfl, hg9, hg92, sg9⟩ := OwnS.at h9 (by omega)
         have r9 := OwnS.room h9
         have NEXT : Hid (FillRel L nl w (leftN (st.take m ++ [cutB P c2, cutA P c2])) (.slice a6 (on + 1) c6) (.slice (some ⟨g9b, 0, none⟩) (m + 2) c9) w9) := by
          have b69 : Below w6.heap.size w6 w9 := also bL b9
          have e1 := HC2.out
          refine ⟨⟨_, O ++ [(x0, x1, x2)], a6, on + 1, c6, g9b, m + 2, c9, rfl, rfl, by rw [List.length_append, ← HON.out]; rfl, by rw [List.length_append, List.length_take, HWN.out]; show _ = min m (m + 1) + 2; omega, r9, rfl, HO6.out.below b69, ?_, by rw [e1]; exact HST.out.1⟩, also b06 b69⟩
          refine WtAt.push hxe hxl hx1 b9 LT6.out (B := w6.heap.size) ⟨hgb2, hga2, by omega⟩ hg9 (by rw [HCM.out, HCA.out]; exact sg9) ⟨Nat.lt_of_lt_of_le hgb b9.size, by rw [HCM.out]; exact rB.1, rB.2, sgB.below b9 hgb⟩ ⟨Nat.lt_of_lt_of_le hga b9.size, by rw [HCA.out]; exact rA.1, rA.2, sgA.below b9 hga⟩
         have MEA : Hid (leftN (st.take m ++ [cutB P c2, cutA P c2]) < gk) := by unfold Hid; rw [← HGK.out, HC2.out]; exact HST.out.2
         clear h9 g9 s9 S2 owU b8 h7 hxe sx hx1 sgA sgB sg9
         go_wp2
         go_roundg (leftN (st.take m ++ [cutB P c2, cutA P c2]))
         case measure => exact MEA.out
         case rel => exact NEXT.out
       ·skip
        have gc : w6.heap.size ≤ X1.heap.size := hHeld.2.size
        go_simp
        have eX14 : Below X1.heap.size X1 (X1.alloc (.cells #[] 3)) := (Below.refl _ _).alloc (Nat.le_refl _) _
        refine hK.out _ _ (HSt.out _ (also hHeld.2 eX14)) (fun hHeld => ?_)
        clear hK Kc
        obtain ⟨X14, hX14⟩ : ∃ q, q = X1.alloc (.cells #[] 3) := ⟨_, rfl⟩
        rw [← hX14] at hHeld eX14 ⊢
        have zX14 : X1.heap.size < X14.heap.size := by rw [hX14]; simp
        replace oA := OwnS.below oA eX14
        have oB : Own X14 w6.heap.size 3 (some ⟨X1.heap.size, 0, none⟩) 0 0 [] := by rw [hX14]; exact own_new X1 w6.heap.size 3 (by omega)
        have apAB : ∀ k, Slot (some ⟨X0.heap.size, 0, none⟩) k → ¬ Slot (some ⟨X1.heap.size, 0, none⟩) k := fun k h q => by have := lAX1 k h; have := Slot.eq q; omega
        have lAX14 : ∀ k, Slot (some ⟨X0.heap.size, 0, none⟩) k → k < X14.heap.size := fun k h => (OwnS.lt oA h).1
        have lBX14 : ∀ k, Slot (some ⟨X1.heap.size, 0, none⟩) k → k < X14.heap.size := fun k h => (OwnS.lt oB h).1
        clear hX14
        refine wpAnyH_ready (rs := [5, 15]) (by kernel_rfl) (by simp) (AllReadyH.cons (i := 5) rfl (fun Kc hK => ?_) (AllReadyH.cons (i := 15) rfl (fun Kc hK => ?_) AllReadyH.nil))
        ·skip
         refine step_append_S rfl (.tmp 103) (.tmp 107) 33 rfl w6.heap.size 3 i0 _ 1 8 Try.underlying33 hi0 hz0 hz1 hz2 rfl (by decide) (some ⟨X0.heap.size, 0, none⟩) 0 0 [] rfl oA ⟨pb, po + 1, none⟩ c2 _ (natC (cutA P c2)) rfl HLA.out (HNWA.out _ hHeld.2) (by first | exact natC_one _ | (intro t ht; simp at ht; subst ht; rfl)) (by unfold maxLen; omega) (by omega) hHeld.2.size ?_
         intro aX15 cX15 X15 hX15 gX15 sX15
         have kX15 : Keep (Slot (some ⟨X0.heap.size, 0, none⟩)) X14 X15 := Keep.grown (Keep.refl _ _) gX15 (fun k e => Or.inl (OwnS.slot oA e))
         refine hK.out _ _ (HSt.out _ (hHeld.2.trans (kX15.below hHeld.2.size (fun k h => (OwnS.lt oA h).2)))) (fun hHeld => ?_)
         clear hK Kc
         simp only [Act.put, List.setIfInBounds_toArray, List.set_cons_zero, List.set_cons_succ, Nat.zero_add]
         rw [List.nil_append, Nat.zero_add] at hX15
         have zX15 := kX15.size
         replace oB := OwnS.keep oB kX15 (fun k h q => apAB k q h)
         replace apAB : ∀ k, Slot aX15 k → ¬ Slot (some ⟨X1.heap.size, 0, none⟩) k := fun k q h => (sX15 k q).elim (fun q => apAB k q h) (fun q => by have := lBX14 k h; omega)
         replace oA := hX15
         have lAX15 : ∀ k, Slot (aX15) k → k < X15.heap.size := fun k h => (OwnS.lt oA h).1
         have lBX15 : ∀ k, Slot (some ⟨X1.heap.size, 0, none⟩) k → k < X15.heap.size := fun k h => (OwnS.lt oB h).1
         clear hX15 gX15 sX15 kX15
         refine wpAnyH_ready (rs := [11, 15]) (by kernel_rfl) (by simp) (AllReadyH.cons (i := 11) rfl (fun Kc hK => ?_) (AllReadyH.cons (i := 15) rfl (fun Kc hK => ?_) AllReadyH.nil))
         ·skip
          refine step_append_S rfl (.tmp 109) (.tmp 113) 33 rfl w6.heap.size 3 i0 _ 1 8 Try.underlying33 hi0 hz0 hz1 hz2 rfl (by decide) (some ⟨X1.heap.size, 0, none⟩) 0 0 [] rfl oB ⟨pb, po + c2, none⟩ (n - c2) _ (natC (P.drop c2)) rfl HLD.out (HNWB.out _ hHeld.2) (by first | exact natC_one _ | (intro t ht; simp at ht; subst ht; rfl)) (by unfold maxLen; omega) (by omega) hHeld.2.size ?_
          intro aX16 cX16 X16 hX16 gX16 sX16
          have kX16 : Keep (Slot (some ⟨X1.heap.size, 0, none⟩)) X15 X16 := Keep.grown (Keep.refl _ _) gX16 (fun k e => Or.inl (OwnS.slot oB e))
          refine hK.out _ _ (HSt.out _ (hHeld.2.trans (kX16.below hHeld.2.size (fun k h => (OwnS.lt oB h).2)))) (fun hHeld => ?_)
          clear hK Kc
          simp only [Act.put, List.setIfInBounds_toArray, List.set_cons_zero, List.set_cons_succ, Nat.zero_add]
          rw [List.nil_append, Nat.zero_add] at hX16
          have zX16 := kX16.size
          replace oA := OwnS.keep oA kX16 (fun k h q => apAB k h q)
          replace apAB : ∀ k, Slot (aX15) k → ¬ Slot aX16 k := fun k h q => (sX16 k q).elim (fun q => apAB k h q) (fun q => by have := lAX15 k h; omega)
          replace oB := hX16
          have lAX16 : ∀ k, Slot (aX15) k → k < X16.heap.size := fun k h => (OwnS.lt oA h).1
          have lBX16 : ∀ k, Slot (aX16) k → k < X16.heap.size := fun k h => (OwnS.lt oB h).1
          clear hX16 gX16 sX16 kX16
          refine take_call (i := 15) rfl (by kernel_rfl) (fun Kc hK => ?_)
          have gc : w6.heap.size ≤ X16.heap.size := hHeld.2.size
          go_simp
          have eX17 : Below X16.heap.size X16 (X16.alloc (.cells #[.int .i64 (x0 : Int)] 3)) := (Below.refl _ _).alloc (Nat.le_refl _) _
          refine hK.out _ _ (HSt.out _ (also hHeld.2 eX17)) (fun hHeld => ?_)
          clear hK Kc
          obtain ⟨X17, hX17⟩ : ∃ q, q = X16.alloc (.cells #[.int .i64 (x0 : Int)] 3) := ⟨_, rfl⟩
          rw [← hX17] at hHeld eX17 ⊢
          have zX17 : X16.heap.size < X17.heap.size := by rw [hX17]; simp
          replace oA := OwnS.below oA eX17
          replace oB := OwnS.below oB eX17
          have rC : Row X17 X16.heap.size [.int .i64 (x0 : Int)] := by rw [hX17]; exact Row.new X16 _ _
          have lC : X16.heap.size < X17.heap.size := by omega
          have apAC : ∀ k, Slot (aX15) k → k ≠ X16.heap.size := fun k h => by have := lAX16 k h; omega
          have apBC : ∀ k, Slot (aX16) k → k ≠ X16.heap.size := fun k h => by have := lBX16 k h; omega
          have lAX17 : ∀ k, Slot (aX15) k → k < X17.heap.size := fun k h => (OwnS.lt oA h).1
          have lBX17 : ∀ k, Slot (aX16) k → k < X17.heap.size := fun k h => (OwnS.lt oB h).1
          clear hX17
          refine take_call (i := 16) rfl (by kernel_rfl) (fun Kc hK => ?_)
          refine step_append_S rfl (.tmp 114) (.tmp 118) 33 rfl w6.heap.size 3 i0 _ 1 8 Try.underlying33 hi0 hz0 hz1 hz2 rfl (by decide) (aX16) (n - c2) cX16 (natC (P.drop c2)) rfl oB ⟨X16.heap.size, 0, none⟩ 1 _ [.int .i64 (x0 : Int)] rfl rfl (row_news rC) (by first | exact natC_one _ | (intro t ht; simp at ht; subst ht; rfl)) (by unfold maxLen; omega) (by omega) hHeld.2.size ?_
          intro aX18 cX18 X18 hX18 gX18 sX18
          have kX18 : Keep (Slot (aX16)) X17 X18 := Keep.grown (Keep.refl _ _) gX18 (fun k e => Or.inl (OwnS.slot oB e))
          refine hK.out _ _ (HSt.out _ (hHeld.2.trans (kX18.below hHeld.2.size (fun k h => (OwnS.lt oB h).2)))) (fun hHeld => ?_)
          clear hK Kc
          simp only [Act.put, List.setIfInBounds_toArray, List.set_cons_zero, List.set_cons_succ, Nat.zero_add]
          have zX18 := kX18.size
          replace oA := OwnS.keep oA kX18 (fun k h q => apAB k h q)
          replace apAB : ∀ k, Slot (aX15) k → ¬ Slot aX18 k := fun k h q => (sX18 k q).elim (fun q => apAB k h q) (fun q => by have := lAX17 k h; omega)
          replace rC := Row.keep rC kX18 lC (fun h => apBC _ h rfl)
          replace lC : X16.heap.size < X18.heap.size := by omega
          replace apBC : ∀ k, Slot aX18 k → k ≠ X16.heap.size := fun k h e => (sX18 k h).elim (fun q => apBC k q e) (fun q => by omega)
          replace oB := hX18
          have lAX18 : ∀ k, Slot (aX15) k → k < X18.heap.size := fun k h => (OwnS.lt oA h).1
          have lBX18 : ∀ k, Slot (aX18) k → k < X18.heap.size := fun k h => (OwnS.lt oB h).1
          clear hX18 gX18 sX18 kX18
          refine tz (i := 17) rfl ?_
          simp only [Act.put, ps1, ps2, ps3]
          refine tz (i := 18) rfl ?_
          simp only [Act.put, ps1, ps2, ps3]
          refine wpAnyH_done (by kernel_rfl) ?_ _
          have bL : Below w6.heap.size w6 X18 := hHeld.2
          have zL := bL.size
          have oA2 : Own X18 w6.heap.size 3 aX15 c2 cX15 (natC (cutA P c2)) := oA
          have oB2 : Own X18 w6.heap.size 3 aX18 (n - c2 + 1) cX18 (natC (cutB P c2)) := by rw [HCB.out] at oB; exact oB
          obtain ⟨ga, rfl, hga, hga2, sgA⟩ := OwnS.at oA2 (by omega)
          obtain ⟨gb, rfl, hgb, hgb2, sgB⟩ := OwnS.at oB2 (by omega)
          have rA := OwnS.room oA2
          have rB := OwnS.room oB2
          obtain ⟨xs, sx, hxl, hx1, hxe⟩ := (HWT6.out.below bL).ex
          have hxm : xs.length = m := by rw [hxl, List.length_take, HWN.out]; omega
          have hwl : wb < X18.heap.size := (HWT6.out.below bL).lt
          clear HSt hHeld oA2 oB2 oA oB
          have b1 : Below X18.heap.size X18 (X18.alloc (.cells #[] 33)) := (Below.refl _ _).alloc (Nat.le_refl _) _
          have owT : Own (X18.alloc (.cells #[] 33)) X18.heap.size 33 (some ⟨X18.heap.size, 0, none⟩) 0 0 [] := own_new X18 X18.heap.size 33 (Nat.le_refl _)
          have SW : Sl (X18.alloc (.cells #[] 33)) (some ⟨wb, 0, none⟩) m wc xs := ⟨hxm, by omega, hwc.2, (by intro e; cases e), Or.inr ⟨wb, 0, rfl, by simp; omega, sx.below b1 hwl⟩⟩
          go_wp2_with (at_builtin; first
           | (refine app_at _ rfl _ _ 35 rfl X18.heap.size 33 is _ 24 Try.underlying35 si0 sz0 sz1 sz2 rfl _ 0 0 _ rfl owT _ m wc xs rfl SW hx1 (by unfold maxLen; omega) (by omega) (by simp) ?_
              intro a7 c7 w7 h7 g7 s7
              have b7 : Below X18.heap.size X18 w7 := grown_low b1 (by simp) owT g7
              have z7 := b7.size
              have b8 : Below w7.heap.size w7 (w7.alloc (.cells #[.slice (some ⟨gb, 0, none⟩) (n - c2 + 1) cX18, .slice (some ⟨ga, 0, none⟩) c2 cX15] 33)) := (Below.refl _ _).alloc (Nat.le_refl _) _
              have S2 : Sl (w7.alloc (.cells #[.slice (some ⟨gb, 0, none⟩) (n - c2 + 1) cX18, .slice (some ⟨ga, 0, none⟩) c2 cX15] 33)) (some ⟨w7.heap.size, 0, none⟩) 2 2 [.slice (some ⟨gb, 0, none⟩) (n - c2 + 1) cX18, .slice (some ⟨ga, 0, none⟩) c2 cX15] := ⟨rfl, Nat.le_refl _, by unfold maxLen; omega, (by intro e; cases e), Or.inr ⟨_, 0, rfl, by simp, (Row.new w7 _ _).seg⟩⟩
              rw [List.nil_append, Nat.zero_add] at h7
              have owU := OwnS.below h7 b8
              clear owT SW g7 s7)
           | (refine app_at _ rfl _ _ 35 rfl X18.heap.size 33 is _ 24 Try.underlying35 si0 sz0 sz1 sz2 rfl a7 m c7 _ (by first | rfl | simp) owU _ 2 2 _ rfl S2 (by intro t ht; simp at ht; rcases ht with rfl | rfl <;> rfl) (by unfold maxLen; omega) (by omega) (by simp; omega) ?_
              intro a9 c9 w9 h9 g9 s9))
          have b9 : Below X18.heap.size X18 w9 := grown_low (also b7 b8) (by simp; omega) owU g9
          obtain ⟨g9b, rfl, hg9, hg92, sg9⟩ := OwnS.at h9 (by omega)
          have r9 := OwnS.room h9
          have NEXT : Hid (FillRel L nl w (leftN (st.take m ++ [cutB P c2, cutA P c2])) (.slice a6 (on + 1) c6) (.slice (some ⟨g9b, 0, none⟩) (m + 2) c9) w9) := by
           have b69 : Below w6.heap.size w6 w9 := also bL b9
           have e1 := HC2.out
           refine ⟨⟨_, O ++ [(x0, x1, x2)], a6, on + 1, c6, g9b, m + 2, c9, rfl, rfl, by rw [List.length_append, ← HON.out]; rfl, by rw [List.length_append, List.length_take, HWN.out]; show _ = min m (m + 1) + 2; omega, r9, rfl, HO6.out.below b69, ?_, by rw [e1]; exact HST.out.1⟩, also b06 b69⟩
           refine WtAt.push hxe hxl hx1 b9 LT6.out (B := w6.heap.size) ⟨hgb2, hga2, by omega⟩ hg9 (by rw [HCM.out, HCA.out]; exact sg9) ⟨Nat.lt_of_lt_of_le hgb b9.size, by rw [HCM.out]; exact rB.1, rB.2, sgB.below b9 hgb⟩ ⟨Nat.lt_of_lt_of_le hga b9.size, by rw [HCA.out]; exact rA.1, rA.2, sgA.below b9 hga⟩
          have MEA : Hid (leftN (st.take m ++ [cutB P c2, cutA P c2]) < gk) := by unfold Hid; rw [← HGK.out, HC2.out]; exact HST.out.2
          clear h9 g9 s9 S2 owU b8 h7 hxe sx hx1 sgA sgB sg9
          go_wp2
          go_roundg (leftN (st.take m ++ [cutB P c2, cutA P c2]))
          case measure => exact MEA.out
          case rel => exact NEXT.out
         ·skip
          have gc : w6.heap.size ≤ X15.heap.size := hHeld.2.size
          go_simp
          have eX19 : Below X15.heap.size X15 (X15.alloc (.cells #[.int .i64 (x0 : Int)] 3)) := (Below.refl _ _).alloc (Nat.le_refl _) _
          refine hK.out _ _ (HSt.out _ (also hHeld.2 eX19)) (fun hHeld => ?_)
          clear hK Kc
          obtain ⟨X19, hX19⟩ : ∃ q, q = X15.alloc (.cells #[.int .i64 (x0 : Int)] 3) := ⟨_, rfl⟩
          rw [← hX19] at hHeld eX19 ⊢
          have zX19 : X15.heap.size < X19.heap.size := by rw [hX19]; simp
          replace oA := OwnS.below oA eX19
          replace oB := OwnS.below oB eX19
          have rC : Row X19 X15.heap.size [.int .i64 (x0 : Int)] := by rw [hX19]; exact Row.new X15 _ _
          have lC : X15.heap.size < X19.heap.size := by omega
          have apAC : ∀ k, Slot (aX15) k → k ≠ X15.heap.size := fun k h => by have := lAX15 k h; omega
          have apBC : ∀ k, Slot (some ⟨X1.heap.size, 0, none⟩) k → k ≠ X15.heap.size := fun k h => by have := lBX15 k h; omega
          have lAX19 : ∀ k, Slot (aX15) k → k < X19.heap.size := fun k h => (OwnS.lt oA h).1
          have lBX19 : ∀ k, Slot (some ⟨X1.heap.size, 0, none⟩) k → k < X19.heap.size := fun k h => (OwnS.lt oB h).1
          clear hX19
          refine take_call (i := 11) rfl (by kernel_rfl) (fun Kc hK => ?_)
          refine step_append_S rfl (.tmp 109) (.tmp 113) 33 rfl w6.heap.size 3 i0 _ 1 8 Try.underlying33 hi0 hz0 hz1 hz2 rfl (by decide) (some ⟨X1.heap.size, 0, none⟩) 0 0 [] rfl oB ⟨pb, po + c2, none⟩ (n - c2) _ (natC (P.drop c2)) rfl HLD.out (HNWB.out _ hHeld.2) (by first | exact natC_one _ | (intro t ht; simp at ht; subst ht; rfl)) (by unfold maxLen; omega) (by omega) hHeld.2.size ?_
          intro aX20 cX20 X20 hX20 gX20 sX20
          have kX20 : Keep (Slot (some ⟨X1.heap.size, 0, none⟩)) X19 X20 := Keep.grown (Keep.refl _ _) gX20 (fun k e => Or.inl (OwnS.slot oB e))
          refine hK.out _ _ (HSt.out _ (hHeld.2.trans (kX20.below hHeld.2.size (fun k h => (OwnS.lt oB h).2)))) (fun hHeld => ?_)
          clear hK Kc
          simp only [Act.put, List.setIfInBounds_toArray, List.set_cons_zero, List.set_cons_succ, Nat.zero_add]
          rw [List.nil_append, Nat.zero_add] at hX20
          have zX20 := kX20.size
          replace oA := OwnS.keep oA kX20 (fun k h q => apAB k h q)
          replace apAB : ∀ k, Slot (aX15) k → ¬ Slot aX20 k := fun k h q => (sX20 k q).elim (fun q => apAB k h q) (fun q => by have := lAX19 k h; omega)
          replace rC := Row.keep rC kX20 lC (fun h => apBC _ h rfl)
          replace lC : X15.heap.size < X20.heap.size := by omega
          replace apBC : ∀ k, Slot aX20 k → k ≠ X15.heap.size := fun k h e => (sX20 k h).elim (fun q => apBC k q e) (fun q => by omega)
          replace oB := hX20
          have lAX20 : ∀ k, Slot (aX15) k → k < X20.heap.size := fun k h => (OwnS.lt oA h).1
          have lBX20 : ∀ k, Slot (aX20) k → k < X20.heap.size := fun k h => (OwnS.lt oB h).1
          clear hX20 gX20 sX20 kX20
          refine take_call (i := 16) rfl (by kernel_rfl) (fun Kc hK => ?_)
          refine step_append_S rfl (.tmp 114) (.tmp 118) 33 rfl w6.heap.size 3 i0 _ 1 8 Try.underlying33 hi0 hz0 hz1 hz2 rfl (by decide) (aX20) (n - c2) cX20 (natC (P.drop c2)) rfl oB ⟨X15.heap.size, 0, none⟩ 1 _ [.int .i64 (x0 : Int)] rfl rfl (row_news rC) (by first | exact natC_one _ | (intro t ht; simp at ht; subst ht; rfl)) (by unfold maxLen; omega) (by omega) hHeld.2.size ?_
          intro aX21 cX21 X21 hX21 gX21 sX21
          have kX21 : Keep (Slot (aX20)) X20 X21 := Keep.grown (Keep.refl _ _) gX21 (fun k e => Or.inl (OwnS.slot oB e))
          refine hK.out _ _ (HSt.out _ (hHeld.2.trans (kX21.below hHeld.2.size (fun k h => (OwnS.lt oB h).2)))) (fun hHeld => ?_)
          clear hK Kc
          simp only [Act.put, List.setIfInBounds_toArray, List.set_cons_zero, List.set_cons_succ, Nat.zero_add]
          have zX21 := kX21.size
          replace oA := OwnS.keep oA kX21 (fun k h q => apAB k h q)
          replace apAB : ∀ k, Slot (aX15) k → ¬ Slot aX21 k := fun k h q => (sX21 k q).elim (fun q => apAB k h q) (fun q => by have := lAX20 k h; omega)
          replace rC := Row.keep rC kX21 lC (fun h => apBC _ h rfl)
          replace lC : X15.heap.size < X21.heap.size := by omega
          replace apBC : ∀ k, Slot aX21 k → k ≠ X15.heap.size := fun k h e => (sX21 k h).elim (fun q => apBC k q e) (fun q => by omega)
          replace oB := hX21
          have lAX21 : ∀ k, Slot (aX15) k → k < X21.heap.size := fun k h => (OwnS.lt oA h).1
          have lBX21 : ∀ k, Slot (aX21) k → k < X21.heap.size := fun k h => (OwnS.lt oB h).1
          clear hX21 gX21 sX21 kX21
          refine tz (i := 17) rfl ?_
          simp only [Act.put, ps1, ps2, ps3]
          refine tz (i := 18) rfl ?_
          simp only [Act.put, ps1, ps2, ps3]
          refine wpAnyH_done (by kernel_rfl) ?_ _
          have bL : Below w6.heap.size w6 X21 := hHeld.2
          have zL := bL.size
          have oA2 : Own X21 w6.heap.size 3 aX15 c2 cX15 (natC (cutA P c2)) := oA
          have oB2 : Own X21 w6.heap.size 3 aX21 (n - c2 + 1) cX21 (natC (cutB P c2)) := by rw [HCB.out] at oB; exact oB
          obtain ⟨ga, rfl, hga, hga2, sgA⟩ := OwnS.at oA2 (by omega)
          obtain ⟨gb, rfl, hgb, hgb2, sgB⟩ := OwnS.at oB2 (by omega)
          have rA := OwnS.room oA2
          have rB := OwnS.room oB2
          obtain ⟨xs, sx, hxl, hx1, hxe⟩ := (HWT6.out.below bL).ex
          have hxm : xs.length = m := by rw [hxl, List.length_take, HWN.out]; omega
          have hwl : wb < X21.heap.size := (HWT6.out.below bL).lt
          clear HSt hHeld oA2 oB2 oA oB
          have b1 : Below X21.heap.size X21 (X21.alloc (.cells #[] 33)) := (Below.refl _ _).alloc (Nat.le_refl _) _
          have owT : Own (X21.alloc (.cells #[] 33)) X21.heap.size 33 (some ⟨X21.heap.size, 0, none⟩) 0 0 [] := own_new X21 X21.heap.size 33 (Nat.le_refl _)
          have SW : Sl (X21.alloc (.cells #[] 33)) (some ⟨wb, 0, none⟩) m wc xs := ⟨hxm, by omega, hwc.2, (by intro e; cases e), Or.inr ⟨wb, 0, rfl, by simp; omega, sx.below b1 hwl⟩⟩
          go_wp2_with (at_builtin; first
           | (refine app_at _ rfl _ _ 35 rfl X21.heap.size 33 is _ 24 Try.underlying35 si0 sz0 sz1 sz2 rfl _ 0 0 _ rfl owT _ m wc xs rfl SW hx1 (by unfold maxLen; omega) (by omega) (by simp) ?_
              intro a7 c7 w7 h7 g7 s7
              have b7 : Below X21.heap.size X21 w7 := grown_low b1 (by simp) owT g7
              have z7 := b7.size
              have b8 : Below w7.heap.size w7 (w7.alloc (.cells #[.slice (some ⟨gb, 0, none⟩) (n - c2 + 1) cX21, .slice (some ⟨ga, 0, none⟩) c2 cX15] 33)) := (Below.refl _ _).alloc (Nat.le_refl _) _
              have S2 : Sl (w7.alloc (.cells #[.slice (some ⟨gb, 0, none⟩) (n - c2 + 1) cX21, .slice (some ⟨ga, 0, none⟩) c2 cX15] 33)) (some ⟨w7.heap.size, 0, none⟩) 2 2 [.slice (some ⟨gb, 0, none⟩) (n - c2 + 1) cX21, .slice (some ⟨ga, 0, none⟩) c2 cX15] := ⟨rfl, Nat.le_refl _, by unfold maxLen; omega, (by intro e; cases e), Or.inr ⟨_, 0, rfl, by simp, (Row.new w7 _ _).seg⟩⟩
              rw [List.nil_append, Nat.zero_add] at h7
              have owU := OwnS.below h7 b8
              clear owT SW g7 s7)
           | (refine app_at _ rfl _ _ 35 rfl X21.heap.size 33 is _ 24 Try.underlying35 si0 sz0 sz1 sz2 rfl a7 m c7 _ (by first | rfl | simp) owU _ 2 2 _ rfl S2 (by intro t ht; simp at ht; rcases ht with rfl | rfl <;> rfl) (by unfold maxLen; omega) (by omega) (by simp; omega) ?_
              intro a9 c9 w9 h9 g9 s9))
          have b9 : Below X21.heap.size X21 w9 := grown_low (also b7 b8) (by simp; omega) owU g9
          obtain ⟨g9b, rfl, hg9, hg92, sg9⟩ := OwnS.at h9 (by omega)
          have r9 := OwnS.room h9
          have NEXT : Hid (FillRel L nl w (leftN (st.take m ++ [cutB P c2, cutA P c2])) (.slice a6 (on + 1) c6) (.slice (some ⟨g9b, 0, none⟩) (m + 2) c9) w9) := by
           have b69 : Below w6.heap.size w6 w9 := also bL b9
           have e1 := HC2.out
           refine ⟨⟨_, O ++ [(x0, x1, x2)], a6, on + 1, c6, g9b, m + 2, c9, rfl, rfl, by rw [List.length_append, ← HON.out]; rfl, by rw [List.length_append, List.length_take, HWN.out]; show _ = min m (m + 1) + 2; omega, r9, rfl, HO6.out.below b69, ?_, by rw [e1]; exact HST.out.1⟩, also b06 b69⟩
           refine WtAt.push hxe hxl hx1 b9 LT6.out (B := w6.heap.size) ⟨hgb2, hga2, by omega⟩ hg9 (by rw [HCM.out, HCA.out]; exact sg9) ⟨Nat.lt_of_lt_of_le hgb b9.size, by rw [HCM.out]; exact rB.1, rB.2, sgB.below b9 hgb⟩ ⟨Nat.lt_of_lt_of_le hga b9.size, by rw [HCA.out]; exact rA.1, rA.2, sgA.below b9 hga⟩
          have MEA : Hid (leftN (st.take m ++ [cutB P c2, cutA P c2]) < gk) := by unfold Hid; rw [← HGK.out, HC2.out]; exact HST.out.2
          clear h9 g9 s9 S2 owU b8 h7 hxe sx hx1 sgA sgB sg9
          go_wp2
          go_roundg (leftN (st.take m ++ [cutB P c2, cutA P c2]))
          case measure => exact MEA.out
          case rel => exact NEXT.out
        ·skip
         have gc : w6.heap.size ≤ X14.heap.size := hHeld.2.size
         go_simp
         have eX22 : Below X14.heap.size X14 (X14.alloc (.cells #[.int .i64 (x0 : Int)] 3)) := (Below.refl _ _).alloc (Nat.le_refl _) _
         refine hK.out _ _ (HSt.out _ (also hHeld.2 eX22)) (fun hHeld => ?_)
         clear hK Kc
         obtain ⟨X22, hX22⟩ : ∃ q, q = X14.alloc (.cells #[.int .i64 (x0 : Int)] 3) := ⟨_, rfl⟩
         rw [← hX22] at hHeld eX22 ⊢
         have zX22 : X14.heap.size < X22.heap.size := by rw [hX22]; simp
         replace oA := OwnS.below oA eX22
         replace oB := OwnS.below oB eX22
         have rC : Row X22 X14.heap.size [.int .i64 (x0 : Int)] := by rw [hX22]; exact Row.new X14 _ _
         have lC : X14.heap.size < X22.heap.size := by omega
         have apAC : ∀ k, Slot (some ⟨X0.heap.size, 0, none⟩) k → k ≠ X14.heap.size := fun k h => by have := lAX14 k h; omega
         have apBC : ∀ k, Slot (some ⟨X1.heap.size, 0, none⟩) k → k ≠ X14.heap.size := fun k h => by have := lBX14 k h; omega
         have lAX22 : ∀ k, Slot (some ⟨X0.heap.size, 0, none⟩) k → k < X22.heap.size := fun k h => (OwnS.lt oA h).1
         have lBX22 : ∀ k, Slot (some ⟨X1.heap.size, 0, none⟩) k → k < X22.heap.size := fun k h => (OwnS.lt oB h).1
         clear hX22
         refine take_call (i := 5) rfl (by kernel_rfl) (fun Kc hK => ?_)
         refine step_append_S rfl (.tmp 103) (.tmp 107) 33 rfl w6.heap.size 3 i0 _ 1 8 Try.underlying33 hi0 hz0 hz1 hz2 rfl (by decide) (some ⟨X0.heap.size, 0, none⟩) 0 0 [] rfl oA ⟨pb, po + 1, none⟩ c2 _ (natC (cutA P c2)) rfl HLA.out (HNWA.out _ hHeld.2) (by first | exact natC_one _ | (intro t ht; simp at ht; subst ht; rfl)) (by unfold maxLen; omega) (by omega) hHeld.2.size ?_
         intro aX23 cX23 X23 hX23 gX23 sX23
         have kX23 : Keep (Slot (some ⟨X0.heap.size, 0, none⟩)) X22 X23 := Keep.grown (Keep.refl _ _) gX23 (fun k e => Or.inl (OwnS.slot oA e))
         refine hK.out _ _ (HSt.out _ (hHeld.2.trans (kX23.below hHeld.2.size (fun k h => (OwnS.lt oA h).2)))) (fun hHeld => ?_)
         clear hK Kc
         simp only [Act.put, List.setIfInBounds_toArray, List.set_cons_zero, List.set_cons_succ, Nat.zero_add]
         rw [List.nil_append, Nat.zero_add] at hX23
         have zX23 := kX23.size
         replace oB := OwnS.keep oB kX23 (fun k h q => apAB k q h)
         replace apAB : ∀ k, Slot aX23 k → ¬ Slot (some ⟨X1.heap.size, 0, none⟩) k := fun k q h => (sX23 k q).elim (fun q => apAB k q h) (fun q => by have := lBX22 k h; omega)
         replace rC := Row.keep rC kX23 lC (fun h => apAC _ h rfl)
         replace lC : X14.heap.size < X23.heap.size := by omega
         replace apAC : ∀ k, Slot aX23 k → k ≠ X14.heap.size := fun k h e => (sX23 k h).elim (fun q => apAC k q e) (fun q => by omega)
         replace oA := hX23
         have lAX23 : ∀ k, Slot (aX23) k → k < X23.heap.size := fun k h => (OwnS.lt oA h).1
         have lBX23 : ∀ k, Slot (some ⟨X1.heap.size, 0, none⟩) k → k < X23.heap.size := fun k h => (OwnS.lt oB h).1
         clear hX23 gX23 sX23 kX23
         refine take_call (i := 11) rfl (by kernel_rfl) (fun Kc hK => ?_)
         refine step_append_S rfl (.tmp 109) (.tmp 113) 33 rfl w6.heap.size 3 i0 _ 1 8 Try.underlying33 hi0 hz0 hz1 hz2 rfl (by decide) (some ⟨X1.heap.size, 0, none⟩) 0 0 [] rfl oB ⟨pb, po + c2, none⟩ (n - c2) _ (natC (P.drop c2)) rfl HLD.out (HNWB.out _ hHeld.2) (by first | exact natC_one _ | (intro t ht; simp at ht; subst ht; rfl)) (by unfold maxLen; omega) (by omega) hHeld.2.size ?_
         intro aX24 cX24 X24 hX24 gX24 sX24
         have kX24 : Keep (Slot (some ⟨X1.heap.size, 0, none⟩)) X23 X24 := Keep.grown (Keep.refl _ _) gX24 (fun k e => Or.inl (OwnS.slot oB e))
         refine hK.out _ _ (HSt.out _ (hHeld.2.trans (kX24.below hHeld.2.size (fun k h => (OwnS.lt oB h).2)))) (fun hHeld => ?_)
         clear hK Kc
         simp only [Act.put, List.setIfInBounds_toArray, List.set_cons_zero, List.set_cons_succ, Nat.zero_add]
         rw [List.nil_append, Nat.zero_add] at hX24
         have zX24 := kX24.size
         replace oA := OwnS.keep oA kX24 (fun k h q => apAB k h q)
         replace apAB : ∀ k, Slot (aX23) k → ¬ Slot aX24 k := fun k h q => (sX24 k q).elim (fun q => apAB k h q) (fun q => by have := lAX23 k h; omega)
         replace rC := Row.keep rC kX24 lC (fun h => apBC _ h rfl)
         replace lC : X14.heap.size < X24.heap.size := by omega
         replace apBC : ∀ k, Slot aX24 k → k ≠ X14.heap.size := fun k h e => (sX24 k h).elim (fun q => apBC k q e) (fun q => by omega)
         replace oB := hX24
         have lAX24 : ∀ k, Slot (aX23) k → k < X24.heap.size := fun k h => (OwnS.lt oA h).1
         have lBX24 : ∀ k, Slot (aX24) k → k < X24.heap.size := fun k h => (OwnS.lt oB h).1
         clear hX24 gX24 sX24 kX24
         refine take_call (i := 16) rfl (by kernel_rfl) (fun Kc hK => ?_)
         refine step_append_S rfl (.tmp 114) (.tmp 118) 33 rfl w6.heap.size 3 i0 _ 1 8 Try.underlying33 hi0 hz0 hz1 hz2 rfl (by decide) (aX24) (n - c2) cX24 (natC (P.drop c2)) rfl oB ⟨X14.heap.size, 0, none⟩ 1 _ [.int .i64 (x0 : Int)] rfl rfl (row_news rC) (by first | exact natC_one _ | (intro t ht; simp at ht; subst ht; rfl)) (by unfold maxLen; omega) (by omega) hHeld.2.size ?_
         intro aX25 cX25 X25 hX25 gX25 sX25
         have kX25 : Keep (Slot (aX24)) X24 X25 := Keep.grown (Keep.refl _ _) gX25 (fun k e => Or.inl (OwnS.slot oB e))
         refine hK.out _ _ (HSt.out _ (hHeld.2.trans (kX25.below hHeld.2.size (fun k h => (OwnS.lt oB h).2)))) (fun hHeld => ?_)
         clear hK Kc
         simp only [Act.put, List.setIfInBounds_toArray, List.set_cons_zero, List.set_cons_succ, Nat.zero_add]
         have zX25 := kX25.size
         replace oA := OwnS.keep oA kX25 (fun k h q => apAB k h q)
         replace apAB : ∀ k, Slot (aX23) k → ¬ Slot aX25 k := fun k h q => (sX25 k q).elim (fun q => apAB k h q) (fun q => by have := lAX24 k h; omega)
         replace rC := Row.keep rC kX25 lC (fun h => apBC _ h rfl)
         replace lC : X14.heap.size < X25.heap.size := by omega
         replace apBC : ∀ k, Slot aX25 k → k ≠ X14.heap.size := fun k h e => (sX25 k h).elim (fun q => apBC k q e) (fun q => by omega)
         replace oB := hX25
         have lAX25 : ∀ k, Slot (aX23) k → k < X25.heap.size := fun k h => (OwnS.lt oA h).1
         have lBX25 : ∀ k, Slot (aX25) k → k < X25.heap.size := fun k h => (OwnS.lt oB h).1
         clear hX25 gX25 sX25 kX25
         refine tz (i := 17) rfl ?_
         simp only [Act.put, ps1, ps2, ps3]
         refine tz (i := 18) rfl ?_
         simp only [Act.put, ps1, ps2, ps3]
         refine wpAnyH_done (by kernel_rfl) ?_ _
         have bL : Below w6.heap.size w6 X25 := hHeld.2
         have zL := bL.size
         have oA2 : Own X25 w6.heap.size 3 aX23 c2 cX23 (natC (cutA P c2)) := oA
         have oB2 : Own X25 w6.heap.size 3 aX25 (n - c2 + 1) cX25 (natC (cutB P c2)) := by rw [HCB.out] at oB; exact oB
         obtain ⟨ga, rfl, hga, hga2, sgA⟩ := OwnS.at oA2 (by omega)
         obtain ⟨gb, rfl, hgb, hgb2, sgB⟩ := OwnS.at oB2 (by omega)
         have rA := OwnS.room oA2
         have rB := OwnS.room oB2
         obtain ⟨xs, sx, hxl, hx1, hxe⟩ := (HWT6.out.below bL).ex
         have hxm : xs.length = m := by rw [hxl, List.length_take, HWN.out]; omega
         have hwl : wb < X25.heap.size := (HWT6.out.below bL).lt
         clear HSt hHeld oA2 oB2 oA oB
         have b1 : Below X25.heap.size X25 (X25.alloc (.cells #[] 33)) := (Below.refl _ _).alloc (Nat.le_refl _) _
         have owT : Own (X25.alloc (.cells #[] 33)) X25.heap.size 33 (some ⟨X25.heap.size, 0, none⟩) 0 0 [] := own_new X25 X25.heap.size 33 (Nat.le_refl _)
         have SW : Sl (X25.alloc (.cells #[] 33)) (some ⟨wb, 0, none⟩) m wc xs := ⟨hxm, by omega, hwc.2, (by intro e; cases e), Or.inr ⟨wb, 0, rfl, by simp; omega, sx.below b1 hwl⟩⟩
         go_wp2_with (at_builtin; first
          | (refine app_at _ rfl _ _ 35 rfl X25.heap.size 33 is _ 24 Try.underlying35 si0 sz0 sz1 sz2 rfl _ 0 0 _ rfl owT _ m wc xs rfl SW hx1 (by unfold maxLen; omega) (by omega) (by simp) ?_
             intro a7 c7 w7 h7 g7 s7
             have b7 : Below X25.heap.size X25 w7 := grown_low b1 (by simp) owT g7
             have z7 := b7.size
             have b8 : Below w7.heap.size w7 (w7.alloc (.cells #[.slice (some ⟨gb, 0, none⟩) (n - c2 + 1) cX25, .slice (some ⟨ga, 0, none⟩) c2 cX23] 33)) := (Below.refl _ _).alloc (Nat.le_refl _) _
             have S2 : Sl (w7.alloc (.cells #[.slice (some ⟨gb, 0, none⟩) (n - c2 + 1) cX25, .slice (some ⟨ga, 0, none⟩) c2 cX23] 33)) (some ⟨w7.heap.size, 0, none⟩) 2 2 [.slice (some ⟨gb, 0, none⟩) (n - c2 + 1) cX25, .slice (some ⟨ga, 0, none⟩) c2 cX23] := ⟨rfl, Nat.le_refl _, by unfold maxLen; omega, (by intro e; cases e), Or.inr ⟨_, 0, rfl, by simp, (Row.new w7 _ _).seg⟩⟩
             rw [List.nil_append, Nat.zero_add] at h7
             have owU := OwnS.below h7 b8
             clear owT SW g7 s7)
          | (refine app_at _ rfl _ _ 35 rfl X25.heap.size 33 is _ 24 Try.underlying35 si0 sz0 sz1 sz2 rfl a7 m c7 _ (by first | rfl | simp) owU _ 2 2 _ rfl S2 (by intro t ht; simp at ht; rcases ht with rfl | rfl <;> rfl) (by unfold maxLen; omega) (by omega) (by simp; omega) ?_
             intro a9 c9 w9 h9 g9 s9))
         have b9 : Below X25.heap.size X25 w9 := grown_low (also b7 b8) (by simp; omega) owU g9
         obtain ⟨g9b, rfl, hg9, hg92, sg9⟩ := OwnS.at h9 (by omega)
         have r9 := OwnS.room h9
         have NEXT : Hid (FillRel L nl w (leftN (st.take m ++ [cutB P c2, cutA P c2])) (.slice a6 (on + 1) c6) (.slice (some ⟨g9b, 0, none⟩) (m + 2) c9) w9) := by
          have b69 : Below w6.heap.size w6 w9 := also bL b9
          have e1 := HC2.out
          refine ⟨⟨_, O ++ [(x0, x1, x2)], a6, on + 1, c6, g9b, m + 2, c9, rfl, rfl, by rw [List.length_append, ← HON.out]; rfl, by rw [List.length_append, List.length_take, HWN.out]; show _ = min m (m + 1) + 2; omega, r9, rfl, HO6.out.below b69, ?_, by rw [e1]; exact HST.out.1⟩, also b06 b69⟩
          refine WtAt.push hxe hxl hx1 b9 LT6.out (B := w6.heap.size) ⟨hgb2, hga2, by omega⟩ hg9 (by rw [HCM.out, HCA.out]; exact sg9) ⟨Nat.lt_of_lt_of_le hgb b9.size, by rw [HCM.out]; exact rB.1, rB.2, sgB.below b9 hgb⟩ ⟨Nat.lt_of_lt_of_le hga b9.size, by rw [HCA.out]; exact rA.1, rA.2, sgA.below b9 hga⟩
         have MEA : Hid (leftN (st.take m ++ [cutB P c2, cutA P c2]) < gk) := by unfold Hid; rw [← HGK.out, HC2.out]; exact HST.out.2
         clear h9 g9 s9 S2 owU b8 h7 hxe sx hx1 sgA sgB sg9
         go_wp2
         go_roundg (leftN (st.take m ++ [cutB P c2, cutA P c2]))
         case measure => exact MEA.out
         case rel => exact NEXT.out
       ·skip
        have gc : w6.heap.size ≤ X1.heap.size := hHeld.2.size
        go_simp
        have eX26 : Below X1.heap.size X1 (X1.alloc (.cells #[.int .i64 (x0 : Int)] 3)) := (Below.refl _ _).alloc (Nat.le_refl _) _
        refine hK.out _ _ (HSt.out _ (also hHeld.2 eX26)) (fun hHeld => ?_)
        clear hK Kc
        obtain ⟨X26, hX26⟩ : ∃ q, q = X1.alloc (.cells #[.int .i64 (x0 : Int)] 3) := ⟨_, rfl⟩
        rw [← hX26] at hHeld eX26 ⊢
        have zX26 : X1.heap.size < X26.heap.size := by rw [hX26]; simp
        replace oA := OwnS.below oA eX26
        have rC : Row X26 X1.heap.size [.int .i64 (x0 : Int)] := by rw [hX26]; exact Row.new X1 _ _
        have lC : X1.heap.size < X26.heap.size := by omega
        have apAC : ∀ k, Slot (some ⟨X0.heap.size, 0, none⟩) k → k ≠ X1.heap.size := fun k h => by have := lAX1 k h; omega
        have lAX26 : ∀ k, Slot (some ⟨X0.heap.size, 0, none⟩) k → k < X26.heap.size := fun k h => (OwnS.lt oA h).1
        clear hX26
        refine wpAnyH_ready (rs := [5, 6]) (by kernel_rfl) (by simp) (AllReadyH.cons (i := 5) rfl (fun Kc hK => ?_) (AllReadyH.cons (i := 6) rfl (fun Kc hK => ?_) AllReadyH.nil))
        ·skip
         refine step_append_S rfl (.tmp 103) (.tmp 107) 33 rfl w6.heap.size 3 i0 _ 1 8 Try.underlying33 hi0 hz0 hz1 hz2 rfl (by decide) (some ⟨X0.heap.size, 0, none⟩) 0 0 [] rfl oA ⟨pb, po + 1, none⟩ c2 _ (natC (cutA P c2)) rfl HLA.out (HNWA.out _ hHeld.2) (by first | exact natC_one _ | (intro t ht; simp at ht; subst ht; rfl)) (by unfold maxLen; omega) (by omega) hHeld.2.size ?_
         intro aX27 cX27 X27 hX27 gX27 sX27
         have kX27 : Keep (Slot (some ⟨X0.heap.size, 0, none⟩)) X26 X27 := Keep.grown (Keep.refl _ _) gX27 (fun k e => Or.inl (OwnS.slot oA e))
         refine hK.out _ _ (HSt.out _ (hHeld.2.trans (kX27.below hHeld.2.size (fun k h => (OwnS.lt oA h).2)))) (fun hHeld => ?_)
         clear hK Kc
         simp only [Act.put, List.setIfInBounds_toArray, List.set_cons_zero, List.set_cons_succ, Nat.zero_add]
         rw [List.nil_append, Nat.zero_add] at hX27
         have zX27 := kX27.size
         replace rC := Row.keep rC kX27 lC (fun h => apAC _ h rfl)
         replace lC : X1.heap.size < X27.heap.size := by omega
         replace apAC : ∀ k, Slot aX27 k → k ≠ X1.heap.size := fun k h e => (sX27 k h).elim (fun q => apAC k q e) (fun q => by omega)
         replace oA := hX27
         have lAX27 : ∀ k, Slot (aX27) k → k < X27.heap.size := fun k h => (OwnS.lt oA h).1
         clear hX27 gX27 sX27 kX27
         refine take_call (i := 6) rfl (by kernel_rfl) (fun Kc hK => ?_)
         have gc : w6.heap.size ≤ X27.heap.size := hHeld.2.size
         go_simp
         have eX28 : Below X27.heap.size X27 (X27.alloc (.cells #[] 3)) := (Below.refl _ _).alloc (Nat.le_refl _) _
         refine hK.out _ _ (HSt.out _ (also hHeld.2 eX28)) (fun hHeld => ?_)
         clear hK Kc
         obtain ⟨X28, hX28⟩ : ∃ q, q = X27.alloc (.cells #[] 3) := ⟨_, rfl⟩
         rw [← hX28] at hHeld eX28 ⊢
         have zX28 : X27.heap.size < X28.heap.size := by rw [hX28]; simp
         replace oA := OwnS.below oA eX28
         replace rC := rC.below eX28 lC
         replace lC : X1.heap.size < X28.heap.size := by omega
         have oB : Own X28 w6.heap.size 3 (some ⟨X27.heap.size, 0, none⟩) 0 0 [] := by rw [hX28]; exact own_new X27 w6.heap.size 3 (by omega)
         have apAB : ∀ k, Slot (aX27) k → ¬ Slot (some ⟨X27.heap.size, 0, none⟩) k := fun k h q => by have := lAX27 k h; have := Slot.eq q; omega
         have apBC : ∀ k, Slot (some ⟨X27.heap.size, 0, none⟩) k → k ≠ X1.heap.size := fun k h => by have := Slot.eq h; omega
         have lAX28 : ∀ k, Slot (aX27) k → k < X28.heap.size := fun k h => (OwnS.lt oA h).1
         have lBX28 : ∀ k, Slot (some ⟨X27.heap.size, 0, none⟩) k → k < X28.heap.size := fun k h => (OwnS.lt oB h).1
         clear hX28
         refine take_call (i := 11) rfl (by kernel_rfl) (fun Kc hK => ?_)
         refine step_append_S rfl (.tmp 109) (.tmp 113) 33 rfl w6.heap.size 3 i0 _ 1 8 Try.underlying33 hi0 hz0 hz1 hz2 rfl (by decide) (some ⟨X27.heap.size, 0, none⟩) 0 0 [] rfl oB ⟨pb, po + c2, none⟩ (n - c2) _ (natC (P.drop c2)) rfl HLD.out (HNWB.out _ hHeld.2) (by first | exact natC_one _ | (intro t ht; simp at ht; subst ht; rfl)) (by unfold maxLen; omega) (by omega) hHeld.2.size ?_
         intro aX29 cX29 X29 hX29 gX29 sX29
         have kX29 : Keep (Slot (some ⟨X27.heap.size, 0, none⟩)) X28 X29 := Keep.grown (Keep.refl _ _) gX29 (fun k e => Or.inl (OwnS.slot oB e))
         refine hK.out _ _ (HSt.out _ (hHeld.2.trans (kX29.below hHeld.2.size (fun k h => (OwnS.lt oB h).2)))) (fun hHeld => ?_)
         clear hK Kc
         simp only [Act.put, List.setIfInBounds_toArray, List.set_cons_zero, List.set_cons_succ, Nat.zero_add]
         rw [List.nil_append, Nat.zero_add] at hX29
         have zX29 := kX29.size
         replace oA := OwnS.keep oA kX29 (fun k h q => apAB k h q)
         replace apAB : ∀ k, Slot (aX27) k → ¬ Slot aX29 k := fun k h q => (sX29 k q).elim (fun q => apAB k h q) (fun q => by have := lAX28 k h; omega)
         replace rC := Row.keep rC kX29 lC (fun h => apBC _ h rfl)
         replace lC : X1.heap.size < X29.heap.size := by omega
         replace apBC : ∀ k, Slot aX29 k → k ≠ X1.heap.size := fun k h e => (sX29 k h).elim (fun q => apBC k q e) (fun q => by omega)
         replace oB := hX29
         have lAX29 : ∀ k, Slot (aX27) k → k < X29.heap.size := fun k h => (OwnS.lt oA h).1
         have lBX29 : ∀ k, Slot (aX29) k → k < X29.heap.size := fun k h => (OwnS.lt oB h).1
         clear hX29 gX29 sX29 kX29
         refine take_call (i := 16) rfl (by kernel_rfl) (fun Kc hK => ?_)
         refine step_append_S rfl (.tmp 114) (.tmp 118) 33 rfl w6.heap.size 3 i0 _ 1 8 Try.underlying33 hi0 hz0 hz1 hz2 rfl (by decide) (aX29) (n - c2) cX29 (natC (P.drop c2)) rfl oB ⟨X1.heap.size, 0, none⟩ 1 _ [.int .i64 (x0 : Int)] rfl rfl (row_news rC) (by first | exact natC_one _ | (intro t ht; simp at ht; subst ht; rfl)) (by unfold maxLen; omega) (by omega) hHeld.2.size ?_
         intro aX30 cX30 X30 hX30 gX30 sX30
         have kX30 : Keep (Slot (aX29)) X29 X30 := Keep.grown (Keep.refl _ _) gX30 (fun k e => Or.inl (OwnS.slot oB e))
         refine hK.out _ _ (HSt.out _ (hHeld.2.trans (kX30.below hHeld.2.size (fun k h => (OwnS.lt oB h).2)))) (fun hHeld => ?_)
         clear hK Kc
         simp only [Act.put, List.setIfInBounds_toArray, List.set_cons_zero, List.set_cons_succ, Nat.zero_add]
         have zX30 := kX30.size
         replace oA := OwnS.keep oA kX30 (fun k h q => apAB k h q)
         replace apAB : ∀ k, Slot (aX27) k → ¬ Slot aX30 k := fun k h q => (sX30 k q).elim (fun q => apAB k h q) (fun q => by have := lAX29 k h; omega)
         replace rC := Row.keep rC kX30 lC (fun h => apBC _ h rfl)
         replace lC : X1.heap.size < X30.heap.size := by omega
         replace apBC : ∀ k, Slot aX30 k → k ≠ X1.heap.size := fun k h e => (sX30 k h).elim (fun q => apBC k q e) (fun q => by omega)
         replace oB := hX30
         have lAX30 : ∀ k, Slot (aX27) k → k < X30.heap.size := fun k h => (OwnS.lt oA h).1
         have lBX30 : ∀ k, Slot (aX30) k → k < X30.heap.size := fun k h => (OwnS.lt oB h).1
         clear hX30 gX30 sX30 kX30
         refine tz (i := 17) rfl ?_
         simp only [Act.put, ps1, ps2, ps3]
         refine tz (i := 18) rfl ?_
         simp only [Act.put, ps1, ps2, ps3]
         refine wpAnyH_done (by kernel_rfl) ?_ _
         have bL : Below w6.heap.size w6 X30 := hHeld.2
         have zL := bL.size
         have oA2 : Own X30 w6.heap.size 3 aX27 c2 cX27 (natC (cutA P c2)) := oA
         have oB2 : Own X30 w6.heap.size 3 aX30 (n - c2 + 1) cX30 (natC (cutB P c2)) := by rw [HCB.out] at oB; exact oB
         obtain ⟨ga, rfl, hga, hga2, sgA⟩ := OwnS.at oA2 (by omega)
         obtain ⟨gb, rfl, hgb, hgb2, sgB⟩ := OwnS.at oB2 (by omega)
         have rA := OwnS.room oA2
         have rB := OwnS.room oB2
         obtain ⟨xs, sx, hxl, hx1, hxe⟩ := (HWT6.out.below bL).ex
         have hxm : xs.length = m := by rw [hxl, List.length_take, HWN.out]; omega
         have hwl : wb < X30.heap.size := (HWT6.out.below bL).lt
         clear HSt hHeld oA2 oB2 oA oB
         have b1 : Below X30.heap.size X30 (X30.alloc (.cells #[] 33)) := (Below.refl _ _).alloc (Nat.le_refl _) _
         have owT : Own (X30.alloc (.cells #[] 33)) X30.heap.size 33 (some ⟨X30.heap.size, 0, none⟩) 0 0 [] := own_new X30 X30.heap.size 33 (Nat.le_refl _)
         have SW : Sl (X30.alloc (.cells #[] 33)) (some ⟨wb, 0, none⟩) m wc xs := ⟨hxm, by omega, hwc.2, (by intro e; cases e), Or.inr ⟨wb, 0, rfl, by simp; omega, sx.below b1 hwl⟩⟩
         go_wp2_with (at_builtin; first
          | (refine app_at _ rfl _ _ 35 rfl X30.heap.size 33 is _ 24 Try.underlying35 si0 sz0 sz1 sz2 rfl _ 0 0 _ rfl owT _ m wc xs rfl SW hx1 (by unfold maxLen; omega) (by omega) (by simp) ?_
             intro a7 c7 w7 h7 g7 s7
             have b7 : Below X30.heap.size X30 w7 := grown_low b1 (by simp) owT g7
             have z7 := b7.size
             have b8 : Below w7.heap.size w7 (w7.alloc (.cells #[.slice (some ⟨gb, 0, none⟩) (n - c2 + 1) cX30, .slice (some ⟨ga, 0, none⟩) c2 cX27] 33)) := (Below.refl _ _).alloc (Nat.le_refl _) _
             have S2 : Sl (w7.alloc (.cells #[.slice (some ⟨gb, 0, none⟩) (n - c2 + 1) cX30, .slice (some ⟨ga, 0, none⟩) c2 cX27] 33)) (some ⟨w7.heap.size, 0, none⟩) 2 2 [.slice (some ⟨gb, 0, none⟩) (n - c2 + 1) cX30, .slice (some ⟨ga, 0, none⟩) c2 cX27] := ⟨rfl, Nat.le_refl _, by unfold maxLen; omega, (by intro e; cases e), Or.inr ⟨_, 0, rfl, by simp, (Row.new w7 _ _).seg⟩⟩
             rw [List.nil_append, Nat.zero_add] at h7
             have owU := OwnS.below h7 b8
             clear owT SW g7 s7)
          | (refine app_at _ rfl _ _ 35 rfl X30.heap.size 33 is _ 24 Try.underlying35 si0 sz0 sz1 sz2 rfl a7 m c7 _ (by first | rfl | simp) owU _ 2 2 _ rfl S2 (by intro t ht; simp at ht; rcases ht with rfl | rfl <;> rfl) (by unfold maxLen; omega) (by omega) (by simp; omega) ?_
             intro a9 c9 w9 h9 g9 s9))
         have b9 : Below X30.heap.size X30 w9 := grown_low (also b7 b8) (by simp; omega) owU g9
         obtain ⟨g9b, rfl, hg9, hg92, sg9⟩ := OwnS.at h9 (by omega)
         have r9 := OwnS.room h9
         have NEXT : Hid (FillRel L nl w (leftN (st.take m ++ [cutB P c2, cutA P c2])) (.slice a6 (on + 1) c6) (.slice (some ⟨g9b, 0, none⟩) (m + 2) c9) w9) := by
          have b69 : Below w6.heap.size w6 w9 := also bL b9
          have e1 := HC2.out
          refine ⟨⟨_, O ++ [(x0, x1, x2)], a6, on + 1, c6, g9b, m + 2, c9, rfl, rfl, by rw [List.length_append, ← HON.out]; rfl, by rw [List.length_append, List.length_take, HWN.out]; show _ = min m (m + 1) + 2; omega, r9, rfl, HO6.out.below b69, ?_, by rw [e1]; exact HST.out.1⟩, also b06 b69⟩
          refine WtAt.push hxe hxl hx1 b9 LT6.out (B := w6.heap.size) ⟨hgb2, hga2, by omega⟩ hg9 (by rw [HCM.out, HCA.out]; exact sg9) ⟨Nat.lt_of_lt_of_le hgb b9.size, by rw [HCM.out]; exact rB.1, rB.2, sgB.below b9 hgb⟩ ⟨Nat.lt_of_lt_of_le hga b9.size, by rw [HCA.out]; exact rA.1, rA.2, sgA.below b9 hga⟩
         have MEA : Hid (leftN (st.take m ++ [cutB P c2, cutA P c2]) < gk) := by unfold Hid; rw [← HGK.out, HC2.out]; exact HST.out.2
         clear h9 g9 s9 S2 owU b8 h7 hxe sx hx1 sgA sgB sg9
         go_wp2
         go_roundg (leftN (st.take m ++ [cutB P c2, cutA P c2]))
         case measure => exact MEA.out
         case rel => exact NEXT.out
        ·skip
         have gc : w6.heap.size ≤ X26.heap.size := hHeld.2.size
         go_simp
         have eX31 : Below X26.heap.size X26 (X26.alloc (.cells #[] 3)) := (Below.refl _ _).alloc (Nat.le_refl _) _
         refine hK.out _ _ (HSt.out _ (also hHeld.2 eX31)) (fun hHeld => ?_)
         clear hK Kc
         obtain ⟨X31, hX31⟩ : ∃ q, q = X26.alloc (.cells #[] 3) := ⟨_, rfl⟩
         rw [← hX31] at hHeld eX31 ⊢
         have zX31 : X26.heap.size < X31.heap.size := by rw [hX31]; simp
         replace oA := OwnS.below oA eX31
         replace rC := rC.below eX31 lC
         replace lC : X1.heap.size < X31.heap.size := by omega
         have oB : Own X31 w6.heap.size 3 (some ⟨X26.heap.size, 0, none⟩) 0 0 [] := by rw [hX31]; exact own_new X26 w6.heap.size 3 (by omega)
         have apAB : ∀ k, Slot (some ⟨X0.heap.size, 0, none⟩) k → ¬ Slot (some ⟨X26.heap.size, 0, none⟩) k := fun k h q => by have := lAX26 k h; have := Slot.eq q; omega
         have apBC : ∀ k, Slot (some ⟨X26.heap.size, 0, none⟩) k → k ≠ X1.heap.size := fun k h => by have := Slot.eq h; omega
         have lAX31 : ∀ k, Slot (some ⟨X0.heap.size, 0, none⟩) k → k < X31.heap.size := fun k h => (OwnS.lt oA h).1
         have lBX31 : ∀ k, Slot (some ⟨X26.heap.size, 0, none⟩) k → k < X31.heap.size := fun k h => (OwnS.lt oB h).1
         clear hX31
         refine take_call (i := 5) rfl (by kernel_rfl) (fun Kc hK => ?_)
         refine step_append_S rfl (.tmp 103) (.tmp 107) 33 rfl w6.heap.size 3 i0 _ 1 8 Try.underlying33 hi0 hz0 hz1 hz2 rfl (by decide) (some ⟨X0.heap.size, 0, none⟩) 0 0 [] rfl oA ⟨pb, po + 1, none⟩ c2 _ (natC (cutA P c2)) rfl HLA.out (HNWA.out _ hHeld.2) (by first | exact natC_one _ | (intro t ht; simp at ht; subst ht; rfl)) (by unfold maxLen; omega) (by omega) hHeld.2.size ?_
         intro aX32 cX32 X32 hX32 gX32 sX32
         have kX32 : Keep (Slot (some ⟨X0.heap.size, 0, none⟩)) X31 X32 := Keep.grown (Keep.refl _ _) gX32 (fun k e => Or.inl (OwnS.slot oA e))
         refine hK.out _ _ (HSt.out _ (hHeld.2.trans (kX32.below hHeld.2.size (fun k h => (OwnS.lt oA h).2)))) (fun hHeld => ?_)
         clear hK Kc
         simp only [Act.put, List.setIfInBounds_toArray, List.set_cons_zero, List.set_cons_succ, Nat.zero_add]
         rw [List.nil_append, Nat.zero_add] at hX32
         have zX32 := kX32.size
         replace rC := Row.keep rC kX32 lC (fun h => apAC _ h rfl)
         replace lC : X1.heap.size < X32.heap.size := by omega
         replace apAC : ∀ k, Slot aX32 k → k ≠ X1.heap.size := fun k h e => (sX32 k h).elim (fun q => apAC k q e) (fun q => by omega)
         replace oB := OwnS.keep oB kX32 (fun k h q => apAB k q h)
         replace apAB : ∀ k, Slot aX32 k → ¬ Slot (some ⟨X26.heap.size, 0, none⟩) k := fun k q h => (sX32 k q).elim (fun q => apAB k q h) (fun q => by have := lBX31 k h; omega)
         replace oA := hX32
         have lAX32 : ∀ k, Slot (aX32) k → k < X32.heap.size := fun k h => (OwnS.lt oA h).1
         have lBX32 : ∀ k, Slot (some ⟨X26.heap.size, 0, none⟩) k → k < X32.heap.size := fun k h => (OwnS.lt oB h).1
         clear hX32 gX32 sX32 kX32
         refine take_call (i := 11) rfl (by kernel_rfl) (fun Kc hK => ?_)
         refine step_append_S rfl (.tmp 109) (.tmp 113) 33 rfl w6.heap.size 3 i0 _ 1 8 Try.underlying33 hi0 hz0 hz1 hz2 rfl (by decide) (some ⟨X26.heap.size, 0, none⟩) 0 0 [] rfl oB ⟨pb, po + c2, none⟩ (n - c2) _ (natC (P.drop c2)) rfl HLD.out (HNWB.out _ hHeld.2) (by first | exact natC_one _ | (intro t ht; simp at ht; subst ht; rfl)) (by unfold maxLen; omega) (by omega) hHeld.2.size ?_
         intro aX33 cX33 X33 hX33 gX33 sX33
         have kX33 : Keep (Slot (some ⟨X26.heap.size, 0, none⟩)) X32 X33 := Keep.grown (Keep.refl _ _) gX33 (fun k e => Or.inl (OwnS.slot oB e))
         refine hK.out _ _ (HSt.out _ (hHeld.2.trans (kX33.below hHeld.2.size (fun k h => (OwnS.lt oB h).2)))) (fun hHeld => ?_)
         clear hK Kc
         simp only [Act.put, List.setIfInBounds_toArray, List.set_cons_zero, List.set_cons_succ, Nat.zero_add]
         rw [List.nil_append, Nat.zero_add] at hX33
         have zX33 := kX33.size
         replace oA := OwnS.keep oA kX33 (fun k h q => apAB k h q)
         replace apAB : ∀ k, Slot (aX32) k → ¬ Slot aX33 k := fun k h q => (sX33 k q).elim (fun q => apAB k h q) (fun q => by have := lAX32 k h; omega)
         replace rC := Row.keep rC kX33 lC (fun h => apBC _ h rfl)
         replace lC : X1.heap.size < X33.heap.size := by omega
         replace apBC : ∀ k, Slot aX33 k → k ≠ X1.heap.size := fun k h e => (sX33 k h).elim (fun q => apBC k q e) (fun q => by omega)
         replace oB := hX33
         have lAX33 : ∀ k, Slot (aX32) k → k < X33.heap.size := fun k h => (OwnS.lt oA h).1
         have lBX33 : ∀ k, Slot (aX33) k → k < X33.heap.size := fun k h => (OwnS.lt oB h).1
         clear hX33 gX33 sX33 kX33
         refine take_call (i := 16) rfl (by kernel_rfl) (fun Kc hK => ?_)
         refine step_append_S rfl (.tmp 114) (.tmp 118) 33 rfl w6.heap.size 3 i0 _ 1 8 Try.underlying33 hi0 hz0 hz1 hz2 rfl (by decide) (aX33) (n - c2) cX33 (natC (P.drop c2)) rfl oB ⟨X1.heap.size, 0, none⟩ 1 _ [.int .i64 (x0 : Int)] rfl rfl (row_news rC) (by first | exact natC_one _ | (intro t ht; simp at ht; subst ht; rfl)) (by unfold maxLen; omega) (by omega) hHeld.2.size ?_
         intro aX34 cX34 X34 hX34 gX34 sX34
         have kX34 : Keep (Slot (aX33)) X33 X34 := Keep.grown (Keep.refl _ _) gX34 (fun k e => Or.inl (OwnS.slot oB e))
         refine hK.out _ _ (HSt.out _ (hHeld.2.trans (kX34.below hHeld.2.size (fun k h => (OwnS.lt oB h).2)))) (fun hHeld => ?_)
         clear hK Kc
         simp only [Act.put, List.setIfInBounds_toArray, List.set_cons_zero, List.set_cons_succ, Nat.zero_add]
         have zX34 := kX34.size
         replace oA := OwnS.keep oA kX34 (fun k h q => apAB k h q)
         replace apAB : ∀ k, Slot (aX32) k → ¬ Slot aX34 k := fun k h q => (sX34 k q).elim (fun q => apAB k h q) (fun q => by have := lAX33 k h; omega)
         replace rC := Row.keep rC kX34 lC (fun h => apBC _ h rfl)
         replace lC : X1.heap.size < X34.heap.size := by omega
         replace apBC : ∀ k, Slot aX34 k → k ≠ X1.heap.size := fun k h e => (sX34 k h).elim (fun q => apBC k q e) (fun q => by omega)
         replace oB := hX34
         have lAX34 : ∀ k, Slot (aX32) k → k < X34.heap.size := fun k h => (OwnS.lt oA h).1
         have lBX34 : ∀ k, Slot (aX34) k → k < X34.heap.size := fun k h => (OwnS.lt oB h).1
         clear hX34 gX34 sX34 kX34
         refine tz (i := 17) rfl ?_
         simp only [Act.put, ps1, ps2, ps3]
         refine tz (i := 18) rfl ?_
         simp only [Act.put, ps1, ps2, ps3]
         refine wpAnyH_done (by kernel_rfl) ?_ _
         have bL : Below w6.heap.size w6 X34 := hHeld.2
         have zL := bL.size
         have oA2 : Own X34 w6.heap.size 3 aX32 c2 cX32 (natC (cutA P c2)) := oA
         have oB2 : Own X34 w6.heap.size 3 aX34 (n - c2 + 1) cX34 (natC (cutB P c2)) := by rw [HCB.out] at oB; exact oB
         obtain ⟨ga, rfl, hga, hga2, sgA⟩ := OwnS.at oA2 (by omega)
         obtain ⟨gb, rfl, hgb, hgb2, sgB⟩ := OwnS.at oB2 (by omega)
         have rA := OwnS.room oA2
         have rB := OwnS.room oB2
         obtain ⟨xs, sx, hxl, hx1, hxe⟩ := (HWT6.out.below bL).ex
         have hxm : xs.length = m := by rw [hxl, List.length_take, HWN.out]; omega
         have hwl : wb < X34.heap.size := (HWT6.out.below bL).lt
         clear HSt hHeld oA2 oB2 oA oB
         have b1 : Below X34.heap.size X34 (X34.alloc (.cells #[] 33)) := (Below.refl _ _).alloc (Nat.le_refl _) _
         have owT : Own (X34.alloc (.cells #[] 33)) X34.heap.size 33 (some ⟨X34.heap.size, 0, none⟩) 0 0 [] := own_new X34 X34.heap.size 33 (Nat.le_refl _)
         have SW : Sl (X34.alloc (.cells #[] 33)) (some ⟨wb, 0, none⟩) m wc xs := ⟨hxm, by omega, hwc.2, (by intro e; cases e), Or.inr ⟨wb, 0, rfl, by simp; omega, sx.below b1 hwl⟩⟩
         go_wp2_with (at_builtin; first
          | (refine app_at _ rfl _ _ 35 rfl X34.heap.size 33 is _ 24 Try.underlying35 si0 sz0 sz1 sz2 rfl _ 0 0 _ rfl owT _ m wc xs rfl SW hx1 (by unfold maxLen; omega) (by omega) (by simp) ?_
             intro a7 c7 w7 h7 g7 s7
             have b7 : Below X34.heap.size X34 w7 := grown_low b1 (by simp) owT g7
             have z7 := b7.size
             have b8 : Below w7.heap.size w7 (w7.alloc (.cells #[.slice (some ⟨gb, 0, none⟩) (n - c2 + 1) cX34, .slice (some ⟨ga, 0, none⟩) c2 cX32] 33)) := (Below.refl _ _).alloc (Nat.le_refl _) _
             have S2 : Sl (w7.alloc (.cells #[.slice (some ⟨gb, 0, none⟩) (n - c2 + 1) cX34, .slice (some ⟨ga, 0, none⟩) c2 cX32] 33)) (some ⟨w7.heap.size, 0, none⟩) 2 2 [.slice (some ⟨gb, 0, none⟩) (n - c2 + 1) cX34, .slice (some ⟨ga, 0, none⟩) c2 cX32] := ⟨rfl, Nat.le_refl _, by unfold maxLen; omega, (by intro e; cases e), Or.inr ⟨_, 0, rfl, by simp, (Row.new w7 _ _).seg⟩⟩
             rw [List.nil_append, Nat.zero_add] at h7
             have owU := OwnS.below h7 b8
             clear owT SW g7 s7)
          | (refine app_at _ rfl _ _ 35 rfl X34.heap.size 33 is _ 24 Try.underlying35 si0 sz0 sz1 sz2 rfl a7 m c7 _ (by first | rfl | simp) owU _ 2 2 _ rfl S2 (by intro t ht; simp at ht; rcases ht with rfl | rfl <;> rfl) (by unfold maxLen; omega) (by omega) (by simp; omega) ?_
             intro a9 c9 w9 h9 g9 s9))
         have b9 : Below X34.heap.size X34 w9 := grown_low (also b7 b8) (by simp; omega) owU g9
         obtain ⟨g9b, rfl, hg9, hg92, sg9⟩ := OwnS.at h9 (by omega)
         have r9 := OwnS.room h9
         have NEXT : Hid (FillRel L nl w (leftN (st.take m ++ [cutB P c2, cutA P c2])) (.slice a6 (on + 1) c6) (.slice (some ⟨g9b, 0, none⟩) (m + 2) c9) w9) := by
          have b69 : Below w6.heap.size w6 w9 := also bL b9
          have e1 := HC2.out
          refine ⟨⟨_, O ++ [(x0, x1, x2)], a6, on + 1, c6, g9b, m + 2, c9, rfl, rfl, by rw [List.length_append, ← HON.out]; rfl, by rw [List.length_append, List.length_take, HWN.out]; show _ = min m (m + 1) + 2; omega, r9, rfl, HO6.out.below b69, ?_, by rw [e1]; exact HST.out.1⟩, also b06 b69⟩
          refine WtAt.push hxe hxl hx1 b9 LT6.out (B := w6.heap.size) ⟨hgb2, hga2, by omega⟩ hg9 (by rw [HCM.out, HCA.out]; exact sg9) ⟨Nat.lt_of_lt_of_le hgb b9.size, by rw [HCM.out]; exact rB.1, rB.2, sgB.below b9 hgb⟩ ⟨Nat.lt_of_lt_of_le hga b9.size, by rw [HCA.out]; exact rA.1, rA.2, sgA.below b9 hga⟩
         have MEA : Hid (leftN (st.take m ++ [cutB P c2, cutA P c2]) < gk) := by unfold Hid; rw [← HGK.out, HC2.out]; exact HST.out.2
         clear h9 g9 s9 S2 owU b8 h7 hxe sx hx1 sgA sgB sg9
         go_wp2
         go_roundg (leftN (st.take m ++ [cutB P c2, cutA P c2]))
         case measure => exact MEA.out
         case rel => exact NEXT.out
      ·skip
       have gc : w6.heap.size ≤ X0.heap.size := hHeld.2.size
       go_simp
       have eX35 : Below X0.heap.size X0 (X0.alloc (.cells #[] 3)) := (Below.refl _ _).alloc (Nat.le_refl _) _
       refine hK.out _ _ (HSt.out _ (also hHeld.2 eX35)) (fun hHeld => ?_)
       clear hK Kc
       obtain ⟨X35, hX35⟩ : ∃ q, q = X0.alloc (.cells #[] 3) := ⟨_, rfl⟩
       rw [← hX35] at hHeld eX35 ⊢
       have zX35 : X0.heap.size < X35.heap.size := by rw [hX35]; simp
       have oB : Own X35 w6.heap.size 3 (some ⟨X0.heap.size, 0, none⟩) 0 0 [] := by rw [hX35]; exact own_new X0 w6.heap.size 3 (by omega)
       have lBX35 : ∀ k, Slot (some ⟨X0.heap.size, 0, none⟩) k → k < X35.heap.size := fun k h => (OwnS.lt oB h).1
       clear hX35
       refine wpAnyH_ready (rs := [0, 15]) (by kernel_rfl) (by simp) (AllReadyH.cons (i := 0) rfl (fun Kc hK => ?_) (AllReadyH.cons (i := 15) rfl (fun Kc hK => ?_) AllReadyH.nil))
       ·skip
        have gc : w6.heap.size ≤ X35.heap.size := hHeld.2.size
        go_simp
        have eX36 : Below X35.heap.size X35 (X35.alloc (.cells #[] 3)) := (Below.refl _ _).alloc (Nat.le_refl _) _
        refine hK.out _ _ (HSt.out _ (also hHeld.2 eX36)) (fun hHeld => ?_)
        clear hK Kc
        obtain ⟨X36, hX36⟩ : ∃ q, q = X35.alloc (.cells #[] 3) := ⟨_, rfl⟩
        rw [← hX36] at hHeld eX36 ⊢
        have zX36 : X35.heap.size < X36.heap.size := by rw [hX36]; simp
        replace oB := OwnS.below oB eX36
        have oA : Own X36 w6.heap.size 3 (some ⟨X35.heap.size, 0, none⟩) 0 0 [] := by rw [hX36]; exact own_new X35 w6.heap.size 3 (by omega)
        have apAB : ∀ k, Slot (some ⟨X35.heap.size, 0, none⟩) k → ¬ Slot (some ⟨X0.heap.size, 0, none⟩) k := fun k q h => by have := lBX35 k h; have := Slot.eq q; omega
        have lBX36 : ∀ k, Slot (some ⟨X0.heap.size, 0, none⟩) k → k < X36.heap.size := fun k h => (OwnS.lt oB h).1
        have lAX36 : ∀ k, Slot (some ⟨X35.heap.size, 0, none⟩) k → k < X36.heap.size := fun k h => (OwnS.lt oA h).1
        clear hX36
        refine wpAnyH_ready (rs := [5, 15]) (by kernel_rfl) (by simp) (AllReadyH.cons (i := 5) rfl (fun Kc hK => ?_) (AllReadyH.cons (i := 15) rfl (fun Kc hK => ?_) AllReadyH.nil))
        ·skip
         refine step_append_S rfl (.tmp 103) (.tmp 107) 33 rfl w6.heap.size 3 i0 _ 1 8 Try.underlying33 hi0 hz0 hz1 hz2 rfl (by decide) (some ⟨X35.heap.size, 0, none⟩) 0 0 [] rfl oA ⟨pb, po + 1, none⟩ c2 _ (natC (cutA P c2)) rfl HLA.out (HNWA.out _ hHeld.2) (by first | exact natC_one _ | (intro t ht; simp at ht; subst ht; rfl)) (by unfold maxLen; omega) (by omega) hHeld.2.size ?_
         intro aX37 cX37 X37 hX37 gX37 sX37
         have kX37 : Keep (Slot (some ⟨X35.heap.size, 0, none⟩)) X36 X37 := Keep.grown (Keep.refl _ _) gX37 (fun k e => Or.inl (OwnS.slot oA e))
         refine hK.out _ _ (HSt.out _ (hHeld.2.trans (kX37.below hHeld.2.size (fun k h => (OwnS.lt oA h).2)))) (fun hHeld => ?_)
         clear hK Kc
         simp only [Act.put, List.setIfInBounds_toArray, List.set_cons_zero, List.set_cons_succ, Nat.zero_add]
         rw [List.nil_append, Nat.zero_add] at hX37
         have zX37 := kX37.size
         replace oB := OwnS.keep oB kX37 (fun k h q => apAB k q h)
         replace apAB : ∀ k, Slot aX37 k → ¬ Slot (some ⟨X0.heap.size, 0, none⟩) k := fun k q h => (sX37 k q).elim (fun q => apAB k q h) (fun q => by have := lBX36 k h; omega)
         replace oA := hX37
         have lBX37 : ∀ k, Slot (some ⟨X0.heap.size, 0, none⟩) k → k < X37.heap.size := fun k h => (OwnS.lt oB h).1
         have lAX37 : ∀ k, Slot (aX37) k → k < X37.heap.size := fun k h => (OwnS.lt oA h).1
         clear hX37 gX37 sX37 kX37
         refine wpAnyH_ready (rs := [11, 15]) (by kernel_rfl) (by simp) (AllReadyH.cons (i := 11) rfl (fun Kc hK => ?_) (AllReadyH.cons (i := 15) rfl (fun Kc hK => ?_) AllReadyH.nil))
         ·skip
          refine step_append_S rfl (.tmp 109) (.tmp 113) 33 rfl w6.heap.size 3 i0 _ 1 8 Try.underlying33 hi0 hz0 hz1 hz2 rfl (by decide) (some ⟨X0.heap.size, 0, none⟩) 0 0 [] rfl oB ⟨pb, po + c2, none⟩ (n - c2) _ (natC (P.drop c2)) rfl HLD.out (HNWB.out _ hHeld.2) (by first | exact natC_one _ | (intro t ht; simp at ht; subst ht; rfl)) (by unfold maxLen; omega) (by omega) hHeld.2.size ?_
          intro aX38 cX38 X38 hX38 gX38 sX38
          have kX38 : Keep (Slot (some ⟨X0.heap.size, 0, none⟩)) X37 X38 := Keep.grown (Keep.refl _ _) gX38 (fun k e => Or.inl (OwnS.slot oB e))
          refine hK.out _ _ (HSt.out _ (hHeld.2.trans (kX38.below hHeld.2.size (fun k h => (OwnS.lt oB h).2)))) (fun hHeld => ?_)
          clear hK Kc
          simp only [Act.put, List.setIfInBounds_toArray, List.set_cons_zero, List.set_cons_succ, Nat.zero_add]
          rw [List.nil_append, Nat.zero_add] at hX38
          have zX38 := kX38.size
          replace oA := OwnS.keep oA kX38 (fun k h q => apAB k h q)
          replace apAB : ∀ k, Slot (aX37) k → ¬ Slot aX38 k := fun k h q => (sX38 k q).elim (fun q => apAB k h q) (fun q => by have := lAX37 k h; omega)
          replace oB := hX38
          have lBX38 : ∀ k, Slot (aX38) k → k < X38.heap.size := fun k h => (OwnS.lt oB h).1
          have lAX38 : ∀ k, Slot (aX37) k → k < X38.heap.size := fun k h => (OwnS.lt oA h).1
          clear hX38 gX38 sX38 kX38
          refine take_call (i := 15) rfl (by kernel_rfl) (fun Kc hK => ?_)
          have gc : w6.heap.size ≤ X38.heap.size := hHeld.2.size
          go_simp
          have eX39 : Below X38.heap.size X38 (X38.alloc (.cells #[.int .i64 (x0 : Int)] 3)) := (Below.refl _ _).alloc (Nat.le_refl _) _
          refine hK.out _ _ (HSt.out _ (also hHeld.2 eX39)) (fun hHeld => ?_)
          clear hK Kc
          obtain ⟨X39, hX39⟩ : ∃ q, q = X38.alloc (.cells #[.int .i64 (x0 : Int)] 3) := ⟨_, rfl⟩
          rw [← hX39] at hHeld eX39 ⊢
          have zX39 : X38.heap.size < X39.heap.size := by rw [hX39]; simp
          replace oB := OwnS.below oB eX39
          replace oA := OwnS.below oA eX39
          have rC : Row X39 X38.heap.size [.int .i64 (x0 : Int)] := by rw [hX39]; exact Row.new X38 _ _
          have lC : X38.heap.size < X39.heap.size := by omega
          have apBC : ∀ k, Slot (aX38) k → k ≠ X38.heap.size := fun k h => by have := lBX38 k h; omega
          have apAC : ∀ k, Slot (aX37) k → k ≠ X38.heap.size := fun k h => by have := lAX38 k h; omega
          have lBX39 : ∀ k, Slot (aX38) k → k < X39.heap.size := fun k h => (OwnS.lt oB h).1
          have lAX39 : ∀ k, Slot (aX37) k → k < X39.heap.size := fun k h => (OwnS.lt oA h).1
          clear hX39
          refine take_call (i := 16) rfl (by kernel_rfl) (fun Kc hK => ?_)
          refine step_append_S rfl (.tmp 114) (.tmp 118) 33 rfl w6.heap.size 3 i0 _ 1 8 Try.underlying33 hi0 hz0 hz1 hz2 rfl (by decide) (aX38) (n - c2) cX38 (natC (P.drop c2)) rfl oB ⟨X38.heap.size, 0, none⟩ 1 _ [.int .i64 (x0 : Int)] rfl rfl (row_news rC) (by first | exact natC_one _ | (intro t ht; simp at ht; subst ht; rfl)) (by unfold maxLen; omega) (by omega) hHeld.2.size ?_
          intro aX40 cX40 X40 hX40 gX40 sX40
          have kX40 : Keep (Slot (aX38)) X39 X40 := Keep.grown (Keep.refl _ _) gX40 (fun k e => Or.inl (OwnS.slot oB e))
          refine hK.out _ _ (HSt.out _ (hHeld.2.trans (kX40.below hHeld.2.size (fun k h => (OwnS.lt oB h).2)))) (fun hHeld => ?_)
          clear hK Kc
          simp only [Act.put, List.setIfInBounds_toArray, List.set_cons_zero, List.set_cons_succ, Nat.zero_add]
          have zX40 := kX40.size
          replace oA := OwnS.keep oA kX40 (fun k h q => apAB k h q)
          replace apAB : ∀ k, Slot (aX37) k → ¬ Slot aX40 k := fun k h q => (sX40 k q).elim (fun q => apAB k h q) (fun q => by have := lAX39 k h; omega)
          replace rC := Row.keep rC kX40 lC (fun h => apBC _ h rfl)
          replace lC : X38.heap.size < X40.heap.size := by omega
          replace apBC : ∀ k, Slot aX40 k → k ≠ X38.heap.size := fun k h e => (sX40 k h).elim (fun q => apBC k q e) (fun q => by omega)
          replace oB := hX40
          have lBX40 : ∀ k, Slot (aX40) k → k < X40.heap.size := fun k h => (OwnS.lt oB h).1
          have lAX40 : ∀ k, Slot (aX37) k → k < X40.heap.size := fun k h => (OwnS.lt oA h).1
          clear hX40 gX40 sX40 kX40
          refine tz (i := 17) rfl ?_
          simp only [Act.put, ps1, ps2, ps3]
          refine tz (i := 18) rfl ?_
          simp only [Act.put, ps1, ps2, ps3]
          refine wpAnyH_done (by kernel_rfl) ?_ _
          have bL : Below w6.heap.size w6 X40 := hHeld.2
          have zL := bL.size
          have oA2 : Own X40 w6.heap.size 3 aX37 c2 cX37 (natC (cutA P c2)) := oA
          have oB2 : Own X40 w6.heap.size 3 aX40 (n - c2 + 1) cX40 (natC (cutB P c2)) := by rw [HCB.out] at oB; exact oB
          obtain ⟨ga, rfl, hga, hga2, sgA⟩ := OwnS.at oA2 (by omega)
          obtain ⟨gb, rfl, hgb, hgb2, sgB⟩ := OwnS.at oB2 (by omega)
          have rA := OwnS.room oA2
          have rB := OwnS.room oB2
          obtain ⟨xs, sx, hxl, hx1, hxe⟩ := (HWT6.out.below bL).ex
          have hxm : xs.length = m := by rw [hxl, List.length_take, HWN.out]; omega
          have hwl : wb < X40.heap.size := (HWT6.out.below bL).lt
          clear HSt hHeld oA2 oB2 oA oB
          have b1 : Below X40.heap.size X40 (X40.alloc (.cells #[] 33)) := (Below.refl _ _).alloc (Nat.le_refl _) _
          have owT : Own (X40.alloc (.cells #[] 33)) X40.heap.size 33 (some ⟨X40.heap.size, 0, none⟩) 0 0 [] := own_new X40 X40.heap.size 33 (Nat.le_refl _)
          have SW : Sl (X40.alloc (.cells #[] 33)) (some ⟨wb, 0, none⟩) m wc xs := ⟨hxm, by omega, hwc.2, (by intro e; cases e), Or.inr ⟨wb, 0, rfl, by simp; omega, sx.below b1 hwl⟩⟩
          go_wp2_with (at_builtin; first
           | (refine app_at _ rfl _ _ 35 rfl X40.heap.size 33 is _ 24 Try.underlying35 si0 sz0 sz1 sz2 rfl _ 0 0 _ rfl owT _ m wc xs rfl SW hx1 (by unfold maxLen; omega) (by omega) (by simp) ?_
              intro a7 c7 w7 h7 g7 s7
              have b7 : Below X40.heap.size X40 w7 := grown_low b1 (by simp) owT g7
              have z7 := b7.size
              have b8 : Below w7.heap.size w7 (w7.alloc (.cells #[.slice (some ⟨gb, 0, none⟩) (n - c2 + 1) cX40, .slice (some ⟨ga, 0, none⟩) c2 cX37] 33)) := (Below.refl _ _).alloc (Nat.le_refl _) _
              have S2 : Sl (w7.alloc (.cells #[.slice (some ⟨gb, 0, none⟩) (n - c2 + 1) cX40, .slice (some ⟨ga, 0, none⟩) c2 cX37] 33)) (some ⟨w7.heap.size, 0, none⟩) 2 2 [.slice (some ⟨gb, 0, none⟩) (n - c2 + 1) cX40, .slice (some ⟨ga, 0, none⟩) c2 cX37] := ⟨rfl, Nat.le_refl _, by unfold maxLen; omega, (by intro e; cases e), Or.inr ⟨_, 0, rfl, by simp, (Row.new w7 _ _).seg⟩⟩
              rw [List.nil_append, Nat.zero_add] at h7
              have owU := OwnS.below h7 b8
              clear owT SW g7 s7)
           | (refine app_at _ rfl _ _ 35 rfl X40.heap.size 33 is _ 24 Try.underlying35 si0 sz0 sz1 sz2 rfl a7 m c7 _ (by first | rfl | simp) owU _ 2 2 _ rfl S2 (by intro t ht; simp at ht; rcases ht with rfl | rfl <;> rfl) (by unfold maxLen; omega) (by omega) (by simp; omega) ?_
              intro a9 c9 w9 h9 g9 s9))
          have b9 : Below X40.heap.size X40 w9 := grown_low (also b7 b8) (by simp; omega) owU g9
          obtain ⟨g9b, rfl, hg9, hg92, sg9⟩ := OwnS.at h9 (by omega)
          have r9 := OwnS.room h9
          have NEXT : Hid (FillRel L nl w (leftN (st.take m ++ [cutB P c2, cutA P c2])) (.slice a6 (on + 1) c6) (.slice (some ⟨g9b, 0, none⟩) (m + 2) c9) w9) := by
           have b69 : Below w6.heap.size w6 w9 := also bL b9
           have e1 := HC2.out
           refine ⟨⟨_, O ++ [(x0, x1, x2)], a6, on + 1, c6, g9b, m + 2, c9, rfl, rfl, by rw [List.length_append, ← HON.out]; rfl, by rw [List.length_append, List.length_take, HWN.out]; show _ = min m (m + 1) + 2; omega, r9, rfl, HO6.out.below b69, ?_, by rw [e1]; exact HST.out.1⟩, also b06 b69⟩
           refine WtAt.push hxe hxl hx1 b9 LT6.out (B := w6.heap.size) ⟨hgb2, hga2, by omega⟩ hg9 (by rw [HCM.out, HCA.out]; exact sg9) ⟨Nat.lt_of_lt_of_le hgb b9.size, by rw [HCM.out]; exact rB.1, rB.2, sgB.below b9 hgb⟩ ⟨Nat.lt_of_lt_of_le hga b9.size, by rw [HCA.out]; exact rA.1, rA.2, sgA.below b9 hga⟩
          have MEA : Hid (leftN (st.take m ++ [cutB P c2, cutA P c2]) < gk) := by unfold Hid; rw [← HGK.out, HC2.out]; exact HST.out.2
          clear h9 g9 s9 S2 owU b8 h7 hxe sx hx1 sgA sgB sg9
          go_wp2
          go_roundg (leftN (st.take m ++ [cutB P c2, cutA P c2]))
          case measure => exact MEA.out
          case rel => exact NEXT.out
         ·skip
          have gc : w6.heap.size ≤ X37.heap.size := hHeld.2.size
          go_simp
          have eX41 : Below X37.heap.size X37 (X37.alloc (.cells #[.int .i64 (x0 : Int)] 3)) := (Below.refl _ _).alloc (Nat.le_refl _) _
          refine hK.out _ _ (HSt.out _ (also hHeld.2 eX41)) (fun hHeld => ?_)
          clear hK Kc
          obtain ⟨X41, hX41⟩ : ∃ q, q = X37.alloc (.cells #[.int .i64 (x0 : Int)] 3) := ⟨_, rfl⟩
          rw [← hX41] at hHeld eX41 ⊢
          have zX41 : X37.heap.size < X41.heap.size := by rw [hX41]; simp
          replace oB := OwnS.below oB eX41
          replace oA := OwnS.below oA eX41
          have rC : Row X41 X37.heap.size [.int .i64 (x0 : Int)] := by rw [hX41]; exact Row.new X37 _ _
          have lC : X37.heap.size < X41.heap.size := by omega
          have apBC : ∀ k, Slot (some ⟨X0.heap.size, 0, none⟩) k → k ≠ X37.heap.size := fun k h => by have := lBX37 k h; omega
          have apAC : ∀ k, Slot (aX37) k → k ≠ X37.heap.size := fun k h => by have := lAX37 k h; omega
          have lBX41 : ∀ k, Slot (some ⟨X0.heap.size, 0, none⟩) k → k < X41.heap.size := fun k h => (OwnS.lt oB h).1
          have lAX41 : ∀ k, Slot (aX37) k → k < X41.heap.size := fun k h => (OwnS.lt oA h).1
          clear hX41
          refine take_call (i := 11) rfl (by kernel_rfl) (fun Kc hK => ?_)
          refine step_append_S rfl (.tmp 109) (.tmp 113) 33 rfl w6.heap.size 3 i0 _ 1 8 Try.underlying33 hi0 hz0 hz1 hz2 rfl (by decide) (some ⟨X0.heap.size, 0, none⟩) 0 0 [] rfl oB ⟨pb, po + c2, none⟩ (n - c2) _ (natC (P.drop c2)) rfl HLD.out (HNWB.out _ hHeld.2) (by first | exact natC_one _ | (intro t ht; simp at ht; subst ht; rfl)) (by unfold maxLen; omega) (by omega) hHeld.2.size ?_
          intro aX42 cX42 X42 hX42 gX42 sX42
          have kX42 : Keep (Slot (some ⟨X0.heap.size, 0, none⟩)) X41 X42 := Keep.grown (Keep.refl _ _) gX42 (fun k e => Or.inl (OwnS.slot oB e))
          refine hK.out _ _ (HSt.out _ (hHeld.2.trans (kX42.below hHeld.2.size (fun k h => (OwnS.lt oB h).2)))) (fun hHeld => ?_)
          clear hK Kc
          simp only [Act.put, List.setIfInBounds_toArray, List.set_cons_zero, List.set_cons_succ, Nat.zero_add]
          rw [List.nil_append, Nat.zero_add] at hX42
          have zX42 := kX42.size
          replace oA := OwnS.keep oA kX42 (fun k h q => apAB k h q)
          replace apAB : ∀ k, Slot (aX37) k → ¬ Slot aX42 k := fun k h q => (sX42 k q).elim (fun q => apAB k h q) (fun q => by have := lAX41 k h; omega)
          replace rC := Row.keep rC kX42 lC (fun h => apBC _ h rfl)
          replace lC : X37.heap.size < X42.heap.size := by omega
          replace apBC : ∀ k, Slot aX42 k → k ≠ X37.heap.size := fun k h e => (sX42 k h).elim (fun q => apBC k q e) (fun q => by omega)
          replace oB := hX42
          have lBX42 : ∀ k, Slot (aX42) k → k < X42.heap.size := fun k h => (OwnS.lt oB h).1
          have lAX42 : ∀ k, Slot (aX37) k → k < X42.heap.size := fun k h => (OwnS.lt oA h).1
          clear hX42 gX42 sX42 kX42
          refine take_call (i := 16) rfl (by kernel_rfl) (fun Kc hK => ?_)
          refine step_append_S rfl (.tmp 114) (.tmp 118) 33 rfl w6.heap.size 3 i0 _ 1 8 Try.underlying33 hi0 hz0 hz1 hz2 rfl (by decide) (aX42) (n - c2) cX42 (natC (P.drop c2)) rfl oB ⟨X37.heap.size, 0, none⟩ 1 _ [.int .i64 (x0 : Int)] rfl rfl (row_news rC) (by first | exact natC_one _ | (intro t ht; simp at ht; subst ht; rfl)) (by unfold maxLen; omega) (by omega) hHeld.2.size ?_
          intro aX43 cX43 X43 hX43 gX43 sX43
          have kX43 : Keep (Slot (aX42)) X42 X43 := Keep.grown (Keep.refl _ _) gX43 (fun k e => Or.inl (OwnS.slot oB e))
          refine hK.out _ _ (HSt.out _ (hHeld.2.trans (kX43.below hHeld.2.size (fun k h => (OwnS.lt oB h).2)))) (fun hHeld => ?_)
          clear hK Kc
          simp only [Act.put, List.setIfInBounds_toArray, List.set_cons_zero, List.set_cons_succ, Nat.zero_add]
          have zX43 := kX43.size
          replace oA := OwnS.keep oA kX43 (fun k h q => apAB k h q)
          replace apAB : ∀ k, Slot (aX37) k → ¬ Slot aX43 k := fun k h q => (sX43 k q).elim (fun q => apAB k h q) (fun q => by have := lAX42 k h; omega)
          replace rC := Row.keep rC kX43 lC (fun h => apBC _ h rfl)
          replace lC : X37.heap.size < X43.heap.size := by omega
          replace apBC : ∀ k, Slot aX43 k → k ≠ X37.heap.size := fun k h e => (sX43 k h).elim (fun q => apBC k q e) (fun q => by omega)
          replace oB := hX43
          have lBX43 : ∀ k, Slot (aX43) k → k < X43.heap.size := fun k h => (OwnS.lt oB h).1
          have lAX43 : ∀ k, Slot (aX37) k → k < X43.heap.size := fun k h => (OwnS.lt oA h).1
          clear hX43 gX43 sX43 kX43
          refine tz (i := 17) rfl ?_
          simp only [Act.put, ps1, ps2, ps3]
          refine tz (i := 18) rfl ?_
          simp only [Act.put, ps1, ps2, ps3]
          refine wpAnyH_done (by kernel_rfl) ?_ _
          have bL : Below w6.heap.size w6 X43 := hHeld.2
          have zL := bL.size
          have oA2 : Own X43 w6.heap.size 3 aX37 c2 cX37 (natC (cutA P c2)) := oA
          have oB2 : Own X43 w6.heap.size 3 aX43 (n - c2 + 1) cX43 (natC (cutB P c2)) := by rw [HCB.out] at oB; exact oB
          obtain ⟨ga, rfl, hga, hga2, sgA⟩ := OwnS.at oA2 (by omega)
          obtain ⟨gb, rfl, hgb, hgb2, sgB⟩ := OwnS.at oB2 (by omega)
          have rA := OwnS.room oA2
          have rB := OwnS.room oB2
          obtain ⟨xs, sx, hxl, hx1, hxe⟩ := (HWT6.out.below bL).ex
          have hxm : xs.length = m := by rw [hxl, List.length_take, HWN.out]; omega
          have hwl : wb < X43.heap.size := (HWT6.out.below bL).lt
          clear HSt hHeld oA2 oB2 oA oB
          have b1 : Below X43.heap.size X43 (X43.alloc (.cells #[] 33)) := (Below.refl _ _).alloc (Nat.le_refl _) _
          have owT : Own (X43.alloc (.cells #[] 33)) X43.heap.size 33 (some ⟨X43.heap.size, 0, none⟩) 0 0 [] := own_new X43 X43.heap.size 33 (Nat.le_refl _)
          have SW : Sl (X43.alloc (.cells #[] 33)) (some ⟨wb, 0, none⟩) m wc xs := ⟨hxm, by omega, hwc.2, (by intro e; cases e), Or.inr ⟨wb, 0, rfl, by simp; omega, sx.below b1 hwl⟩⟩
          go_wp2_with (at_builtin; first
           | (refine app_at _ rfl _ _ 35 rfl X43.heap.size 33 is _ 24 Try.underlying35 si0 sz0 sz1 sz2 rfl _ 0 0 _ rfl owT _ m wc xs rfl SW hx1 (by unfold maxLen; omega) (by omega) (by simp) ?_
              intro a7 c7 w7 h7 g7 s7
              have b7 : Below X43.heap.size X43 w7 := grown_low b1 (by simp) owT g7
              have z7 := b7.size
              have b8 : Below w7.heap.size w7 (w7.alloc (.cells #[.slice (some ⟨gb, 0, none⟩) (n - c2 + 1) cX43, .slice (some ⟨ga, 0, none⟩) c2 cX37] 33)) := (Below.refl _ _).alloc (Nat.le_refl _) _
              have S2 : Sl (w7.alloc (.cells #[.slice (some ⟨gb, 0, none⟩) (n - c2 + 1) cX43, .slice (some ⟨ga, 0, none⟩) c2 cX37] 33)) (some ⟨w7.heap.size, 0, none⟩) 2 2 [.slice (some ⟨gb, 0, none⟩) (n - c2 + 1) cX43, .slice (some ⟨ga, 0, none⟩) c2 cX37] := ⟨rfl, Nat.le_refl _, by unfold maxLen; omega, (by intro e; cases e), Or.inr ⟨_, 0, rfl, by simp, (Row.new w7 _ _).seg⟩⟩
              rw [List.nil_append, Nat.zero_add] at h7
              have owU := OwnS.below h7 b8
              clear owT SW g7 s7)
           | (refine app_at _ rfl _ _ 35 rfl X43.heap.size 33 is _ 24 Try.underlying35 si0 sz0 sz1 sz2 rfl a7 m c7 _ (by first | rfl | simp) owU _ 2 2 _ rfl S2 (by intro t ht; simp at ht; rcases ht with rfl | rfl <;> rfl) (by unfold maxLen; omega) (by omega) (by simp; omega) ?_
              intro a9 c9 w9 h9 g9 s9))
          have b9 : Below X43.heap.size X43 w9 := grown_low (also b7 b8) (by simp; omega) owU g9
          obtain ⟨g9b, rfl, hg9, hg92, sg9⟩ := OwnS.at h9 (by omega)
          have r9 := OwnS.room h9
          have NEXT : Hid (FillRel L nl w (leftN (st.take m ++ [cutB P c2, cutA P c2])) (.slice a6 (on + 1) c6) (.slice (some ⟨g9b, 0, none⟩) (m + 2) c9) w9) := by
           have b69 : Below w6.heap.size w6 w9 := also bL b9
           have e1 := HC2.out
           refine ⟨⟨_, O ++ [(x0, x1, x2)], a6, on + 1, c6, g9b, m + 2, c9, rfl, rfl, by rw [List.length_append, ← HON.out]; rfl, by rw [List.length_append, List.length_take, HWN.out]; show _ = min m (m + 1) + 2; omega, r9, rfl, HO6.out.below b69, ?_, by rw [e1]; exact HST.out.1⟩, also b06 b69⟩
           refine WtAt.push hxe hxl hx1 b9 LT6.out (B := w6.heap.size) ⟨hgb2, hga2, by omega⟩ hg9 (by rw [HCM.out, HCA.out]; exact sg9) ⟨Nat.lt_of_lt_of_le hgb b9.size, by rw [HCM.out]; exact rB.1, rB.2, sgB.below b9 hgb⟩ ⟨Nat.lt_of_lt_of_le hga b9.size, by rw [HCA.out]; exact rA.1, rA.2, sgA.below b9 hga⟩
          have MEA : Hid (leftN (st.take m ++ [cutB P c2, cutA P c2]) < gk) := by unfold Hid; rw [← HGK.out, HC2.out]; exact HST.out.2
          clear h9 g9 s9 S2 owU b8 h7 hxe sx hx1 sgA sgB sg9
          go_wp2
          go_roundg (leftN (st.take m ++ [cutB P c2, cutA P c2]))
          case measure => exact MEA.out
          case rel => exact NEXT.out
        ·skip
         have gc : w6.heap.size ≤ X36.heap.size := hHeld.2.size
         go_simp
         have eX44 : Below X36.heap.size X36 (X36.alloc (.cells #[.int .i64 (x0 : Int)] 3)) := (Below.refl _ _).alloc (Nat.le_refl _) _
         refine hK.out _ _ (HSt.out _ (also hHeld.2 eX44)) (fun hHeld => ?_)
         clear hK Kc
         obtain ⟨X44, hX44⟩ : ∃ q, q = X36.alloc (.cells #[.int .i64 (x0 : Int)] 3) := ⟨_, rfl⟩
         rw [← hX44] at hHeld eX44 ⊢
         have zX44 : X36.heap.size < X44.heap.size := by rw [hX44]; simp
         replace oB := OwnS.below oB eX44
         replace oA := OwnS.below oA eX44
         have rC : Row X44 X36.heap.size [.int .i64 (x0 : Int)] := by rw [hX44]; exact Row.new X36 _ _
         have lC : X36.heap.size < X44.heap.size := by omega
         have apBC : ∀ k, Slot (some ⟨X0.heap.size, 0, none⟩) k → k ≠ X36.heap.size := fun k h => by have := lBX36 k h; omega
         have apAC : ∀ k, Slot (some ⟨X35.heap.size, 0, none⟩) k → k ≠ X36.heap.size := fun k h => by have := lAX36 k h; omega
         have lBX44 : ∀ k, Slot (some ⟨X0.heap.size, 0, none⟩) k → k < X44.heap.size := fun k h => (OwnS.lt oB h).1
         have lAX44 : ∀ k, Slot (some ⟨X35.heap.size, 0, none⟩) k → k < X44.heap.size := fun k h => (OwnS.lt oA h).1
         clear hX44
         refine take_call (i := 5) rfl (by kernel_rfl) (fun Kc hK => ?_)
         refine step_append_S rfl (.tmp 103) (.tmp 107) 33 rfl w6.heap.size 3 i0 _ 1 8 Try.underlying33 hi0 hz0 hz1 hz2 rfl (by decide) (some ⟨X35.heap.size, 0, none⟩) 0 0 [] rfl oA ⟨pb, po + 1, none⟩ c2 _ (natC (cutA P c2)) rfl HLA.out (HNWA.out _ hHeld.2) (by first | exact natC_one _ | (intro t ht; simp at ht; subst ht; rfl)) (by unfold maxLen; omega) (by omega) hHeld.2.size ?_
         intro aX45 cX45 X45 hX45 gX45 sX45
         have kX45 : Keep (Slot (some ⟨X35.heap.size, 0, none⟩)) X44 X45 := Keep.grown (Keep.refl _ _) gX45 (fun k e => Or.inl (OwnS.slot oA e))
         refine hK.out _ _ (HSt.out _ (hHeld.2.trans (kX45.below hHeld.2.size (fun k h => (OwnS.lt oA h).2)))) (fun hHeld => ?_)
         clear hK Kc
         simp only [Act.put, List.setIfInBounds_toArray, List.set_cons_zero, List.set_cons_succ, Nat.zero_add]
         rw [List.nil_append, Nat.zero_add] at hX45
         have zX45 := kX45.size
         replace oB := OwnS.keep oB kX45 (fun k h q => apAB k q h)
         replace apAB : ∀ k, Slot aX45 k → ¬ Slot (some ⟨X0.heap.size, 0, none⟩) k := fun k q h => (sX45 k q).elim (fun q => apAB k q h) (fun q => by have := lBX44 k h; omega)
         replace rC := Row.keep rC kX45 lC (fun h => apAC _ h rfl)
         replace lC : X36.heap.size < X45.heap.size := by omega
         replace apAC : ∀ k, Slot aX45 k → k ≠ X36.heap.size := fun k h e => (sX45 k h).elim (fun q => apAC k q e) (fun q => by omega)
         replace oA := hX45
         have lBX45 : ∀ k, Slot (some ⟨X0.heap.size, 0, none⟩) k → k < X45.heap.size := fun k h => (OwnS.lt oB h).1
         have lAX45 : ∀ k, Slot (aX45) k → k < X45.heap.size := fun k h => (OwnS.lt oA h).1
         clear hX45 gX45 sX45 kX45
         refine take_call (i := 11) rfl (by kernel_rfl) (fun Kc hK => ?_)
         refine step_append_S rfl (.tmp 109) (.tmp 113) 33 rfl w6.heap.size 3 i0 _ 1 8 Try.underlying33 hi0 hz0 hz1 hz2 rfl (by decide) (some ⟨X0.heap.size, 0, none⟩) 0 0 [] rfl oB ⟨pb, po + c2, none⟩ (n - c2) _ (natC (P.drop c2)) rfl HLD.out (HNWB.out _ hHeld.2) (by first | exact natC_one _ | (intro t ht; simp at ht; subst ht; rfl)) (by unfold maxLen; omega) (by omega) hHeld.2.size ?_
         intro aX46 cX46 X46 hX46 gX46 sX46
         have kX46 : Keep (Slot (some ⟨X0.heap.size, 0, none⟩)) X45 X46 := Keep.grown (Keep.refl _ _) gX46 (fun k e => Or.inl (OwnS.slot oB e))
         refine hK.out _ _ (HSt.out _ (hHeld.2.trans (kX46.below hHeld.2.size (fun k h => (OwnS.lt oB h).2)))) (fun hHeld => ?_)
         clear hK Kc
         simp only [Act.put, List.setIfInBounds_toArray, List.set_cons_zero, List.set_cons_succ, Nat.zero_add]
         rw [List.nil_append, Nat.zero_add] at hX46
         have zX46 := kX46.size
         replace oA := OwnS.keep oA kX46 (fun k h q => apAB k h q)
         replace apAB : ∀ k, Slot (aX45) k → ¬ Slot aX46 k := fun k h q => (sX46 k q).elim (fun q => apAB k h q) (fun q => by have := lAX45 k h; omega)
         replace rC := Row.keep rC kX46 lC (fun h => apBC _ h rfl)
         replace lC : X36.heap.size < X46.heap.size := by omega
         replace apBC : ∀ k, Slot aX46 k → k ≠ X36.heap.size := fun k h e => (sX46 k h).elim (fun q => apBC k q e) (fun q => by omega)
         replace oB := hX46
         have lBX46 : ∀ k, Slot (aX46) k → k < X46.heap.size := fun k h => (OwnS.lt oB h).1
         have lAX46 : ∀ k, Slot (aX45) k → k < X46.heap.size := fun k h => (OwnS.lt oA h).1
         clear hX46 gX46 sX46 kX46
         refine take_call (i := 16) rfl (by kernel_rfl) (fun Kc hK => ?_)
         refine step_append_S rfl (.tmp 114) (.tmp 118) 33 rfl w6.heap.size 3 i0 _ 1 8 Try.underlying33 hi0 hz0 hz1 hz2 rfl (by decide) (aX46) (n - c2) cX46 (natC (P.drop c2)) rfl oB ⟨X36.heap.size, 0, none⟩ 1 _ [.int .i64 (x0 : Int)] rfl rfl (row_news rC) (by first | exact natC_one _ | (intro t ht; simp at ht; subst ht; rfl)) (by unfold maxLen; omega) (by omega) hHeld.2.size ?_
         intro aX47 cX47 X47 hX47 gX47 sX47
         have kX47 : Keep (Slot (aX46)) X46 X47 := Keep.grown (Keep.refl _ _) gX47 (fun k e => Or.inl (OwnS.slot oB e))
         refine hK.out _ _ (HSt.out _ (hHeld.2.trans (kX47.below hHeld.2.size (fun k h => (OwnS.lt oB h).2)))) (fun hHeld => ?_)
         clear hK Kc
         simp only [Act.put, List.setIfInBounds_toArray, List.set_cons_zero, List.set_cons_succ, Nat.zero_add]
         have zX47 := kX47.size
         replace oA := OwnS.keep oA kX47 (fun k h q => apAB k h q)
         replace apAB : ∀ k, Slot (aX45) k → ¬ Slot aX47 k := fun k h q => (sX47 k q).elim (fun q => apAB k h q) (fun q => by have := lAX46 k h; omega)
         replace rC := Row.keep rC kX47 lC (fun h => apBC _ h rfl)
         replace lC : X36.heap.size < X47.heap.size := by omega
         replace apBC : ∀ k, Slot aX47 k → k ≠ X36.heap.size := fun k h e => (sX47 k h).elim (fun q => apBC k q e) (fun q => by omega)
         replace oB := hX47
         have lBX47 : ∀ k, Slot (aX47) k → k < X47.heap.size := fun k h => (OwnS.lt oB h).1
         have lAX47 : ∀ k, Slot (aX45) k → k < X47.heap.size := fun k h => (OwnS.lt oA h).1
         clear hX47 gX47 sX47 kX47
         refine tz (i := 17) rfl ?_
         simp only [Act.put, ps1, ps2, ps3]
         refine tz (i := 18) rfl ?_
         simp only [Act.put, ps1, ps2, ps3]
         refine wpAnyH_done (by kernel_rfl) ?_ _
         have bL : Below w6.heap.size w6 X47 := hHeld.2
         have zL := bL.size
         have oA2 : Own X47 w6.heap.size 3 aX45 c2 cX45 (natC (cutA P c2)) := oA
         have oB2 : Own X47 w6.heap.size 3 aX47 (n - c2 + 1) cX47 (natC (cutB P c2)) := by rw [HCB.out] at oB; exact oB
         obtain ⟨ga, rfl, hga, hga2, sgA⟩ := OwnS.at oA2 (by omega)
         obtain ⟨gb, rfl, hgb, hgb2, sgB⟩ := OwnS.at oB2 (by omega)
         have rA := OwnS.room oA2
         have rB := OwnS.room oB2
         obtain ⟨xs, sx, hxl, hx1, hxe⟩ := (HWT6.out.below bL).ex
         have hxm : xs.length = m := by rw [hxl, List.length_take, HWN.out]; omega
         have hwl : wb < X47.heap.size := (HWT6.out.below bL).lt
         clear HSt hHeld oA2 oB2 oA oB
         have b1 : Below X47.heap.size X47 (X47.alloc (.cells #[] 33)) := (Below.refl _ _).alloc (Nat.le_refl _) _
         have owT : Own (X47.alloc (.cells #[] 33)) X47.heap.size 33 (some ⟨X47.heap.size, 0, none⟩) 0 0 [] := own_new X47 X47.heap.size 33 (Nat.le_refl _)
         have SW : Sl (X47.alloc (.cells #[] 33)) (some ⟨wb, 0, none⟩) m wc xs := ⟨hxm, by omega, hwc.2, (by intro e; cases e), Or.inr ⟨wb, 0, rfl, by simp; omega, sx.below b1 hwl⟩⟩
         go_wp2_with (at_builtin; first
          | (refine app_at _ rfl _ _ 35 rfl X47.heap.size 33 is _ 24 Try.underlying35 si0 sz0 sz1 sz2 rfl _ 0 0 _ rfl owT _ m wc xs rfl SW hx1 (by unfold maxLen; omega) (by omega) (by simp) ?_
             intro a7 c7 w7 h7 g7 s7
             have b7 : Below X47.heap.size X47 w7 := grown_low b1 (by simp) owT g7
             have z7 := b7.size
             have b8 : Below w7.heap.size w7 (w7.alloc (.cells #[.slice (some ⟨gb, 0, none⟩) (n - c2 + 1) cX47, .slice (some ⟨ga, 0, none⟩) c2 cX45] 33)) := (Below.refl _ _).alloc (Nat.le_refl _) _
             have S2 : Sl (w7.alloc (.cells #[.slice (some ⟨gb, 0, none⟩) (n - c2 + 1) cX47, .slice (some ⟨ga, 0, none⟩) c2 cX45] 33)) (some ⟨w7.heap.size, 0, none⟩) 2 2 [.slice (some ⟨gb, 0, none⟩) (n - c2 + 1) cX47, .slice (some ⟨ga, 0, none⟩) c2 cX45] := ⟨rfl, Nat.le_refl _, by unfold maxLen; omega, (by intro e; cases e), Or.inr ⟨_, 0, rfl, by simp, (Row.new w7 _ _).seg⟩⟩
             rw [List.nil_append, Nat.zero_add] at h7
             have owU := OwnS.below h7 b8
             clear owT SW g7 s7)
          | (refine app_at _ rfl _ _ 35 rfl X47.heap.size 33 is _ 24 Try.underlying35 si0 sz0 sz1 sz2 rfl a7 m c7 _ (by first | rfl | simp) owU _ 2 2 _ rfl S2 (by intro t ht; simp at ht; rcases ht with rfl | rfl <;> rfl) (by unfold maxLen; omega) (by omega) (by simp; omega) ?_
             intro a9 c9 w9 h9 g9 s9))
         have b9 : Below X47.heap.size X47 w9 := grown_low (also b7 b8) (by simp; omega) owU g9
         obtain ⟨g9b, rfl, hg9, hg92, sg9⟩ := OwnS.at h9 (by omega)
         have r9 := OwnS.room h9
         have NEXT : Hid (FillRel L nl w (leftN (st.take m ++ [cutB P c2, cutA P c2])) (.slice a6 (on + 1) c6) (.slice (some ⟨g9b, 0, none⟩) (m + 2) c9) w9) := by
          have b69 : Below w6.heap.size w6 w9 := also bL b9
          have e1 := HC2.out
          refine ⟨⟨_, O ++ [(x0, x1, x2)], a6, on + 1, c6, g9b, m + 2, c9, rfl, rfl, by rw [List.length_append, ← HON.out]; rfl, by rw [List.length_append, List.length_take, HWN.out]; show _ = min m (m + 1) + 2; omega, r9, rfl, HO6.out.below b69, ?_, by rw [e1]; exact HST.out.1⟩, also b06 b69⟩
          refine WtAt.push hxe hxl hx1 b9 LT6.out (B := w6.heap.size) ⟨hgb2, hga2, by omega⟩ hg9 (by rw [HCM.out, HCA.out]; exact sg9) ⟨Nat.lt_of_lt_of_le hgb b9.size, by rw [HCM.out]; exact rB.1, rB.2, sgB.below b9 hgb⟩ ⟨Nat.lt_of_lt_of_le hga b9.size, by rw [HCA.out]; exact rA.1, rA.2, sgA.below b9 hga⟩
         have MEA : Hid (leftN (st.take m ++ [cutB P c2, cutA P c2]) < gk) := by unfold Hid; rw [← HGK.out, HC2.out]; exact HST.out.2
         clear h9 g9 s9 S2 owU b8 h7 hxe sx hx1 sgA sgB sg9
         go_wp2
         go_roundg (leftN (st.take m ++ [cutB P c2, cutA P c2]))
         case measure => exact MEA.out
         case rel => exact NEXT.out
       ·skip
        have gc : w6.heap.size ≤ X35.heap.size := hHeld.2.size
        go_simp
        have eX48 : Below X35.heap.size X35 (X35.alloc (.cells #[.int .i64 (x0 : Int)] 3)) := (Below.refl _ _).alloc (Nat.le_refl _) _
        refine hK.out _ _ (HSt.out _ (also hHeld.2 eX48)) (fun hHeld => ?_)
        clear hK Kc
        obtain ⟨X48, hX48⟩ : ∃ q, q = X35.alloc (.cells #[.int .i64 (x0 : Int)] 3) := ⟨_, rfl⟩
        rw [← hX48] at hHeld eX48 ⊢
        have zX48 : X35.heap.size < X48.heap.size := by rw [hX48]; simp
        replace oB := OwnS.below oB eX48
        have rC : Row X48 X35.heap.size [.int .i64 (x0 : Int)] := by rw [hX48]; exact Row.new X35 _ _
        have lC : X35.heap.size < X48.heap.size := by omega
        have apBC : ∀ k, Slot (some ⟨X0.heap.size, 0, none⟩) k → k ≠ X35.heap.size := fun k h => by have := lBX35 k h; omega
        have lBX48 : ∀ k, Slot (some ⟨X0.heap.size, 0, none⟩) k → k < X48.heap.size := fun k h => (OwnS.lt oB h).1
        clear hX48
        refine take_call (i := 0) rfl (by kernel_rfl) (fun Kc hK => ?_)
        have gc : w6.heap.size ≤ X48.heap.size := hHeld.2.size
        go_simp
        have eX49 : Below X48.heap.size X48 (X48.alloc (.cells #[] 3)) := (Below.refl _ _).alloc (Nat.le_refl _) _
        refine hK.out _ _ (HSt.out _ (also hHeld.2 eX49)) (fun hHeld => ?_)
        clear hK Kc
        obtain ⟨X49, hX49⟩ : ∃ q, q = X48.alloc (.cells #[] 3) := ⟨_, rfl⟩
        rw [← hX49] at hHeld eX49 ⊢
        have zX49 : X48.heap.size < X49.heap.size := by rw [hX49]; simp
        replace oB := OwnS.below oB eX49
        replace rC := rC.below eX49 lC
        replace lC : X35.heap.size < X49.heap.size := by omega
        have oA : Own X49 w6.heap.size 3 (some ⟨X48.heap.size, 0, none⟩) 0 0 [] := by rw [hX49]; exact own_new X48 w6.heap.size 3 (by omega)
        have apAB : ∀ k, Slot (some ⟨X48.heap.size, 0, none⟩) k → ¬ Slot (some ⟨X0.heap.size, 0, none⟩) k := fun k q h => by have := lBX48 k h; have := Slot.eq q; omega
        have apAC : ∀ k, Slot (some ⟨X48.heap.size, 0, none⟩) k → k ≠ X35.heap.size := fun k h => by have := Slot.eq h; omega
        have lBX49 : ∀ k, Slot (some ⟨X0.heap.size, 0, none⟩) k → k < X49.heap.size := fun k h => (OwnS.lt oB h).1
        have lAX49 : ∀ k, Slot (some ⟨X48.heap.size, 0, none⟩) k → k < X49.heap.size := fun k h => (OwnS.lt oA h).1
        clear hX49
        refine take_call (i := 5) rfl (by kernel_rfl) (fun Kc hK => ?_)
        refine step_append_S rfl (.tmp 103) (.tmp 107) 33 rfl w6.heap.size 3 i0 _ 1 8 Try.underlying33 hi0 hz0 hz1 hz2 rfl (by decide) (some ⟨X48.heap.size, 0, none⟩) 0 0 [] rfl oA ⟨pb, po + 1, none⟩ c2 _ (natC (cutA P c2)) rfl HLA.out (HNWA.out _ hHeld.2) (by first | exact natC_one _ | (intro t ht; simp at ht; subst ht; rfl)) (by unfold maxLen; omega) (by omega) hHeld.2.size ?_
        intro aX50 cX50 X50 hX50 gX50 sX50
        have kX50 : Keep (Slot (some ⟨X48.heap.size, 0, none⟩)) X49 X50 := Keep.grown (Keep.refl _ _) gX50 (fun k e => Or.inl (OwnS.slot oA e))
        refine hK.out _ _ (HSt.out _ (hHeld.2.trans (kX50.below hHeld.2.size (fun k h => (OwnS.lt oA h).2)))) (fun hHeld => ?_)
        clear hK Kc
        simp only [Act.put, List.setIfInBounds_toArray, List.set_cons_zero, List.set_cons_succ, Nat.zero_add]
        rw [List.nil_append, Nat.zero_add] at hX50
        have zX50 := kX50.size
        replace oB := OwnS.keep oB kX50 (fun k h q => apAB k q h)
        replace apAB : ∀ k, Slot aX50 k → ¬ Slot (some ⟨X0.heap.size, 0, none⟩) k := fun k q h => (sX50 k q).elim (fun q => apAB k q h) (fun q => by have := lBX49 k h; omega)
        replace rC := Row.keep rC kX50 lC (fun h => apAC _ h rfl)
        replace lC : X35.heap.size < X50.heap.size := by omega
        replace apAC : ∀ k, Slot aX50 k → k ≠ X35.heap.size := fun k h e => (sX50 k h).elim (fun q => apAC k q e) (fun q => by omega)
        replace oA := hX50
        have lBX50 : ∀ k, Slot (some ⟨X0.heap.size, 0, none⟩) k → k < X50.heap.size := fun k h => (OwnS.lt oB h).1
        have lAX50 : ∀ k, Slot (aX50) k → k < X50.heap.size := fun k h => (OwnS.lt oA h).1
        clear hX50 gX50 sX50 kX50
        refine take_call (i := 11) rfl (by kernel_rfl) (fun Kc hK => ?_)
        refine step_append_S rfl (.tmp 109) (.tmp 113) 33 rfl w6.heap.size 3 i0 _ 1 8 Try.underlying33 hi0 hz0 hz1 hz2 rfl (by decide) (some ⟨X0.heap.size, 0, none⟩) 0 0 [] rfl oB ⟨pb, po + c2, none⟩ (n - c2) _ (natC (P.drop c2)) rfl HLD.out (HNWB.out _ hHeld.2) (by first | exact natC_one _ | (intro t ht; simp at ht; subst ht; rfl)) (by unfold maxLen; omega) (by omega) hHeld.2.size ?_
        intro aX51 cX51 X51 hX51 gX51 sX51
        have kX51 : Keep (Slot (some ⟨X0.heap.size, 0, none⟩)) X50 X51 := Keep.grown (Keep.refl _ _) gX51 (fun k e => Or.inl (OwnS.slot oB e))
        refine hK.out _ _ (HSt.out _ (hHeld.2.trans (kX51.below hHeld.2.size (fun k h => (OwnS.lt oB h).2)))) (fun hHeld => ?_)
        clear hK Kc
        simp only [Act.put, List.setIfInBounds_toArray, List.set_cons_zero, List.set_cons_succ, Nat.zero_add]
        rw [List.nil_append, Nat.zero_add] at hX51
        have zX51 := kX51.size
        replace rC := Row.keep rC kX51 lC (fun h => apBC _ h rfl)
        replace lC : X35.heap.size < X51.heap.size := by omega
        replace apBC : ∀ k, Slot aX51 k → k ≠ X35.heap.size := fun k h e => (sX51 k h).elim (fun q => apBC k q e) (fun q => by omega)
        replace oA := OwnS.keep oA kX51 (fun k h q => apAB k h q)
        replace apAB : ∀ k, Slot (aX50) k → ¬ Slot aX51 k := fun k h q => (sX51 k q).elim (fun q => apAB k h q) (fun q => by have := lAX50 k h; omega)
        replace oB := hX51
        have lBX51 : ∀ k, Slot (aX51) k → k < X51.heap.size := fun k h => (OwnS.lt oB h).1
        have lAX51 : ∀ k, Slot (aX50) k → k < X51.heap.size := fun k h => (OwnS.lt oA h).1
        clear hX51 gX51 sX51 kX51
        refine take_call (i := 16) rfl (by kernel_rfl) (fun Kc hK => ?_)
        refine step_append_S rfl (.tmp 114) (.tmp 118) 33 rfl w6.heap.size 3 i0 _ 1 8 Try.underlying33 hi0 hz0 hz1 hz2 rfl (by decide) (aX51) (n - c2) cX51 (natC (P.drop c2)) rfl oB ⟨X35.heap.size, 0, none⟩ 1 _ [.int .i64 (x0 : Int)] rfl rfl (row_news rC) (by first | exact natC_one _ | (intro t ht; simp at ht; subst ht; rfl)) (by unfold maxLen; omega) (by omega) hHeld.2.size ?_
        intro aX52 cX52 X52 hX52 gX52 sX52
        have kX52 : Keep (Slot (aX51)) X51 X52 := Keep.grown (Keep.refl _ _) gX52 (fun k e => Or.inl (OwnS.slot oB e))
        refine hK.out _ _ (HSt.out _ (hHeld.2.trans (kX52.below hHeld.2.size (fun k h => (OwnS.lt oB h).2)))) (fun hHeld => ?_)
        clear hK Kc
        simp only [Act.put, List.setIfInBounds_toArray, List.set_cons_zero, List.set_cons_succ, Nat.zero_add]
        have zX52 := kX52.size
        replace rC := Row.keep rC kX52 lC (fun h => apBC _ h rfl)
        replace lC : X35.heap.size < X52.heap.size := by omega
        replace apBC : ∀ k, Slot aX52 k → k ≠ X35.heap.size := fun k h e => (sX52 k h).elim (fun q => apBC k q e) (fun q => by omega)
        replace oA := OwnS.keep oA kX52 (fun k h q => apAB k h q)
        replace apAB : ∀ k, Slot (aX50) k → ¬ Slot aX52 k := fun k h q => (sX52 k q).elim (fun q => apAB k h q) (fun q => by have := lAX51 k h; omega)
        replace oB := hX52
        have lBX52 : ∀ k, Slot (aX52) k → k < X52.heap.size := fun k h => (OwnS.lt oB h).1
        have lAX52 : ∀ k, Slot (aX50) k → k < X52.heap.size := fun k h => (OwnS.lt oA h).1
        clear hX52 gX52 sX52 kX52
        refine tz (i := 17) rfl ?_
        simp only [Act.put, ps1, ps2, ps3]
        refine tz (i := 18) rfl ?_
        simp only [Act.put, ps1, ps2, ps3]
        refine wpAnyH_done (by kernel_rfl) ?_ _
        have bL : Below w6.heap.size w6 X52 := hHeld.2
        have zL := bL.size
        have oA2 : Own X52 w6.heap.size 3 aX50 c2 cX50 (natC (cutA P c2)) := oA
        have oB2 : Own X52 w6.heap.size 3 aX52 (n - c2 + 1) cX52 (natC (cutB P c2)) := by rw [HCB.out] at oB; exact oB
        obtain ⟨ga, rfl, hga, hga2, sgA⟩ := OwnS.at oA2 (by omega)
        obtain ⟨gb, rfl, hgb, hgb2, sgB⟩ := OwnS.at oB2 (by omega)
        have rA := OwnS.room oA2
        have rB := OwnS.room oB2
        obtain ⟨xs, sx, hxl, hx1, hxe⟩ := (HWT6.out.below bL).ex
        have hxm : xs.length = m := by rw [hxl, List.length_take, HWN.out]; omega
        have hwl : wb < X52.heap.size := (HWT6.out.below bL).lt
        clear HSt hHeld oA2 oB2 oA oB
        have b1 : Below X52.heap.size X52 (X52.alloc (.cells #[] 33)) := (Below.refl _ _).alloc (Nat.le_refl _) _
        have owT : Own (X52.alloc (.cells #[] 33)) X52.heap.size 33 (some ⟨X52.heap.size, 0, none⟩) 0 0 [] := own_new X52 X52.heap.size 33 (Nat.le_refl _)
        have SW : Sl (X52.alloc (.cells #[] 33)) (some ⟨wb, 0, none⟩) m wc xs := ⟨hxm, by omega, hwc.2, (by intro e; cases e), Or.inr ⟨wb, 0, rfl, by simp; omega, sx.below b1 hwl⟩⟩
        go_wp2_with (at_builtin; first
         | (refine app_at _ rfl _ _ 35 rfl X52.heap.size 33 is _ 24 Try.underlying35 si0 sz0 sz1 sz2 rfl _ 0 0 _ rfl owT _ m wc xs rfl SW hx1 (by unfold maxLen; omega) (by omega) (by simp) ?_
            intro a7 c7 w7 h7 g7 s7
            have b7 : Below X52.heap.size X52 w7 := grown_low b1 (by simp) owT g7
            have z7 := b7.size
            have b8 : Below w7.heap.size w7 (w7.alloc (.cells #[.slice (some ⟨gb, 0, none⟩) (n - c2 + 1) cX52, .slice (some ⟨ga, 0, none⟩) c2 cX50] 33)) := (Below.refl _ _).alloc (Nat.le_refl _) _
            have S2 : Sl (w7.alloc (.cells #[.slice (some ⟨gb, 0, none⟩) (n - c2 + 1) cX52, .slice (some ⟨ga, 0, none⟩) c2 cX50] 33)) (some ⟨w7.heap.size, 0, none⟩) 2 2 [.slice (some ⟨gb, 0, none⟩) (n - c2 + 1) cX52, .slice (some ⟨ga, 0, none⟩) c2 cX50] := ⟨rfl, Nat.le_refl _, by unfold maxLen; omega, (by intro e; cases e), Or.inr ⟨_, 0, rfl, by simp, (Row.new w7 _ _).seg⟩⟩
            rw [List.nil_append, Nat.zero_add] at h7
            have owU := OwnS.below h7 b8
            clear owT SW g7 s7)
         | (refine app_at _ rfl _ _ 35 rfl X52.heap.size 33 is _ 24 Try.underlying35 si0 sz0 sz1 sz2 rfl a7 m c7 _ (by first | rfl | simp) owU _ 2 2 _ rfl S2 (by intro t ht; simp at ht; rcases ht with rfl | rfl <;> rfl) (by unfold maxLen; omega) (by omega) (by simp; omega) ?_
            intro a9 c9 w9 h9 g9 s9))
        have b9 : Below X52.heap.size X52 w9 := grown_low (also b7 b8) (by simp; omega) owU g9
        obtain ⟨g9b, rfl, hg9, hg92, sg9⟩ := OwnS.at h9 (by omega)
        have r9 := OwnS.room h9
        have NEXT : Hid (FillRel L nl w (leftN (st.take m ++ [cutB P c2, cutA P c2])) (.slice a6 (on + 1) c6) (.slice (some ⟨g9b, 0, none⟩) (m + 2) c9) w9) := by
         have b69 : Below w6.heap.size w6 w9 := also bL b9
         have e1 := HC2.out
         refine ⟨⟨_, O ++ [(x0, x1, x2)], a6, on + 1, c6, g9b, m + 2, c9, rfl, rfl, by rw [List.length_append, ← HON.out]; rfl, by rw [List.length_append, List.length_take, HWN.out]; show _ = min m (m + 1) + 2; omega, r9, rfl, HO6.out.below b69, ?_, by rw [e1]; exact HST.out.1⟩, also b06 b69⟩
         refine WtAt.push hxe hxl hx1 b9 LT6.out (B := w6.heap.size) ⟨hgb2, hga2, by omega⟩ hg9 (by rw [HCM.out, HCA.out]; exact sg9) ⟨Nat.lt_of_lt_of_le hgb b9.size, by rw [HCM.out]; exact rB.1, rB.2, sgB.below b9 hgb⟩ ⟨Nat.lt_of_lt_of_le hga b9.size, by rw [HCA.out]; exact rA.1, rA.2, sgA.below b9 hga⟩
        have MEA : Hid (leftN (st.take m ++ [cutB P c2, cutA P c2]) < gk) := by unfold Hid; rw [← HGK.out, HC2.out]; exact HST.out.2
        clear h9 g9 s9 S2 owU b8 h7 hxe sx hx1 sgA sgB sg9
        go_wp2
        go_roundg (leftN (st.take m ++ [cutB P c2, cutA P c2]))
        case measure => exact MEA.out
        case rel => exact NEXT.out
      ·skip
       have gc : w6.heap.size ≤ X0.heap.size := hHeld.2.size
       go_simp
       have eX53 : Below X0.heap.size X0 (X0.alloc (.cells #[.int .i64 (x0 : Int)] 3)) := (Below.refl _ _).alloc (Nat.le_refl _) _
       refine hK.out _ _ (HSt.out _ (also hHeld.2 eX53)) (fun hHeld => ?_)
       clear hK Kc
       obtain ⟨X53, hX53⟩ : ∃ q, q = X0.alloc (.cells #[.int .i64 (x0 : Int)] 3) := ⟨_, rfl⟩
       rw [← hX53] at hHeld eX53 ⊢
       have zX53 : X0.heap.size < X53.heap.size := by rw [hX53]; simp
       have rC : Row X53 X0.heap.size [.int .i64 (x0 : Int)] := by rw [hX53]; exact Row.new X0 _ _
       have lC : X0.heap.size < X53.heap.size := by omega
       clear hX53
       refine wpAnyH_ready (rs := [0, 6]) (by kernel_rfl) (by simp) (AllReadyH.cons (i := 0) rfl (fun Kc hK => ?_) (AllReadyH.cons (i := 6) rfl (fun Kc hK => ?_) AllReadyH.nil))
       ·skip
        have gc : w6.heap.size ≤ X53.heap.size := hHeld.2.size
        go_simp
        have eX54 : Below X53.heap.size X53 (X53.alloc (.cells #[] 3)) := (Below.refl _ _).alloc (Nat.le_refl _) _
        refine hK.out _ _ (HSt.out _ (also hHeld.2 eX54)) (fun hHeld => ?_)
        clear hK Kc
        obtain ⟨X54, hX54⟩ : ∃ q, q = X53.alloc (.cells #[] 3) := ⟨_, rfl⟩
        rw [← hX54] at hHeld eX54 ⊢
        have zX54 : X53.heap.size < X54.heap.size := by rw [hX54]; simp
        replace rC := rC.below eX54 lC
        replace lC : X0.heap.size < X54.heap.size := by omega
        have oA : Own X54 w6.heap.size 3 (some ⟨X53.heap.size, 0, none⟩) 0 0 [] := by rw [hX54]; exact own_new X53 w6.heap.size 3 (by omega)
        have apAC : ∀ k, Slot (some ⟨X53.heap.size, 0, none⟩) k → k ≠ X0.heap.size := fun k h => by have := Slot.eq h; omega
        have lAX54 : ∀ k, Slot (some ⟨X53.heap.size, 0, none⟩) k → k < X54.heap.size := fun k h => (OwnS.lt oA h).1
        clear hX54
        refine wpAnyH_ready (rs := [5, 6]) (by kernel_rfl) (by simp) (AllReadyH.cons (i := 5) rfl (fun Kc hK => ?_) (AllReadyH.cons (i := 6) rfl (fun Kc hK => ?_) AllReadyH.nil))
        ·skip
         refine step_append_S rfl (.tmp 103) (.tmp 107) 33 rfl w6.heap.size 3 i0 _ 1 8 Try.underlying33 hi0 hz0 hz1 hz2 rfl (by decide) (some ⟨X53.heap.size, 0, none⟩) 0 0 [] rfl oA ⟨pb, po + 1, none⟩ c2 _ (natC (cutA P c2)) rfl HLA.out (HNWA.out _ hHeld.2) (by first | exact natC_one _ | (intro t ht; simp at ht; subst ht; rfl)) (by unfold maxLen; omega) (by omega) hHeld.2.size ?_
         intro aX55 cX55 X55 hX55 gX55 sX55
         have kX55 : Keep (Slot (some ⟨X53.heap.size, 0, none⟩)) X54 X55 := Keep.grown (Keep.refl _ _) gX55 (fun k e => Or.inl (OwnS.slot oA e))
         refine hK.out _ _ (HSt.out _ (hHeld.2.trans (kX55.below hHeld.2.size (fun k h => (OwnS.lt oA h).2)))) (fun hHeld => ?_)
         clear hK Kc
         simp only [Act.put, List.setIfInBounds_toArray, List.set_cons_zero, List.set_cons_succ, Nat.zero_add]
         rw [List.nil_append, Nat.zero_add] at hX55
         have zX55 := kX55.size
         replace rC := Row.keep rC kX55 lC (fun h => apAC _ h rfl)
         replace lC : X0.heap.size < X55.heap.size := by omega
         replace apAC : ∀ k, Slot aX55 k → k ≠ X0.heap.size := fun k h e => (sX55 k h).elim (fun q => apAC k q e) (fun q => by omega)
         replace oA := hX55
         have lAX55 : ∀ k, Slot (aX55) k → k < X55.heap.size := fun k h => (OwnS.lt oA h).1
         clear hX55 gX55 sX55 kX55
         refine take_call (i := 6) rfl (by kernel_rfl) (fun Kc hK => ?_)
         have gc : w6.heap.size ≤ X55.heap.size := hHeld.2.size
         go_simp
         have eX56 : Below X55.heap.size X55 (X55.alloc (.cells #[] 3)) := (Below.refl _ _).alloc (Nat.le_refl _) _
         refine hK.out _ _ (HSt.out _ (also hHeld.2 eX56)) (fun hHeld => ?_)
         clear hK Kc
         obtain ⟨X56, hX56⟩ : ∃ q, q = X55.alloc (.cells #[] 3) := ⟨_, rfl⟩
         rw [← hX56] at hHeld eX56 ⊢
         have zX56 : X55.heap.size < X56.heap.size := by rw [hX56]; simp
         replace rC := rC.below eX56 lC
         replace lC : X0.heap.size < X56.heap.size := by omega
         replace oA := OwnS.below oA eX56
         have oB : Own X56 w6.heap.size 3 (some ⟨X55.heap.size, 0, none⟩) 0 0 [] := by rw [hX56]; exact own_new X55 w6.heap.size 3 (by omega)
         have apBC : ∀ k, Slot (some ⟨X55.heap.size, 0, none⟩) k → k ≠ X0.heap.size := fun k h => by have := Slot.eq h; omega
         have apAB : ∀ k, Slot (aX55) k → ¬ Slot (some ⟨X55.heap.size, 0, none⟩) k := fun k h q => by have := lAX55 k h; have := Slot.eq q; omega
         have lAX56 : ∀ k, Slot (aX55) k → k < X56.heap.size := fun k h => (OwnS.lt oA h).1
         have lBX56 : ∀ k, Slot (some ⟨X55.heap.size, 0, none⟩) k → k < X56.heap.size := fun k h => (OwnS.lt oB h).1
         clear hX56
         refine take_call (i := 11) rfl (by kernel_rfl) (fun Kc hK => ?_)
         refine step_append_S rfl (.tmp 109) (.tmp 113) 33 rfl w6.heap.size 3 i0 _ 1 8 Try.underlying33 hi0 hz0 hz1 hz2 rfl (by decide) (some ⟨X55.heap.size, 0, none⟩) 0 0 [] rfl oB ⟨pb, po + c2, none⟩ (n - c2) _ (natC (P.drop c2)) rfl HLD.out (HNWB.out _ hHeld.2) (by first | exact natC_one _ | (intro t ht; simp at ht; subst ht; rfl)) (by unfold maxLen; omega) (by omega) hHeld.2.size ?_
         intro aX57 cX57 X57 hX57 gX57 sX57
         have kX57 : Keep (Slot (some ⟨X55.heap.size, 0, none⟩)) X56 X57 := Keep.grown (Keep.refl _ _) gX57 (fun k e => Or.inl (OwnS.slot oB e))
         refine hK.out _ _ (HSt.out _ (hHeld.2.trans (kX57.below hHeld.2.size (fun k h => (OwnS.lt oB h).2)))) (fun hHeld => ?_)
         clear hK Kc
         simp only [Act.put, List.setIfInBounds_toArray, List.set_cons_zero, List.set_cons_succ, Nat.zero_add]
         rw [List.nil_append, Nat.zero_add] at hX57
         have zX57 := kX57.size
         replace rC := Row.keep rC kX57 lC (fun h => apBC _ h rfl)
         replace lC : X0.heap.size < X57.heap.size := by omega
         replace apBC : ∀ k, Slot aX57 k → k ≠ X0.heap.size := fun k h e => (sX57 k h).elim (fun q => apBC k q e) (fun q => by omega)
         replace oA := OwnS.keep oA kX57 (fun k h q => apAB k h q)
         replace apAB : ∀ k, Slot (aX55) k → ¬ Slot aX57 k := fun k h q => (sX57 k q).elim (fun q => apAB k h q) (fun q => by have := lAX56 k h; omega)
         replace oB := hX57
         have lAX57 : ∀ k, Slot (aX55) k → k < X57.heap.size := fun k h => (OwnS.lt oA h).1
         have lBX57 : ∀ k, Slot (aX57) k → k < X57.heap.size := fun k h => (OwnS.lt oB h).1
         clear hX57 gX57 sX57 kX57
         refine take_call (i := 16) rfl (by kernel_rfl) (fun Kc hK => ?_)
         refine step_append_S rfl (.tmp 114) (.tmp 118) 33 rfl w6.heap.size 3 i0 _ 1 8 Try.underlying33 hi0 hz0 hz1 hz2 rfl (by decide) (aX57) (n - c2) cX57 (natC (P.drop c2)) rfl oB ⟨X0.heap.size, 0, none⟩ 1 _ [.int .i64 (x0 : Int)] rfl rfl (row_news rC) (by first | exact natC_one _ | (intro t ht; simp at ht; subst ht; rfl)) (by unfold maxLen; omega) (by omega) hHeld.2.size ?_
         intro aX58 cX58 X58 hX58 gX58 sX58
         have kX58 : Keep (Slot (aX57)) X57 X58 := Keep.grown (Keep.refl _ _) gX58 (fun k e => Or.inl (OwnS.slot oB e))
         refine hK.out _ _ (HSt.out _ (hHeld.2.trans (kX58.below hHeld.2.size (fun k h => (OwnS.lt oB h).2)))) (fun hHeld => ?_)
         clear hK Kc
         simp only [Act.put, List.setIfInBounds_toArray, List.set_cons_zero, List.set_cons_succ, Nat.zero_add]
         have zX58 := kX58.size
         replace rC := Row.keep rC kX58 lC (fun h => apBC _ h rfl)
         replace lC : X0.heap.size < X58.heap.size := by omega
         replace apBC : ∀ k, Slot aX58 k → k ≠ X0.heap.size := fun k h e => (sX58 k h).elim (fun q => apBC k q e) (fun q => by omega)
         replace oA := OwnS.keep oA kX58 (fun k h q => apAB k h q)
         replace apAB : ∀ k, Slot (aX55) k → ¬ Slot aX58 k := fun k h q => (sX58 k q).elim (fun q => apAB k h q) (fun q => by have := lAX57 k h; omega)
         replace oB := hX58
         have lAX58 : ∀ k, Slot (aX55) k → k < X58.heap.size := fun k h => (OwnS.lt oA h).1
         have lBX58 : ∀ k, Slot (aX58) k → k < X58.heap.size := fun k h => (OwnS.lt oB h).1
         clear hX58 gX58 sX58 kX58
         refine tz (i := 17) rfl ?_
         simp only [Act.put, ps1, ps2, ps3]
         refine tz (i := 18) rfl ?_
         simp only [Act.put, ps1, ps2, ps3]
         refine wpAnyH_done (by kernel_rfl) ?_ _
         have bL : Below w6.heap.size w6 X58 := hHeld.2
         have zL := bL.size
         have oA2 : Own X58 w6.heap.size 3 aX55 c2 cX55 (natC (cutA P c2)) := oA
         have oB2 : Own X58 w6.heap.size 3 aX58 (n - c2 + 1) cX58 (natC (cutB P c2)) := by rw [HCB.out] at oB; exact oB
         obtain ⟨ga, rfl, hga, hga2, sgA⟩ := OwnS.at oA2 (by omega)
         obtain ⟨gb, rfl, hgb, hgb2, sgB⟩ := OwnS.at oB2 (by omega)
         have rA := OwnS.room oA2
         have rB := OwnS.room oB2
         obtain ⟨xs, sx, hxl, hx1, hxe⟩ := (HWT6.out.below bL).ex
         have hxm : xs.length = m := by rw [hxl, List.length_take, HWN.out]; omega
         have hwl : wb < X58.heap.size := (HWT6.out.below bL).lt
         clear HSt hHeld oA2 oB2 oA oB
         have b1 : Below X58.heap.size X58 (X58.alloc (.cells #[] 33)) := (Below.refl _ _).alloc (Nat.le_refl _) _
         have owT : Own (X58.alloc (.cells #[] 33)) X58.heap.size 33 (some ⟨X58.heap.size, 0, none⟩) 0 0 [] := own_new X58 X58.heap.size 33 (Nat.le_refl _)
         have SW : Sl (X58.alloc (.cells #[] 33)) (some ⟨wb, 0, none⟩) m wc xs := ⟨hxm, by omega, hwc.2, (by intro e; cases e), Or.inr ⟨wb, 0, rfl, by simp; omega, sx.below b1 hwl⟩⟩
         go_wp2_with (at_builtin; first
          | (refine app_at _ rfl _ _ 35 rfl X58.heap.size 33 is _ 24 Try.underlying35 si0 sz0 sz1 sz2 rfl _ 0 0 _ rfl owT _ m wc xs rfl SW hx1 (by unfold maxLen; omega) (by omega) (by simp) ?_
             intro a7 c7 w7 h7 g7 s7
             have b7 : Below X58.heap.size X58 w7 := grown_low b1 (by simp) owT g7
             have z7 := b7.size
             have b8 : Below w7.heap.size w7 (w7.alloc (.cells #[.slice (some ⟨gb, 0, none⟩) (n - c2 + 1) cX58, .slice (some ⟨ga, 0, none⟩) c2 cX55] 33)) := (Below.refl _ _).alloc (Nat.le_refl _) _
             have S2 : Sl (w7.alloc (.cells #[.slice (some ⟨gb, 0, none⟩) (n - c2 + 1) cX58, .slice (some ⟨ga, 0, none⟩) c2 cX55] 33)) (some ⟨w7.heap.size, 0, none⟩) 2 2 [.slice (some ⟨gb, 0, none⟩) (n - c2 + 1) cX58, .slice (some ⟨ga, 0, none⟩) c2 cX55] := ⟨rfl, Nat.le_refl _, by unfold maxLen; omega, (by intro e; cases e), Or.inr ⟨_, 0, rfl, by simp, (Row.new w7 _ _).seg⟩⟩
             rw [List.nil_append, Nat.zero_add] at h7
             have owU := OwnS.below h7 b8
             clear owT SW g7 s7)
          | (refine app_at _ rfl _ _ 35 rfl X58.heap.size 33 is _ 24 Try.underlying35 si0 sz0 sz1 sz2 rfl a7 m c7 _ (by first | rfl | simp) owU _ 2 2 _ rfl S2 (by intro t ht; simp at ht; rcases ht with rfl | rfl <;> rfl) (by unfold maxLen; omega) (by omega) (by simp; omega) ?_
             intro a9 c9 w9 h9 g9 s9))
         have b9 : Below X58.heap.size X58 w9 := grown_low (also b7 b8) (by simp; omega) owU g9
         obtain ⟨g9b, rfl, hg9, hg92, sg9⟩ := OwnS.at h9 (by omega)
         have r9 := OwnS.room h9
         have NEXT : Hid (FillRel L nl w (leftN (st.take m ++ [cutB P c2, cutA P c2])) (.slice a6 (on + 1) c6) (.slice (some ⟨g9b, 0, none⟩) (m + 2) c9) w9) := by
          have b69 : Below w6.heap.size w6 w9 := also bL b9
          have e1 := HC2.out
          refine ⟨⟨_, O ++ [(x0, x1, x2)], a6, on + 1, c6, g9b, m + 2, c9, rfl, rfl, by rw [List.length_append, ← HON.out]; rfl, by rw [List.length_append, List.length_take, HWN.out]; show _ = min m (m + 1) + 2; omega, r9, rfl, HO6.out.below b69, ?_, by rw [e1]; exact HST.out.1⟩, also b06 b69⟩
          refine WtAt.push hxe hxl hx1 b9 LT6.out (B := w6.heap.size) ⟨hgb2, hga2, by omega⟩ hg9 (by rw [HCM.out, HCA.out]; exact sg9) ⟨Nat.lt_of_lt_of_le hgb b9.size, by rw [HCM.out]; exact rB.1, rB.2, sgB.below b9 hgb⟩ ⟨Nat.lt_of_lt_of_le hga b9.size, by rw [HCA.out]; exact rA.1, rA.2, sgA.below b9 hga⟩
         have MEA : Hid (leftN (st.take m ++ [cutB P c2, cutA P c2]) < gk) := by unfold Hid; rw [← HGK.out, HC2.out]; exact HST.out.2
         clear h9 g9 s9 S2 owU b8 h7 hxe sx hx1 sgA sgB sg9
         go_wp2
         go_roundg (leftN (st.take m ++ [cutB P c2, cutA P c2]))
         case measure => exact MEA.out
         case rel => exact NEXT.out
        ·skip
         have gc : w6.heap.size ≤ X54.heap.size := hHeld.2.size
         go_simp
         have eX59 : Below X54.heap.size X54 (X54.alloc (.cells #[] 3)) := (Below.refl _ _).alloc (Nat.le_refl _) _
         refine hK.out _ _ (HSt.out _ (also hHeld.2 eX59)) (fun hHeld => ?_)
         clear hK Kc
         obtain ⟨X59, hX59⟩ : ∃ q, q = X54.alloc (.cells #[] 3) := ⟨_, rfl⟩
         rw [← hX59] at hHeld eX59 ⊢
         have zX59 : X54.heap.size < X59.heap.size := by rw [hX59]; simp
         replace rC := rC.below eX59 lC
         replace lC : X0.heap.size < X59.heap.size := by omega
         replace oA := OwnS.below oA eX59
         have oB : Own X59 w6.heap.size 3 (some ⟨X54.heap.size, 0, none⟩) 0 0 [] := by rw [hX59]; exact own_new X54 w6.heap.size 3 (by omega)
         have apBC : ∀ k, Slot (some ⟨X54.heap.size, 0, none⟩) k → k ≠ X0.heap.size := fun k h => by have := Slot.eq h; omega
         have apAB : ∀ k, Slot (some ⟨X53.heap.size, 0, none⟩) k → ¬ Slot (some ⟨X54.heap.size, 0, none⟩) k := fun k h q => by have := lAX54 k h; have := Slot.eq q; omega
         have lAX59 : ∀ k, Slot (some ⟨X53.heap.size, 0, none⟩) k → k < X59.heap.size := fun k h => (OwnS.lt oA h).1
         have lBX59 : ∀ k, Slot (some ⟨X54.heap.size, 0, none⟩) k → k < X59.heap.size := fun k h => (OwnS.lt oB h).1
         clear hX59
         refine take_call (i := 5) rfl (by kernel_rfl) (fun Kc hK => ?_)
         refine step_append_S rfl (.tmp 103) (.tmp 107) 33 rfl w6.heap.size 3 i0 _ 1 8 Try.underlying33 hi0 hz0 hz1 hz2 rfl (by decide) (some ⟨X53.heap.size, 0, none⟩) 0 0 [] rfl oA ⟨pb, po + 1, none⟩ c2 _ (natC (cutA P c2)) rfl HLA.out (HNWA.out _ hHeld.2) (by first | exact natC_one _ | (intro t ht; simp at ht; subst ht; rfl)) (by unfold maxLen; omega) (by omega) hHeld.2.size ?_
         intro aX60 cX60 X60 hX60 gX60 sX60
         have kX60 : Keep (Slot (some ⟨X53.heap.size, 0, none⟩)) X59 X60 := Keep.grown (Keep.refl _ _) gX60 (fun k e => Or.inl (OwnS.slot oA e))
         refine hK.out _ _ (HSt.out _ (hHeld.2.trans (kX60.below hHeld.2.size (fun k h => (OwnS.lt oA h).2)))) (fun hHeld => ?_)
         clear hK Kc
         simp only [Act.put, List.setIfInBounds_toArray, List.set_cons_zero, List.set_cons_succ, Nat.zero_add]
         rw [List.nil_append, Nat.zero_add] at hX60
         have zX60 := kX60.size
         replace rC := Row.keep rC kX60 lC (fun h => apAC _ h rfl)
         replace lC : X0.heap.size < X60.heap.size := by omega
         replace apAC : ∀ k, Slot aX60 k → k ≠ X0.heap.size := fun k h e => (sX60 k h).elim (fun q => apAC k q e) (fun q => by omega)
         replace oB := OwnS.keep oB kX60 (fun k h q => apAB k q h)
         replace apAB : ∀ k, Slot aX60 k → ¬ Slot (some ⟨X54.heap.size, 0, none⟩) k := fun k q h => (sX60 k q).elim (fun q => apAB k q h) (fun q => by have := lBX59 k h; omega)
         replace oA := hX60
         have lAX60 : ∀ k, Slot (aX60) k → k < X60.heap.size := fun k h => (OwnS.lt oA h).1
         have lBX60 : ∀ k, Slot (some ⟨X54.heap.size, 0, none⟩) k → k < X60.heap.size := fun k h => (OwnS.lt oB h).1
         clear hX60 gX60 sX60 kX60
         refine take_call (i := 11) rfl (by kernel_rfl) (fun Kc hK => ?_)
         refine step_append_S rfl (.tmp 109) (.tmp 113) 33 rfl w6.heap.size 3 i0 _ 1 8 Try.underlying33 hi0 hz0 hz1 hz2 rfl (by decide) (some ⟨X54.heap.size, 0, none⟩) 0 0 [] rfl oB ⟨pb, po + c2, none⟩ (n - c2) _ (natC (P.drop c2)) rfl HLD.out (HNWB.out _ hHeld.2) (by first | exact natC_one _ | (intro t ht; simp at ht; subst ht; rfl)) (by unfold maxLen; omega) (by omega) hHeld.2.size ?_
         intro aX61 cX61 X61 hX61 gX61 sX61
         have kX61 : Keep (Slot (some ⟨X54.heap.size, 0, none⟩)) X60 X61 := Keep.grown (Keep.refl _ _) gX61 (fun k e => Or.inl (OwnS.slot oB e))
         refine hK.out _ _ (HSt.out _ (hHeld.2.trans (kX61.below hHeld.2.size (fun k h => (OwnS.lt oB h).2)))) (fun hHeld => ?_)
         clear hK Kc
         simp only [Act.put, List.setIfInBounds_toArray, List.set_cons_zero, List.set_cons_succ, Nat.zero_add]
         rw [List.nil_append, Nat.zero_add] at hX61
         have zX61 := kX61.size
         replace rC := Row.keep rC kX61 lC (fun h => apBC _ h rfl)
         replace lC : X0.heap.size < X61.heap.size := by omega
         replace apBC : ∀ k, Slot aX61 k → k ≠ X0.heap.size := fun k h e => (sX61 k h).elim (fun q => apBC k q e) (fun q => by omega)
         replace oA := OwnS.keep oA kX61 (fun k h q => apAB k h q)
         replace apAB : ∀ k, Slot (aX60) k → ¬ Slot aX61 k := fun k h q => (sX61 k q).elim (fun q => apAB k h q) (fun q => by have := lAX60 k h; omega)
         replace oB := hX61
         have lAX61 : ∀ k, Slot (aX60) k → k < X61.heap.size := fun k h => (OwnS.lt oA h).1
         have lBX61 : ∀ k, Slot (aX61) k → k < X61.heap.size := fun k h => (OwnS.lt oB h).1
         clear hX61 gX61 sX61 kX61
         refine take_call (i := 16) rfl (by kernel_rfl) (fun Kc hK => ?_)
         refine step_append_S rfl (.tmp 114) (.tmp 118) 33 rfl w6.heap.size 3 i0 _ 1 8 Try.underlying33 hi0 hz0 hz1 hz2 rfl (by decide) (aX61) (n - c2) cX61 (natC (P.drop c2)) rfl oB ⟨X0.heap.size, 0, none⟩ 1 _ [.int .i64 (x0 : Int)] rfl rfl (row_news rC) (by first | exact natC_one _ | (intro t ht; simp at ht; subst ht; rfl)) (by unfold maxLen; omega) (by omega) hHeld.2.size ?_
         intro aX62 cX62 X62 hX62 gX62 sX62
         have kX62 : Keep (Slot (aX61)) X61 X62 := Keep.grown (Keep.refl _ _) gX62 (fun k e => Or.inl (OwnS.slot oB e))
         refine hK.out _ _ (HSt.out _ (hHeld.2.trans (kX62.below hHeld.2.size (fun k h => (OwnS.lt oB h).2)))) (fun hHeld => ?_)
         clear hK Kc
         simp only [Act.put, List.setIfInBounds_toArray, List.set_cons_zero, List.set_cons_succ, Nat.zero_add]
         have zX62 := kX62.size
         replace rC := Row.keep rC kX62 lC (fun h => apBC _ h rfl)
         replace lC : X0.heap.size < X62.heap.size := by omega
         replace apBC : ∀ k, Slot aX62 k → k ≠ X0.heap.size := fun k h e => (sX62 k h).elim (fun q => apBC k q e) (fun q => by omega)
         replace oA := OwnS.keep oA kX62 (fun k h q => apAB k h q)
         replace apAB : ∀ k, Slot (aX60) k → ¬ Slot aX62 k := fun k h q => (sX62 k q).elim (fun q => apAB k h q) (fun q => by have := lAX61 k h; omega)
         replace oB := hX62
         have lAX62 : ∀ k, Slot (aX60) k → k < X62.heap.size := fun k h => (OwnS.lt oA h).1
         have lBX62 : ∀ k, Slot (aX62) k → k < X62.heap.size := fun k h => (OwnS.lt oB h).1
         clear hX62 gX62 sX62 kX62
         refine tz (i := 17) rfl ?_
         simp only [Act.put, ps1, ps2, ps3]
         refine tz (i := 18) rfl ?_
         simp only [Act.put, ps1, ps2, ps3]
         refine wpAnyH_done (by kernel_rfl) ?_ _
         have bL : Below w6.heap.size w6 X62 := hHeld.2
         have zL := bL.size
         have oA2 : Own X62 w6.heap.size 3 aX60 c2 cX60 (natC (cutA P c2)) := oA
         have oB2 : Own X62 w6.heap.size 3 aX62 (n - c2 + 1) cX62 (natC (cutB P c2)) := by rw [HCB.out] at oB; exact oB
         obtain ⟨ga, rfl, hga, hga2, sgA⟩ := OwnS.at oA2 (by omega)
         obtain ⟨gb, rfl, hgb, hgb2, sgB⟩ := OwnS.at oB2 (by omega)
         have rA := OwnS.room oA2
         have rB := OwnS.room oB2
         obtain ⟨xs, sx, hxl, hx1, hxe⟩ := (HWT6.out.below bL).ex
         have hxm : xs.length = m := by rw [hxl, List.length_take, HWN.out]; omega
         have hwl : wb < X62.heap.size := (HWT6.out.below bL).lt
         clear HSt hHeld oA2 oB2 oA oB
         have b1 : Below X62.heap.size X62 (X62.alloc (.cells #[] 33)) := (Below.refl _ _).alloc (Nat.le_refl _) _
         have owT : Own (X62.alloc (.cells #[] 33)) X62.heap.size 33 (some ⟨X62.heap.size, 0, none⟩) 0 0 [] := own_new X62 X62.heap.size 33 (Nat.le_refl _)
         have SW : Sl (X62.alloc (.cells #[] 33)) (some ⟨wb, 0, none⟩) m wc xs := ⟨hxm, by omega, hwc.2, (by intro e; cases e), Or.inr ⟨wb, 0, rfl, by simp; omega, sx.below b1 hwl⟩⟩
         go_wp2_with (at_builtin; first
          | (refine app_at _ rfl _ _ 35 rfl X62.heap.size 33 is _ 24 Try.underlying35 si0 sz0 sz1 sz2 rfl _ 0 0 _ rfl owT _ m wc xs rfl SW hx1 (by unfold maxLen; omega) (by omega) (by simp) ?_
             intro a7 c7 w7 h7 g7 s7
             have b7 : Below X62.heap.size X62 w7 := grown_low b1 (by simp) owT g7
             have z7 := b7.size
             have b8 : Below w7.heap.size w7 (w7.alloc (.cells #[.slice (some ⟨gb, 0, none⟩) (n - c2 + 1) cX62, .slice (some ⟨ga, 0, none⟩) c2 cX60] 33)) := (Below.refl _ _).alloc (Nat.le_refl _) _
             have S2 : Sl (w7.alloc (.cells #[.slice (some ⟨gb, 0, none⟩) (n - c2 + 1) cX62, .slice (some ⟨ga, 0, none⟩) c2 cX60] 33)) (some ⟨w7.heap.size, 0, none⟩) 2 2 [.slice (some ⟨gb, 0, none⟩) (n - c2 + 1) cX62, .slice (some ⟨ga, 0, none⟩) c2 cX60] := ⟨rfl, Nat.le_refl _, by unfold maxLen; omega, (by intro e; cases e), Or.inr ⟨_, 0, rfl, by simp, (Row.new w7 _ _).seg⟩⟩
             rw [List.nil_append, Nat.zero_add] at h7
             have owU := OwnS.below h7 b8
             clear owT SW g7 s7)
          | (refine app_at _ rfl _ _ 35 rfl X62.heap.size 33 is _ 24 Try.underlying35 si0 sz0 sz1 sz2 rfl a7 m c7 _ (by first | rfl | simp) owU _ 2 2 _ rfl S2 (by intro t ht; simp at ht; rcases ht with rfl | rfl <;> rfl) (by unfold maxLen; omega) (by omega) (by simp; omega) ?_
             intro a9 c9 w9 h9 g9 s9))
         have b9 : Below X62.heap.size X62 w9 := grown_low (also b7 b8) (by simp; omega) owU g9
         obtain ⟨g9b, rfl, hg9, hg92, sg9⟩ := OwnS.at h9 (by omega)
         have r9 := OwnS.room h9
         have NEXT : Hid (FillRel L nl w (leftN (st.take m ++ [cutB P c2, cutA P c2])) (.slice a6 (on + 1) c6) (.slice (some ⟨g9b, 0, none⟩) (m + 2) c9) w9) := by
          have b69 : Below w6.heap.size w6 w9 := also bL b9
          have e1 := HC2.out
          refine ⟨⟨_, O ++ [(x0, x1, x2)], a6, on + 1, c6, g9b, m + 2, c9, rfl, rfl, by rw [List.length_append, ← HON.out]; rfl, by rw [List.length_append, List.length_take, HWN.out]; show _ = min m (m + 1) + 2; omega, r9, rfl, HO6.out.below b69, ?_, by rw [e1]; exact HST.out.1⟩, also b06 b69⟩
          refine WtAt.push hxe hxl hx1 b9 LT6.out (B := w6.heap.size) ⟨hgb2, hga2, by omega⟩ hg9 (by rw [HCM.out, HCA.out]; exact sg9) ⟨Nat.lt_of_lt_of_le hgb b9.size, by rw [HCM.out]; exact rB.1, rB.2, sgB.below b9 hgb⟩ ⟨Nat.lt_of_lt_of_le hga b9.size, by rw [HCA.out]; exact rA.1, rA.2, sgA.below b9 hga⟩
         have MEA : Hid (leftN (st.take m ++ [cutB P c2, cutA P c2]) < gk) := by unfold Hid; rw [← HGK.out, HC2.out]; exact HST.out.2
         clear h9 g9 s9 S2 owU b8 h7 hxe sx hx1 sgA sgB sg9
         go_wp2
         go_roundg (leftN (st.take m ++ [cutB P c2, cutA P c2]))
         case measure => exact MEA.out
         case rel => exact NEXT.out
       ·skip
        have gc : w6.heap.size ≤ X53.heap.size := hHeld.2.size
        go_simp
        have eX63 : Below X53.heap.size X53 (X53.alloc (.cells #[] 3)) := (Below.refl _ _).alloc (Nat.le_refl _) _
        refine hK.out _ _ (HSt.out _ (also hHeld.2 eX63)) (fun hHeld => ?_)
        clear hK Kc
        obtain ⟨X63, hX63⟩ : ∃ q, q = X53.alloc (.cells #[] 3) := ⟨_, rfl⟩
        rw [← hX63] at hHeld eX63 ⊢
        have zX63 : X53.heap.size < X63.heap.size := by rw [hX63]; simp
        replace rC := rC.below eX63 lC
        replace lC : X0.heap.size < X63.heap.size := by omega
        have oB : Own X63 w6.heap.size 3 (some ⟨X53.heap.size, 0, none⟩) 0 0 [] := by rw [hX63]; exact own_new X53 w6.heap.size 3 (by omega)
        have apBC : ∀ k, Slot (some ⟨X53.heap.size, 0, none⟩) k → k ≠ X0.heap.size := fun k h => by have := Slot.eq h; omega
        have lBX63 : ∀ k, Slot (some ⟨X53.heap.size, 0, none⟩) k → k < X63.heap.size := fun k h => (OwnS.lt oB h).1
        clear hX63
        refine take_call (i := 0) rfl (by kernel_rfl) (fun Kc hK => ?_)
        have gc : w6.heap.size ≤ X63.heap.size := hHeld.2.size
        go_simp
        have eX64 : Below X63.heap.size X63 (X63.alloc (.cells #[] 3)) := (Below.refl _ _).alloc (Nat.le_refl _) _
        refine hK.out _ _ (HSt.out _ (also hHeld.2 eX64)) (fun hHeld => ?_)
        clear hK Kc
        obtain ⟨X64, hX64⟩ : ∃ q, q = X63.alloc (.cells #[] 3) := ⟨_, rfl⟩
        rw [← hX64] at hHeld eX64 ⊢
        have zX64 : X63.heap.size < X64.heap.size := by rw [hX64]; simp
        replace rC := rC.below eX64 lC
        replace lC : X0.heap.size < X64.heap.size := by omega
        replace oB := OwnS.below oB eX64
        have oA : Own X64 w6.heap.size 3 (some ⟨X63.heap.size, 0, none⟩) 0 0 [] := by rw [hX64]; exact own_new X63 w6.heap.size 3 (by omega)
        have apAC : ∀ k, Slot (some ⟨X63.heap.size, 0, none⟩) k → k ≠ X0.heap.size := fun k h => by have := Slot.eq h; omega
        have apAB : ∀ k, Slot (some ⟨X63.heap.size, 0, none⟩) k → ¬ Slot (some ⟨X53.heap.size, 0, none⟩) k := fun k q h => by have := lBX63 k h; have := Slot.eq q; omega
        have lBX64 : ∀ k, Slot (some ⟨X53.heap.size, 0, none⟩) k → k < X64.heap.size := fun k h => (OwnS.lt oB h).1
        have lAX64 : ∀ k, Slot (some ⟨X63.heap.size, 0, none⟩) k → k < X64.heap.size := fun k h => (OwnS.lt oA h).1
        clear hX64
        refine take_call (i := 5) rfl (by kernel_rfl) (fun Kc hK => ?_)
        refine step_append_S rfl (.tmp 103) (.tmp 107) 33 rfl w6.heap.size 3 i0 _ 1 8 Try.underlying33 hi0 hz0 hz1 hz2 rfl (by decide) (some ⟨X63.heap.size, 0, none⟩) 0 0 [] rfl oA ⟨pb, po + 1, none⟩ c2 _ (natC (cutA P c2)) rfl HLA.out (HNWA.out _ hHeld.2) (by first | exact natC_one _ | (intro t ht; simp at ht; subst ht; rfl)) (by unfold maxLen; omega) (by omega) hHeld.2.size ?_
        intro aX65 cX65 X65 hX65 gX65 sX65
        have kX65 : Keep (Slot (some ⟨X63.heap.size, 0, none⟩)) X64 X65 := Keep.grown (Keep.refl _ _) gX65 (fun k e => Or.inl (OwnS.slot oA e))
        refine hK.out _ _ (HSt.out _ (hHeld.2.trans (kX65.below hHeld.2.size (fun k h => (OwnS.lt oA h).2)))) (fun hHeld => ?_)
        clear hK Kc
        simp only [Act.put, List.setIfInBounds_toArray, List.set_cons_zero, List.set_cons_succ, Nat.zero_add]
        rw [List.nil_append, Nat.zero_add] at hX65
        have zX65 := kX65.size
        replace rC := Row.keep rC kX65 lC (fun h => apAC _ h rfl)
        replace lC : X0.heap.size < X65.heap.size := by omega
        replace apAC : ∀ k, Slot aX65 k → k ≠ X0.heap.size := fun k h e => (sX65 k h).elim (fun q => apAC k q e) (fun q => by omega)
        replace oB := OwnS.keep oB kX65 (fun k h q => apAB k q h)
        replace apAB : ∀ k, Slot aX65 k → ¬ Slot (some ⟨X53.heap.size, 0, none⟩) k := fun k q h => (sX65 k q).elim (fun q => apAB k q h) (fun q => by have := lBX64 k h; omega)
        replace oA := hX65
        have lBX65 : ∀ k, Slot (some ⟨X53.heap.size, 0, none⟩) k → k < X65.heap.size := fun k h => (OwnS.lt oB h).1
        have lAX65 : ∀ k, Slot (aX65) k → k < X65.heap.size := fun k h => (OwnS.lt oA h).1
        clear hX65 gX65 sX65 kX65
        refine take_call (i := 11) rfl (by kernel_rfl) (fun Kc hK => ?_)
        refine step_append_S rfl (.tmp 109) (.tmp 113) 33 rfl w6.heap.size 3 i0 _ 1 8 Try.underlying33 hi0 hz0 hz1 hz2 rfl (by decide) (some ⟨X53.heap.size, 0, none⟩) 0 0 [] rfl oB ⟨pb, po + c2, none⟩ (n - c2) _ (natC (P.drop c2)) rfl HLD.out (HNWB.out _ hHeld.2) (by first | exact natC_one _ | (intro t ht; simp at ht; subst ht; rfl)) (by unfold maxLen; omega) (by omega) hHeld.2.size ?_
        intro aX66 cX66 X66 hX66 gX66 sX66
        have kX66 : Keep (Slot (some ⟨X53.heap.size, 0, none⟩)) X65 X66 := Keep.grown (Keep.refl _ _) gX66 (fun k e => Or.inl (OwnS.slot oB e))
        refine hK.out _ _ (HSt.out _ (hHeld.2.trans (kX66.below hHeld.2.size (fun k h => (OwnS.lt oB h).2)))) (fun hHeld => ?_)
        clear hK Kc
        simp only [Act.put, List.setIfInBounds_toArray, List.set_cons_zero, List.set_cons_succ, Nat.zero_add]
        rw [List.nil_append, Nat.zero_add] at hX66
        have zX66 := kX66.size
        replace rC := Row.keep rC kX66 lC (fun h => apBC _ h rfl)
        replace lC : X0.heap.size < X66.heap.size := by omega
        replace apBC : ∀ k, Slot aX66 k → k ≠ X0.heap.size := fun k h e => (sX66 k h).elim (fun q => apBC k q e) (fun q => by omega)
        replace oA := OwnS.keep oA kX66 (fun k h q => apAB k h q)
        replace apAB : ∀ k, Slot (aX65) k → ¬ Slot aX66 k := fun k h q => (sX66 k q).elim (fun q => apAB k h q) (fun q => by have := lAX65 k h; omega)
        replace oB := hX66
        have lBX66 : ∀ k, Slot (aX66) k → k < X66.heap.size := fun k h => (OwnS.lt oB h).1
        have lAX66 : ∀ k, Slot (aX65) k → k < X66.heap.size := fun k h => (OwnS.lt oA h).1
        clear hX66 gX66 sX66 kX66
        refine take_call (i := 16) rfl (by kernel_rfl) (fun Kc hK => ?_)
        refine step_append_S rfl (.tmp 114) (.tmp 118) 33 rfl w6.heap.size 3 i0 _ 1 8 Try.underlying33 hi0 hz0 hz1 hz2 rfl (by decide) (aX66) (n - c2) cX66 (natC (P.drop c2)) rfl oB ⟨X0.heap.size, 0, none⟩ 1 _ [.int .i64 (x0 : Int)] rfl rfl (row_news rC) (by first | exact natC_one _ | (intro t ht; simp at ht; subst ht; rfl)) (by unfold maxLen; omega) (by omega) hHeld.2.size ?_
        intro aX67 cX67 X67 hX67 gX67 sX67
        have kX67 : Keep (Slot (aX66)) X66 X67 := Keep.grown (Keep.refl _ _) gX67 (fun k e => Or.inl (OwnS.slot oB e))
        refine hK.out _ _ (HSt.out _ (hHeld.2.trans (kX67.below hHeld.2.size (fun k h => (OwnS.lt oB h).2)))) (fun hHeld => ?_)
        clear hK Kc
        simp only [Act.put, List.setIfInBounds_toArray, List.set_cons_zero, List.set_cons_succ, Nat.zero_add]
        have zX67 := kX67.size
        replace rC := Row.keep rC kX67 lC (fun h => apBC _ h rfl)
        replace lC : X0.heap.size < X67.heap.size := by omega
        replace apBC : ∀ k, Slot aX67 k → k ≠ X0.heap.size := fun k h e => (sX67 k h).elim (fun q => apBC k q e) (fun q => by omega)
        replace oA := OwnS.keep oA kX67 (fun k h q => apAB k h q)
        replace apAB : ∀ k, Slot (aX65) k → ¬ Slot aX67 k := fun k h q => (sX67 k q).elim (fun q => apAB k h q) (fun q => by have := lAX66 k h; omega)
        replace oB := hX67
        have lBX67 : ∀ k, Slot (aX67) k → k < X67.heap.size := fun k h => (OwnS.lt oB h).1
        have lAX67 : ∀ k, Slot (aX65) k → k < X67.heap.size := fun k h => (OwnS.lt oA h).1
        clear hX67 gX67 sX67 kX67
        refine tz (i := 17) rfl ?_
        simp only [Act.put, ps1, ps2, ps3]
        refine tz (i := 18) rfl ?_
        simp only [Act.put, ps1, ps2, ps3]
        refine wpAnyH_done (by kernel_rfl) ?_ _
        have bL : Below w6.heap.size w6 X67 := hHeld.2
        have zL := bL.size
        have oA2 : Own X67 w6.heap.size 3 aX65 c2 cX65 (natC (cutA P c2)) := oA
        have oB2 : Own X67 w6.heap.size 3 aX67 (n - c2 + 1) cX67 (natC (cutB P c2)) := by rw [HCB.out] at oB; exact oB
        obtain ⟨ga, rfl, hga, hga2, sgA⟩ := OwnS.at oA2 (by omega)
        obtain ⟨gb, rfl, hgb, hgb2, sgB⟩ := OwnS.at oB2 (by omega)
        have rA := OwnS.room oA2
        have rB := OwnS.room oB2
        obtain ⟨xs, sx, hxl, hx1, hxe⟩ := (HWT6.out.below bL).ex
        have hxm : xs.length = m := by rw [hxl, List.length_take, HWN.out]; omega
        have hwl : wb < X67.heap.size := (HWT6.out.below bL).lt
        clear HSt hHeld oA2 oB2 oA oB
        have b1 : Below X67.heap.size X67 (X67.alloc (.cells #[] 33)) := (Below.refl _ _).alloc (Nat.le_refl _) _
        have owT : Own (X67.alloc (.cells #[] 33)) X67.heap.size 33 (some ⟨X67.heap.size, 0, none⟩) 0 0 [] := own_new X67 X67.heap.size 33 (Nat.le_refl _)
        have SW : Sl (X67.alloc (.cells #[] 33)) (some ⟨wb, 0, none⟩) m wc xs := ⟨hxm, by omega, hwc.2, (by intro e; cases e), Or.inr ⟨wb, 0, rfl, by simp; omega, sx.below b1 hwl⟩⟩
        go_wp2_with (at_builtin; first
         | (refine app_at _ rfl _ _ 35 rfl X67.heap.size 33 is _ 24 Try.underlying35 si0 sz0 sz1 sz2 rfl _ 0 0 _ rfl owT _ m wc xs rfl SW hx1 (by unfold maxLen; omega) (by omega) (by simp) ?_
            intro a7 c7 w7 h7 g7 s7
            have b7 : Below X67.heap.size X67 w7 := grown_low b1 (by simp) owT g7
            have z7 := b7.size
            have b8 : Below w7.heap.size w7 (w7.alloc (.cells #[.slice (some ⟨gb, 0, none⟩) (n - c2 + 1) cX67, .slice (some ⟨ga, 0, none⟩) c2 cX65] 33)) := (Below.refl _ _).alloc (Nat.le_refl _) _
            have S2 : Sl (w7.alloc (.cells #[.slice (some ⟨gb, 0, none⟩) (n - c2 + 1) cX67, .slice (some ⟨ga, 0, none⟩) c2 cX65] 33)) (some ⟨w7.heap.size, 0, none⟩) 2 2 [.slice (some ⟨gb, 0, none⟩) (n - c2 + 1) cX67, .slice (some ⟨ga, 0, none⟩) c2 cX65] := ⟨rfl, Nat.le_refl _, by unfold maxLen; omega, (by intro e; cases e), Or.inr ⟨_, 0, rfl, by simp, (Row.new w7 _ _).seg⟩⟩
            rw [List.nil_append, Nat.zero_add] at h7
            have owU := OwnS.below h7 b8
            clear owT SW g7 s7)
         | (refine app_at _ rfl _ _ 35 rfl X67.heap.size 33 is _ 24 Try.underlying35 si0 sz0 sz1 sz2 rfl a7 m c7 _ (by first | rfl | simp) owU _ 2 2 _ rfl S2 (by intro t ht; simp at ht; rcases ht with rfl | rfl <;> rfl) (by unfold maxLen; omega) (by omega) (by simp; omega) ?_
            intro a9 c9 w9 h9 g9 s9))
        have b9 : Below X67.heap.size X67 w9 := grown_low (also b7 b8) (by simp; omega) owU g9
        obtain ⟨g9b, rfl, hg9, hg92, sg9⟩ := OwnS.at h9 (by omega)
        have r9 := OwnS.room h9
        have NEXT : Hid (FillRel L nl w (leftN (st.take m ++ [cutB P c2, cutA P c2])) (.slice a6 (on + 1) c6) (.slice (some ⟨g9b, 0, none⟩) (m + 2) c9) w9) := by
         have b69 : Below w6.heap.size w6 w9 := also bL b9
         have e1 := HC2.out
         refine ⟨⟨_, O ++ [(x0, x1, x2)], a6, on + 1, c6, g9b, m + 2, c9, rfl, rfl, by rw [List.length_append, ← HON.out]; rfl, by rw [List.length_append, List.length_take, HWN.out]; show _ = min m (m + 1) + 2; omega, r9, rfl, HO6.out.below b69, ?_, by rw [e1]; exact HST.out.1⟩, also b06 b69⟩
         refine WtAt.push hxe hxl hx1 b9 LT6.out (B := w6.heap.size) ⟨hgb2, hga2, by omega⟩ hg9 (by rw [HCM.out, HCA.out]; exact sg9) ⟨Nat.lt_of_lt_of_le hgb b9.size, by rw [HCM.out]; exact rB.1, rB.2, sgB.below b9 hgb⟩ ⟨Nat.lt_of_lt_of_le hga b9.size, by rw [HCA.out]; exact rA.1, rA.2, sgA.below b9 hga⟩
        have MEA : Hid (leftN (st.take m ++ [cutB P c2, cutA P c2]) < gk) := by unfold Hid; rw [← HGK.out, HC2.out]; exact HST.out.2
        clear h9 g9 s9 S2 owU b8 h7 hxe sx hx1 sgA sgB sg9
        go_wp2
        go_roundg (leftN (st.take m ++ [cutB P c2, cutA P c2]))
        case measure => exact MEA.out
        case rel => exact NEXT.out
end Go.Proofs.Ytkmgndaholglhaa
