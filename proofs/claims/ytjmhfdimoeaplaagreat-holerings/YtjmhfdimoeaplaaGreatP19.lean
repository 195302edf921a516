/-
  Joined texts, part 19:
  What package tie's conflictOnCircle answers.
  What package tie's Conflict answers.
-/
import Derived.Test.YtjmhfdimoeaplaaGreatP18
namespace Go.Proofs.YtjmhfdimoeaplaaGreat
open Go.RowKit
set_option linter.unusedVariables false
theorem idxP0(a1 a2 b1 b2 c1 c2:Int)(w:World):(Instr.index 202 (.agg #[.int .i64 a1, .int .i64 a2, .int .i64 b1, .int .i64 b2, .int .i64 c1, .int .i64 c2]) (.int .i64 0)).run Tryz.prog w= .ok (.agg #[.int .i64 a1, .int .i64 a2]) w:=by show _=_;kernel_rfl
theorem idxP1(a1 a2 b1 b2 c1 c2:Int)(w:World):(Instr.index 202 (.agg #[.int .i64 a1, .int .i64 a2, .int .i64 b1, .int .i64 b2, .int .i64 c1, .int .i64 c2]) (.int .i64 1)).run Tryz.prog w= .ok (.agg #[.int .i64 b1, .int .i64 b2]) w:=by show _=_;kernel_rfl
theorem idxP2(a1 a2 b1 b2 c1 c2:Int)(w:World):(Instr.index 202 (.agg #[.int .i64 a1, .int .i64 a2, .int .i64 b1, .int .i64 b2, .int .i64 c1, .int .i64 c2]) (.int .i64 2)).run Tryz.prog w= .ok (.agg #[.int .i64 c1, .int .i64 c2]) w:=by show _=_;kernel_rfl
theorem cmp_yes{x y z t:Int}(h:ltQ (z,t) (x,y)=true):0<cmpP x y z t:=of_decide_eq_true ((cmp_last x y z t).trans h)
theorem cmp_not{x y z t:Int}(h:ltQ (z,t) (x,y)=false): ¬0<cmpP x y z t:=of_decide_eq_false ((cmp_last x y z t).trans h)
theorem cmp_self(x y:Int): ¬0<cmpP x y x y:=cmp_not (lt_irr _)
set_option maxRecDepth 100000 in
set_option maxHeartbeats 8000000 in
theorem tOn(a1 a2 b1 b2 c1 c2 d1 d2:Int)(w:World){r:Bool}(hr:r=ocQ (a1,a2) (b1,b2) (c1,c2) (d1,d2)):
  Calls Tryz.prog 166 #[.agg #[.int .i64 a1, .int .i64 a2, .int .i64 b1, .int .i64 b2, .int .i64 c1, .int .i64 c2], .agg #[.int .i64 d1, .int .i64 d2]] w fun e w'=>e= .returned (.bool r)∧Below w.heap.size w w':=by
 unfold ocQ at hr
 cases hab:ltQ (a1,a2) (b1,b2)
 ·skip
  simp only [hab,if_false,Bool.false_eq_true]at hr
  cases hmc:ltQ (a1,a2) (c1,c2)
  ·simp only [hmc,if_false,Bool.false_eq_true]at hr
   obtain⟨W,hW,bW,x_t,x_d,sW⟩:=bs_62 w (.int .i64 a1) (.int .i64 a2) (.int .i64 b1) (.int .i64 b2) (.int .i64 c1) (.int .i64 c2) (.int .i64 d1) (.int .i64 d2) 202 24
   have zbW:=bW.size
   have BB:=bW
   go_enter Tryz.func166,Tryz.ntmps166
   go_wp2
   rw [←hW]
   clear hW
   go_loopw [5,9] (fun l i wr=>((i= .int .i64 0∧l= .int .i64 0)∨(i= .int .i64 1∧l= .int .i64 0)∨(i= .int .i64 2∧l= .int .i64 0)∨(i= .int .i64 3∧l= .int .i64 0))∧B6 wr w.heap.size (.int .i64 a1) (.int .i64 a2) (.int .i64 b1) (.int .i64 b2) (.int .i64 c1) (.int .i64 c2)∧Bx wr (w.heap.size+1) (.int .i64 d1) (.int .i64 d2)∧Below w.heap.size w wr) (fun _ i _=>3- (RowKit.intOf i).toNat)
   case atStart=>exact⟨Or.inl ⟨rfl,rfl⟩,x_t,x_d,BB⟩
   case round=>
    obtain⟨hki,xt,xd,bel⟩:=hrel
    clear x_t x_d BB
    rcases hki with⟨rfl,rfl⟩|⟨rfl,rfl⟩|⟨rfl,rfl⟩|⟨rfl,rfl⟩
    ·skip
     have x_t:=xt
     have x_d:=xd
     have BB:=bel
     clear xt xd bel
     have zt:=b6_lt x_t
     have zd:=bx_lt x_d
     have EI:=idxP0 a1 a2 b1 b2 c1 c2
     obtain⟨g,hg⟩: ∃ g,g=cmpP a1 a2 a1 a2:=⟨_,rfl⟩
     have pg:(0<g)=False:=by rw [hg];exact eq_false (cmp_self _ _)
     have Gg:Hid _:=hg
     clear hg
     obtain⟨V,hV,bV,x_p,sV⟩:=bs_2 wr (.int .i64 a1) (.int .i64 a2) 24
     have zbV:=bV.size
     replace x_t:=x_t.on bV
     replace x_d:=x_d.on bV
     replace BB:=also BB bV
     go_wp2
     rw [←hV]
     clear hV
     have dd1:Below V.heap.size V V.drew:=(Below.refl _ _).drew
     have zdd1:=dd1.size
     replace x_t:=x_t.on dd1
     replace x_d:=x_d.on dd1
     replace BB:=also BB dd1
     replace x_p:=x_p.on dd1
     refine wp_region_held_drew (S:=(fun w'=>w'.cell? ⟨wr.heap.size,0,none⟩=some (.int .i64 a1)∧w'.cell? ⟨wr.heap.size,1,none⟩=some (.int .i64 a2)∧w'.cell? ⟨w.heap.size,0,none⟩=some (.int .i64 a1)∧w'.cell? ⟨w.heap.size,1,none⟩=some (.int .i64 a2)∧w'.cell? ⟨w.heap.size,2,none⟩=some (.int .i64 b1)∧w'.cell? ⟨w.heap.size,3,none⟩=some (.int .i64 b2)∧w'.cell? ⟨w.heap.size,4,none⟩=some (.int .i64 c1)∧w'.cell? ⟨w.heap.size,5,none⟩=some (.int .i64 c2)∧Below w.heap.size w w')) (by kernel_rfl) ?_ (fun hHeld=>?_)
     ·exact⟨x_p.c0,x_p.c1,x_t.c0,x_t.c1,x_t.c2,x_t.c3,x_t.c4,x_t.c5,BB⟩
     refine tn 0 ?_;refine tn 1 ?_;refine tn 2 ?_;refine tn 3 ?_
     simp only [Go.Act.put,ps1,ps2,ps3]
     refine tcl 4 fun Kc hK=>?_
     go_simp
     (go_at_call 215;refine(lCmp a1 a2 a1 a2 _ Gg.out).mono ?_;rintro e w1 ⟨rfl,bw1⟩)
     refine hK.out _ _ ?_ (fun hHeld=>?_)
     ·exact⟨cell_on bw1 hHeld.1,cell_on bw1 hHeld.2.1,cell_on bw1 hHeld.2.2.1,cell_on bw1 hHeld.2.2.2.1,cell_on bw1 hHeld.2.2.2.2.1,cell_on bw1 hHeld.2.2.2.2.2.1,cell_on bw1 hHeld.2.2.2.2.2.2.1,cell_on bw1 hHeld.2.2.2.2.2.2.2.1,also hHeld.2.2.2.2.2.2.2.2 bw1⟩
     clear hK Kc
     have zbw1:=bw1.size
     replace x_t:=x_t.on bw1
     replace x_d:=x_d.on bw1
     replace BB:=also BB bw1
     replace x_p:=x_p.on bw1
     refine tz (i:=5) rfl ?_
     simp only [Go.Act.put,ps1,ps2,ps3]
     refine wpAnyH_done (by kernel_rfl) ?_ _
     go_wp2
     go_roundw
     case rel=>exact⟨Or.inr (Or.inl ⟨rfl,rfl⟩),x_t,x_d,BB⟩
     case measure=>simp [RowKit.intOf]
    ·skip
     have x_t:=xt
     have x_d:=xd
     have BB:=bel
     clear xt xd bel
     have zt:=b6_lt x_t
     have zd:=bx_lt x_d
     have EI:=idxP1 a1 a2 b1 b2 c1 c2
     obtain⟨g,hg⟩: ∃ g,g=cmpP b1 b2 a1 a2:=⟨_,rfl⟩
     have pg:(0<g)=False:=by rw [hg];exact eq_false (cmp_not hab)
     have Gg:Hid _:=hg
     clear hg
     obtain⟨V,hV,bV,x_p,sV⟩:=bs_2 wr (.int .i64 b1) (.int .i64 b2) 24
     have zbV:=bV.size
     replace x_t:=x_t.on bV
     replace x_d:=x_d.on bV
     replace BB:=also BB bV
     go_wp2
     rw [←hV]
     clear hV
     have dd1:Below V.heap.size V V.drew:=(Below.refl _ _).drew
     have zdd1:=dd1.size
     replace x_t:=x_t.on dd1
     replace x_d:=x_d.on dd1
     replace BB:=also BB dd1
     replace x_p:=x_p.on dd1
     refine wp_region_held_drew (S:=(fun w'=>w'.cell? ⟨wr.heap.size,0,none⟩=some (.int .i64 b1)∧w'.cell? ⟨wr.heap.size,1,none⟩=some (.int .i64 b2)∧w'.cell? ⟨w.heap.size,0,none⟩=some (.int .i64 a1)∧w'.cell? ⟨w.heap.size,1,none⟩=some (.int .i64 a2)∧w'.cell? ⟨w.heap.size,2,none⟩=some (.int .i64 b1)∧w'.cell? ⟨w.heap.size,3,none⟩=some (.int .i64 b2)∧w'.cell? ⟨w.heap.size,4,none⟩=some (.int .i64 c1)∧w'.cell? ⟨w.heap.size,5,none⟩=some (.int .i64 c2)∧Below w.heap.size w w')) (by kernel_rfl) ?_ (fun hHeld=>?_)
     ·exact⟨x_p.c0,x_p.c1,x_t.c0,x_t.c1,x_t.c2,x_t.c3,x_t.c4,x_t.c5,BB⟩
     refine tn 0 ?_;refine tn 1 ?_;refine tn 2 ?_;refine tn 3 ?_
     simp only [Go.Act.put,ps1,ps2,ps3]
     refine tcl 4 fun Kc hK=>?_
     go_simp
     (go_at_call 215;refine(lCmp b1 b2 a1 a2 _ Gg.out).mono ?_;rintro e w1 ⟨rfl,bw1⟩)
     refine hK.out _ _ ?_ (fun hHeld=>?_)
     ·exact⟨cell_on bw1 hHeld.1,cell_on bw1 hHeld.2.1,cell_on bw1 hHeld.2.2.1,cell_on bw1 hHeld.2.2.2.1,cell_on bw1 hHeld.2.2.2.2.1,cell_on bw1 hHeld.2.2.2.2.2.1,cell_on bw1 hHeld.2.2.2.2.2.2.1,cell_on bw1 hHeld.2.2.2.2.2.2.2.1,also hHeld.2.2.2.2.2.2.2.2 bw1⟩
     clear hK Kc
     have zbw1:=bw1.size
     replace x_t:=x_t.on bw1
     replace x_d:=x_d.on bw1
     replace BB:=also BB bw1
     replace x_p:=x_p.on bw1
     refine tz (i:=5) rfl ?_
     simp only [Go.Act.put,ps1,ps2,ps3]
     refine wpAnyH_done (by kernel_rfl) ?_ _
     go_wp2
     go_roundw
     case rel=>exact⟨Or.inr (Or.inr (Or.inl ⟨rfl,rfl⟩)),x_t,x_d,BB⟩
     case measure=>simp [RowKit.intOf]
    ·skip
     have x_t:=xt
     have x_d:=xd
     have BB:=bel
     clear xt xd bel
     have zt:=b6_lt x_t
     have zd:=bx_lt x_d
     have EI:=idxP2 a1 a2 b1 b2 c1 c2
     obtain⟨g,hg⟩: ∃ g,g=cmpP c1 c2 a1 a2:=⟨_,rfl⟩
     have pg:(0<g)=False:=by rw [hg];exact eq_false (cmp_not hmc)
     have Gg:Hid _:=hg
     clear hg
     obtain⟨V,hV,bV,x_p,sV⟩:=bs_2 wr (.int .i64 c1) (.int .i64 c2) 24
     have zbV:=bV.size
     replace x_t:=x_t.on bV
     replace x_d:=x_d.on bV
     replace BB:=also BB bV
     go_wp2
     rw [←hV]
     clear hV
     have dd1:Below V.heap.size V V.drew:=(Below.refl _ _).drew
     have zdd1:=dd1.size
     replace x_t:=x_t.on dd1
     replace x_d:=x_d.on dd1
     replace BB:=also BB dd1
     replace x_p:=x_p.on dd1
     refine wp_region_held_drew (S:=(fun w'=>w'.cell? ⟨wr.heap.size,0,none⟩=some (.int .i64 c1)∧w'.cell? ⟨wr.heap.size,1,none⟩=some (.int .i64 c2)∧w'.cell? ⟨w.heap.size,0,none⟩=some (.int .i64 a1)∧w'.cell? ⟨w.heap.size,1,none⟩=some (.int .i64 a2)∧w'.cell? ⟨w.heap.size,2,none⟩=some (.int .i64 b1)∧w'.cell? ⟨w.heap.size,3,none⟩=some (.int .i64 b2)∧w'.cell? ⟨w.heap.size,4,none⟩=some (.int .i64 c1)∧w'.cell? ⟨w.heap.size,5,none⟩=some (.int .i64 c2)∧Below w.heap.size w w')) (by kernel_rfl) ?_ (fun hHeld=>?_)
     ·exact⟨x_p.c0,x_p.c1,x_t.c0,x_t.c1,x_t.c2,x_t.c3,x_t.c4,x_t.c5,BB⟩
     refine tn 0 ?_;refine tn 1 ?_;refine tn 2 ?_;refine tn 3 ?_
     simp only [Go.Act.put,ps1,ps2,ps3]
     refine tcl 4 fun Kc hK=>?_
     go_simp
     (go_at_call 215;refine(lCmp c1 c2 a1 a2 _ Gg.out).mono ?_;rintro e w1 ⟨rfl,bw1⟩)
     refine hK.out _ _ ?_ (fun hHeld=>?_)
     ·exact⟨cell_on bw1 hHeld.1,cell_on bw1 hHeld.2.1,cell_on bw1 hHeld.2.2.1,cell_on bw1 hHeld.2.2.2.1,cell_on bw1 hHeld.2.2.2.2.1,cell_on bw1 hHeld.2.2.2.2.2.1,cell_on bw1 hHeld.2.2.2.2.2.2.1,cell_on bw1 hHeld.2.2.2.2.2.2.2.1,also hHeld.2.2.2.2.2.2.2.2 bw1⟩
     clear hK Kc
     have zbw1:=bw1.size
     replace x_t:=x_t.on bw1
     replace x_d:=x_d.on bw1
     replace BB:=also BB bw1
     replace x_p:=x_p.on bw1
     refine tz (i:=5) rfl ?_
     simp only [Go.Act.put,ps1,ps2,ps3]
     refine wpAnyH_done (by kernel_rfl) ?_ _
     go_wp2
     go_roundw
     case rel=>exact⟨Or.inr (Or.inr (Or.inr (⟨rfl,rfl⟩))),x_t,x_d,BB⟩
     case measure=>simp [RowKit.intOf]
    ·skip
     have x_t:=xt
     have x_d:=xd
     have BB:=bel
     clear xt xd bel
     have zt:=b6_lt x_t
     have zd:=bx_lt x_d
     cases hD:ltQ (a1,a2) (d1,d2)
     ·skip
      have hl:r=decide ((arP d1 d2 b1 b2 c1 c2).sign=1):=by rw [hr,hD];rfl
      obtain⟨s,hs⟩: ∃ s,s=(arP d1 d2 b1 b2 c1 c2).sign:=⟨_,rfl⟩
      rw [←hs]at hl
      have HS:Hid _:=hs
      have HL:Hid _:=hl
      clear hs hl hr
      obtain⟨g,hg⟩: ∃ g,g=cmpP d1 d2 a1 a2:=⟨_,rfl⟩
      have pg:(0<g)=False:=by rw [hg];exact eq_false (cmp_not hD)
      have Gg:Hid _:=hg
      clear hg
      go_wp2
      have dd1:Below wr.heap.size wr wr.drew:=(Below.refl _ _).drew
      have zdd1:=dd1.size
      replace x_t:=x_t.on dd1
      replace x_d:=x_d.on dd1
      replace BB:=also BB dd1
      refine wp_region_held_drew (S:=(fun w'=>w'.cell? ⟨w.heap.size+1,0,none⟩=some (.int .i64 d1)∧w'.cell? ⟨w.heap.size+1,1,none⟩=some (.int .i64 d2)∧w'.cell? ⟨w.heap.size,0,none⟩=some (.int .i64 a1)∧w'.cell? ⟨w.heap.size,1,none⟩=some (.int .i64 a2)∧w'.cell? ⟨w.heap.size,2,none⟩=some (.int .i64 b1)∧w'.cell? ⟨w.heap.size,3,none⟩=some (.int .i64 b2)∧w'.cell? ⟨w.heap.size,4,none⟩=some (.int .i64 c1)∧w'.cell? ⟨w.heap.size,5,none⟩=some (.int .i64 c2)∧Below w.heap.size w w')) (by kernel_rfl) ?_ (fun hHeld=>?_)
      ·exact⟨x_d.c0,x_d.c1,x_t.c0,x_t.c1,x_t.c2,x_t.c3,x_t.c4,x_t.c5,BB⟩
      refine tn 0 ?_;refine tn 1 ?_;refine tn 2 ?_;refine tn 3 ?_
      simp only [Go.Act.put,ps1,ps2,ps3]
      refine tcl 4 fun Kc hK=>?_
      go_simp
      (go_at_call 215;refine(lCmp d1 d2 a1 a2 _ Gg.out).mono ?_;rintro e w1 ⟨rfl,bw1⟩)
      refine hK.out _ _ ?_ (fun hHeld=>?_)
      ·exact⟨cell_on bw1 hHeld.1,cell_on bw1 hHeld.2.1,cell_on bw1 hHeld.2.2.1,cell_on bw1 hHeld.2.2.2.1,cell_on bw1 hHeld.2.2.2.2.1,cell_on bw1 hHeld.2.2.2.2.2.1,cell_on bw1 hHeld.2.2.2.2.2.2.1,cell_on bw1 hHeld.2.2.2.2.2.2.2.1,also hHeld.2.2.2.2.2.2.2.2 bw1⟩
      clear hK Kc
      have zbw1:=bw1.size
      replace x_t:=x_t.on bw1
      replace x_d:=x_d.on bw1
      replace BB:=also BB bw1
      refine tz (i:=5) rfl ?_
      simp only [Go.Act.put,ps1,ps2,ps3]
      refine wpAnyH_done (by kernel_rfl) ?_ _
      have⟨x_t_0,x_t_1,x_t_2,x_t_3,x_t_4,x_t_5,x_t_6,x_t_7,x_t_8,x_t_9,x_t_10,x_t_11⟩:=x_t
      have⟨x_d_0,x_d_1,x_d_2,x_d_3⟩:=x_d
      go_wp2_with (go_at_call 126;fail)
      have B2:Below w.heap.size w ((w1.setCell ⟨w.heap.size,0,none⟩ (.int .i64 d1)).setCell ⟨w.heap.size,1,none⟩ (.int .i64 d2)):=(BB.setCell (Nat.le_refl _) _).setCell (Nat.le_refl _) _
      refine(pOrient d1 d2 b1 b2 c1 c2 _ HS.out).mono ?_
      rintro e w2 ⟨rfl,b2⟩
      go_wp2
      go_ret
      exact⟨by rw [HL.out];rfl,also B2 b2⟩
     ·skip
      obtain rfl:r=false:=by rw [hr,hD];rfl
      clear hr
      obtain⟨g,hg⟩: ∃ g,g=cmpP d1 d2 a1 a2:=⟨_,rfl⟩
      have pg:(0<g)=True:=by rw [hg];exact eq_true (cmp_yes hD)
      have Gg:Hid _:=hg
      clear hg
      go_wp2
      have dd1:Below wr.heap.size wr wr.drew:=(Below.refl _ _).drew
      have zdd1:=dd1.size
      replace x_t:=x_t.on dd1
      replace x_d:=x_d.on dd1
      replace BB:=also BB dd1
      refine wp_region_held_drew (S:=(fun w'=>w'.cell? ⟨w.heap.size+1,0,none⟩=some (.int .i64 d1)∧w'.cell? ⟨w.heap.size+1,1,none⟩=some (.int .i64 d2)∧w'.cell? ⟨w.heap.size,0,none⟩=some (.int .i64 a1)∧w'.cell? ⟨w.heap.size,1,none⟩=some (.int .i64 a2)∧w'.cell? ⟨w.heap.size,2,none⟩=some (.int .i64 b1)∧w'.cell? ⟨w.heap.size,3,none⟩=some (.int .i64 b2)∧w'.cell? ⟨w.heap.size,4,none⟩=some (.int .i64 c1)∧w'.cell? ⟨w.heap.size,5,none⟩=some (.int .i64 c2)∧Below w.heap.size w w')) (by kernel_rfl) ?_ (fun hHeld=>?_)
      ·exact⟨x_d.c0,x_d.c1,x_t.c0,x_t.c1,x_t.c2,x_t.c3,x_t.c4,x_t.c5,BB⟩
      refine tn 0 ?_;refine tn 1 ?_;refine tn 2 ?_;refine tn 3 ?_
      simp only [Go.Act.put,ps1,ps2,ps3]
      refine tcl 4 fun Kc hK=>?_
      go_simp
      (go_at_call 215;refine(lCmp d1 d2 a1 a2 _ Gg.out).mono ?_;rintro e w1 ⟨rfl,bw1⟩)
      refine hK.out _ _ ?_ (fun hHeld=>?_)
      ·exact⟨cell_on bw1 hHeld.1,cell_on bw1 hHeld.2.1,cell_on bw1 hHeld.2.2.1,cell_on bw1 hHeld.2.2.2.1,cell_on bw1 hHeld.2.2.2.2.1,cell_on bw1 hHeld.2.2.2.2.2.1,cell_on bw1 hHeld.2.2.2.2.2.2.1,cell_on bw1 hHeld.2.2.2.2.2.2.2.1,also hHeld.2.2.2.2.2.2.2.2 bw1⟩
      clear hK Kc
      have zbw1:=bw1.size
      replace x_t:=x_t.on bw1
      replace x_d:=x_d.on bw1
      replace BB:=also BB bw1
      refine tz (i:=5) rfl ?_
      simp only [Go.Act.put,ps1,ps2,ps3]
      refine wpAnyH_done (by kernel_rfl) ?_ _
      go_wp2
      go_ret
      exact⟨rfl,BB⟩
  ·simp only [hmc,if_true]at hr
   obtain⟨W,hW,bW,x_t,x_d,sW⟩:=bs_62 w (.int .i64 a1) (.int .i64 a2) (.int .i64 b1) (.int .i64 b2) (.int .i64 c1) (.int .i64 c2) (.int .i64 d1) (.int .i64 d2) 202 24
   have zbW:=bW.size
   have BB:=bW
   go_enter Tryz.func166,Tryz.ntmps166
   go_wp2
   rw [←hW]
   clear hW
   go_loopw [5,9] (fun l i wr=>((i= .int .i64 0∧l= .int .i64 0)∨(i= .int .i64 1∧l= .int .i64 0)∨(i= .int .i64 2∧l= .int .i64 0)∨(i= .int .i64 3∧l= .int .i64 2))∧B6 wr w.heap.size (.int .i64 a1) (.int .i64 a2) (.int .i64 b1) (.int .i64 b2) (.int .i64 c1) (.int .i64 c2)∧Bx wr (w.heap.size+1) (.int .i64 d1) (.int .i64 d2)∧Below w.heap.size w wr) (fun _ i _=>3- (RowKit.intOf i).toNat)
   case atStart=>exact⟨Or.inl ⟨rfl,rfl⟩,x_t,x_d,BB⟩
   case round=>
    obtain⟨hki,xt,xd,bel⟩:=hrel
    clear x_t x_d BB
    rcases hki with⟨rfl,rfl⟩|⟨rfl,rfl⟩|⟨rfl,rfl⟩|⟨rfl,rfl⟩
    ·skip
     have x_t:=xt
     have x_d:=xd
     have BB:=bel
     clear xt xd bel
     have zt:=b6_lt x_t
     have zd:=bx_lt x_d
     have EI:=idxP0 a1 a2 b1 b2 c1 c2
     obtain⟨g,hg⟩: ∃ g,g=cmpP a1 a2 a1 a2:=⟨_,rfl⟩
     have pg:(0<g)=False:=by rw [hg];exact eq_false (cmp_self _ _)
     have Gg:Hid _:=hg
     clear hg
     obtain⟨V,hV,bV,x_p,sV⟩:=bs_2 wr (.int .i64 a1) (.int .i64 a2) 24
     have zbV:=bV.size
     replace x_t:=x_t.on bV
     replace x_d:=x_d.on bV
     replace BB:=also BB bV
     go_wp2
     rw [←hV]
     clear hV
     have dd1:Below V.heap.size V V.drew:=(Below.refl _ _).drew
     have zdd1:=dd1.size
     replace x_t:=x_t.on dd1
     replace x_d:=x_d.on dd1
     replace BB:=also BB dd1
     replace x_p:=x_p.on dd1
     refine wp_region_held_drew (S:=(fun w'=>w'.cell? ⟨wr.heap.size,0,none⟩=some (.int .i64 a1)∧w'.cell? ⟨wr.heap.size,1,none⟩=some (.int .i64 a2)∧w'.cell? ⟨w.heap.size,0,none⟩=some (.int .i64 a1)∧w'.cell? ⟨w.heap.size,1,none⟩=some (.int .i64 a2)∧w'.cell? ⟨w.heap.size,2,none⟩=some (.int .i64 b1)∧w'.cell? ⟨w.heap.size,3,none⟩=some (.int .i64 b2)∧w'.cell? ⟨w.heap.size,4,none⟩=some (.int .i64 c1)∧w'.cell? ⟨w.heap.size,5,none⟩=some (.int .i64 c2)∧Below w.heap.size w w')) (by kernel_rfl) ?_ (fun hHeld=>?_)
     ·exact⟨x_p.c0,x_p.c1,x_t.c0,x_t.c1,x_t.c2,x_t.c3,x_t.c4,x_t.c5,BB⟩
     refine tn 0 ?_;refine tn 1 ?_;refine tn 2 ?_;refine tn 3 ?_
     simp only [Go.Act.put,ps1,ps2,ps3]
     refine tcl 4 fun Kc hK=>?_
     go_simp
     (go_at_call 215;refine(lCmp a1 a2 a1 a2 _ Gg.out).mono ?_;rintro e w1 ⟨rfl,bw1⟩)
     refine hK.out _ _ ?_ (fun hHeld=>?_)
     ·exact⟨cell_on bw1 hHeld.1,cell_on bw1 hHeld.2.1,cell_on bw1 hHeld.2.2.1,cell_on bw1 hHeld.2.2.2.1,cell_on bw1 hHeld.2.2.2.2.1,cell_on bw1 hHeld.2.2.2.2.2.1,cell_on bw1 hHeld.2.2.2.2.2.2.1,cell_on bw1 hHeld.2.2.2.2.2.2.2.1,also hHeld.2.2.2.2.2.2.2.2 bw1⟩
     clear hK Kc
     have zbw1:=bw1.size
     replace x_t:=x_t.on bw1
     replace x_d:=x_d.on bw1
     replace BB:=also BB bw1
     replace x_p:=x_p.on bw1
     refine tz (i:=5) rfl ?_
     simp only [Go.Act.put,ps1,ps2,ps3]
     refine wpAnyH_done (by kernel_rfl) ?_ _
     go_wp2
     go_roundw
     case rel=>exact⟨Or.inr (Or.inl ⟨rfl,rfl⟩),x_t,x_d,BB⟩
     case measure=>simp [RowKit.intOf]
    ·skip
     have x_t:=xt
     have x_d:=xd
     have BB:=bel
     clear xt xd bel
     have zt:=b6_lt x_t
     have zd:=bx_lt x_d
     have EI:=idxP1 a1 a2 b1 b2 c1 c2
     obtain⟨g,hg⟩: ∃ g,g=cmpP b1 b2 a1 a2:=⟨_,rfl⟩
     have pg:(0<g)=False:=by rw [hg];exact eq_false (cmp_not hab)
     have Gg:Hid _:=hg
     clear hg
     obtain⟨V,hV,bV,x_p,sV⟩:=bs_2 wr (.int .i64 b1) (.int .i64 b2) 24
     have zbV:=bV.size
     replace x_t:=x_t.on bV
     replace x_d:=x_d.on bV
     replace BB:=also BB bV
     go_wp2
     rw [←hV]
     clear hV
     have dd1:Below V.heap.size V V.drew:=(Below.refl _ _).drew
     have zdd1:=dd1.size
     replace x_t:=x_t.on dd1
     replace x_d:=x_d.on dd1
     replace BB:=also BB dd1
     replace x_p:=x_p.on dd1
     refine wp_region_held_drew (S:=(fun w'=>w'.cell? ⟨wr.heap.size,0,none⟩=some (.int .i64 b1)∧w'.cell? ⟨wr.heap.size,1,none⟩=some (.int .i64 b2)∧w'.cell? ⟨w.heap.size,0,none⟩=some (.int .i64 a1)∧w'.cell? ⟨w.heap.size,1,none⟩=some (.int .i64 a2)∧w'.cell? ⟨w.heap.size,2,none⟩=some (.int .i64 b1)∧w'.cell? ⟨w.heap.size,3,none⟩=some (.int .i64 b2)∧w'.cell? ⟨w.heap.size,4,none⟩=some (.int .i64 c1)∧w'.cell? ⟨w.heap.size,5,none⟩=some (.int .i64 c2)∧Below w.heap.size w w')) (by kernel_rfl) ?_ (fun hHeld=>?_)
     ·exact⟨x_p.c0,x_p.c1,x_t.c0,x_t.c1,x_t.c2,x_t.c3,x_t.c4,x_t.c5,BB⟩
     refine tn 0 ?_;refine tn 1 ?_;refine tn 2 ?_;refine tn 3 ?_
     simp only [Go.Act.put,ps1,ps2,ps3]
     refine tcl 4 fun Kc hK=>?_
     go_simp
     (go_at_call 215;refine(lCmp b1 b2 a1 a2 _ Gg.out).mono ?_;rintro e w1 ⟨rfl,bw1⟩)
     refine hK.out _ _ ?_ (fun hHeld=>?_)
     ·exact⟨cell_on bw1 hHeld.1,cell_on bw1 hHeld.2.1,cell_on bw1 hHeld.2.2.1,cell_on bw1 hHeld.2.2.2.1,cell_on bw1 hHeld.2.2.2.2.1,cell_on bw1 hHeld.2.2.2.2.2.1,cell_on bw1 hHeld.2.2.2.2.2.2.1,cell_on bw1 hHeld.2.2.2.2.2.2.2.1,also hHeld.2.2.2.2.2.2.2.2 bw1⟩
     clear hK Kc
     have zbw1:=bw1.size
     replace x_t:=x_t.on bw1
     replace x_d:=x_d.on bw1
     replace BB:=also BB bw1
     replace x_p:=x_p.on bw1
     refine tz (i:=5) rfl ?_
     simp only [Go.Act.put,ps1,ps2,ps3]
     refine wpAnyH_done (by kernel_rfl) ?_ _
     go_wp2
     go_roundw
     case rel=>exact⟨Or.inr (Or.inr (Or.inl ⟨rfl,rfl⟩)),x_t,x_d,BB⟩
     case measure=>simp [RowKit.intOf]
    ·skip
     have x_t:=xt
     have x_d:=xd
     have BB:=bel
     clear xt xd bel
     have zt:=b6_lt x_t
     have zd:=bx_lt x_d
     have EI:=idxP2 a1 a2 b1 b2 c1 c2
     obtain⟨g,hg⟩: ∃ g,g=cmpP c1 c2 a1 a2:=⟨_,rfl⟩
     have pg:(0<g)=True:=by rw [hg];exact eq_true (cmp_yes hmc)
     have Gg:Hid _:=hg
     clear hg
     obtain⟨V,hV,bV,x_p,sV⟩:=bs_2 wr (.int .i64 c1) (.int .i64 c2) 24
     have zbV:=bV.size
     replace x_t:=x_t.on bV
     replace x_d:=x_d.on bV
     replace BB:=also BB bV
     go_wp2
     rw [←hV]
     clear hV
     have dd1:Below V.heap.size V V.drew:=(Below.refl _ _).drew
     have zdd1:=dd1.size
     replace x_t:=x_t.on dd1
     replace x_d:=x_d.on dd1
     replace BB:=also BB dd1
     replace x_p:=x_p.on dd1
     refine wp_region_held_drew (S:=(fun w'=>w'.cell? ⟨wr.heap.size,0,none⟩=some (.int .i64 c1)∧w'.cell? ⟨wr.heap.size,1,none⟩=some (.int .i64 c2)∧w'.cell? ⟨w.heap.size,0,none⟩=some (.int .i64 a1)∧w'.cell? ⟨w.heap.size,1,none⟩=some (.int .i64 a2)∧w'.cell? ⟨w.heap.size,2,none⟩=some (.int .i64 b1)∧w'.cell? ⟨w.heap.size,3,none⟩=some (.int .i64 b2)∧w'.cell? ⟨w.heap.size,4,none⟩=some (.int .i64 c1)∧w'.cell? ⟨w.heap.size,5,none⟩=some (.int .i64 c2)∧Below w.heap.size w w')) (by kernel_rfl) ?_ (fun hHeld=>?_)
     ·exact⟨x_p.c0,x_p.c1,x_t.c0,x_t.c1,x_t.c2,x_t.c3,x_t.c4,x_t.c5,BB⟩
     refine tn 0 ?_;refine tn 1 ?_;refine tn 2 ?_;refine tn 3 ?_
     simp only [Go.Act.put,ps1,ps2,ps3]
     refine tcl 4 fun Kc hK=>?_
     go_simp
     (go_at_call 215;refine(lCmp c1 c2 a1 a2 _ Gg.out).mono ?_;rintro e w1 ⟨rfl,bw1⟩)
     refine hK.out _ _ ?_ (fun hHeld=>?_)
     ·exact⟨cell_on bw1 hHeld.1,cell_on bw1 hHeld.2.1,cell_on bw1 hHeld.2.2.1,cell_on bw1 hHeld.2.2.2.1,cell_on bw1 hHeld.2.2.2.2.1,cell_on bw1 hHeld.2.2.2.2.2.1,cell_on bw1 hHeld.2.2.2.2.2.2.1,cell_on bw1 hHeld.2.2.2.2.2.2.2.1,also hHeld.2.2.2.2.2.2.2.2 bw1⟩
     clear hK Kc
     have zbw1:=bw1.size
     replace x_t:=x_t.on bw1
     replace x_d:=x_d.on bw1
     replace BB:=also BB bw1
     replace x_p:=x_p.on bw1
     refine tz (i:=5) rfl ?_
     simp only [Go.Act.put,ps1,ps2,ps3]
     refine wpAnyH_done (by kernel_rfl) ?_ _
     go_wp2
     go_roundw
     case rel=>exact⟨Or.inr (Or.inr (Or.inr (⟨rfl,rfl⟩))),x_t,x_d,BB⟩
     case measure=>simp [RowKit.intOf]
    ·skip
     have x_t:=xt
     have x_d:=xd
     have BB:=bel
     clear xt xd bel
     have zt:=b6_lt x_t
     have zd:=bx_lt x_d
     cases hD:ltQ (c1,c2) (d1,d2)
     ·skip
      have hl:r=decide ((arP a1 a2 b1 b2 d1 d2).sign=1):=by rw [hr,hD];rfl
      obtain⟨s,hs⟩: ∃ s,s=(arP a1 a2 b1 b2 d1 d2).sign:=⟨_,rfl⟩
      rw [←hs]at hl
      have HS:Hid _:=hs
      have HL:Hid _:=hl
      clear hs hl hr
      obtain⟨g,hg⟩: ∃ g,g=cmpP d1 d2 c1 c2:=⟨_,rfl⟩
      have pg:(0<g)=False:=by rw [hg];exact eq_false (cmp_not hD)
      have Gg:Hid _:=hg
      clear hg
      go_wp2
      have dd1:Below wr.heap.size wr wr.drew:=(Below.refl _ _).drew
      have zdd1:=dd1.size
      replace x_t:=x_t.on dd1
      replace x_d:=x_d.on dd1
      replace BB:=also BB dd1
      refine wp_region_held_drew (S:=(fun w'=>w'.cell? ⟨w.heap.size+1,0,none⟩=some (.int .i64 d1)∧w'.cell? ⟨w.heap.size+1,1,none⟩=some (.int .i64 d2)∧w'.cell? ⟨w.heap.size,0,none⟩=some (.int .i64 a1)∧w'.cell? ⟨w.heap.size,1,none⟩=some (.int .i64 a2)∧w'.cell? ⟨w.heap.size,2,none⟩=some (.int .i64 b1)∧w'.cell? ⟨w.heap.size,3,none⟩=some (.int .i64 b2)∧w'.cell? ⟨w.heap.size,4,none⟩=some (.int .i64 c1)∧w'.cell? ⟨w.heap.size,5,none⟩=some (.int .i64 c2)∧Below w.heap.size w w')) (by kernel_rfl) ?_ (fun hHeld=>?_)
      ·exact⟨x_d.c0,x_d.c1,x_t.c0,x_t.c1,x_t.c2,x_t.c3,x_t.c4,x_t.c5,BB⟩
      refine tn 0 ?_;refine tn 1 ?_;refine tn 2 ?_;refine tn 3 ?_
      simp only [Go.Act.put,ps1,ps2,ps3]
      refine tcl 4 fun Kc hK=>?_
      go_simp
      (go_at_call 215;refine(lCmp d1 d2 c1 c2 _ Gg.out).mono ?_;rintro e w1 ⟨rfl,bw1⟩)
      refine hK.out _ _ ?_ (fun hHeld=>?_)
      ·exact⟨cell_on bw1 hHeld.1,cell_on bw1 hHeld.2.1,cell_on bw1 hHeld.2.2.1,cell_on bw1 hHeld.2.2.2.1,cell_on bw1 hHeld.2.2.2.2.1,cell_on bw1 hHeld.2.2.2.2.2.1,cell_on bw1 hHeld.2.2.2.2.2.2.1,cell_on bw1 hHeld.2.2.2.2.2.2.2.1,also hHeld.2.2.2.2.2.2.2.2 bw1⟩
      clear hK Kc
      have zbw1:=bw1.size
      replace x_t:=x_t.on bw1
      replace x_d:=x_d.on bw1
      replace BB:=also BB bw1
      refine tz (i:=5) rfl ?_
      simp only [Go.Act.put,ps1,ps2,ps3]
      refine wpAnyH_done (by kernel_rfl) ?_ _
      have⟨x_t_0,x_t_1,x_t_2,x_t_3,x_t_4,x_t_5,x_t_6,x_t_7,x_t_8,x_t_9,x_t_10,x_t_11⟩:=x_t
      have⟨x_d_0,x_d_1,x_d_2,x_d_3⟩:=x_d
      go_wp2_with (go_at_call 126;fail)
      have B2:Below w.heap.size w ((w1.setCell ⟨w.heap.size,4,none⟩ (.int .i64 d1)).setCell ⟨w.heap.size,5,none⟩ (.int .i64 d2)):=(BB.setCell (Nat.le_refl _) _).setCell (Nat.le_refl _) _
      refine(pOrient a1 a2 b1 b2 d1 d2 _ HS.out).mono ?_
      rintro e w2 ⟨rfl,b2⟩
      go_wp2
      go_ret
      exact⟨by rw [HL.out];rfl,also B2 b2⟩
     ·skip
      obtain rfl:r=false:=by rw [hr,hD];rfl
      clear hr
      obtain⟨g,hg⟩: ∃ g,g=cmpP d1 d2 c1 c2:=⟨_,rfl⟩
      have pg:(0<g)=True:=by rw [hg];exact eq_true (cmp_yes hD)
      have Gg:Hid _:=hg
      clear hg
      go_wp2
      have dd1:Below wr.heap.size wr wr.drew:=(Below.refl _ _).drew
      have zdd1:=dd1.size
      replace x_t:=x_t.on dd1
      replace x_d:=x_d.on dd1
      replace BB:=also BB dd1
      refine wp_region_held_drew (S:=(fun w'=>w'.cell? ⟨w.heap.size+1,0,none⟩=some (.int .i64 d1)∧w'.cell? ⟨w.heap.size+1,1,none⟩=some (.int .i64 d2)∧w'.cell? ⟨w.heap.size,0,none⟩=some (.int .i64 a1)∧w'.cell? ⟨w.heap.size,1,none⟩=some (.int .i64 a2)∧w'.cell? ⟨w.heap.size,2,none⟩=some (.int .i64 b1)∧w'.cell? ⟨w.heap.size,3,none⟩=some (.int .i64 b2)∧w'.cell? ⟨w.heap.size,4,none⟩=some (.int .i64 c1)∧w'.cell? ⟨w.heap.size,5,none⟩=some (.int .i64 c2)∧Below w.heap.size w w')) (by kernel_rfl) ?_ (fun hHeld=>?_)
      ·exact⟨x_d.c0,x_d.c1,x_t.c0,x_t.c1,x_t.c2,x_t.c3,x_t.c4,x_t.c5,BB⟩
      refine tn 0 ?_;refine tn 1 ?_;refine tn 2 ?_;refine tn 3 ?_
      simp only [Go.Act.put,ps1,ps2,ps3]
      refine tcl 4 fun Kc hK=>?_
      go_simp
      (go_at_call 215;refine(lCmp d1 d2 c1 c2 _ Gg.out).mono ?_;rintro e w1 ⟨rfl,bw1⟩)
      refine hK.out _ _ ?_ (fun hHeld=>?_)
      ·exact⟨cell_on bw1 hHeld.1,cell_on bw1 hHeld.2.1,cell_on bw1 hHeld.2.2.1,cell_on bw1 hHeld.2.2.2.1,cell_on bw1 hHeld.2.2.2.2.1,cell_on bw1 hHeld.2.2.2.2.2.1,cell_on bw1 hHeld.2.2.2.2.2.2.1,cell_on bw1 hHeld.2.2.2.2.2.2.2.1,also hHeld.2.2.2.2.2.2.2.2 bw1⟩
      clear hK Kc
      have zbw1:=bw1.size
      replace x_t:=x_t.on bw1
      replace x_d:=x_d.on bw1
      replace BB:=also BB bw1
      refine tz (i:=5) rfl ?_
      simp only [Go.Act.put,ps1,ps2,ps3]
      refine wpAnyH_done (by kernel_rfl) ?_ _
      go_wp2
      go_ret
      exact⟨rfl,BB⟩
 ·skip
  simp only [hab,if_true]at hr
  cases hmc:ltQ (b1,b2) (c1,c2)
  ·simp only [hmc,if_false,Bool.false_eq_true]at hr
   obtain⟨W,hW,bW,x_t,x_d,sW⟩:=bs_62 w (.int .i64 a1) (.int .i64 a2) (.int .i64 b1) (.int .i64 b2) (.int .i64 c1) (.int .i64 c2) (.int .i64 d1) (.int .i64 d2) 202 24
   have zbW:=bW.size
   have BB:=bW
   go_enter Tryz.func166,Tryz.ntmps166
   go_wp2
   rw [←hW]
   clear hW
   go_loopw [5,9] (fun l i wr=>((i= .int .i64 0∧l= .int .i64 0)∨(i= .int .i64 1∧l= .int .i64 0)∨(i= .int .i64 2∧l= .int .i64 1)∨(i= .int .i64 3∧l= .int .i64 1))∧B6 wr w.heap.size (.int .i64 a1) (.int .i64 a2) (.int .i64 b1) (.int .i64 b2) (.int .i64 c1) (.int .i64 c2)∧Bx wr (w.heap.size+1) (.int .i64 d1) (.int .i64 d2)∧Below w.heap.size w wr) (fun _ i _=>3- (RowKit.intOf i).toNat)
   case atStart=>exact⟨Or.inl ⟨rfl,rfl⟩,x_t,x_d,BB⟩
   case round=>
    obtain⟨hki,xt,xd,bel⟩:=hrel
    clear x_t x_d BB
    rcases hki with⟨rfl,rfl⟩|⟨rfl,rfl⟩|⟨rfl,rfl⟩|⟨rfl,rfl⟩
    ·skip
     have x_t:=xt
     have x_d:=xd
     have BB:=bel
     clear xt xd bel
     have zt:=b6_lt x_t
     have zd:=bx_lt x_d
     have EI:=idxP0 a1 a2 b1 b2 c1 c2
     obtain⟨g,hg⟩: ∃ g,g=cmpP a1 a2 a1 a2:=⟨_,rfl⟩
     have pg:(0<g)=False:=by rw [hg];exact eq_false (cmp_self _ _)
     have Gg:Hid _:=hg
     clear hg
     obtain⟨V,hV,bV,x_p,sV⟩:=bs_2 wr (.int .i64 a1) (.int .i64 a2) 24
     have zbV:=bV.size
     replace x_t:=x_t.on bV
     replace x_d:=x_d.on bV
     replace BB:=also BB bV
     go_wp2
     rw [←hV]
     clear hV
     have dd1:Below V.heap.size V V.drew:=(Below.refl _ _).drew
     have zdd1:=dd1.size
     replace x_t:=x_t.on dd1
     replace x_d:=x_d.on dd1
     replace BB:=also BB dd1
     replace x_p:=x_p.on dd1
     refine wp_region_held_drew (S:=(fun w'=>w'.cell? ⟨wr.heap.size,0,none⟩=some (.int .i64 a1)∧w'.cell? ⟨wr.heap.size,1,none⟩=some (.int .i64 a2)∧w'.cell? ⟨w.heap.size,0,none⟩=some (.int .i64 a1)∧w'.cell? ⟨w.heap.size,1,none⟩=some (.int .i64 a2)∧w'.cell? ⟨w.heap.size,2,none⟩=some (.int .i64 b1)∧w'.cell? ⟨w.heap.size,3,none⟩=some (.int .i64 b2)∧w'.cell? ⟨w.heap.size,4,none⟩=some (.int .i64 c1)∧w'.cell? ⟨w.heap.size,5,none⟩=some (.int .i64 c2)∧Below w.heap.size w w')) (by kernel_rfl) ?_ (fun hHeld=>?_)
     ·exact⟨x_p.c0,x_p.c1,x_t.c0,x_t.c1,x_t.c2,x_t.c3,x_t.c4,x_t.c5,BB⟩
     refine tn 0 ?_;refine tn 1 ?_;refine tn 2 ?_;refine tn 3 ?_
     simp only [Go.Act.put,ps1,ps2,ps3]
     refine tcl 4 fun Kc hK=>?_
     go_simp
     (go_at_call 215;refine(lCmp a1 a2 a1 a2 _ Gg.out).mono ?_;rintro e w1 ⟨rfl,bw1⟩)
     refine hK.out _ _ ?_ (fun hHeld=>?_)
     ·exact⟨cell_on bw1 hHeld.1,cell_on bw1 hHeld.2.1,cell_on bw1 hHeld.2.2.1,cell_on bw1 hHeld.2.2.2.1,cell_on bw1 hHeld.2.2.2.2.1,cell_on bw1 hHeld.2.2.2.2.2.1,cell_on bw1 hHeld.2.2.2.2.2.2.1,cell_on bw1 hHeld.2.2.2.2.2.2.2.1,also hHeld.2.2.2.2.2.2.2.2 bw1⟩
     clear hK Kc
     have zbw1:=bw1.size
     replace x_t:=x_t.on bw1
     replace x_d:=x_d.on bw1
     replace BB:=also BB bw1
     replace x_p:=x_p.on bw1
     refine tz (i:=5) rfl ?_
     simp only [Go.Act.put,ps1,ps2,ps3]
     refine wpAnyH_done (by kernel_rfl) ?_ _
     go_wp2
     go_roundw
     case rel=>exact⟨Or.inr (Or.inl ⟨rfl,rfl⟩),x_t,x_d,BB⟩
     case measure=>simp [RowKit.intOf]
    ·skip
     have x_t:=xt
     have x_d:=xd
     have BB:=bel
     clear xt xd bel
     have zt:=b6_lt x_t
     have zd:=bx_lt x_d
     have EI:=idxP1 a1 a2 b1 b2 c1 c2
     obtain⟨g,hg⟩: ∃ g,g=cmpP b1 b2 a1 a2:=⟨_,rfl⟩
     have pg:(0<g)=True:=by rw [hg];exact eq_true (cmp_yes hab)
     have Gg:Hid _:=hg
     clear hg
     obtain⟨V,hV,bV,x_p,sV⟩:=bs_2 wr (.int .i64 b1) (.int .i64 b2) 24
     have zbV:=bV.size
     replace x_t:=x_t.on bV
     replace x_d:=x_d.on bV
     replace BB:=also BB bV
     go_wp2
     rw [←hV]
     clear hV
     have dd1:Below V.heap.size V V.drew:=(Below.refl _ _).drew
     have zdd1:=dd1.size
     replace x_t:=x_t.on dd1
     replace x_d:=x_d.on dd1
     replace BB:=also BB dd1
     replace x_p:=x_p.on dd1
     refine wp_region_held_drew (S:=(fun w'=>w'.cell? ⟨wr.heap.size,0,none⟩=some (.int .i64 b1)∧w'.cell? ⟨wr.heap.size,1,none⟩=some (.int .i64 b2)∧w'.cell? ⟨w.heap.size,0,none⟩=some (.int .i64 a1)∧w'.cell? ⟨w.heap.size,1,none⟩=some (.int .i64 a2)∧w'.cell? ⟨w.heap.size,2,none⟩=some (.int .i64 b1)∧w'.cell? ⟨w.heap.size,3,none⟩=some (.int .i64 b2)∧w'.cell? ⟨w.heap.size,4,none⟩=some (.int .i64 c1)∧w'.cell? ⟨w.heap.size,5,none⟩=some (.int .i64 c2)∧Below w.heap.size w w')) (by kernel_rfl) ?_ (fun hHeld=>?_)
     ·exact⟨x_p.c0,x_p.c1,x_t.c0,x_t.c1,x_t.c2,x_t.c3,x_t.c4,x_t.c5,BB⟩
     refine tn 0 ?_;refine tn 1 ?_;refine tn 2 ?_;refine tn 3 ?_
     simp only [Go.Act.put,ps1,ps2,ps3]
     refine tcl 4 fun Kc hK=>?_
     go_simp
     (go_at_call 215;refine(lCmp b1 b2 a1 a2 _ Gg.out).mono ?_;rintro e w1 ⟨rfl,bw1⟩)
     refine hK.out _ _ ?_ (fun hHeld=>?_)
     ·exact⟨cell_on bw1 hHeld.1,cell_on bw1 hHeld.2.1,cell_on bw1 hHeld.2.2.1,cell_on bw1 hHeld.2.2.2.1,cell_on bw1 hHeld.2.2.2.2.1,cell_on bw1 hHeld.2.2.2.2.2.1,cell_on bw1 hHeld.2.2.2.2.2.2.1,cell_on bw1 hHeld.2.2.2.2.2.2.2.1,also hHeld.2.2.2.2.2.2.2.2 bw1⟩
     clear hK Kc
     have zbw1:=bw1.size
     replace x_t:=x_t.on bw1
     replace x_d:=x_d.on bw1
     replace BB:=also BB bw1
     replace x_p:=x_p.on bw1
     refine tz (i:=5) rfl ?_
     simp only [Go.Act.put,ps1,ps2,ps3]
     refine wpAnyH_done (by kernel_rfl) ?_ _
     go_wp2
     go_roundw
     case rel=>exact⟨Or.inr (Or.inr (Or.inl ⟨rfl,rfl⟩)),x_t,x_d,BB⟩
     case measure=>simp [RowKit.intOf]
    ·skip
     have x_t:=xt
     have x_d:=xd
     have BB:=bel
     clear xt xd bel
     have zt:=b6_lt x_t
     have zd:=bx_lt x_d
     have EI:=idxP2 a1 a2 b1 b2 c1 c2
     obtain⟨g,hg⟩: ∃ g,g=cmpP c1 c2 b1 b2:=⟨_,rfl⟩
     have pg:(0<g)=False:=by rw [hg];exact eq_false (cmp_not hmc)
     have Gg:Hid _:=hg
     clear hg
     obtain⟨V,hV,bV,x_p,sV⟩:=bs_2 wr (.int .i64 c1) (.int .i64 c2) 24
     have zbV:=bV.size
     replace x_t:=x_t.on bV
     replace x_d:=x_d.on bV
     replace BB:=also BB bV
     go_wp2
     rw [←hV]
     clear hV
     have dd1:Below V.heap.size V V.drew:=(Below.refl _ _).drew
     have zdd1:=dd1.size
     replace x_t:=x_t.on dd1
     replace x_d:=x_d.on dd1
     replace BB:=also BB dd1
     replace x_p:=x_p.on dd1
     refine wp_region_held_drew (S:=(fun w'=>w'.cell? ⟨wr.heap.size,0,none⟩=some (.int .i64 c1)∧w'.cell? ⟨wr.heap.size,1,none⟩=some (.int .i64 c2)∧w'.cell? ⟨w.heap.size,0,none⟩=some (.int .i64 a1)∧w'.cell? ⟨w.heap.size,1,none⟩=some (.int .i64 a2)∧w'.cell? ⟨w.heap.size,2,none⟩=some (.int .i64 b1)∧w'.cell? ⟨w.heap.size,3,none⟩=some (.int .i64 b2)∧w'.cell? ⟨w.heap.size,4,none⟩=some (.int .i64 c1)∧w'.cell? ⟨w.heap.size,5,none⟩=some (.int .i64 c2)∧Below w.heap.size w w')) (by kernel_rfl) ?_ (fun hHeld=>?_)
     ·exact⟨x_p.c0,x_p.c1,x_t.c0,x_t.c1,x_t.c2,x_t.c3,x_t.c4,x_t.c5,BB⟩
     refine tn 0 ?_;refine tn 1 ?_;refine tn 2 ?_;refine tn 3 ?_
     simp only [Go.Act.put,ps1,ps2,ps3]
     refine tcl 4 fun Kc hK=>?_
     go_simp
     (go_at_call 215;refine(lCmp c1 c2 b1 b2 _ Gg.out).mono ?_;rintro e w1 ⟨rfl,bw1⟩)
     refine hK.out _ _ ?_ (fun hHeld=>?_)
     ·exact⟨cell_on bw1 hHeld.1,cell_on bw1 hHeld.2.1,cell_on bw1 hHeld.2.2.1,cell_on bw1 hHeld.2.2.2.1,cell_on bw1 hHeld.2.2.2.2.1,cell_on bw1 hHeld.2.2.2.2.2.1,cell_on bw1 hHeld.2.2.2.2.2.2.1,cell_on bw1 hHeld.2.2.2.2.2.2.2.1,also hHeld.2.2.2.2.2.2.2.2 bw1⟩
     clear hK Kc
     have zbw1:=bw1.size
     replace x_t:=x_t.on bw1
     replace x_d:=x_d.on bw1
     replace BB:=also BB bw1
     replace x_p:=x_p.on bw1
     refine tz (i:=5) rfl ?_
     simp only [Go.Act.put,ps1,ps2,ps3]
     refine wpAnyH_done (by kernel_rfl) ?_ _
     go_wp2
     go_roundw
     case rel=>exact⟨Or.inr (Or.inr (Or.inr (⟨rfl,rfl⟩))),x_t,x_d,BB⟩
     case measure=>simp [RowKit.intOf]
    ·skip
     have x_t:=xt
     have x_d:=xd
     have BB:=bel
     clear xt xd bel
     have zt:=b6_lt x_t
     have zd:=bx_lt x_d
     cases hD:ltQ (b1,b2) (d1,d2)
     ·skip
      have hl:r=decide ((arP a1 a2 d1 d2 c1 c2).sign=1):=by rw [hr,hD];rfl
      obtain⟨s,hs⟩: ∃ s,s=(arP a1 a2 d1 d2 c1 c2).sign:=⟨_,rfl⟩
      rw [←hs]at hl
      have HS:Hid _:=hs
      have HL:Hid _:=hl
      clear hs hl hr
      obtain⟨g,hg⟩: ∃ g,g=cmpP d1 d2 b1 b2:=⟨_,rfl⟩
      have pg:(0<g)=False:=by rw [hg];exact eq_false (cmp_not hD)
      have Gg:Hid _:=hg
      clear hg
      go_wp2
      have dd1:Below wr.heap.size wr wr.drew:=(Below.refl _ _).drew
      have zdd1:=dd1.size
      replace x_t:=x_t.on dd1
      replace x_d:=x_d.on dd1
      replace BB:=also BB dd1
      refine wp_region_held_drew (S:=(fun w'=>w'.cell? ⟨w.heap.size+1,0,none⟩=some (.int .i64 d1)∧w'.cell? ⟨w.heap.size+1,1,none⟩=some (.int .i64 d2)∧w'.cell? ⟨w.heap.size,0,none⟩=some (.int .i64 a1)∧w'.cell? ⟨w.heap.size,1,none⟩=some (.int .i64 a2)∧w'.cell? ⟨w.heap.size,2,none⟩=some (.int .i64 b1)∧w'.cell? ⟨w.heap.size,3,none⟩=some (.int .i64 b2)∧w'.cell? ⟨w.heap.size,4,none⟩=some (.int .i64 c1)∧w'.cell? ⟨w.heap.size,5,none⟩=some (.int .i64 c2)∧Below w.heap.size w w')) (by kernel_rfl) ?_ (fun hHeld=>?_)
      ·exact⟨x_d.c0,x_d.c1,x_t.c0,x_t.c1,x_t.c2,x_t.c3,x_t.c4,x_t.c5,BB⟩
      refine tn 0 ?_;refine tn 1 ?_;refine tn 2 ?_;refine tn 3 ?_
      simp only [Go.Act.put,ps1,ps2,ps3]
      refine tcl 4 fun Kc hK=>?_
      go_simp
      (go_at_call 215;refine(lCmp d1 d2 b1 b2 _ Gg.out).mono ?_;rintro e w1 ⟨rfl,bw1⟩)
      refine hK.out _ _ ?_ (fun hHeld=>?_)
      ·exact⟨cell_on bw1 hHeld.1,cell_on bw1 hHeld.2.1,cell_on bw1 hHeld.2.2.1,cell_on bw1 hHeld.2.2.2.1,cell_on bw1 hHeld.2.2.2.2.1,cell_on bw1 hHeld.2.2.2.2.2.1,cell_on bw1 hHeld.2.2.2.2.2.2.1,cell_on bw1 hHeld.2.2.2.2.2.2.2.1,also hHeld.2.2.2.2.2.2.2.2 bw1⟩
      clear hK Kc
      have zbw1:=bw1.size
      replace x_t:=x_t.on bw1
      replace x_d:=x_d.on bw1
      replace BB:=also BB bw1
      refine tz (i:=5) rfl ?_
      simp only [Go.Act.put,ps1,ps2,ps3]
      refine wpAnyH_done (by kernel_rfl) ?_ _
      have⟨x_t_0,x_t_1,x_t_2,x_t_3,x_t_4,x_t_5,x_t_6,x_t_7,x_t_8,x_t_9,x_t_10,x_t_11⟩:=x_t
      have⟨x_d_0,x_d_1,x_d_2,x_d_3⟩:=x_d
      go_wp2_with (go_at_call 126;fail)
      have B2:Below w.heap.size w ((w1.setCell ⟨w.heap.size,2,none⟩ (.int .i64 d1)).setCell ⟨w.heap.size,3,none⟩ (.int .i64 d2)):=(BB.setCell (Nat.le_refl _) _).setCell (Nat.le_refl _) _
      refine(pOrient a1 a2 d1 d2 c1 c2 _ HS.out).mono ?_
      rintro e w2 ⟨rfl,b2⟩
      go_wp2
      go_ret
      exact⟨by rw [HL.out];rfl,also B2 b2⟩
     ·skip
      obtain rfl:r=false:=by rw [hr,hD];rfl
      clear hr
      obtain⟨g,hg⟩: ∃ g,g=cmpP d1 d2 b1 b2:=⟨_,rfl⟩
      have pg:(0<g)=True:=by rw [hg];exact eq_true (cmp_yes hD)
      have Gg:Hid _:=hg
      clear hg
      go_wp2
      have dd1:Below wr.heap.size wr wr.drew:=(Below.refl _ _).drew
      have zdd1:=dd1.size
      replace x_t:=x_t.on dd1
      replace x_d:=x_d.on dd1
      replace BB:=also BB dd1
      refine wp_region_held_drew (S:=(fun w'=>w'.cell? ⟨w.heap.size+1,0,none⟩=some (.int .i64 d1)∧w'.cell? ⟨w.heap.size+1,1,none⟩=some (.int .i64 d2)∧w'.cell? ⟨w.heap.size,0,none⟩=some (.int .i64 a1)∧w'.cell? ⟨w.heap.size,1,none⟩=some (.int .i64 a2)∧w'.cell? ⟨w.heap.size,2,none⟩=some (.int .i64 b1)∧w'.cell? ⟨w.heap.size,3,none⟩=some (.int .i64 b2)∧w'.cell? ⟨w.heap.size,4,none⟩=some (.int .i64 c1)∧w'.cell? ⟨w.heap.size,5,none⟩=some (.int .i64 c2)∧Below w.heap.size w w')) (by kernel_rfl) ?_ (fun hHeld=>?_)
      ·exact⟨x_d.c0,x_d.c1,x_t.c0,x_t.c1,x_t.c2,x_t.c3,x_t.c4,x_t.c5,BB⟩
      refine tn 0 ?_;refine tn 1 ?_;refine tn 2 ?_;refine tn 3 ?_
      simp only [Go.Act.put,ps1,ps2,ps3]
      refine tcl 4 fun Kc hK=>?_
      go_simp
      (go_at_call 215;refine(lCmp d1 d2 b1 b2 _ Gg.out).mono ?_;rintro e w1 ⟨rfl,bw1⟩)
      refine hK.out _ _ ?_ (fun hHeld=>?_)
      ·exact⟨cell_on bw1 hHeld.1,cell_on bw1 hHeld.2.1,cell_on bw1 hHeld.2.2.1,cell_on bw1 hHeld.2.2.2.1,cell_on bw1 hHeld.2.2.2.2.1,cell_on bw1 hHeld.2.2.2.2.2.1,cell_on bw1 hHeld.2.2.2.2.2.2.1,cell_on bw1 hHeld.2.2.2.2.2.2.2.1,also hHeld.2.2.2.2.2.2.2.2 bw1⟩
      clear hK Kc
      have zbw1:=bw1.size
      replace x_t:=x_t.on bw1
      replace x_d:=x_d.on bw1
      replace BB:=also BB bw1
      refine tz (i:=5) rfl ?_
      simp only [Go.Act.put,ps1,ps2,ps3]
      refine wpAnyH_done (by kernel_rfl) ?_ _
      go_wp2
      go_ret
      exact⟨rfl,BB⟩
  ·simp only [hmc,if_true]at hr
   obtain⟨W,hW,bW,x_t,x_d,sW⟩:=bs_62 w (.int .i64 a1) (.int .i64 a2) (.int .i64 b1) (.int .i64 b2) (.int .i64 c1) (.int .i64 c2) (.int .i64 d1) (.int .i64 d2) 202 24
   have zbW:=bW.size
   have BB:=bW
   go_enter Tryz.func166,Tryz.ntmps166
   go_wp2
   rw [←hW]
   clear hW
   go_loopw [5,9] (fun l i wr=>((i= .int .i64 0∧l= .int .i64 0)∨(i= .int .i64 1∧l= .int .i64 0)∨(i= .int .i64 2∧l= .int .i64 1)∨(i= .int .i64 3∧l= .int .i64 2))∧B6 wr w.heap.size (.int .i64 a1) (.int .i64 a2) (.int .i64 b1) (.int .i64 b2) (.int .i64 c1) (.int .i64 c2)∧Bx wr (w.heap.size+1) (.int .i64 d1) (.int .i64 d2)∧Below w.heap.size w wr) (fun _ i _=>3- (RowKit.intOf i).toNat)
   case atStart=>exact⟨Or.inl ⟨rfl,rfl⟩,x_t,x_d,BB⟩
   case round=>
    obtain⟨hki,xt,xd,bel⟩:=hrel
    clear x_t x_d BB
    rcases hki with⟨rfl,rfl⟩|⟨rfl,rfl⟩|⟨rfl,rfl⟩|⟨rfl,rfl⟩
    ·skip
     have x_t:=xt
     have x_d:=xd
     have BB:=bel
     clear xt xd bel
     have zt:=b6_lt x_t
     have zd:=bx_lt x_d
     have EI:=idxP0 a1 a2 b1 b2 c1 c2
     obtain⟨g,hg⟩: ∃ g,g=cmpP a1 a2 a1 a2:=⟨_,rfl⟩
     have pg:(0<g)=False:=by rw [hg];exact eq_false (cmp_self _ _)
     have Gg:Hid _:=hg
     clear hg
     obtain⟨V,hV,bV,x_p,sV⟩:=bs_2 wr (.int .i64 a1) (.int .i64 a2) 24
     have zbV:=bV.size
     replace x_t:=x_t.on bV
     replace x_d:=x_d.on bV
     replace BB:=also BB bV
     go_wp2
     rw [←hV]
     clear hV
     have dd1:Below V.heap.size V V.drew:=(Below.refl _ _).drew
     have zdd1:=dd1.size
     replace x_t:=x_t.on dd1
     replace x_d:=x_d.on dd1
     replace BB:=also BB dd1
     replace x_p:=x_p.on dd1
     refine wp_region_held_drew (S:=(fun w'=>w'.cell? ⟨wr.heap.size,0,none⟩=some (.int .i64 a1)∧w'.cell? ⟨wr.heap.size,1,none⟩=some (.int .i64 a2)∧w'.cell? ⟨w.heap.size,0,none⟩=some (.int .i64 a1)∧w'.cell? ⟨w.heap.size,1,none⟩=some (.int .i64 a2)∧w'.cell? ⟨w.heap.size,2,none⟩=some (.int .i64 b1)∧w'.cell? ⟨w.heap.size,3,none⟩=some (.int .i64 b2)∧w'.cell? ⟨w.heap.size,4,none⟩=some (.int .i64 c1)∧w'.cell? ⟨w.heap.size,5,none⟩=some (.int .i64 c2)∧Below w.heap.size w w')) (by kernel_rfl) ?_ (fun hHeld=>?_)
     ·exact⟨x_p.c0,x_p.c1,x_t.c0,x_t.c1,x_t.c2,x_t.c3,x_t.c4,x_t.c5,BB⟩
     refine tn 0 ?_;refine tn 1 ?_;refine tn 2 ?_;refine tn 3 ?_
     simp only [Go.Act.put,ps1,ps2,ps3]
     refine tcl 4 fun Kc hK=>?_
     go_simp
     (go_at_call 215;refine(lCmp a1 a2 a1 a2 _ Gg.out).mono ?_;rintro e w1 ⟨rfl,bw1⟩)
     refine hK.out _ _ ?_ (fun hHeld=>?_)
     ·exact⟨cell_on bw1 hHeld.1,cell_on bw1 hHeld.2.1,cell_on bw1 hHeld.2.2.1,cell_on bw1 hHeld.2.2.2.1,cell_on bw1 hHeld.2.2.2.2.1,cell_on bw1 hHeld.2.2.2.2.2.1,cell_on bw1 hHeld.2.2.2.2.2.2.1,cell_on bw1 hHeld.2.2.2.2.2.2.2.1,also hHeld.2.2.2.2.2.2.2.2 bw1⟩
     clear hK Kc
     have zbw1:=bw1.size
     replace x_t:=x_t.on bw1
     replace x_d:=x_d.on bw1
     replace BB:=also BB bw1
     replace x_p:=x_p.on bw1
     refine tz (i:=5) rfl ?_
     simp only [Go.Act.put,ps1,ps2,ps3]
     refine wpAnyH_done (by kernel_rfl) ?_ _
     go_wp2
     go_roundw
     case rel=>exact⟨Or.inr (Or.inl ⟨rfl,rfl⟩),x_t,x_d,BB⟩
     case measure=>simp [RowKit.intOf]
    ·skip
     have x_t:=xt
     have x_d:=xd
     have BB:=bel
     clear xt xd bel
     have zt:=b6_lt x_t
     have zd:=bx_lt x_d
     have EI:=idxP1 a1 a2 b1 b2 c1 c2
     obtain⟨g,hg⟩: ∃ g,g=cmpP b1 b2 a1 a2:=⟨_,rfl⟩
     have pg:(0<g)=True:=by rw [hg];exact eq_true (cmp_yes hab)
     have Gg:Hid _:=hg
     clear hg
     obtain⟨V,hV,bV,x_p,sV⟩:=bs_2 wr (.int .i64 b1) (.int .i64 b2) 24
     have zbV:=bV.size
     replace x_t:=x_t.on bV
     replace x_d:=x_d.on bV
     replace BB:=also BB bV
     go_wp2
     rw [←hV]
     clear hV
     have dd1:Below V.heap.size V V.drew:=(Below.refl _ _).drew
     have zdd1:=dd1.size
     replace x_t:=x_t.on dd1
     replace x_d:=x_d.on dd1
     replace BB:=also BB dd1
     replace x_p:=x_p.on dd1
     refine wp_region_held_drew (S:=(fun w'=>w'.cell? ⟨wr.heap.size,0,none⟩=some (.int .i64 b1)∧w'.cell? ⟨wr.heap.size,1,none⟩=some (.int .i64 b2)∧w'.cell? ⟨w.heap.size,0,none⟩=some (.int .i64 a1)∧w'.cell? ⟨w.heap.size,1,none⟩=some (.int .i64 a2)∧w'.cell? ⟨w.heap.size,2,none⟩=some (.int .i64 b1)∧w'.cell? ⟨w.heap.size,3,none⟩=some (.int .i64 b2)∧w'.cell? ⟨w.heap.size,4,none⟩=some (.int .i64 c1)∧w'.cell? ⟨w.heap.size,5,none⟩=some (.int .i64 c2)∧Below w.heap.size w w')) (by kernel_rfl) ?_ (fun hHeld=>?_)
     ·exact⟨x_p.c0,x_p.c1,x_t.c0,x_t.c1,x_t.c2,x_t.c3,x_t.c4,x_t.c5,BB⟩
     refine tn 0 ?_;refine tn 1 ?_;refine tn 2 ?_;refine tn 3 ?_
     simp only [Go.Act.put,ps1,ps2,ps3]
     refine tcl 4 fun Kc hK=>?_
     go_simp
     (go_at_call 215;refine(lCmp b1 b2 a1 a2 _ Gg.out).mono ?_;rintro e w1 ⟨rfl,bw1⟩)
     refine hK.out _ _ ?_ (fun hHeld=>?_)
     ·exact⟨cell_on bw1 hHeld.1,cell_on bw1 hHeld.2.1,cell_on bw1 hHeld.2.2.1,cell_on bw1 hHeld.2.2.2.1,cell_on bw1 hHeld.2.2.2.2.1,cell_on bw1 hHeld.2.2.2.2.2.1,cell_on bw1 hHeld.2.2.2.2.2.2.1,cell_on bw1 hHeld.2.2.2.2.2.2.2.1,also hHeld.2.2.2.2.2.2.2.2 bw1⟩
     clear hK Kc
     have zbw1:=bw1.size
     replace x_t:=x_t.on bw1
     replace x_d:=x_d.on bw1
     replace BB:=also BB bw1
     replace x_p:=x_p.on bw1
     refine tz (i:=5) rfl ?_
     simp only [Go.Act.put,ps1,ps2,ps3]
     refine wpAnyH_done (by kernel_rfl) ?_ _
     go_wp2
     go_roundw
     case rel=>exact⟨Or.inr (Or.inr (Or.inl ⟨rfl,rfl⟩)),x_t,x_d,BB⟩
     case measure=>simp [RowKit.intOf]
    ·skip
     have x_t:=xt
     have x_d:=xd
     have BB:=bel
     clear xt xd bel
     have zt:=b6_lt x_t
     have zd:=bx_lt x_d
     have EI:=idxP2 a1 a2 b1 b2 c1 c2
     obtain⟨g,hg⟩: ∃ g,g=cmpP c1 c2 b1 b2:=⟨_,rfl⟩
     have pg:(0<g)=True:=by rw [hg];exact eq_true (cmp_yes hmc)
     have Gg:Hid _:=hg
     clear hg
     obtain⟨V,hV,bV,x_p,sV⟩:=bs_2 wr (.int .i64 c1) (.int .i64 c2) 24
     have zbV:=bV.size
     replace x_t:=x_t.on bV
     replace x_d:=x_d.on bV
     replace BB:=also BB bV
     go_wp2
     rw [←hV]
     clear hV
     have dd1:Below V.heap.size V V.drew:=(Below.refl _ _).drew
     have zdd1:=dd1.size
     replace x_t:=x_t.on dd1
     replace x_d:=x_d.on dd1
     replace BB:=also BB dd1
     replace x_p:=x_p.on dd1
     refine wp_region_held_drew (S:=(fun w'=>w'.cell? ⟨wr.heap.size,0,none⟩=some (.int .i64 c1)∧w'.cell? ⟨wr.heap.size,1,none⟩=some (.int .i64 c2)∧w'.cell? ⟨w.heap.size,0,none⟩=some (.int .i64 a1)∧w'.cell? ⟨w.heap.size,1,none⟩=some (.int .i64 a2)∧w'.cell? ⟨w.heap.size,2,none⟩=some (.int .i64 b1)∧w'.cell? ⟨w.heap.size,3,none⟩=some (.int .i64 b2)∧w'.cell? ⟨w.heap.size,4,none⟩=some (.int .i64 c1)∧w'.cell? ⟨w.heap.size,5,none⟩=some (.int .i64 c2)∧Below w.heap.size w w')) (by kernel_rfl) ?_ (fun hHeld=>?_)
     ·exact⟨x_p.c0,x_p.c1,x_t.c0,x_t.c1,x_t.c2,x_t.c3,x_t.c4,x_t.c5,BB⟩
     refine tn 0 ?_;refine tn 1 ?_;refine tn 2 ?_;refine tn 3 ?_
     simp only [Go.Act.put,ps1,ps2,ps3]
     refine tcl 4 fun Kc hK=>?_
     go_simp
     (go_at_call 215;refine(lCmp c1 c2 b1 b2 _ Gg.out).mono ?_;rintro e w1 ⟨rfl,bw1⟩)
     refine hK.out _ _ ?_ (fun hHeld=>?_)
     ·exact⟨cell_on bw1 hHeld.1,cell_on bw1 hHeld.2.1,cell_on bw1 hHeld.2.2.1,cell_on bw1 hHeld.2.2.2.1,cell_on bw1 hHeld.2.2.2.2.1,cell_on bw1 hHeld.2.2.2.2.2.1,cell_on bw1 hHeld.2.2.2.2.2.2.1,cell_on bw1 hHeld.2.2.2.2.2.2.2.1,also hHeld.2.2.2.2.2.2.2.2 bw1⟩
     clear hK Kc
     have zbw1:=bw1.size
     replace x_t:=x_t.on bw1
     replace x_d:=x_d.on bw1
     replace BB:=also BB bw1
     replace x_p:=x_p.on bw1
     refine tz (i:=5) rfl ?_
     simp only [Go.Act.put,ps1,ps2,ps3]
     refine wpAnyH_done (by kernel_rfl) ?_ _
     go_wp2
     go_roundw
     case rel=>exact⟨Or.inr (Or.inr (Or.inr (⟨rfl,rfl⟩))),x_t,x_d,BB⟩
     case measure=>simp [RowKit.intOf]
    ·skip
     have x_t:=xt
     have x_d:=xd
     have BB:=bel
     clear xt xd bel
     have zt:=b6_lt x_t
     have zd:=bx_lt x_d
     cases hD:ltQ (c1,c2) (d1,d2)
     ·skip
      have hl:r=decide ((arP a1 a2 b1 b2 d1 d2).sign=1):=by rw [hr,hD];rfl
      obtain⟨s,hs⟩: ∃ s,s=(arP a1 a2 b1 b2 d1 d2).sign:=⟨_,rfl⟩
      rw [←hs]at hl
      have HS:Hid _:=hs
      have HL:Hid _:=hl
      clear hs hl hr
      obtain⟨g,hg⟩: ∃ g,g=cmpP d1 d2 c1 c2:=⟨_,rfl⟩
      have pg:(0<g)=False:=by rw [hg];exact eq_false (cmp_not hD)
      have Gg:Hid _:=hg
      clear hg
      go_wp2
      have dd1:Below wr.heap.size wr wr.drew:=(Below.refl _ _).drew
      have zdd1:=dd1.size
      replace x_t:=x_t.on dd1
      replace x_d:=x_d.on dd1
      replace BB:=also BB dd1
      refine wp_region_held_drew (S:=(fun w'=>w'.cell? ⟨w.heap.size+1,0,none⟩=some (.int .i64 d1)∧w'.cell? ⟨w.heap.size+1,1,none⟩=some (.int .i64 d2)∧w'.cell? ⟨w.heap.size,0,none⟩=some (.int .i64 a1)∧w'.cell? ⟨w.heap.size,1,none⟩=some (.int .i64 a2)∧w'.cell? ⟨w.heap.size,2,none⟩=some (.int .i64 b1)∧w'.cell? ⟨w.heap.size,3,none⟩=some (.int .i64 b2)∧w'.cell? ⟨w.heap.size,4,none⟩=some (.int .i64 c1)∧w'.cell? ⟨w.heap.size,5,none⟩=some (.int .i64 c2)∧Below w.heap.size w w')) (by kernel_rfl) ?_ (fun hHeld=>?_)
      ·exact⟨x_d.c0,x_d.c1,x_t.c0,x_t.c1,x_t.c2,x_t.c3,x_t.c4,x_t.c5,BB⟩
      refine tn 0 ?_;refine tn 1 ?_;refine tn 2 ?_;refine tn 3 ?_
      simp only [Go.Act.put,ps1,ps2,ps3]
      refine tcl 4 fun Kc hK=>?_
      go_simp
      (go_at_call 215;refine(lCmp d1 d2 c1 c2 _ Gg.out).mono ?_;rintro e w1 ⟨rfl,bw1⟩)
      refine hK.out _ _ ?_ (fun hHeld=>?_)
      ·exact⟨cell_on bw1 hHeld.1,cell_on bw1 hHeld.2.1,cell_on bw1 hHeld.2.2.1,cell_on bw1 hHeld.2.2.2.1,cell_on bw1 hHeld.2.2.2.2.1,cell_on bw1 hHeld.2.2.2.2.2.1,cell_on bw1 hHeld.2.2.2.2.2.2.1,cell_on bw1 hHeld.2.2.2.2.2.2.2.1,also hHeld.2.2.2.2.2.2.2.2 bw1⟩
      clear hK Kc
      have zbw1:=bw1.size
      replace x_t:=x_t.on bw1
      replace x_d:=x_d.on bw1
      replace BB:=also BB bw1
      refine tz (i:=5) rfl ?_
      simp only [Go.Act.put,ps1,ps2,ps3]
      refine wpAnyH_done (by kernel_rfl) ?_ _
      have⟨x_t_0,x_t_1,x_t_2,x_t_3,x_t_4,x_t_5,x_t_6,x_t_7,x_t_8,x_t_9,x_t_10,x_t_11⟩:=x_t
      have⟨x_d_0,x_d_1,x_d_2,x_d_3⟩:=x_d
      go_wp2_with (go_at_call 126;fail)
      have B2:Below w.heap.size w ((w1.setCell ⟨w.heap.size,4,none⟩ (.int .i64 d1)).setCell ⟨w.heap.size,5,none⟩ (.int .i64 d2)):=(BB.setCell (Nat.le_refl _) _).setCell (Nat.le_refl _) _
      refine(pOrient a1 a2 b1 b2 d1 d2 _ HS.out).mono ?_
      rintro e w2 ⟨rfl,b2⟩
      go_wp2
      go_ret
      exact⟨by rw [HL.out];rfl,also B2 b2⟩
     ·skip
      obtain rfl:r=false:=by rw [hr,hD];rfl
      clear hr
      obtain⟨g,hg⟩: ∃ g,g=cmpP d1 d2 c1 c2:=⟨_,rfl⟩
      have pg:(0<g)=True:=by rw [hg];exact eq_true (cmp_yes hD)
      have Gg:Hid _:=hg
      clear hg
      go_wp2
      have dd1:Below wr.heap.size wr wr.drew:=(Below.refl _ _).drew
      have zdd1:=dd1.size
      replace x_t:=x_t.on dd1
      replace x_d:=x_d.on dd1
      replace BB:=also BB dd1
      refine wp_region_held_drew (S:=(fun w'=>w'.cell? ⟨w.heap.size+1,0,none⟩=some (.int .i64 d1)∧w'.cell? ⟨w.heap.size+1,1,none⟩=some (.int .i64 d2)∧w'.cell? ⟨w.heap.size,0,none⟩=some (.int .i64 a1)∧w'.cell? ⟨w.heap.size,1,none⟩=some (.int .i64 a2)∧w'.cell? ⟨w.heap.size,2,none⟩=some (.int .i64 b1)∧w'.cell? ⟨w.heap.size,3,none⟩=some (.int .i64 b2)∧w'.cell? ⟨w.heap.size,4,none⟩=some (.int .i64 c1)∧w'.cell? ⟨w.heap.size,5,none⟩=some (.int .i64 c2)∧Below w.heap.size w w')) (by kernel_rfl) ?_ (fun hHeld=>?_)
      ·exact⟨x_d.c0,x_d.c1,x_t.c0,x_t.c1,x_t.c2,x_t.c3,x_t.c4,x_t.c5,BB⟩
      refine tn 0 ?_;refine tn 1 ?_;refine tn 2 ?_;refine tn 3 ?_
      simp only [Go.Act.put,ps1,ps2,ps3]
      refine tcl 4 fun Kc hK=>?_
      go_simp
      (go_at_call 215;refine(lCmp d1 d2 c1 c2 _ Gg.out).mono ?_;rintro e w1 ⟨rfl,bw1⟩)
      refine hK.out _ _ ?_ (fun hHeld=>?_)
      ·exact⟨cell_on bw1 hHeld.1,cell_on bw1 hHeld.2.1,cell_on bw1 hHeld.2.2.1,cell_on bw1 hHeld.2.2.2.1,cell_on bw1 hHeld.2.2.2.2.1,cell_on bw1 hHeld.2.2.2.2.2.1,cell_on bw1 hHeld.2.2.2.2.2.2.1,cell_on bw1 hHeld.2.2.2.2.2.2.2.1,also hHeld.2.2.2.2.2.2.2.2 bw1⟩
      clear hK Kc
      have zbw1:=bw1.size
      replace x_t:=x_t.on bw1
      replace x_d:=x_d.on bw1
      replace BB:=also BB bw1
      refine tz (i:=5) rfl ?_
      simp only [Go.Act.put,ps1,ps2,ps3]
      refine wpAnyH_done (by kernel_rfl) ?_ _
      go_wp2
      go_ret
      exact⟨rfl,BB⟩
theorem eqP_no{x y z t:Int}(h:(x,y)≠(z,t))(w:World):(Op.equalIn 10000 24 (.agg #[.int .i64 x, .int .i64 y]) (.agg #[.int .i64 z, .int .i64 t])).run Tryz.prog w= .ok false w:=by
 have k: ¬(x=z∧y=t):=fun k=>h (by rw [k.1,k.2])
 by_cases e0:x=z<;>by_cases e1:y=t<;>simp [go_sem,Tryz.underlying24,Tryz.underlying2,e0,e1]<;>exact k ⟨e0,e1⟩
theorem ci_can{a b c d:Pt}(hl:leftQ a b c=true)(hd:canC d.1 d.2=true):ciP a.1 a.2 b.1 b.2 c.1 c.2 d.1 d.2=(deQ a b c d).sign:=by
 obtain⟨qa,qb,qc,_⟩:=left_iff.1 hl
 unfold ciP
 rw [can4.2 ⟨qa,qb,qc,hd⟩]
 rfl
set_option maxRecDepth 100000 in
set_option maxHeartbeats 8000000 in
theorem tConflict(a1 a2 b1 b2 c1 c2 d1 d2:Int)(w:World){r:Bool}(hr:r=cfQ (a1,a2) (b1,b2) (c1,c2) (d1,d2)):
  Calls Tryz.prog 112 #[.agg #[.int .i64 a1, .int .i64 a2], .agg #[.int .i64 b1, .int .i64 b2], .agg #[.int .i64 c1, .int .i64 c2], .agg #[.int .i64 d1, .int .i64 d2]] w fun e w'=>e= .returned (.bool r)∧Below w.heap.size w w':=by
 cases hd:canC d1 d2
 ·skip
  obtain rfl:r=false:=by rw [hr,cf_no];rintro⟨h1,_⟩;rw [hd]at h1;cases h1
  try clear hr
  try clear hl
  obtain⟨W,hW,bW,x_a,x_b,x_c,x_d,sW⟩:=bs_2222 w (.int .i64 a1) (.int .i64 a2) (.int .i64 b1) (.int .i64 b2) (.int .i64 c1) (.int .i64 c2) (.int .i64 d1) (.int .i64 d2) 24 24 24 24
  have zbW:=bW.size
  have BB:=bW
  go_enter Tryz.func112,Tryz.ntmps112
  go_wp2_with (go_at_call 129;fail)
  rw [←hW]
  clear hW
  refine(lCan d1 d2 W hd.symm).mono ?_
  rintro e w1 ⟨rfl,bw1⟩
  have zbw1:=bw1.size
  replace BB:=also BB bw1
  replace x_a:=x_a.on bw1
  replace x_b:=x_b.on bw1
  replace x_c:=x_c.on bw1
  replace x_d:=x_d.on bw1
  have⟨x_a_0,x_a_1,x_a_2,x_a_3⟩:=x_a
  have⟨x_b_0,x_b_1,x_b_2,x_b_3⟩:=x_b
  have⟨x_c_0,x_c_1,x_c_2,x_c_3⟩:=x_c
  have⟨x_d_0,x_d_1,x_d_2,x_d_3⟩:=x_d
  go_wp2
  go_ret
  exact⟨rfl,BB⟩
 ·skip
  cases hl:leftQ (a1,a2) (b1,b2) (c1,c2)
  ·skip
   obtain rfl:r=false:=by rw [hr,cf_no];rintro⟨_,h1,_⟩;rw [hl]at h1;cases h1
   obtain⟨g,hg⟩: ∃ g,g=(arP a1 a2 b1 b2 c1 c2).sign:=⟨_,rfl⟩
   have hg1: ¬g=1:=by rw [hg];exact of_decide_eq_false hl
   have G:Hid _:=hg
   clear hg
   try clear hr
   try clear hl
   obtain⟨W,hW,bW,x_a,x_b,x_c,x_d,sW⟩:=bs_2222 w (.int .i64 a1) (.int .i64 a2) (.int .i64 b1) (.int .i64 b2) (.int .i64 c1) (.int .i64 c2) (.int .i64 d1) (.int .i64 d2) 24 24 24 24
   have zbW:=bW.size
   have BB:=bW
   go_enter Tryz.func112,Tryz.ntmps112
   go_wp2_with (go_at_call 129;fail)
   rw [←hW]
   clear hW
   refine(lCan d1 d2 W hd.symm).mono ?_
   rintro e w1 ⟨rfl,bw1⟩
   have zbw1:=bw1.size
   replace BB:=also BB bw1
   replace x_a:=x_a.on bw1
   replace x_b:=x_b.on bw1
   replace x_c:=x_c.on bw1
   replace x_d:=x_d.on bw1
   have⟨x_a_0,x_a_1,x_a_2,x_a_3⟩:=x_a
   have⟨x_b_0,x_b_1,x_b_2,x_b_3⟩:=x_b
   have⟨x_c_0,x_c_1,x_c_2,x_c_3⟩:=x_c
   have⟨x_d_0,x_d_1,x_d_2,x_d_3⟩:=x_d
   go_wp2_with (go_at_call 126;fail)
   refine(pOrient a1 a2 b1 b2 c1 c2 w1 G.out).mono ?_
   rintro e w2 ⟨rfl,bw2⟩
   clear x_a_0 x_a_1 x_a_2 x_a_3 x_b_0 x_b_1 x_b_2 x_b_3 x_c_0 x_c_1 x_c_2 x_c_3 x_d_0 x_d_1 x_d_2 x_d_3
   have zbw2:=bw2.size
   replace BB:=also BB bw2
   replace x_a:=x_a.on bw2
   replace x_b:=x_b.on bw2
   replace x_c:=x_c.on bw2
   replace x_d:=x_d.on bw2
   have⟨x_a_0,x_a_1,x_a_2,x_a_3⟩:=x_a
   have⟨x_b_0,x_b_1,x_b_2,x_b_3⟩:=x_b
   have⟨x_c_0,x_c_1,x_c_2,x_c_3⟩:=x_c
   have⟨x_d_0,x_d_1,x_d_2,x_d_3⟩:=x_d
   go_wp2
   go_ret
   exact⟨rfl,BB⟩
  ·skip
   by_cases na:(d1,d2)=(a1,a2)
   ·obtain⟨rfl,rfl⟩:=Prod.mk.inj na
    obtain rfl:r=false:=by rw [hr,cf_no];rintro⟨_,_,h3,h4,h5⟩;exact h3 rfl
    obtain⟨g,hg⟩: ∃ g,g=(arP d1 d2 b1 b2 c1 c2).sign:=⟨_,rfl⟩
    obtain rfl:g=1:=by rw [hg];exact of_decide_eq_true hl
    have G:Hid _:=hg
    clear hg
    try clear hr
    try clear hl
    obtain⟨W,hW,bW,x_a,x_b,x_c,x_d,sW⟩:=bs_2222 w (.int .i64 d1) (.int .i64 d2) (.int .i64 b1) (.int .i64 b2) (.int .i64 c1) (.int .i64 c2) (.int .i64 d1) (.int .i64 d2) 24 24 24 24
    have zbW:=bW.size
    have BB:=bW
    go_enter Tryz.func112,Tryz.ntmps112
    go_wp2_with (go_at_call 129;fail)
    rw [←hW]
    clear hW
    refine(lCan d1 d2 W hd.symm).mono ?_
    rintro e w1 ⟨rfl,bw1⟩
    have zbw1:=bw1.size
    replace BB:=also BB bw1
    replace x_a:=x_a.on bw1
    replace x_b:=x_b.on bw1
    replace x_c:=x_c.on bw1
    replace x_d:=x_d.on bw1
    have⟨x_a_0,x_a_1,x_a_2,x_a_3⟩:=x_a
    have⟨x_b_0,x_b_1,x_b_2,x_b_3⟩:=x_b
    have⟨x_c_0,x_c_1,x_c_2,x_c_3⟩:=x_c
    have⟨x_d_0,x_d_1,x_d_2,x_d_3⟩:=x_d
    go_wp2_with (go_at_call 126;fail)
    refine(pOrient d1 d2 b1 b2 c1 c2 w1 G.out).mono ?_
    rintro e w2 ⟨rfl,bw2⟩
    clear x_a_0 x_a_1 x_a_2 x_a_3 x_b_0 x_b_1 x_b_2 x_b_3 x_c_0 x_c_1 x_c_2 x_c_3 x_d_0 x_d_1 x_d_2 x_d_3
    have zbw2:=bw2.size
    replace BB:=also BB bw2
    replace x_a:=x_a.on bw2
    replace x_b:=x_b.on bw2
    replace x_c:=x_c.on bw2
    replace x_d:=x_d.on bw2
    have⟨x_a_0,x_a_1,x_a_2,x_a_3⟩:=x_a
    have⟨x_b_0,x_b_1,x_b_2,x_b_3⟩:=x_b
    have⟨x_c_0,x_c_1,x_c_2,x_c_3⟩:=x_c
    have⟨x_d_0,x_d_1,x_d_2,x_d_3⟩:=x_d
    go_wp2
    go_ret
    exact⟨rfl,BB⟩
   ·skip
    by_cases nb:(d1,d2)=(b1,b2)
    ·obtain⟨rfl,rfl⟩:=Prod.mk.inj nb
     obtain rfl:r=false:=by rw [hr,cf_no];rintro⟨_,_,h3,h4,h5⟩;exact h4 rfl
     obtain⟨g,hg⟩: ∃ g,g=(arP a1 a2 d1 d2 c1 c2).sign:=⟨_,rfl⟩
     obtain rfl:g=1:=by rw [hg];exact of_decide_eq_true hl
     have G:Hid _:=hg
     clear hg
     have ka:=eqP_no na
     clear na
     try clear hr
     try clear hl
     obtain⟨W,hW,bW,x_a,x_b,x_c,x_d,sW⟩:=bs_2222 w (.int .i64 a1) (.int .i64 a2) (.int .i64 d1) (.int .i64 d2) (.int .i64 c1) (.int .i64 c2) (.int .i64 d1) (.int .i64 d2) 24 24 24 24
     have zbW:=bW.size
     have BB:=bW
     go_enter Tryz.func112,Tryz.ntmps112
     go_wp2_with (go_at_call 129;fail)
     rw [←hW]
     clear hW
     refine(lCan d1 d2 W hd.symm).mono ?_
     rintro e w1 ⟨rfl,bw1⟩
     have zbw1:=bw1.size
     replace BB:=also BB bw1
     replace x_a:=x_a.on bw1
     replace x_b:=x_b.on bw1
     replace x_c:=x_c.on bw1
     replace x_d:=x_d.on bw1
     have⟨x_a_0,x_a_1,x_a_2,x_a_3⟩:=x_a
     have⟨x_b_0,x_b_1,x_b_2,x_b_3⟩:=x_b
     have⟨x_c_0,x_c_1,x_c_2,x_c_3⟩:=x_c
     have⟨x_d_0,x_d_1,x_d_2,x_d_3⟩:=x_d
     go_wp2_with (go_at_call 126;fail)
     refine(pOrient a1 a2 d1 d2 c1 c2 w1 G.out).mono ?_
     rintro e w2 ⟨rfl,bw2⟩
     clear x_a_0 x_a_1 x_a_2 x_a_3 x_b_0 x_b_1 x_b_2 x_b_3 x_c_0 x_c_1 x_c_2 x_c_3 x_d_0 x_d_1 x_d_2 x_d_3
     have zbw2:=bw2.size
     replace BB:=also BB bw2
     replace x_a:=x_a.on bw2
     replace x_b:=x_b.on bw2
     replace x_c:=x_c.on bw2
     replace x_d:=x_d.on bw2
     have⟨x_a_0,x_a_1,x_a_2,x_a_3⟩:=x_a
     have⟨x_b_0,x_b_1,x_b_2,x_b_3⟩:=x_b
     have⟨x_c_0,x_c_1,x_c_2,x_c_3⟩:=x_c
     have⟨x_d_0,x_d_1,x_d_2,x_d_3⟩:=x_d
     go_wp2
     go_ret
     exact⟨rfl,BB⟩
    ·skip
     by_cases nc:(d1,d2)=(c1,c2)
     ·obtain⟨rfl,rfl⟩:=Prod.mk.inj nc
      obtain rfl:r=false:=by rw [hr,cf_no];rintro⟨_,_,h3,h4,h5⟩;exact h5 rfl
      obtain⟨g,hg⟩: ∃ g,g=(arP a1 a2 b1 b2 d1 d2).sign:=⟨_,rfl⟩
      obtain rfl:g=1:=by rw [hg];exact of_decide_eq_true hl
      have G:Hid _:=hg
      clear hg
      have ka:=eqP_no na
      clear na
      have kb:=eqP_no nb
      clear nb
      try clear hr
      try clear hl
      obtain⟨W,hW,bW,x_a,x_b,x_c,x_d,sW⟩:=bs_2222 w (.int .i64 a1) (.int .i64 a2) (.int .i64 b1) (.int .i64 b2) (.int .i64 d1) (.int .i64 d2) (.int .i64 d1) (.int .i64 d2) 24 24 24 24
      have zbW:=bW.size
      have BB:=bW
      go_enter Tryz.func112,Tryz.ntmps112
      go_wp2_with (go_at_call 129;fail)
      rw [←hW]
      clear hW
      refine(lCan d1 d2 W hd.symm).mono ?_
      rintro e w1 ⟨rfl,bw1⟩
      have zbw1:=bw1.size
      replace BB:=also BB bw1
      replace x_a:=x_a.on bw1
      replace x_b:=x_b.on bw1
      replace x_c:=x_c.on bw1
      replace x_d:=x_d.on bw1
      have⟨x_a_0,x_a_1,x_a_2,x_a_3⟩:=x_a
      have⟨x_b_0,x_b_1,x_b_2,x_b_3⟩:=x_b
      have⟨x_c_0,x_c_1,x_c_2,x_c_3⟩:=x_c
      have⟨x_d_0,x_d_1,x_d_2,x_d_3⟩:=x_d
      go_wp2_with (go_at_call 126;fail)
      refine(pOrient a1 a2 b1 b2 d1 d2 w1 G.out).mono ?_
      rintro e w2 ⟨rfl,bw2⟩
      clear x_a_0 x_a_1 x_a_2 x_a_3 x_b_0 x_b_1 x_b_2 x_b_3 x_c_0 x_c_1 x_c_2 x_c_3 x_d_0 x_d_1 x_d_2 x_d_3
      have zbw2:=bw2.size
      replace BB:=also BB bw2
      replace x_a:=x_a.on bw2
      replace x_b:=x_b.on bw2
      replace x_c:=x_c.on bw2
      replace x_d:=x_d.on bw2
      have⟨x_a_0,x_a_1,x_a_2,x_a_3⟩:=x_a
      have⟨x_b_0,x_b_1,x_b_2,x_b_3⟩:=x_b
      have⟨x_c_0,x_c_1,x_c_2,x_c_3⟩:=x_c
      have⟨x_d_0,x_d_1,x_d_2,x_d_3⟩:=x_d
      go_wp2
      go_ret
      exact⟨rfl,BB⟩
     ·skip
      rcases Int.lt_trichotomy (deQ (a1,a2) (b1,b2) (c1,c2) (d1,d2)) 0 with hde|hde|hde
      ·skip
       obtain⟨g,hg⟩: ∃ g,g=(arP a1 a2 b1 b2 c1 c2).sign:=⟨_,rfl⟩
       obtain rfl:g=1:=by rw [hg];exact of_decide_eq_true hl
       have G:Hid _:=hg
       clear hg
       obtain⟨m,hm⟩: ∃ m,m=ciP a1 a2 b1 b2 c1 c2 d1 d2:=⟨_,rfl⟩
       have hms:=hm.trans (ci_can (a:=(a1,a2)) (b:=(b1,b2)) (c:=(c1,c2)) (d:=(d1,d2)) hl hd)
       rw [cf_yes (a:=(a1,a2)) (b:=(b1,b2)) (c:=(c1,c2)) (d:=(d1,d2)) hd hl na nb nc]at hr
       unfold cirQ at hr
       rw [if_neg (by omega)]at hr
       obtain rfl:m= -1:=by rw [hms];exact Int.sign_eq_neg_one_of_neg hde
       obtain rfl:r=false:=by rw [hr];exact decide_eq_false (by omega)
       have M:Hid _:=hm
       clear hm hms
       have ka:=eqP_no na
       clear na
       have kb:=eqP_no nb
       clear nb
       have kc:=eqP_no nc
       clear nc
       try clear hr
       try clear hl
       clear hde
       obtain⟨W,hW,bW,x_a,x_b,x_c,x_d,sW⟩:=bs_2222 w (.int .i64 a1) (.int .i64 a2) (.int .i64 b1) (.int .i64 b2) (.int .i64 c1) (.int .i64 c2) (.int .i64 d1) (.int .i64 d2) 24 24 24 24
       have zbW:=bW.size
       have BB:=bW
       go_enter Tryz.func112,Tryz.ntmps112
       go_wp2_with (go_at_call 129;fail)
       rw [←hW]
       clear hW
       refine(lCan d1 d2 W hd.symm).mono ?_
       rintro e w1 ⟨rfl,bw1⟩
       have zbw1:=bw1.size
       replace BB:=also BB bw1
       replace x_a:=x_a.on bw1
       replace x_b:=x_b.on bw1
       replace x_c:=x_c.on bw1
       replace x_d:=x_d.on bw1
       have⟨x_a_0,x_a_1,x_a_2,x_a_3⟩:=x_a
       have⟨x_b_0,x_b_1,x_b_2,x_b_3⟩:=x_b
       have⟨x_c_0,x_c_1,x_c_2,x_c_3⟩:=x_c
       have⟨x_d_0,x_d_1,x_d_2,x_d_3⟩:=x_d
       go_wp2_with (go_at_call 126;fail)
       refine(pOrient a1 a2 b1 b2 c1 c2 w1 G.out).mono ?_
       rintro e w2 ⟨rfl,bw2⟩
       clear x_a_0 x_a_1 x_a_2 x_a_3 x_b_0 x_b_1 x_b_2 x_b_3 x_c_0 x_c_1 x_c_2 x_c_3 x_d_0 x_d_1 x_d_2 x_d_3
       have zbw2:=bw2.size
       replace BB:=also BB bw2
       replace x_a:=x_a.on bw2
       replace x_b:=x_b.on bw2
       replace x_c:=x_c.on bw2
       replace x_d:=x_d.on bw2
       have⟨x_a_0,x_a_1,x_a_2,x_a_3⟩:=x_a
       have⟨x_b_0,x_b_1,x_b_2,x_b_3⟩:=x_b
       have⟨x_c_0,x_c_1,x_c_2,x_c_3⟩:=x_c
       have⟨x_d_0,x_d_1,x_d_2,x_d_3⟩:=x_d
       go_wp2_with (go_at_call 165;fail)
       refine(pCircle a1 a2 b1 b2 c1 c2 d1 d2 w2 M.out).mono ?_
       rintro e w3 ⟨rfl,bw3⟩
       clear x_a_0 x_a_1 x_a_2 x_a_3 x_b_0 x_b_1 x_b_2 x_b_3 x_c_0 x_c_1 x_c_2 x_c_3 x_d_0 x_d_1 x_d_2 x_d_3
       have zbw3:=bw3.size
       replace BB:=also BB bw3
       replace x_a:=x_a.on bw3
       replace x_b:=x_b.on bw3
       replace x_c:=x_c.on bw3
       replace x_d:=x_d.on bw3
       have⟨x_a_0,x_a_1,x_a_2,x_a_3⟩:=x_a
       have⟨x_b_0,x_b_1,x_b_2,x_b_3⟩:=x_b
       have⟨x_c_0,x_c_1,x_c_2,x_c_3⟩:=x_c
       have⟨x_d_0,x_d_1,x_d_2,x_d_3⟩:=x_d
       go_wp2
       go_ret
       exact⟨rfl,BB⟩
      ·skip
       obtain⟨g,hg⟩: ∃ g,g=(arP a1 a2 b1 b2 c1 c2).sign:=⟨_,rfl⟩
       obtain rfl:g=1:=by rw [hg];exact of_decide_eq_true hl
       have G:Hid _:=hg
       clear hg
       obtain⟨m,hm⟩: ∃ m,m=ciP a1 a2 b1 b2 c1 c2 d1 d2:=⟨_,rfl⟩
       have hms:=hm.trans (ci_can (a:=(a1,a2)) (b:=(b1,b2)) (c:=(c1,c2)) (d:=(d1,d2)) hl hd)
       rw [cf_yes (a:=(a1,a2)) (b:=(b1,b2)) (c:=(c1,c2)) (d:=(d1,d2)) hd hl na nb nc]at hr
       unfold cirQ at hr
       rw [if_pos hde]at hr
       obtain rfl:m=0:=by rw [hms,hde];rfl
       obtain⟨qa,qb,qc,p⟩:=left_iff.1 hl
       rw [←oc_tie qa qb qc hd p na nb nc]at hr
       have HR:Hid _:=hr
       have M:Hid _:=hm
       clear hm hms
       have ka:=eqP_no na
       clear na
       have kb:=eqP_no nb
       clear nb
       have kc:=eqP_no nc
       clear nc
       try clear hr
       try clear hl
       clear hde qa qb qc p
       obtain⟨W,hW,bW,x_a,x_b,x_c,x_d,sW⟩:=bs_2222 w (.int .i64 a1) (.int .i64 a2) (.int .i64 b1) (.int .i64 b2) (.int .i64 c1) (.int .i64 c2) (.int .i64 d1) (.int .i64 d2) 24 24 24 24
       have zbW:=bW.size
       have BB:=bW
       go_enter Tryz.func112,Tryz.ntmps112
       go_wp2_with (go_at_call 129;fail)
       rw [←hW]
       clear hW
       refine(lCan d1 d2 W hd.symm).mono ?_
       rintro e w1 ⟨rfl,bw1⟩
       have zbw1:=bw1.size
       replace BB:=also BB bw1
       replace x_a:=x_a.on bw1
       replace x_b:=x_b.on bw1
       replace x_c:=x_c.on bw1
       replace x_d:=x_d.on bw1
       have⟨x_a_0,x_a_1,x_a_2,x_a_3⟩:=x_a
       have⟨x_b_0,x_b_1,x_b_2,x_b_3⟩:=x_b
       have⟨x_c_0,x_c_1,x_c_2,x_c_3⟩:=x_c
       have⟨x_d_0,x_d_1,x_d_2,x_d_3⟩:=x_d
       go_wp2_with (go_at_call 126;fail)
       refine(pOrient a1 a2 b1 b2 c1 c2 w1 G.out).mono ?_
       rintro e w2 ⟨rfl,bw2⟩
       clear x_a_0 x_a_1 x_a_2 x_a_3 x_b_0 x_b_1 x_b_2 x_b_3 x_c_0 x_c_1 x_c_2 x_c_3 x_d_0 x_d_1 x_d_2 x_d_3
       have zbw2:=bw2.size
       replace BB:=also BB bw2
       replace x_a:=x_a.on bw2
       replace x_b:=x_b.on bw2
       replace x_c:=x_c.on bw2
       replace x_d:=x_d.on bw2
       have⟨x_a_0,x_a_1,x_a_2,x_a_3⟩:=x_a
       have⟨x_b_0,x_b_1,x_b_2,x_b_3⟩:=x_b
       have⟨x_c_0,x_c_1,x_c_2,x_c_3⟩:=x_c
       have⟨x_d_0,x_d_1,x_d_2,x_d_3⟩:=x_d
       go_wp2_with (go_at_call 165;fail)
       refine(pCircle a1 a2 b1 b2 c1 c2 d1 d2 w2 M.out).mono ?_
       rintro e w3 ⟨rfl,bw3⟩
       clear x_a_0 x_a_1 x_a_2 x_a_3 x_b_0 x_b_1 x_b_2 x_b_3 x_c_0 x_c_1 x_c_2 x_c_3 x_d_0 x_d_1 x_d_2 x_d_3
       have zbw3:=bw3.size
       replace BB:=also BB bw3
       replace x_a:=x_a.on bw3
       replace x_b:=x_b.on bw3
       replace x_c:=x_c.on bw3
       replace x_d:=x_d.on bw3
       have⟨x_a_0,x_a_1,x_a_2,x_a_3⟩:=x_a
       have⟨x_b_0,x_b_1,x_b_2,x_b_3⟩:=x_b
       have⟨x_c_0,x_c_1,x_c_2,x_c_3⟩:=x_c
       have⟨x_d_0,x_d_1,x_d_2,x_d_3⟩:=x_d
       go_wp2_with (go_at_call 166;fail)
       refine(tOn a1 a2 b1 b2 c1 c2 d1 d2 w3 HR.out).mono ?_
       rintro e w4 ⟨rfl,bw4⟩
       clear x_a_0 x_a_1 x_a_2 x_a_3 x_b_0 x_b_1 x_b_2 x_b_3 x_c_0 x_c_1 x_c_2 x_c_3 x_d_0 x_d_1 x_d_2 x_d_3
       have zbw4:=bw4.size
       replace BB:=also BB bw4
       replace x_a:=x_a.on bw4
       replace x_b:=x_b.on bw4
       replace x_c:=x_c.on bw4
       replace x_d:=x_d.on bw4
       go_wp2
       go_ret
       exact⟨rfl,BB⟩
      ·skip
       obtain⟨g,hg⟩: ∃ g,g=(arP a1 a2 b1 b2 c1 c2).sign:=⟨_,rfl⟩
       obtain rfl:g=1:=by rw [hg];exact of_decide_eq_true hl
       have G:Hid _:=hg
       clear hg
       obtain⟨m,hm⟩: ∃ m,m=ciP a1 a2 b1 b2 c1 c2 d1 d2:=⟨_,rfl⟩
       have hms:=hm.trans (ci_can (a:=(a1,a2)) (b:=(b1,b2)) (c:=(c1,c2)) (d:=(d1,d2)) hl hd)
       rw [cf_yes (a:=(a1,a2)) (b:=(b1,b2)) (c:=(c1,c2)) (d:=(d1,d2)) hd hl na nb nc]at hr
       unfold cirQ at hr
       rw [if_neg (by omega)]at hr
       obtain rfl:m=1:=by rw [hms];exact Int.sign_eq_one_of_pos hde
       obtain rfl:r=true:=by rw [hr];exact decide_eq_true (by omega)
       have M:Hid _:=hm
       clear hm hms
       have ka:=eqP_no na
       clear na
       have kb:=eqP_no nb
       clear nb
       have kc:=eqP_no nc
       clear nc
       try clear hr
       try clear hl
       clear hde
       obtain⟨W,hW,bW,x_a,x_b,x_c,x_d,sW⟩:=bs_2222 w (.int .i64 a1) (.int .i64 a2) (.int .i64 b1) (.int .i64 b2) (.int .i64 c1) (.int .i64 c2) (.int .i64 d1) (.int .i64 d2) 24 24 24 24
       have zbW:=bW.size
       have BB:=bW
       go_enter Tryz.func112,Tryz.ntmps112
       go_wp2_with (go_at_call 129;fail)
       rw [←hW]
       clear hW
       refine(lCan d1 d2 W hd.symm).mono ?_
       rintro e w1 ⟨rfl,bw1⟩
       have zbw1:=bw1.size
       replace BB:=also BB bw1
       replace x_a:=x_a.on bw1
       replace x_b:=x_b.on bw1
       replace x_c:=x_c.on bw1
       replace x_d:=x_d.on bw1
       have⟨x_a_0,x_a_1,x_a_2,x_a_3⟩:=x_a
       have⟨x_b_0,x_b_1,x_b_2,x_b_3⟩:=x_b
       have⟨x_c_0,x_c_1,x_c_2,x_c_3⟩:=x_c
       have⟨x_d_0,x_d_1,x_d_2,x_d_3⟩:=x_d
       go_wp2_with (go_at_call 126;fail)
       refine(pOrient a1 a2 b1 b2 c1 c2 w1 G.out).mono ?_
       rintro e w2 ⟨rfl,bw2⟩
       clear x_a_0 x_a_1 x_a_2 x_a_3 x_b_0 x_b_1 x_b_2 x_b_3 x_c_0 x_c_1 x_c_2 x_c_3 x_d_0 x_d_1 x_d_2 x_d_3
       have zbw2:=bw2.size
       replace BB:=also BB bw2
       replace x_a:=x_a.on bw2
       replace x_b:=x_b.on bw2
       replace x_c:=x_c.on bw2
       replace x_d:=x_d.on bw2
       have⟨x_a_0,x_a_1,x_a_2,x_a_3⟩:=x_a
       have⟨x_b_0,x_b_1,x_b_2,x_b_3⟩:=x_b
       have⟨x_c_0,x_c_1,x_c_2,x_c_3⟩:=x_c
       have⟨x_d_0,x_d_1,x_d_2,x_d_3⟩:=x_d
       go_wp2_with (go_at_call 165;fail)
       refine(pCircle a1 a2 b1 b2 c1 c2 d1 d2 w2 M.out).mono ?_
       rintro e w3 ⟨rfl,bw3⟩
       clear x_a_0 x_a_1 x_a_2 x_a_3 x_b_0 x_b_1 x_b_2 x_b_3 x_c_0 x_c_1 x_c_2 x_c_3 x_d_0 x_d_1 x_d_2 x_d_3
       have zbw3:=bw3.size
       replace BB:=also BB bw3
       replace x_a:=x_a.on bw3
       replace x_b:=x_b.on bw3
       replace x_c:=x_c.on bw3
       replace x_d:=x_d.on bw3
       have⟨x_a_0,x_a_1,x_a_2,x_a_3⟩:=x_a
       have⟨x_b_0,x_b_1,x_b_2,x_b_3⟩:=x_b
       have⟨x_c_0,x_c_1,x_c_2,x_c_3⟩:=x_c
       have⟨x_d_0,x_d_1,x_d_2,x_d_3⟩:=x_d
       go_wp2
       go_ret
       exact⟨rfl,BB⟩
end Go.Proofs.YtjmhfdimoeaplaaGreat
