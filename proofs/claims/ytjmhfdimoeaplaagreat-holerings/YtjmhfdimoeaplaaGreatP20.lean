/-
  Joined texts, part 20:
  Slices of points, and what package tie's Best answers.
  How a hole is filled, over whatever tells which corner goes with an edge. It imports nothi
  Layer 13's hole: pointsAt; slices.Grow of none, slices.Concat of two slices of ints.
  Layer 13's hole: fill, Fill.
  Layer 13's hole: Fill; the law's lives, and zelligeref13's Same at lists that are one.
-/
import Derived.Test.YtjmhfdimoeaplaaGreatP19
import Derived.Test.YtjmhfdimoeaplaaGreatP2
import Derived.Lib.AppendZeros
import Derived.ChangeKeysEq
namespace Go.Proofs.YtjmhfdimoeaplaaGreat
open Go.RowKit
set_option linter.unusedVariables false
structure Pc(w:World)(b q:Nat)(x y:Value):Prop where
 c0:w.cell? ⟨b,q,none⟩=some x
 c1:w.cell? ⟨b,q+1,none⟩=some y
 f0:w.frozen? ⟨b,q,none⟩=false
 f1:w.frozen? ⟨b,q+1,none⟩=false
theorem Pc.on{w w':World}{b q:Nat}{x y:Value}(h:Pc w b q x y)(hb:Below w.heap.size w w'):Pc w' b q x y:=⟨cell_on hb h.c0,cell_on hb h.c1,free_on hb h.c0 h.f0,free_on hb h.c1 h.f1⟩
structure PSl(w:World)(a:Option Addr)(n cap:Nat)(L:List Pt):Prop where
 len:L.length=n
 room:n≤cap
 nil:a=none→n=0∧cap=0
 seg:n=0∨ ∃ b o,a=some ⟨b,o,none⟩∧b<w.heap.size∧Seg w b o (pcells L)
theorem PSl.below{w w':World}{a:Option Addr}{n cap:Nat}{L:List Pt}(h:PSl w a n cap L)(hb:Below w.heap.size w w'):PSl w' a n cap L:=by
 refine⟨h.len,h.room,h.nil,?_⟩
 rcases h.seg with e|⟨b,o,e,hlt,hs⟩
 ·exact Or.inl e
 ·exact Or.inr ⟨b,o,e,Nat.lt_of_lt_of_le hlt hb.size,hs.below hb hlt⟩
theorem pcells_length: ∀ L:List Pt,(pcells L).length=L.length*2
 | []=>rfl
 |p::l=>by have:=pcells_length l;simp only [pcells,List.length_cons,this];omega
theorem PSl.at{w:World}{a:Option Addr}{n cap k:Nat}{L:List Pt}(h:PSl w a n cap L)(hk:k<n): ∃ b o x y,a=some ⟨b,o,none⟩∧b<w.heap.size∧L[k]? =some (x,y)∧ ∀ j x y,L[j]? =some (x,y)→Pc w b (o+j*2) (.int .i64 x) (.int .i64 y):=by
 rcases h.seg with e|⟨b,o,e,hlt,hs⟩
 ·omega
 ·have hkl:k<L.length:=by rw [h.len];exact hk
  refine⟨b,o,L[k].1,L[k].2,e,hlt,List.getElem?_eq_getElem hkl,fun j x y hj=>?_⟩
  obtain⟨e1,e2⟩:=pcells_at L j x y hj
  have hjl:=(List.getElem?_eq_some_iff.1 hj).1
  have hl:=pcells_length L
  exact⟨hs.cell _ _ e1,hs.cell _ _ e2,hs.free (j*2) (by omega),hs.free (j*2+1) (by omega)⟩
theorem bst_step{a b c:Pt}{L:List Pt}{k:Nat}(h:L[k]? =some c):bstQ a b L (k+1)=if leftQ a b c && (decide (bstQ a b L k<0)||cfQ a b (L.getD (bstQ a b L k).toNat (0,0)) c)then(k:Int)else bstQ a b L k:=by
 conv=>lhs;unfold bstQ
 rw [List.getD,h]
 rfl
theorem bst_no{a b c:Pt}{L:List Pt}{k:Nat}{z:Int}(h:L[k]? =some c)(hz:z=bstQ a b L k)(hl:leftQ a b c=false):z=bstQ a b L (k+1):=by
 rw [bst_step h,hl,hz];rfl
theorem bst_first{a b c:Pt}{L:List Pt}{k:Nat}(h:L[k]? =some c)(hz: -1=bstQ a b L k)(hl:leftQ a b c=true):(k:Int)=bstQ a b L (k+1):=by
 rw [bst_step h,hl,←hz];rfl
theorem bst_more{a b c d:Pt}{L:List Pt}{k j:Nat}{q:Bool}(h:L[k]? =some c)(hz:(j:Int)=bstQ a b L k)(hj:L[j]? =some d)(hl:leftQ a b c=true)(hq:cfQ a b d c=q):(if q=true then(k:Int)else(j:Int))=bstQ a b L (k+1):=by
 rw [bst_step h,hl,←hz,Int.toNat_natCast,List.getD,hj,decide_eq_false (by omega: ¬(j:Int)<0)]
 show _=if(true && (false||cfQ a b d c))=true then _ else _
 rw [hq]
 cases q<;>rfl
set_option maxRecDepth 100000 in
set_option maxHeartbeats 8000000 in
theorem tBest(a1 a2 b1 b2:Int)(s:Option Addr)(n cap:Nat)(L:List Pt)(w:World)(hL:PSl w s n cap L)(hn:n≤1000000){r:Int}(hr:r=bstQ (a1,a2) (b1,b2) L n):
  Calls Tryz.prog 207 #[.agg #[.int .i64 a1, .int .i64 a2], .agg #[.int .i64 b1, .int .i64 b2], .slice s n cap] w fun e w'=>e= .returned (.int .i64 r)∧Below w.heap.size w w':=by
 have HR:Hid _:=hr
 clear hr
 obtain⟨W,hW,bW,x_a,x_b,sW⟩:=bs_22 w (.int .i64 a1) (.int .i64 a2) (.int .i64 b1) (.int .i64 b2) 24 24
 have zbW:=bW.size
 have BB:=bW
 go_enter Tryz.func207,Tryz.ntmps207
 go_wp2
 rw [←hW]
 clear hW
 go_loopw [7,12] (fun m i wr=> ∃ (k:Nat) (z:Int),k≤n∧i= .int .i64 (k:Int)∧m= .int .i64 z∧Hid (z=bstQ (a1,a2) (b1,b2) L k)∧Bx wr w.heap.size (.int .i64 a1) (.int .i64 a2)∧Bx wr (w.heap.size+1) (.int .i64 b1) (.int .i64 b2)∧Below w.heap.size w wr) (fun _ i _=>n- (RowKit.intOf i).toNat)
 case atStart=>exact⟨0, -1,by omega,rfl,rfl,rfl,x_a,x_b,BB⟩
 case round=>
  clear x_a x_b BB
  obtain⟨k,z,hk,rfl,rfl,hz,x_a,x_b,BB⟩:=hrel
  by_cases hlt:k<n
  ·obtain⟨bl,ofs,x,y,rfl,hbl,hxy,hpc⟩:=(hL.below BB).at hlt
   have x_e:=hpc k x y hxy
   have hw:wrap64 ((k:Int)+1)=(k:Int)+1:=wrap_in (by omega) (by omega)
   have hlt':(k:Int)<(n:Int):=by omega
   have zb:=bx_lt x_b
   have hrng:=bst_range (a1,a2) (b1,b2) L k
   rw [←hz.out]at hrng
   have HXY:Hid _:=hxy
   have hLl:=hL.len
   clear hxy hL
   cases hl:leftQ (a1,a2) (b1,b2) (x,y)
   ·skip
    obtain⟨g,hg⟩: ∃ g,g=(arP a1 a2 b1 b2 x y).sign:=⟨_,rfl⟩
    have hg1:(g==1)=false:=by rw [hg];simpa using of_decide_eq_false hl
    have G:Hid _:=hg
    clear hg
    have HL:Hid _:=hl
    clear hl
    have q1:=x_e.c0
    have q2:=x_e.c1
    obtain⟨V,hV,bV,x_p,sV⟩:=bs_2 wr (.int .i64 x) (.int .i64 y) 24
    have zbV:=bV.size
    replace x_a:=x_a.on bV
    replace x_b:=x_b.on bV
    replace BB:=also BB bV
    replace x_e:=x_e.on bV
    go_wp2
    rw [←hV]
    clear hV
    clear q1 q2
    have dd1:Below V.heap.size V V.drew:=(Below.refl _ _).drew
    have zdd1:=dd1.size
    replace x_a:=x_a.on dd1
    replace x_b:=x_b.on dd1
    replace BB:=also BB dd1
    replace x_e:=x_e.on dd1
    replace x_p:=x_p.on dd1
    refine wp_region_held_drew (S:=(fun w'=>w'.cell? ⟨w.heap.size,0,none⟩=some (.int .i64 a1)∧w'.cell? ⟨w.heap.size,1,none⟩=some (.int .i64 a2)∧w'.cell? ⟨w.heap.size+1,0,none⟩=some (.int .i64 b1)∧w'.cell? ⟨w.heap.size+1,1,none⟩=some (.int .i64 b2)∧w'.cell? ⟨wr.heap.size,0,none⟩=some (.int .i64 x)∧w'.cell? ⟨wr.heap.size,1,none⟩=some (.int .i64 y)∧Below w.heap.size w w')) (by kernel_rfl) ?_ (fun hHeld=>?_)
    ·exact⟨x_a.c0,x_a.c1,x_b.c0,x_b.c1,x_p.c0,x_p.c1,BB⟩
    refine tz (i:=0) rfl ?_
    simp only [Go.Act.put,ps1,ps2,ps3]
    refine tz (i:=1) rfl ?_
    simp only [Go.Act.put,ps1,ps2,ps3]
    refine tz (i:=2) rfl ?_
    simp only [Go.Act.put,ps1,ps2,ps3]
    refine tcl 3 fun Kc hK=>?_
    go_simp
    (go_at_call 126;refine(pOrient a1 a2 b1 b2 x y _ G.out).mono ?_;rintro e w1 ⟨rfl,bw1⟩)
    refine hK.out _ _ ?_ (fun hHeld=>?_)
    ·exact⟨cell_on bw1 hHeld.1,cell_on bw1 hHeld.2.1,cell_on bw1 hHeld.2.2.1,cell_on bw1 hHeld.2.2.2.1,cell_on bw1 hHeld.2.2.2.2.1,cell_on bw1 hHeld.2.2.2.2.2.1,also hHeld.2.2.2.2.2.2 bw1⟩
    clear hK Kc
    have zbw1:=bw1.size
    replace x_a:=x_a.on bw1
    replace x_b:=x_b.on bw1
    replace BB:=also BB bw1
    replace x_e:=x_e.on bw1
    replace x_p:=x_p.on bw1
    refine tz (i:=4) rfl ?_
    simp only [Go.Act.put,ps1,ps2,ps3]
    refine tz (i:=5) rfl ?_
    simp only [Go.Act.put,ps1,ps2,ps3]
    refine tno 6 ?_
    simp only [Go.Act.put,ps1,ps2,ps3]
    refine tno 7 ?_
    simp only [Go.Act.put,ps1,ps2,ps3]
    refine tno 8 ?_
    simp only [Go.Act.put,ps1,ps2,ps3]
    refine tno 9 ?_
    simp only [Go.Act.put,ps1,ps2,ps3]
    refine tno 10 ?_
    simp only [Go.Act.put,ps1,ps2,ps3]
    refine tno 11 ?_
    simp only [Go.Act.put,ps1,ps2,ps3]
    refine tno 12 ?_
    simp only [Go.Act.put,ps1,ps2,ps3]
    refine tno 13 ?_
    simp only [Go.Act.put,ps1,ps2,ps3]
    refine tno 14 ?_
    simp only [Go.Act.put,ps1,ps2,ps3]
    refine tno 15 ?_
    simp only [Go.Act.put,ps1,ps2,ps3]
    refine tno 16 ?_
    simp only [Go.Act.put,ps1,ps2,ps3]
    refine tno 17 ?_
    simp only [Go.Act.put,ps1,ps2,ps3]
    refine tz (i:=18) rfl ?_
    simp only [Go.Act.put,ps1,ps2,ps3]
    refine wpAnyH_done (by kernel_rfl) ?_ _
    go_wp2
    go_roundw
    case rel=>exact⟨k+1,_,by omega,by simp,rfl,bst_no HXY.out hz.out HL.out,x_a,x_b,BB⟩
    case measure=>simp [RowKit.intOf];omega
   ·by_cases hz0:z<0
    ·obtain rfl:z= -1:=by omega
     obtain⟨g,hg⟩: ∃ g,g=(arP a1 a2 b1 b2 x y).sign:=⟨_,rfl⟩
     obtain rfl:g=1:=by rw [hg];exact of_decide_eq_true hl
     have G:Hid _:=hg
     clear hg
     have HL:Hid _:=hl
     clear hl
     have q1:=x_e.c0
     have q2:=x_e.c1
     obtain⟨V,hV,bV,x_p,sV⟩:=bs_2 wr (.int .i64 x) (.int .i64 y) 24
     have zbV:=bV.size
     replace x_a:=x_a.on bV
     replace x_b:=x_b.on bV
     replace BB:=also BB bV
     replace x_e:=x_e.on bV
     go_wp2
     rw [←hV]
     clear hV
     clear q1 q2
     have dd1:Below V.heap.size V V.drew:=(Below.refl _ _).drew
     have zdd1:=dd1.size
     replace x_a:=x_a.on dd1
     replace x_b:=x_b.on dd1
     replace BB:=also BB dd1
     replace x_e:=x_e.on dd1
     replace x_p:=x_p.on dd1
     refine wp_region_held_drew (S:=(fun w'=>w'.cell? ⟨w.heap.size,0,none⟩=some (.int .i64 a1)∧w'.cell? ⟨w.heap.size,1,none⟩=some (.int .i64 a2)∧w'.cell? ⟨w.heap.size+1,0,none⟩=some (.int .i64 b1)∧w'.cell? ⟨w.heap.size+1,1,none⟩=some (.int .i64 b2)∧w'.cell? ⟨wr.heap.size,0,none⟩=some (.int .i64 x)∧w'.cell? ⟨wr.heap.size,1,none⟩=some (.int .i64 y)∧Below w.heap.size w w')) (by kernel_rfl) ?_ (fun hHeld=>?_)
     ·exact⟨x_a.c0,x_a.c1,x_b.c0,x_b.c1,x_p.c0,x_p.c1,BB⟩
     refine tz (i:=0) rfl ?_
     simp only [Go.Act.put,ps1,ps2,ps3]
     refine tz (i:=1) rfl ?_
     simp only [Go.Act.put,ps1,ps2,ps3]
     refine tz (i:=2) rfl ?_
     simp only [Go.Act.put,ps1,ps2,ps3]
     refine tcl 3 fun Kc hK=>?_
     go_simp
     (go_at_call 126;refine(pOrient a1 a2 b1 b2 x y _ G.out).mono ?_;rintro e w1 ⟨rfl,bw1⟩)
     refine hK.out _ _ ?_ (fun hHeld=>?_)
     ·exact⟨cell_on bw1 hHeld.1,cell_on bw1 hHeld.2.1,cell_on bw1 hHeld.2.2.1,cell_on bw1 hHeld.2.2.2.1,cell_on bw1 hHeld.2.2.2.2.1,cell_on bw1 hHeld.2.2.2.2.2.1,also hHeld.2.2.2.2.2.2 bw1⟩
     clear hK Kc
     have zbw1:=bw1.size
     replace x_a:=x_a.on bw1
     replace x_b:=x_b.on bw1
     replace BB:=also BB bw1
     replace x_e:=x_e.on bw1
     replace x_p:=x_p.on bw1
     refine tz (i:=4) rfl ?_
     simp only [Go.Act.put,ps1,ps2,ps3]
     refine tz (i:=5) rfl ?_
     simp only [Go.Act.put,ps1,ps2,ps3]
     refine tz (i:=6) rfl ?_
     simp only [Go.Act.put,ps1,ps2,ps3]
     refine tz (i:=7) rfl ?_
     simp only [Go.Act.put,ps1,ps2,ps3]
     refine tz (i:=8) rfl ?_
     simp only [Go.Act.put,ps1,ps2,ps3]
     refine tno 9 ?_
     simp only [Go.Act.put,ps1,ps2,ps3]
     refine tno 10 ?_
     simp only [Go.Act.put,ps1,ps2,ps3]
     refine tno 11 ?_
     simp only [Go.Act.put,ps1,ps2,ps3]
     refine tno 12 ?_
     simp only [Go.Act.put,ps1,ps2,ps3]
     refine tno 13 ?_
     simp only [Go.Act.put,ps1,ps2,ps3]
     refine tno 14 ?_
     simp only [Go.Act.put,ps1,ps2,ps3]
     refine tno 15 ?_
     simp only [Go.Act.put,ps1,ps2,ps3]
     refine tno 16 ?_
     simp only [Go.Act.put,ps1,ps2,ps3]
     refine tz (i:=17) rfl ?_
     simp only [Go.Act.put,ps1,ps2,ps3]
     refine tz (i:=18) rfl ?_
     simp only [Go.Act.put,ps1,ps2,ps3]
     refine wpAnyH_done (by kernel_rfl) ?_ _
     go_wp2
     go_roundw
     case rel=>exact⟨k+1,_,by omega,by simp,rfl,bst_first HXY.out hz.out HL.out,x_a,x_b,BB⟩
     case measure=>simp [RowKit.intOf];omega
    ·obtain⟨j,rfl⟩: ∃ j:Nat,z=(j:Int):=⟨z.toNat,by omega⟩
     have hjk:j<n:=by omega
     have hjk':(j:Int)<(n:Int):=by omega
     obtain⟨u,v,huv⟩: ∃ u v,L[j]? =some (u,v):=⟨_,_,List.getElem?_eq_getElem (by rw [hLl];exact hjk)⟩
     have x_l:=hpc j u v huv
     have HJ:Hid _:=huv
     clear huv hrng
     cases hcf:cfQ (a1,a2) (b1,b2) (u,v) (x,y)
     ·skip
      obtain⟨g,hg⟩: ∃ g,g=(arP a1 a2 b1 b2 x y).sign:=⟨_,rfl⟩
      obtain rfl:g=1:=by rw [hg];exact of_decide_eq_true hl
      have G:Hid _:=hg
      clear hg
      have HL:Hid _:=hl
      clear hl
      have HC:Hid _:=hcf
      clear hcf
      have q1:=x_e.c0
      have q2:=x_e.c1
      obtain⟨V,hV,bV,x_p,sV⟩:=bs_2 wr (.int .i64 x) (.int .i64 y) 24
      have zbV:=bV.size
      replace x_a:=x_a.on bV
      replace x_b:=x_b.on bV
      replace BB:=also BB bV
      replace x_e:=x_e.on bV
      replace x_l:=x_l.on bV
      go_wp2
      rw [←hV]
      clear hV
      clear q1 q2
      have dd1:Below V.heap.size V V.drew:=(Below.refl _ _).drew
      have zdd1:=dd1.size
      replace x_a:=x_a.on dd1
      replace x_b:=x_b.on dd1
      replace BB:=also BB dd1
      replace x_e:=x_e.on dd1
      replace x_l:=x_l.on dd1
      replace x_p:=x_p.on dd1
      refine wp_region_held_drew (S:=(fun w'=>w'.cell? ⟨w.heap.size,0,none⟩=some (.int .i64 a1)∧w'.cell? ⟨w.heap.size,1,none⟩=some (.int .i64 a2)∧w'.cell? ⟨w.heap.size+1,0,none⟩=some (.int .i64 b1)∧w'.cell? ⟨w.heap.size+1,1,none⟩=some (.int .i64 b2)∧w'.cell? ⟨wr.heap.size,0,none⟩=some (.int .i64 x)∧w'.cell? ⟨wr.heap.size,1,none⟩=some (.int .i64 y)∧w'.cell? ⟨bl,ofs+j*2,none⟩=some (.int .i64 u)∧w'.cell? ⟨bl,ofs+j*2+1,none⟩=some (.int .i64 v)∧Below w.heap.size w w')) (by kernel_rfl) ?_ (fun hHeld=>?_)
      ·exact⟨x_a.c0,x_a.c1,x_b.c0,x_b.c1,x_p.c0,x_p.c1,x_l.c0,x_l.c1,BB⟩
      refine tz (i:=0) rfl ?_
      simp only [Go.Act.put,ps1,ps2,ps3]
      refine tz (i:=1) rfl ?_
      simp only [Go.Act.put,ps1,ps2,ps3]
      refine tz (i:=2) rfl ?_
      simp only [Go.Act.put,ps1,ps2,ps3]
      refine tcl 3 fun Kc hK=>?_
      go_simp
      (go_at_call 126;refine(pOrient a1 a2 b1 b2 x y _ G.out).mono ?_;rintro e w1 ⟨rfl,bw1⟩)
      refine hK.out _ _ ?_ (fun hHeld=>?_)
      ·exact⟨cell_on bw1 hHeld.1,cell_on bw1 hHeld.2.1,cell_on bw1 hHeld.2.2.1,cell_on bw1 hHeld.2.2.2.1,cell_on bw1 hHeld.2.2.2.2.1,cell_on bw1 hHeld.2.2.2.2.2.1,cell_on bw1 hHeld.2.2.2.2.2.2.1,cell_on bw1 hHeld.2.2.2.2.2.2.2.1,also hHeld.2.2.2.2.2.2.2.2 bw1⟩
      clear hK Kc
      have zbw1:=bw1.size
      replace x_a:=x_a.on bw1
      replace x_b:=x_b.on bw1
      replace BB:=also BB bw1
      replace x_e:=x_e.on bw1
      replace x_l:=x_l.on bw1
      replace x_p:=x_p.on bw1
      refine tz (i:=4) rfl ?_
      simp only [Go.Act.put,ps1,ps2,ps3]
      refine tz (i:=5) rfl ?_
      simp only [Go.Act.put,ps1,ps2,ps3]
      refine tz (i:=6) rfl ?_
      simp only [Go.Act.put,ps1,ps2,ps3]
      refine tz (i:=7) rfl ?_
      simp only [Go.Act.put,ps1,ps2,ps3]
      refine tz (i:=8) rfl ?_
      simp only [Go.Act.put,ps1,ps2,ps3]
      refine tz (i:=9) rfl ?_
      simp only [Go.Act.put,ps1,ps2,ps3]
      refine tz (i:=10) rfl ?_
      simp only [Go.Act.put,ps1,ps2,ps3]
      refine tz (i:=11) rfl ?_
      simp only [Go.Act.put,ps1,ps2,ps3]
      refine tz (i:=12) rfl ?_
      simp only [Go.Act.put,ps1,ps2,ps3]
      refine tz (i:=13) rfl ?_
      simp only [Go.Act.put,ps1,ps2,ps3]
      refine tz (i:=14) rfl ?_
      simp only [Go.Act.put,ps1,ps2,ps3]
      refine tz (i:=15) rfl ?_
      simp only [Go.Act.put,ps1,ps2,ps3]
      refine tcl 16 fun Kc hK=>?_
      go_simp
      (go_at_call 112;refine(tConflict a1 a2 b1 b2 u v x y _ HC.out.symm).mono ?_;rintro e w2 ⟨rfl,bw2⟩)
      refine hK.out _ _ ?_ (fun hHeld=>?_)
      ·exact⟨cell_on bw2 hHeld.1,cell_on bw2 hHeld.2.1,cell_on bw2 hHeld.2.2.1,cell_on bw2 hHeld.2.2.2.1,cell_on bw2 hHeld.2.2.2.2.1,cell_on bw2 hHeld.2.2.2.2.2.1,cell_on bw2 hHeld.2.2.2.2.2.2.1,cell_on bw2 hHeld.2.2.2.2.2.2.2.1,also hHeld.2.2.2.2.2.2.2.2 bw2⟩
      clear hK Kc
      have zbw2:=bw2.size
      replace x_a:=x_a.on bw2
      replace x_b:=x_b.on bw2
      replace BB:=also BB bw2
      replace x_e:=x_e.on bw2
      replace x_l:=x_l.on bw2
      replace x_p:=x_p.on bw2
      refine tz (i:=17) rfl ?_
      simp only [Go.Act.put,ps1,ps2,ps3]
      refine tz (i:=18) rfl ?_
      simp only [Go.Act.put,ps1,ps2,ps3]
      refine wpAnyH_done (by kernel_rfl) ?_ _
      go_wp2
      go_roundw
      case rel=>exact⟨k+1,_,by omega,by simp,rfl,(bst_more HXY.out hz.out HJ.out HL.out HC.out),x_a,x_b,BB⟩
      case measure=>simp [RowKit.intOf];omega
     ·skip
      obtain⟨g,hg⟩: ∃ g,g=(arP a1 a2 b1 b2 x y).sign:=⟨_,rfl⟩
      obtain rfl:g=1:=by rw [hg];exact of_decide_eq_true hl
      have G:Hid _:=hg
      clear hg
      have HL:Hid _:=hl
      clear hl
      have HC:Hid _:=hcf
      clear hcf
      have q1:=x_e.c0
      have q2:=x_e.c1
      obtain⟨V,hV,bV,x_p,sV⟩:=bs_2 wr (.int .i64 x) (.int .i64 y) 24
      have zbV:=bV.size
      replace x_a:=x_a.on bV
      replace x_b:=x_b.on bV
      replace BB:=also BB bV
      replace x_e:=x_e.on bV
      replace x_l:=x_l.on bV
      go_wp2
      rw [←hV]
      clear hV
      clear q1 q2
      have dd1:Below V.heap.size V V.drew:=(Below.refl _ _).drew
      have zdd1:=dd1.size
      replace x_a:=x_a.on dd1
      replace x_b:=x_b.on dd1
      replace BB:=also BB dd1
      replace x_e:=x_e.on dd1
      replace x_l:=x_l.on dd1
      replace x_p:=x_p.on dd1
      refine wp_region_held_drew (S:=(fun w'=>w'.cell? ⟨w.heap.size,0,none⟩=some (.int .i64 a1)∧w'.cell? ⟨w.heap.size,1,none⟩=some (.int .i64 a2)∧w'.cell? ⟨w.heap.size+1,0,none⟩=some (.int .i64 b1)∧w'.cell? ⟨w.heap.size+1,1,none⟩=some (.int .i64 b2)∧w'.cell? ⟨wr.heap.size,0,none⟩=some (.int .i64 x)∧w'.cell? ⟨wr.heap.size,1,none⟩=some (.int .i64 y)∧w'.cell? ⟨bl,ofs+j*2,none⟩=some (.int .i64 u)∧w'.cell? ⟨bl,ofs+j*2+1,none⟩=some (.int .i64 v)∧Below w.heap.size w w')) (by kernel_rfl) ?_ (fun hHeld=>?_)
      ·exact⟨x_a.c0,x_a.c1,x_b.c0,x_b.c1,x_p.c0,x_p.c1,x_l.c0,x_l.c1,BB⟩
      refine tz (i:=0) rfl ?_
      simp only [Go.Act.put,ps1,ps2,ps3]
      refine tz (i:=1) rfl ?_
      simp only [Go.Act.put,ps1,ps2,ps3]
      refine tz (i:=2) rfl ?_
      simp only [Go.Act.put,ps1,ps2,ps3]
      refine tcl 3 fun Kc hK=>?_
      go_simp
      (go_at_call 126;refine(pOrient a1 a2 b1 b2 x y _ G.out).mono ?_;rintro e w1 ⟨rfl,bw1⟩)
      refine hK.out _ _ ?_ (fun hHeld=>?_)
      ·exact⟨cell_on bw1 hHeld.1,cell_on bw1 hHeld.2.1,cell_on bw1 hHeld.2.2.1,cell_on bw1 hHeld.2.2.2.1,cell_on bw1 hHeld.2.2.2.2.1,cell_on bw1 hHeld.2.2.2.2.2.1,cell_on bw1 hHeld.2.2.2.2.2.2.1,cell_on bw1 hHeld.2.2.2.2.2.2.2.1,also hHeld.2.2.2.2.2.2.2.2 bw1⟩
      clear hK Kc
      have zbw1:=bw1.size
      replace x_a:=x_a.on bw1
      replace x_b:=x_b.on bw1
      replace BB:=also BB bw1
      replace x_e:=x_e.on bw1
      replace x_l:=x_l.on bw1
      replace x_p:=x_p.on bw1
      refine tz (i:=4) rfl ?_
      simp only [Go.Act.put,ps1,ps2,ps3]
      refine tz (i:=5) rfl ?_
      simp only [Go.Act.put,ps1,ps2,ps3]
      refine tz (i:=6) rfl ?_
      simp only [Go.Act.put,ps1,ps2,ps3]
      refine tz (i:=7) rfl ?_
      simp only [Go.Act.put,ps1,ps2,ps3]
      refine tz (i:=8) rfl ?_
      simp only [Go.Act.put,ps1,ps2,ps3]
      refine tz (i:=9) rfl ?_
      simp only [Go.Act.put,ps1,ps2,ps3]
      refine tz (i:=10) rfl ?_
      simp only [Go.Act.put,ps1,ps2,ps3]
      refine tz (i:=11) rfl ?_
      simp only [Go.Act.put,ps1,ps2,ps3]
      refine tz (i:=12) rfl ?_
      simp only [Go.Act.put,ps1,ps2,ps3]
      refine tz (i:=13) rfl ?_
      simp only [Go.Act.put,ps1,ps2,ps3]
      refine tz (i:=14) rfl ?_
      simp only [Go.Act.put,ps1,ps2,ps3]
      refine tz (i:=15) rfl ?_
      simp only [Go.Act.put,ps1,ps2,ps3]
      refine tcl 16 fun Kc hK=>?_
      go_simp
      (go_at_call 112;refine(tConflict a1 a2 b1 b2 u v x y _ HC.out.symm).mono ?_;rintro e w2 ⟨rfl,bw2⟩)
      refine hK.out _ _ ?_ (fun hHeld=>?_)
      ·exact⟨cell_on bw2 hHeld.1,cell_on bw2 hHeld.2.1,cell_on bw2 hHeld.2.2.1,cell_on bw2 hHeld.2.2.2.1,cell_on bw2 hHeld.2.2.2.2.1,cell_on bw2 hHeld.2.2.2.2.2.1,cell_on bw2 hHeld.2.2.2.2.2.2.1,cell_on bw2 hHeld.2.2.2.2.2.2.2.1,also hHeld.2.2.2.2.2.2.2.2 bw2⟩
      clear hK Kc
      have zbw2:=bw2.size
      replace x_a:=x_a.on bw2
      replace x_b:=x_b.on bw2
      replace BB:=also BB bw2
      replace x_e:=x_e.on bw2
      replace x_l:=x_l.on bw2
      replace x_p:=x_p.on bw2
      refine tz (i:=17) rfl ?_
      simp only [Go.Act.put,ps1,ps2,ps3]
      refine tz (i:=18) rfl ?_
      simp only [Go.Act.put,ps1,ps2,ps3]
      refine wpAnyH_done (by kernel_rfl) ?_ _
      go_wp2
      go_roundw
      case rel=>exact⟨k+1,_,by omega,by simp,rfl,(bst_more HXY.out hz.out HJ.out HL.out HC.out),x_a,x_b,BB⟩
      case measure=>simp [RowKit.intOf];omega
  ·obtain rfl:k=n:=by omega
   go_wp2
   go_ret
   exact⟨by rw [HR.out,←hz.out];rfl,BB⟩
end Go.Proofs.YtjmhfdimoeaplaaGreat
namespace Go.Proofs.YtjmhfdimoeaplaaGreat
set_option linter.unusedVariables false
abbrev T3:=Nat×Nat×Nat
def cutA(P:List Nat)(c:Nat):List Nat:=(P.drop 1).take c
def cutB(P:List Nat)(c:Nat):List Nat:=P.drop c++P.take 1
def joinF(t:T3):Option (List T3)→Option (List T3)→Option (List T3)
 |some A,some B=>some (t::(A++B))
 |_,_=>none
def fillQ(B:List Nat→Int):Nat→List Nat→Option (List T3)
 |0,P=>if P.length<3 then some []else none
 |f+1,P=>if P.length<3 then some []else if B P<0 then none else
  joinF (P.getD 0 0,P.getD 1 0,P.getD ((B P).toNat+2) 0) (fillQ B f (cutA P ((B P).toNat+2))) (fillQ B f (cutB P ((B P).toNat+2)))
def InB(B:List Nat→Int):Prop:= ∀ P,3≤P.length→B P<0∨(B P).toNat+2<P.length
theorem cutA_len{P:List Nat}{c:Nat}(h:c<P.length):(cutA P c).length=c:=by unfold cutA;rw [List.length_take,List.length_drop];omega
theorem cutB_len{P:List Nat}{c:Nat}(h:c<P.length):(cutB P c).length=P.length- c+1:=by unfold cutB;rw [List.length_append,List.length_drop,List.length_take];omega
theorem fill_fuel{B:List Nat→Int}(hB:InB B): ∀ (f g:Nat) (P:List Nat),P.length≤f+2→P.length≤g+2→fillQ B f P=fillQ B g P
 |0,0,P,_,_=>rfl
 |0,g+1,P,h,_=>by unfold fillQ;rw [if_pos (by omega),if_pos (by omega)]
 |f+1,0,P,_,h=>by unfold fillQ;rw [if_pos (by omega),if_pos (by omega)]
 |f+1,g+1,P,h,k=>by
  unfold fillQ
  by_cases h3:P.length<3
  ·rw [if_pos h3,if_pos h3]
  ·rw [if_neg h3,if_neg h3]
   rcases hB P (by omega)with hb|hb
   ·rw [if_pos hb,if_pos hb]
   ·by_cases hn:B P<0
    ·rw [if_pos hn,if_pos hn]
    ·rw [if_neg hn,if_neg hn]
     have a:=cutA_len hb
     have b:=cutB_len hb
     rw [fill_fuel hB f g (cutA P _) (by omega) (by omega),fill_fuel hB f g (cutB P _) (by omega) (by omega)]
def fillP(B:List Nat→Int)(P:List Nat):Option (List T3):=fillQ B P.length P
theorem fill_few{B:List Nat→Int}{P:List Nat}(h:P.length<3):fillP B P=some []:=by
 unfold fillP
 cases e:P.length with
 |zero=>unfold fillQ;rw [if_pos (by omega)]
 |succ n=>unfold fillQ;rw [if_pos (by omega)]
theorem fill_no{B:List Nat→Int}{P:List Nat}(h:3≤P.length)(hb:B P<0):fillP B P=none:=by
 unfold fillP
 cases e:P.length with
 |zero=>omega
 |succ n=>unfold fillQ;rw [if_neg (by omega),if_pos hb]
theorem fill_step{B:List Nat→Int}(hB:InB B){P:List Nat}{c:Nat}(h:3≤P.length)(hb:B P=(c:Int)):fillP B P=joinF (P.getD 0 0,P.getD 1 0,P.getD (c+2) 0) (fillP B (cutA P (c+2))) (fillP B (cutB P (c+2))):=by
 have hc:c+2<P.length:=by rcases hB P h with k|k<;>omega
 have a:=cutA_len hc
 have b:=cutB_len hc
 show fillQ B P.length P=joinF _ (fillQ B (cutA P (c+2)).length _) (fillQ B (cutB P (c+2)).length _)
 cases e:P.length with
 |zero=>omega
 |succ n=>
  rw [fill_fuel hB (cutA P (c+2)).length n (cutA P (c+2)) (by omega) (by omega),fill_fuel hB (cutB P (c+2)).length n (cutB P (c+2)) (by omega) (by omega)]
  conv=>lhs;unfold fillQ
  rw [if_neg (by omega),if_neg (by omega),hb,Int.toNat_natCast]
theorem fill_len{B:List Nat→Int}(hB:InB B): ∀ (n:Nat) (P:List Nat) (T:List T3),P.length≤n→2≤P.length→fillP B P=some T→T.length=P.length- 2
 |0,P,T,h,h2,_=>by omega
 |n+1,P,T,h,h2,e=>by
  by_cases h3:P.length<3
  ·rw [fill_few h3]at e;cases e;show 0=_;omega
  ·by_cases hn:B P<0
   ·rw [fill_no (by omega) hn]at e;cases e
   ·obtain⟨c,hc⟩: ∃ c:Nat,B P=(c:Int):=⟨(B P).toNat,by omega⟩
    have hcl:c+2<P.length:=by rcases hB P (by omega)with k|k<;>omega
    have a:=cutA_len hcl
    have b:=cutB_len hcl
    rw [fill_step hB (by omega) hc]at e
    cases eA:fillP B (cutA P (c+2))with
    |none=>rw [eA]at e;cases e
    |some A=>
     cases eB:fillP B (cutB P (c+2))with
     |none=>rw [eA,eB]at e;cases e
     |some A'=>
      rw [eA,eB]at e
      cases e
      have r1:=fill_len hB n _ _ (by omega) (by omega) eA
      have r2:=fill_len hB n _ _ (by omega) (by omega) eB
      rw [List.length_cons,List.length_append,r1,r2]
      omega
end Go.Proofs.YtjmhfdimoeaplaaGreat
namespace Go.Proofs.YtjmhfdimoeaplaaGreat
open Go.RowKit
set_option linter.unusedVariables false
theorem infoPtH:(Tryz.prog.info? 24).map (fun i=>(i.zero,i.size,i.bytes))=some (some (.agg #[.int .i64 0, .int .i64 0]),2,16):=by kernel_rfl
def natC(P:List Nat):List Value:=P.map fun n:Nat=> .int .i64 (n:Int)
def ptAt(L:List Pt)(n:Nat):Pt:=L.getD n (0,0)
theorem natC_len(P:List Nat):(natC P).length=P.length:=by unfold natC;simp
theorem natC_at{P:List Nat}{k x:Nat}(h:P[k]? =some x):(natC P)[k]? =some (.int .i64 (x:Int)):=by unfold natC;simp [h]
theorem natC_app(P Q:List Nat):natC (P++Q)=natC P++natC Q:=by unfold natC;simp
theorem natC_one(P:List Nat): ∀ u∈natC P,u.oneCell'=true:=by
 intro v hv
 simp only [natC,List.mem_map]at hv
 obtain⟨x,_,rfl⟩:=hv
 rfl
theorem natC_take(P:List Nat)(k:Nat):natC (P.take k)=(natC P).take k:=by unfold natC;simp
theorem natC_drop(P:List Nat)(k:Nat):natC (P.drop k)=(natC P).drop k:=by unfold natC;simp
theorem pcells_app: ∀ L M:List Pt,pcells (L++M)=pcells L++pcells M
 | [],M=>rfl
 |p::L,M=>by show _::_::pcells (L++M)=_::_::(pcells L++pcells M);rw [pcells_app L M]
theorem take_set2{xs:List Value}{k n:Nat}{a b:Value}(hl:xs.length=n*2)(hk:k<n):((xs.set (k*2) a).set (k*2+1) b).take ((k+1)*2)=xs.take (k*2)++ [a,b]:=by
 apply List.ext_getElem?
 intro j
 rw [List.getElem?_take]
 by_cases h1:j<k*2
 ·rw [if_pos (by omega),List.getElem?_append_left (by rw [List.length_take];omega),List.getElem?_take,if_pos h1,List.getElem?_set_ne (by omega),List.getElem?_set_ne (by omega)]
 ·rw [List.getElem?_append_right (by rw [List.length_take];omega),List.length_take,Nat.min_eq_left (by omega)]
  by_cases h2:j=k*2
  ·rw [if_pos (by omega),h2,List.getElem?_set_ne (by omega),List.getElem?_set_self (by omega)];simp
  ·by_cases h3:j=k*2+1
   ·rw [if_pos (by omega),h3,List.getElem?_set_self (by rw [List.length_set];omega),show k*2+1- k*2=1 by omega];rfl
   ·rw [if_neg (by omega)]
    symm
    rw [List.getElem?_eq_none]
    simp
    omega
theorem grown_low{B:Nat}{w1 X w3:World}{T:TypeId}{s n c:Nat}{a:Option Addr}{xs:List Value}(bel:Below B w1 X)(hB:B≤X.heap.size)(hown:OwnS X B T s a n c xs)(g:X.grownBy w3 (Value.slice a n c).ownBlock):Below B w1 w3:=
 bel.trans ((Keep.grown (F:=fun k=>Slot a k) (Keep.refl _ _) g (fun k e=>Or.inl (hown.slot e))).below hB (fun k s=>(hown.lt s).2))
theorem OwnS.set{w:World}{base g n cap s j:Nat}{T:TypeId}{xs:List Value}(h:OwnS w base T s (some ⟨g,0,none⟩) n cap xs)(u:Value):OwnS (w.setCell ⟨g,j,none⟩ u) base T s (some ⟨g,0,none⟩) n cap (xs.set j u):=(World.ownsRow.stored h j u).1
theorem OwnS.cell{w:World}{base g n cap s:Nat}{T:TypeId}{xs:List Value}(h:OwnS w base T s (some ⟨g,0,none⟩) n cap xs)(hn:0<n){j:Nat}{v:Value}(hj:xs[j]? =some v):w.cell? ⟨g,j,none⟩=some v∧w.frozen? ⟨g,j,none⟩=false:=by
 obtain⟨b,e,_,_,sg⟩:=h.at hn
 cases e
 have:=sg j v hj
 rwa [Nat.zero_add]at this
theorem ptAt_of{L:List Pt}{n:Nat}{x y:Int}(h:L[n]? =some (x,y)):ptAt L n=(x,y):=by unfold ptAt;rw [List.getD,h];rfl
set_option maxRecDepth 100000 in
set_option maxHeartbeats 4000000 in
theorem hPointsAt(la:Option Addr)(nl lc:Nat)(L:List Pt)(pa:Option Addr)(n pc:Nat)(P:List Nat)(w:World)(hL:PSl w la nl lc L)(hP:Sl w pa n pc (natC P))(hn:n≤1000)(hb: ∀ j∈P,j<nl)(hnl:nl≤1000):
  Calls Tryz.prog 208 #[.slice la nl lc, .slice pa n pc] w fun e w'=> ∃ a,e= .returned (.slice a n n)∧PSl w' a n n (P.map (ptAt L))∧Below w.heap.size w w':=by
 obtain⟨i0,hi0,hz0,hz1,hz2⟩:=info_of infoPtH
 have HL:Hid _:=hL
 have HP:Hid _:=hP
 have HB:Hid _:=hb
 have hlen:P.length=n:=by rw [←natC_len];exact hP.len
 clear hL hP hb
 go_enter Tryz.func208,Tryz.ntmps208
 go_wp2_with (at_make;go_loud (refine wpList_make_full _ rfl _ _ 22 rfl w.heap.size 24 i0 _ 2 Tryz.underlying22 hi0 hz0 hz1 _ _ _ _ n rfl rfl rfl rfl (by rw [hz2];omega) (by unfold maxLen;omega) (Nat.le_refl _) ?_;intro w1 ow1 gr1))
 have b1:Below w.heap.size w w1:=Below.to gr1
 clear gr1
 go_wp2
 go_loopw [13] (fun i wr=> ∃ (k:Nat) (xs:List Value),k≤n∧i= .int .i64 (k:Int)∧OwnS wr w.heap.size 24 2 (some ⟨w.heap.size,0,none⟩) n n xs∧Hid (xs.take (k*2)=pcells ((P.take k).map (ptAt L)))∧Below w.heap.size w wr) (fun i _=>n- (Go.RowKit.intOf i).toNat)
 case atStart=>exact⟨0,_,by omega,rfl,ow1,rfl,b1⟩
 case round=>
  clear ow1 b1
  obtain⟨k,xs,hk,rfl,ow,HX,be⟩:=hrel
  by_cases hlt:k<n
  ·have hlt':(k:Int)<(n:Int):=by omega
   obtain⟨x,hx⟩: ∃ x,P[k]? =some x:=⟨P[k]'(by omega),List.getElem?_eq_getElem _⟩
   obtain⟨pb,po,rfl,hpb,sg⟩:=(HP.out.below be).at (by omega)
   have cx:=sg.cell k _ (natC_at hx)
   have hxl:=HB.out x (List.mem_of_getElem? hx)
   obtain⟨lb,lo,u,v,rfl,hlb,hxy,hpc⟩:=(HL.out.below be).at hxl
   have pcx:=hpc x u v hxy
   have q0:=pcx.c0
   have q1:=pcx.c1
   have hroom:=HP.out.room
   have hroom2:=HL.out.room
   have hlx:=ow.len
   have hxl':(x:Int)<(nl:Int):=by omega
   have g0:=ow.cell (by omega) (List.getElem?_eq_getElem (show k*2<xs.length by omega))
   have g1:=ow.cell (by omega) (List.getElem?_eq_getElem (show k*2+1<xs.length by omega))
   have g00:=g0.1
   have g01:=g0.2
   have g10:=g1.1
   have g11:=g1.2
   have ow2:=(OwnS.set (j:=k*2) ow (.int .i64 u)).set (j:=k*2+1) (.int .i64 v)
   have be2:Below w.heap.size w ((wr.setCell ⟨w.heap.size,k*2,none⟩ (.int .i64 u)).setCell ⟨w.heap.size,k*2+1,none⟩ (.int .i64 v)):=(be.setCell (by simp) _).setCell (by simp) _
   have HX2:Hid ((((xs.set (k*2) (.int .i64 u)).set (k*2+1) (.int .i64 v)).take ((k+1)*2))=pcells ((P.take (k+1)).map (ptAt L))):=by
    unfold Hid
    rw [take_set2 hlx hlt,HX.out,List.take_add_one,hx,List.map_append,pcells_app]
    show _=_++pcells [ptAt L x]
    rw [ptAt_of hxy]
    rfl
   clear ow be sg hpc pcx g0 g1 HX hx hxy
   go_wp2
   go_roundw
   case rel=>exact⟨k+1,_,by omega,by simp,ow2,HX2.out,be2⟩
   case measure=>simp [Go.RowKit.intOf];omega
  ·obtain rfl:n=k:=by omega
   go_wp2
   go_ret
   refine⟨_,rfl,?_,be⟩
   have hx:=HX.out
   rw [List.take_of_length_le (by rw [ow.len];omega),List.take_of_length_le (by omega)]at hx
   refine⟨by rw [List.length_map];exact hlen,Nat.le_refl _,(by intro e;cases e),?_⟩
   rcases Nat.eq_zero_or_pos n with e|e
   ·exact Or.inl e
   ·obtain⟨b,eb,h1,_,h2⟩:=ow.at e
    cases eb
    exact Or.inr ⟨_,0,rfl,h1,by rw [←hx];exact h2⟩
set_option maxRecDepth 100000 in
set_option maxHeartbeats 4000000 in
theorem hGrow(n:Nat)(w:World)(h0:0<n)(hn:n≤100000):
  Calls Tryz.prog 231 #[.slice none 0 0, .int .i64 (n:Int)] w fun e w'=> ∃ c:Nat,e= .returned (.slice (some ⟨w.heap.size,0,none⟩) 0 c)∧Own w' w.heap.size 3 (some ⟨w.heap.size,0,none⟩) 0 c []∧Below w.heap.size w w':=by
 obtain⟨i0,hi0,hz0,hz1,hz2⟩:=info_of infoI
 have hr:=fun ty=>Go.Lib.run_append_nil_zeros (P:=Tryz.prog) w 60 3 ty 3 i0 (.int .i64 0) .i64 .i64 Tryz.underlying60 Tryz.underlying3 hi0 hz0 n h0 (by omega) (by omega) (by rw [hz2];omega)
 have hg:n≤grownCap w n 0 3:=grownCap_ge w n 0 3
 have hg2:grownCap w n 0 3≤maxLen:=grownCap_le_maxLen w n 0 3 (by unfold maxLen;omega)
 obtain⟨G,hG⟩: ∃ G,G=grownCap w n 0 3:=⟨_,rfl⟩
 rw [←hG]at hr hg hg2
 have h1: ¬((n:Int)<0):=by omega
 have h4:(n:Int)>0:=by omega
 obtain⟨V,hV⟩: ∃ V,V=w.drew.alloc (.cells (Builtin.zeroCells (Value.int .i64 0).cells n++Builtin.zeroCells (Value.int .i64 0).cells (G- n)) 3):=⟨_,rfl⟩
 have ow:Own V w.heap.size 3 (some ⟨w.heap.size,0,none⟩) 0 G []:=by
  rw [hV]
  refine⟨by simp,Or.inr ⟨w.heap.size,G,Builtin.zeroCells (Value.int .i64 0).cells n++Builtin.zeroCells (Value.int .i64 0).cells (G- n),rfl,Nat.le_refl _,?_,by omega,hg2,?_,by simp⟩⟩
  ·show(w.drew.heap.push _)[w.drew.heap.size]? =_
   exact Array.getElem?_push_size
  rw [Array.size_append,size_zeroCells,size_zeroCells]
  show n*1+(G- n)*1=G*1
  omega
 have be:Below w.heap.size w V:=by rw [hV];exact((Below.refl _ _).drew).alloc (by simp) _
 simp only [←hV]at hr
 clear hV hG
 go_enter Tryz.func231,Tryz.ntmps231
 go_wp2_with (at_builtin;go_loud (refine Go.Lib.wpList_append_run _ rfl _ _ 60 3 rfl _ _ rfl rfl _ _ (hr _) ?_))
 go_wp2
 go_ret
 exact⟨G,rfl,ow,be⟩
theorem Sl.keep{F:Nat→Prop}{w w':World}{a:Option Addr}{n cap:Nat}{xs:List Value}(h:Sl w a n cap xs)(hk:Keep F w w')(hF: ∀ k,Slot a k→ ¬F k):Sl w' a n cap xs:=by
 refine⟨h.len,h.room,h.big,h.nil,h.seg.imp id ?_⟩
 rintro⟨b,o,e,hlt,hs⟩
 exact⟨b,o,e,Nat.lt_of_lt_of_le hlt hk.size,hs.block (hk.block b hlt (hF b ⟨o,e⟩))⟩
theorem PSl.keep{F:Nat→Prop}{w w':World}{a:Option Addr}{n cap:Nat}{L:List Pt}(h:PSl w a n cap L)(hk:Keep F w w')(hF: ∀ k,Slot a k→ ¬F k):PSl w' a n cap L:=by
 refine⟨h.len,h.room,h.nil,h.seg.imp id ?_⟩
 rintro⟨b,o,e,hlt,hs⟩
 exact⟨b,o,e,Nat.lt_of_lt_of_le hlt hk.size,hs.block (hk.block b hlt (hF b ⟨o,e⟩))⟩
set_option maxRecDepth 100000 in
set_option maxHeartbeats 4000000 in
theorem hConcat(b:Nat)(a1 a2:Option Addr)(n1 c1 n2 c2:Nat)(P Q:List Nat)(w:World)(hr:Row w b [.slice a1 n1 c1, .slice a2 n2 c2])(hb:b<w.heap.size)(h1:Sl w a1 n1 c1 (natC P))(h2:Sl w a2 n2 c2 (natC Q))(hn:n1+n2≤10000)(h0:0<n1+n2):
  Calls Tryz.prog 209 #[.slice (some ⟨b,0,none⟩) 2 2] w fun e w'=> ∃ (a:Option Addr) (c:Nat),e= .returned (.slice a (n1+n2) c)∧Own w' w.heap.size 3 a (n1+n2) c (natC (P++Q))∧Below w.heap.size w w':=by
 obtain⟨i0,hi0,hz0,hz1,hz2⟩:=info_of infoI
 have H1:Hid _:=h1
 have H2:Hid _:=h2
 have HR:Hid (Row w b [.slice a1 n1 c1, .slice a2 n2 c2]):=hr
 have q1:wrap64 ((n1:Int)+(n2:Int))=(n1:Int)+(n2:Int):=wrap_in (by omega) (by omega)
 have q2: ¬((n1:Int)+(n2:Int)<0):=by omega
 have q3: ¬((n1:Int)<0):=by omega
 have q4:wrap64 ((n1:Int))=(n1:Int):=wrap_in (by omega) (by omega)
 clear h1 h2 hr
 go_enter Tryz.func209,Tryz.ntmps209
 go_wp2
 go_loopw [3,11] (fun s i wr=>((i= .int .i64 0∧s= .int .i64 0)∨(i= .int .i64 1∧s= .int .i64 (n1:Int))∨(i= .int .i64 2∧s= .int .i64 ((n1:Int)+(n2:Int))))∧Below w.heap.size w wr) (fun _ i _=>2- (Go.RowKit.intOf i).toNat)
 case atStart=>exact⟨Or.inl ⟨rfl,rfl⟩,Below.refl _ _⟩
 case round=>
  obtain⟨hk,be⟩:=hrel
  have RR:=HR.out.below be hb
  have r0:=RR.cell 0 _ rfl
  have r1:=RR.cell 1 _ rfl
  clear RR
  rcases hk with⟨rfl,rfl⟩|⟨rfl,rfl⟩|⟨rfl,rfl⟩
  ·go_wp2
   go_roundw
   case rel=>exact⟨Or.inr (Or.inl ⟨rfl,rfl⟩),be⟩
   case measure=>simp [Go.RowKit.intOf]
  ·go_wp2
   go_roundw
   case rel=>exact⟨Or.inr (Or.inr ⟨rfl,rfl⟩),be⟩
   case measure=>simp [Go.RowKit.intOf]
  ·have CG:Hid (∀ m:Int,m=(n1:Int)+(n2:Int)→Calls Tryz.prog 231 #[.slice none 0 0, .int .i64 m] wr fun e w'=> ∃ c:Nat,e= .returned (.slice (some ⟨wr.heap.size,0,none⟩) 0 c)∧Own w' wr.heap.size 3 (some ⟨wr.heap.size,0,none⟩) 0 c []∧Below wr.heap.size wr w'):=by
    rintro m rfl
    have:=hGrow (n1+n2) wr h0 (by omega)
    rwa [Int.natCast_add]at this
   clear r0 r1
   go_wp2_with (go_at_call 231;fail)
   refine Calls.mono (CG.out _ rfl) ?_
   rintro e w2 ⟨c,rfl,ow2,b2⟩
   have be2:Below w.heap.size w w2:=also be b2
   have z2:=be.size
   have ow3:=OwnS.mono ow2 z2
   clear CG ow2 b2
   go_wp2
   go_loopw [6,27] (fun s i wr=> ∃ (a:Option Addr) (m c:Nat) (X:List Nat),s= .slice a m c∧Own wr w.heap.size 3 a m c (natC X)∧((i= .int .i64 0∧m=0∧X= [])∨(i= .int .i64 1∧m=n1∧X=P)∨(i= .int .i64 2∧m=n1+n2∧X=P++Q))∧Below w.heap.size w wr) (fun _ i _=>2- (Go.RowKit.intOf i).toNat)
   case atStart=>exact⟨_,0,c, [],rfl,ow3,Or.inl ⟨rfl,rfl,rfl⟩,be2⟩
   case round=>
    clear ow3 be2 be z2
    obtain⟨a,m,c,X,rfl,ow,hk,be⟩:=hrel
    have RR:=HR.out.below be hb
    have r0:=RR.cell 0 _ rfl
    have r1:=RR.cell 1 _ rfl
    have S1:=H1.out.below be
    have S2:=H2.out.below be
    have z:=be.size
    clear RR
    rcases hk with⟨rfl,rfl,rfl⟩|⟨rfl,rfl,rfl⟩|⟨rfl,rfl,rfl⟩
    ·go_wp2_with (at_builtin;go_loud (refine app_at _ rfl _ _ 60 rfl w.heap.size 3 i0 _ 8 Tryz.underlying60 hi0 hz0 hz1 hz2 rfl a 0 c _ rfl ow a1 n1 c1 (natC P) rfl S1 (natC_one _) (by unfold maxLen;omega) (by omega) z ?_;intro a6 c6 w6 h6 g6 s6))
     have be6:Below w.heap.size w w6:=grown_low be (by omega) ow g6
     clear g6 s6
     go_wp2
     go_roundw
     case rel=>exact⟨a6,n1,c6,P,by first|rfl|simp,by simpa [natC]using h6,Or.inr (Or.inl ⟨rfl,rfl,rfl⟩),be6⟩
     case measure=>simp [Go.RowKit.intOf]
    ·go_wp2_with (at_builtin;go_loud (refine app_at _ rfl _ _ 60 rfl w.heap.size 3 i0 _ 8 Tryz.underlying60 hi0 hz0 hz1 hz2 rfl a m c _ rfl ow a2 n2 c2 (natC Q) rfl S2 (natC_one _) (by unfold maxLen;omega) (by omega) z ?_;intro a6 c6 w6 h6 g6 s6))
     have be6:Below w.heap.size w w6:=grown_low be (by omega) ow g6
     rw [←natC_app]at h6
     clear g6 s6
     go_wp2
     go_roundw
     case rel=>exact⟨a6,_,c6,_,rfl,h6,Or.inr (Or.inr ⟨rfl,rfl,rfl⟩),be6⟩
     case measure=>simp [Go.RowKit.intOf]
    ·go_wp2
     go_ret
     exact⟨a,c,rfl,ow,be⟩
def bestB(L:List Pt)(P:List Nat):Int:=bstQ (ptAt L (P.getD 0 0)) (ptAt L (P.getD 1 0)) ((P.drop 2).map (ptAt L)) (P.length- 2)
theorem bestB_in(L:List Pt):InB (bestB L):=by
 intro P h
 unfold bestB
 rcases bst_range (ptAt L (P.getD 0 0)) (ptAt L (P.getD 1 0)) ((P.drop 2).map (ptAt L)) (P.length- 2)with k|k<;>omega
def t3C(t:T3):List Value:= [.int .i64 (t.1:Int), .int .i64 (t.2.1:Int), .int .i64 (t.2.2:Int)]
theorem t3C_len(t:T3):(t3C t).length=3:=rfl
theorem t3C_one(t:T3): ∀ u∈t3C t,u.oneCell'=true:=by intro u hu;simp [t3C]at hu;rcases hu with rfl|rfl|rfl<;>rfl
theorem info3:(Tryz.prog.info? 51).map (fun i=>(i.zero,i.size,i.bytes))=some (some (.agg #[.int .i64 0, .int .i64 0, .int .i64 0]),3,24):=by kernel_rfl
theorem Slot.eq{b o k:Nat}(h:Slot (some ⟨b,o,none⟩) k):k=b:=by obtain⟨q,e⟩:=h;cases e;rfl
def FillTold(base:Nat)(d:List T3)(r:Option (List T3))(a:Option Addr)(m c:Nat)(q:Bool)(w':World):Prop:=match r with
 |some T=>q=true∧m=d.length+T.length∧OwnS w' base 51 3 a m c (flat t3C (d++T))
 |none=>q=false∧a=none∧m=0∧c=0
structure FillPost(base:Nat)(d:List T3)(r:Option (List T3))(da:Option Addr)(w:World)(e:Ending)(w':World):Prop where
 ex: ∃ (a:Option Addr) (m c:Nat) (q:Bool),e= .returned (.tuple #[.slice a m c, .bool q])∧FillTold base d r a m c q w'∧(∀ k,Slot a k→Slot da k∨w.heap.size≤k)
 kp:Keep (Slot da) w w'
theorem mem_cutA{P:List Nat}{c j:Nat}(h:j∈cutA P c):j∈P:=List.mem_of_mem_drop (List.mem_of_mem_take h)
theorem mem_cutB{P:List Nat}{c j:Nat}(h:j∈cutB P c):j∈P:=by
 rcases List.mem_append.1 h with h|h
 ·exact List.mem_of_mem_drop h
 ·exact List.mem_of_mem_take h
theorem getD_nat{P:List Nat}{k x:Nat}(h:P[k]? =some x):P.getD k 0=x:=by rw [List.getD,h];rfl
theorem Sl.part{w:World}{b o n cap:Nat}{xs:List Value}(h:Sl w (some ⟨b,o,none⟩) n cap xs){i j:Nat}(hij:i≤j)(hj:j≤n):Sl w (some ⟨b,o+i,none⟩) (j- i) (cap- i) ((xs.drop i).take (j- i)):=by
 have hl:=h.len
 have hr:=h.room
 have hb:=h.big
 refine⟨by rw [List.length_take,List.length_drop];omega,by omega,by omega,(by intro e;cases e),?_⟩
 rcases Nat.eq_zero_or_pos n with e|e
 ·exact Or.inl (by omega)
 ·obtain⟨b',o',e1,h1,h2⟩:=h.at e
  cases e1
  exact Or.inr ⟨b,o+i,rfl,h1,(h2.drop i).take _⟩
theorem bestB_of{L:List Pt}{P:List Nat}{n x0 x1:Nat}{a1 a2 b1 b2:Int}(hn:P.length=n)(h0:P[0]? =some x0)(h1:P[1]? =some x1)(e0:ptAt L x0=(a1,a2))(e1:ptAt L x1=(b1,b2)):bestB L P=bstQ (a1,a2) (b1,b2) ((P.drop 2).map (ptAt L)) (n- 2):=by
 unfold bestB;rw [getD_nat h0,getD_nat h1,e0,e1,hn]
theorem best_lt{L:List Pt}{P:List Nat}{n cc:Nat}(hlen:P.length=n)(h3:3≤n)(hr:(cc:Int)=bestB L P):cc+2<n:=by
 have h:=bestB_in L P (by omega)
 generalize bestB L P=z at h hr
 omega
theorem step_of{L:List Pt}{P:List Nat}{n cc c2 x0 x1 x2:Nat}(hlen:P.length=n)(h3:3≤n)(hr:(cc:Int)=bestB L P)(h0:P[0]? =some x0)(h1:P[1]? =some x1)(hc2:c2=cc+2)(hx2:P[c2]? =some x2):fillP (bestB L) P=joinF (x0,x1,x2) (fillP (bestB L) (cutA P c2)) (fillP (bestB L) (cutB P c2)):=by
 rw [fill_step (bestB_in L) (by omega) hr.symm,getD_nat h0,getD_nat h1,←hc2,getD_nat hx2]
theorem flat_t3(d:List T3)(t:T3):flat t3C (d++ [t])=flat t3C d++t3C t:=by rw [flat_append];simp [flat]
set_option maxRecDepth 100000 in
set_option maxHeartbeats 8000000 in
theorem hFillR(la:Option Addr)(nl lc:Nat)(L:List Pt)(hnl:nl≤1000): ∀ (mm:Nat) (P:List Nat) (pa:Option Addr) (n pc:Nat) (d:List T3) (da:Option Addr) (dn dc base:Nat) (w:World),n≤mm→PSl w la nl lc L→Sl w pa n pc (natC P)→OwnS w base 51 3 da dn dc (flat t3C d)→dn=d.length→base≤w.heap.size→(∀ k,Slot da k→ ¬Slot la k∧ ¬Slot pa k)→(∀ j∈P,j<nl)→d.length+n≤1000→
  Calls Tryz.prog 152 #[.slice la nl lc, .slice pa n pc, .slice da dn dc] w (FillPost base d (fillP (bestB L) P) da w):=by
 obtain⟨i0,hi0,hz0,hz1,hz2⟩:=info_of info3
 intro mm
 induction mm with
 |zero=>
  intro P pa n pc d da dn dc base w hm hL hP hD hdn hbs hap hb hbig
  have hlen:P.length=n:=by rw [←natC_len];exact hP.len
  have h3:(n:Int)<3:=by omega
  have RES:Hid (FillPost base d (fillP (bestB L) P) da w (.returned (.tuple #[.slice da dn dc, .bool true])) w):=by
   refine⟨⟨da,dn,dc,true,rfl,?_,fun k hk=>Or.inl hk⟩,Keep.refl _ _⟩
   rw [fill_few (by omega)]
   exact⟨rfl,by rw [hdn];rfl,by rw [List.append_nil];exact hD⟩
  clear hL hP hD hap hb
  go_enter Tryz.func152,Tryz.ntmps152
  go_wp2
  exact bodyPost_ret (v:= .tuple #[.slice da dn dc, .bool true]) (by simp [results,Tryz.results152,go_sem]) rfl RES.out
 |succ mm ih=>
  intro P pa n pc d da dn dc base w hm hL hP hD hdn hbs hap hb hbig
  have hlen:P.length=n:=by rw [←natC_len];exact hP.len
  by_cases h3:n<3
  ·have h3':(n:Int)<3:=by omega
   have RES:Hid (FillPost base d (fillP (bestB L) P) da w (.returned (.tuple #[.slice da dn dc, .bool true])) w):=by
    refine⟨⟨da,dn,dc,true,rfl,?_,fun k hk=>Or.inl hk⟩,Keep.refl _ _⟩
    rw [fill_few (by omega)]
    exact⟨rfl,by rw [hdn];rfl,by rw [List.append_nil];exact hD⟩
   clear hL hP hD hap hb ih
   go_enter Tryz.func152,Tryz.ntmps152
   go_wp2
   exact bodyPost_ret (v:= .tuple #[.slice da dn dc, .bool true]) (by simp [results,Tryz.results152,go_sem]) rfl RES.out
  ·have h3': ¬(n:Int)<3:=by omega
   have d3:decide ((n:Int)<3)=false:=decide_eq_false h3'
   have IH:Hid _:=ih
   have HL:Hid _:=hL
   have HB:Hid _:=hb
   have HD:Hid (OwnS w base 51 3 da dn dc (flat t3C d)):=hD
   have HAP:Hid _:=hap
   have hroom:=hP.room
   have hbigc:=hP.big
   obtain⟨pb,po,rfl,hpb,sg⟩:=hP.at (by omega)
   have HP:Hid _:=hP
   obtain⟨x0,hx0⟩: ∃ x,P[0]? =some x:=⟨P[0]'(by omega),List.getElem?_eq_getElem _⟩
   obtain⟨x1,hx1⟩: ∃ x,P[1]? =some x:=⟨P[1]'(by omega),List.getElem?_eq_getElem _⟩
   have p0:w.cell? ⟨pb,po,none⟩=some (.int .i64 (x0:Int)):=sg.cell 0 _ (natC_at hx0)
   have p1:w.cell? ⟨pb,po+1,none⟩=some (.int .i64 (x1:Int)):=sg.cell 1 _ (natC_at hx1)
   have l0:=hb x0 (List.mem_of_getElem? hx0)
   have l1:=hb x1 (List.mem_of_getElem? hx1)
   have l0':(x0:Int)<(nl:Int):=by omega
   have l1':(x1:Int)<(nl:Int):=by omega
   obtain⟨lb,lo,a1,a2,rfl,hlb,hxy0,hpc⟩:=hL.at l0
   obtain⟨_,_,b1,b2,e9,_,hxy1,_⟩:=hL.at l1
   cases e9
   have hroom2:=hL.room
   have u0:=(hpc x0 a1 a2 hxy0).c0
   have u1:=(hpc x0 a1 a2 hxy0).c1
   have u2:=(hpc x1 b1 b2 hxy1).c0
   have u3:=(hpc x1 b1 b2 hxy1).c1
   have HX0:Hid _:=hx0
   have HX1:Hid _:=hx1
   obtain⟨r,hr⟩: ∃ r,r=bestB L P:=⟨_,rfl⟩
   have HR:Hid _:=hr
   have HR2:Hid (r=bstQ (a1,a2) (b1,b2) ((P.drop 2).map (ptAt L)) (n- 2)):=by unfold Hid;rw [hr];exact bestB_of hlen hx0 hx1 (ptAt_of hxy0) (ptAt_of hxy1)
   have C11:Hid (∀ w',Below w.heap.size w w'→Calls Tryz.prog 208 #[.slice (some ⟨lb,lo,none⟩) nl lc, .slice (some ⟨pb,po+2,none⟩) (n- 2) (pc- 2)] w' fun e w''=> ∃ a,e= .returned (.slice a (n- 2) (n- 2))∧PSl w'' a (n- 2) (n- 2) ((P.drop 2).map (ptAt L))∧Below w'.heap.size w' w''):=by
    intro w' hbw
    refine hPointsAt _ nl lc L _ (n- 2) (pc- 2) (P.drop 2) w' (HL.out.below hbw) ?_ (by omega) (fun j hj=>HB.out j (List.mem_of_mem_drop hj)) hnl
    have:=(HP.out.below hbw).part (i:=2) (j:=n) (by omega) (Nat.le_refl _)
    rwa [←natC_drop,List.take_of_length_le (by rw [natC_len,List.length_drop];omega)]at this
   have nn: ¬(pc=2):=by omega
   have HDN:Hid _:=hdn
   have n2:(2:Int)≤(n:Int):=by omega
   have nz0:0<n:=by omega
   have nz1:1<n:=by omega
   have nz2:2≤n:=by omega
   have nzi1:(1:Int)<(n:Int):=by omega
   clear hL hP hb hD hap ih sg hpc hx0 hx1 hxy0 hxy1 hr hdn
   go_enter Tryz.func152,Tryz.ntmps152
   go_wp2
   have HSr:Hid (∀ w',Below (w.heap.size) w w'→(fun w'=>w'.cell? ⟨pb,po,none⟩=some (.int .i64 (x0:Int))∧w'.cell? ⟨pb,po+1,none⟩=some (.int .i64 (x1:Int))∧Below (w.heap.size) w w') w'):=by
    unfold Hid
    intro w' hb
    exact⟨(hb.cell (p:=⟨pb,po,none⟩) hpb).trans p0,(hb.cell (p:=⟨pb,po+1,none⟩) hpb).trans p1,hb⟩
   refine wp_region_held_drew (S:=fun w'=>w'.cell? ⟨pb,po,none⟩=some (.int .i64 (x0:Int))∧w'.cell? ⟨pb,po+1,none⟩=some (.int .i64 (x1:Int))∧Below (w.heap.size) w w') (by kernel_rfl) ?_ (fun hHeld=>?_)
   ·exact HSr.out _ ((Below.refl _ _).drew)
   refine tz (i:=0) rfl ?_
   simp only [Go.Act.put,ps1,ps2,ps3]
   refine tz (i:=1) rfl ?_
   simp only [Go.Act.put,ps1,ps2,ps3]
   refine tz (i:=2) rfl ?_
   simp only [Go.Act.put,ps1,ps2,ps3]
   refine tz (i:=3) rfl ?_
   simp only [Go.Act.put,ps1,ps2,ps3]
   refine tz (i:=4) rfl ?_
   simp only [Go.Act.put,ps1,ps2,ps3]
   refine tz (i:=5) rfl ?_
   simp only [Go.Act.put,ps1,ps2,ps3]
   refine tz (i:=6) rfl ?_
   simp only [Go.Act.put,ps1,ps2,ps3]
   refine tz (i:=7) rfl ?_
   simp only [Go.Act.put,ps1,ps2,ps3]
   refine wpAnyH_done (by kernel_rfl) ?_ _
   have b3:=hHeld.2.2
   clear hHeld HSr p0 p1
   go_wp2
   have HSs:Hid (∀ w',Below (w.drew.heap.size) w.drew w'→(fun w'=>w'.cell? ⟨lb,lo+x0*2,none⟩=some (.int .i64 a1)∧w'.cell? ⟨lb,lo+x0*2+1,none⟩=some (.int .i64 a2)∧w'.cell? ⟨lb,lo+x1*2,none⟩=some (.int .i64 b1)∧w'.cell? ⟨lb,lo+x1*2+1,none⟩=some (.int .i64 b2)∧Below (w.drew.heap.size) w.drew w') w'):=by
    unfold Hid
    intro w' hb
    exact⟨(hb.cell (p:=⟨lb,lo+x0*2,none⟩) (Nat.lt_of_lt_of_le hlb b3.size)).trans (b3.cell (p:=⟨lb,lo+x0*2,none⟩) hlb|>.trans u0),(hb.cell (p:=⟨lb,lo+x0*2+1,none⟩) (Nat.lt_of_lt_of_le hlb b3.size)).trans (b3.cell (p:=⟨lb,lo+x0*2+1,none⟩) hlb|>.trans u1),(hb.cell (p:=⟨lb,lo+x1*2,none⟩) (Nat.lt_of_lt_of_le hlb b3.size)).trans (b3.cell (p:=⟨lb,lo+x1*2,none⟩) hlb|>.trans u2),(hb.cell (p:=⟨lb,lo+x1*2+1,none⟩) (Nat.lt_of_lt_of_le hlb b3.size)).trans (b3.cell (p:=⟨lb,lo+x1*2+1,none⟩) hlb|>.trans u3),hb⟩
   refine wp_region_held_drew (S:=fun w'=>w'.cell? ⟨lb,lo+x0*2,none⟩=some (.int .i64 a1)∧w'.cell? ⟨lb,lo+x0*2+1,none⟩=some (.int .i64 a2)∧w'.cell? ⟨lb,lo+x1*2,none⟩=some (.int .i64 b1)∧w'.cell? ⟨lb,lo+x1*2+1,none⟩=some (.int .i64 b2)∧Below (w.drew.heap.size) w.drew w') (by kernel_rfl) ?_ (fun hHeld=>?_)
   ·exact HSs.out _ ((Below.refl _ _).drew)
   refine tz (i:=0) rfl ?_
   simp only [Go.Act.put,ps1,ps2,ps3]
   refine tz (i:=1) rfl ?_
   simp only [Go.Act.put,ps1,ps2,ps3]
   refine tz (i:=2) rfl ?_
   simp only [Go.Act.put,ps1,ps2,ps3]
   refine tz (i:=3) rfl ?_
   simp only [Go.Act.put,ps1,ps2,ps3]
   refine tz (i:=4) rfl ?_
   simp only [Go.Act.put,ps1,ps2,ps3]
   refine tz (i:=5) rfl ?_
   simp only [Go.Act.put,ps1,ps2,ps3]
   refine tz (i:=6) rfl ?_
   simp only [Go.Act.put,ps1,ps2,ps3]
   refine tz (i:=7) rfl ?_
   simp only [Go.Act.put,ps1,ps2,ps3]
   refine tz (i:=8) rfl ?_
   simp only [Go.Act.put,ps1,ps2,ps3]
   refine tz (i:=9) rfl ?_
   simp only [Go.Act.put,ps1,ps2,ps3]
   refine tz (i:=10) rfl ?_
   simp only [Go.Act.put,ps1,ps2,ps3]
   refine tcl 11 fun Kc hK=>?_
   go_simp
   (go_at_call 208;refine Calls.mono (C11.out _ (also b3 hHeld.2.2.2.2)) ?_;rintro e w4 ⟨pa4,rfl,ps4,bo4⟩)
   refine hK.out _ _ ?_ (fun hHeld=>?_)
   ·exact HSs.out _ (hHeld.2.2.2.2.trans (bo4.mono hHeld.2.2.2.2.size))
   clear hK Kc
   refine tcl 12 fun Kc hK=>?_
   go_simp
   (go_at_call 207;refine Calls.mono (tBest a1 a2 b1 b2 pa4 (n- 2) (n- 2) _ _ ps4 (by omega) HR2.out) ?_;rintro e w5 ⟨rfl,bo5⟩)
   refine hK.out _ _ ?_ (fun hHeld=>?_)
   ·exact HSs.out _ (hHeld.2.2.2.2.trans (bo5.mono hHeld.2.2.2.2.size))
   clear hK Kc
   refine tz (i:=13) rfl ?_
   simp only [Go.Act.put,ps1,ps2,ps3]
   refine wpAnyH_done (by kernel_rfl) ?_ _
   have b5:Below w.heap.size w w5:=also b3 hHeld.2.2.2.2
   clear hHeld HSs ps4 bo4 bo5 u0 u1 u2 u3 b3 C11 HR2
   by_cases hr0:r<0
   ·have RES:Hid (FillPost base d (fillP (bestB L) P) da w (.returned (.tuple #[.slice none 0 0, .bool false])) w5):=by
     refine⟨⟨none,0,0,false,rfl,?_,fun k hk=>by obtain⟨o,e⟩:=hk;cases e⟩,Keep.of b5⟩
     rw [fill_no (by omega) (by rw [←HR.out];exact hr0)]
     exact⟨rfl,rfl,rfl,rfl⟩
    go_wp2
    exact bodyPost_ret (v:= .tuple #[.slice none 0 0, .bool false]) (by simp [results,Tryz.results152,go_sem]) rfl RES.out
   obtain⟨cc,rfl⟩: ∃ cc:Nat,r=(cc:Int):=⟨r.toNat,by omega⟩
   have hcc:cc+2<n:=best_lt hlen (by omega) HR.out
   have l2:(cc:Int)+2<(n:Int):=by omega
   have l3:(cc:Int)+2+1≤(n:Int):=by omega
   have l2':cc+2<n:=by omega
   have l1n:(1:Int)≤(n:Int):=by omega
   obtain⟨x2,hx2⟩: ∃ x,P[(cc+2)]? =some x:=⟨P[(cc+2)]'(by omega),List.getElem?_eq_getElem _⟩
   obtain⟨_,_,e8,_,sg5⟩:=(HP.out.below b5).at (by omega)
   cases e8
   have p2:w5.cell? ⟨pb,po+(cc+2),none⟩=some (.int .i64 (x2:Int)):=sg5.cell (cc+2) _ (natC_at hx2)
   have ow5:=HD.out.below b5
   have b6':Below w5.heap.size w5 (w5.alloc (.cells #[.int .i64 (x0:Int), .int .i64 (x1:Int), .int .i64 (x2:Int)] 51)):=(Below.refl _ _).alloc (Nat.le_refl _) _
   have owX:=ow5.below b6'
   have NW:=news_new w5 (t3C (x0,x1,x2)) 51
   have z5:=b5.size
   have STEP:Hid (fillP (bestB L) P=joinF (x0,x1,x2) (fillP (bestB L) (cutA P (cc+2))) (fillP (bestB L) (cutB P (cc+2)))):=step_of hlen (by omega) HR.out HX0.out HX1.out rfl hx2
   have LENA:Hid ((cutA P (cc+2)).length=(cc+2)):=cutA_len (by omega)
   have LENB:Hid ((cutB P (cc+2)).length=n- (cc+2)+1):=by unfold Hid;rw [cutB_len (by omega),hlen]
   clear hx2 sg5
   have A1:dn+1≤maxLen:=by have:=HDN.out;unfold maxLen;omega
   have A2:(dn+1)*24≤140737488355328:=by have:=HDN.out;omega
   have A3:base≤(w5.alloc (.cells #[.int .i64 (x0:Int), .int .i64 (x1:Int), .int .i64 (x2:Int)] 51)).heap.size:=by simp;omega
   go_wp2_with (at_builtin;go_loud (refine app_atS _ rfl _ _ 164 rfl base 51 i0 _ 3 24 Tryz.underlying164 hi0 hz0 hz1 hz2 rfl (by decide) da dn dc _ rfl owX ⟨w5.heap.size,0,none⟩ 1 1 (t3C (x0,x1,x2)) rfl rfl NW (t3C_one _) A1 A2 A3 ?_;intro a6 c6 w6 h6 g6 s6))
   have K6:Keep (Slot da) w w6:=Keep.grown (Keep.of (also b5 b6')) g6 (fun k e=>Or.inl (owX.slot e))
   rw [←flat_t3]at h6
   have s6': ∀ k,Slot a6 k→Slot da k∨w.heap.size≤k:=fun k hk=>(s6 k hk).imp id (fun h=>by simp at h;omega)
   have z6:=K6.size
   have ap6: ∀ k,Slot a6 k→k≠lb∧k≠pb:=by
    intro k hk
    rcases s6' k hk with q|q
    ·have:=HAP.out k q
     exact⟨fun e=>this.1 ⟨lo,by rw [e]⟩,fun e=>this.2 ⟨po,by rw [e]⟩⟩
    ·omega
   have HK6:Hid _:=K6
   have HS6:Hid _:=s6'
   have PL6:Hid (PSl w6 (some ⟨lb,lo,none⟩) nl lc L):=HL.out.keep K6 (fun k hs hF=>(HAP.out k hF).1 hs)
   have PP6:Hid (Sl w6 (some ⟨pb,po,none⟩) n pc (natC P)):=HP.out.keep K6 (fun k hs hF=>(HAP.out k hF).2 hs)
   have CR1:Hid (Calls Tryz.prog 152 #[.slice (some ⟨lb,lo,none⟩) nl lc, .slice (some ⟨pb,po+1,none⟩) (cc+2) (pc- 1), .slice a6 (dn+1) c6] w6 (FillPost base (d++ [(x0,x1,x2)]) (fillP (bestB L) (cutA P (cc+2))) a6 w6)):=by
    refine IH.out (cutA P (cc+2)) _ (cc+2) (pc- 1) _ a6 (dn+1) c6 base w6 (by omega) PL6.out ?_ h6 (by rw [List.length_append,HDN.out];rfl) (by omega) (fun k hk=>?_) (fun j hj=>HB.out j (mem_cutA hj)) (by rw [List.length_append];show d.length+1+_≤_;omega)
    ·have:=PP6.out.part (i:=1) (j:=cc+3) (by omega) (by omega)
     rw [←natC_drop,←natC_take]at this
     exact this
    ·have:=ap6 k hk
     exact⟨fun h=>this.1 (Slot.eq h),fun h=>this.2 (Slot.eq h)⟩
   clear owX NW h6 g6 s6 s6' b6' ow5 p2 K6 b5
   go_wp2_with (go_at_call 152;fail)
   refine Calls.mono CR1.out ?_
   rintro e w7 ⟨⟨a7,m7,c7,q7,rfl,told7,s7⟩,k7⟩
   have K7:Keep (Slot da) w w7:=HK6.out.trans k7 (fun i hi=>HS6.out i hi)
   have S7: ∀ k,Slot a7 k→Slot da k∨w.heap.size≤k:=fun k hk=>by
    rcases s7 k hk with q|q
    ·exact HS6.out k q
    ·exact Or.inr (by omega)
   have HK7:Hid _:=K7
   have HS7:Hid _:=S7
   have HT7:Hid _:=told7
   have z7:=K7.size
   clear CR1 told7 s7 k7
   cases q7 with
   |false=>
    have RES:Hid (FillPost base d (fillP (bestB L) P) da w (.returned (.tuple #[.slice none 0 0, .bool false])) w7):=by
     refine⟨⟨none,0,0,false,rfl,?_,fun k hk=>by obtain⟨o,e⟩:=hk;cases e⟩,K7⟩
     have t7:=HT7.out
     rw [STEP.out]
     cases e1:fillP (bestB L) (cutA P (cc+2))with
     |none=>exact⟨rfl,rfl,rfl,rfl⟩
     |some T=>rw [e1]at t7;exact absurd t7.1 (by simp)
    clear K7 S7
    go_wp2
    exact bodyPost_ret (v:= .tuple #[.slice none 0 0, .bool false]) (by simp [results,Tryz.results152,go_sem]) rfl RES.out
   |true=>
    obtain⟨T1,hT1⟩: ∃ T,fillP (bestB L) (cutA P (cc+2))=some T:=by
     have t7:=HT7.out
     cases e1:fillP (bestB L) (cutA P (cc+2))with
     |none=>rw [e1]at t7;exact absurd t7.1 (by simp)
     |some T=>exact⟨T,rfl⟩
    have t7:=HT7.out
    rw [hT1]at t7
    obtain⟨_,hm7,ow7⟩:=t7
    have lT:=fill_len (bestB_in L) _ _ T1 (Nat.le_refl _) (by rw [LENA.out];omega) hT1
    rw [LENA.out]at lT
    have HT1:Hid _:=hT1
    have HM7:Hid _:=hm7
    have HOW7:Hid (OwnS w7 base 51 3 a7 m7 c7 (flat t3C (d++ [(x0,x1,x2)]++T1))):=ow7
    have PL7:Hid (PSl w7 (some ⟨lb,lo,none⟩) nl lc L):=HL.out.keep K7 (fun k hs hF=>(HAP.out k hF).1 hs)
    have PP7:Hid (Sl w7 (some ⟨pb,po,none⟩) n pc (natC P)):=HP.out.keep K7 (fun k hs hF=>(HAP.out k hF).2 hs)
    have ap7: ∀ k,Slot a7 k→k≠lb∧k≠pb:=by
     intro k hk
     rcases S7 k hk with q|q
     ·have:=HAP.out k q
      exact⟨fun e=>this.1 ⟨lo,by rw [e]⟩,fun e=>this.2 ⟨po,by rw [e]⟩⟩
     ·omega
    have HA7:Hid _:=ap7
    have CC:Hid (∀ (w':World) (b:Nat),Below w7.heap.size w7 w'→Row w' b [.slice (some ⟨pb,po+(cc+2),none⟩) (n- (cc+2)) (pc- (cc+2)), .slice (some ⟨pb,po,none⟩) 1 pc]→b<w'.heap.size→Calls Tryz.prog 209 #[.slice (some ⟨b,0,none⟩) 2 2] w' fun e w''=> ∃ (a:Option Addr) (c:Nat),e= .returned (.slice a (n- (cc+2)+1) c)∧Own w'' w'.heap.size 3 a (n- (cc+2)+1) c (natC (cutB P (cc+2)))∧Below w'.heap.size w' w''):=by
     intro w' b hb hr hlt
     have S1:=PP7.out.below hb
     refine hConcat b _ _ (n- (cc+2)) (pc- (cc+2)) 1 pc (P.drop (cc+2)) (P.take 1) w' hr hlt ?_ ?_ (by omega) (by omega)
     ·have:=S1.part (i:=(cc+2)) (j:=n) (by omega) (Nat.le_refl _)
      rwa [←natC_drop,List.take_of_length_le (by rw [natC_len,List.length_drop];omega)]at this
     ·have:=S1.take (m:=1) (by omega)
      rwa [←natC_take]at this
    have CR2:Hid (∀ (w8:World) (a8:Option Addr) (c8:Nat),Below w7.heap.size w7 w8→Own w8 (w7.heap.size+1) 3 a8 (n- (cc+2)+1) c8 (natC (cutB P (cc+2)))→Calls Tryz.prog 152 #[.slice (some ⟨lb,lo,none⟩) nl lc, .slice a8 (n- (cc+2)+1) c8, .slice a7 m7 c7] w8 (FillPost base (d++ [(x0,x1,x2)]++T1) (fillP (bestB L) (cutB P (cc+2))) a7 w8)):=by
     intro w8 a8 c8 hb8 ow8
     have z8:=hb8.size
     refine IH.out (cutB P (cc+2)) _ _ c8 _ a7 m7 c7 base w8 (by omega) (PL7.out.below hb8) ow8.sl (HOW7.out.below hb8) (by rw [HM7.out,List.length_append (bs:=T1)]) (by omega) (fun k hk=>?_) (fun j hj=>HB.out j (mem_cutB hj)) ?_
     ·have:=HA7.out k hk
      refine⟨fun h=>this.1 (Slot.eq h),fun h=>?_⟩
      have q1:=(ow8.lt h).2
      have q2:=(HOW7.out.lt hk).1
      omega
     ·rw [List.length_append,List.length_append,lT]
      show d.length+1+_+_≤_
      omega
    clear K7 S7 hT1 hm7 ow7 HT7 ap7
    have tn:((cc:Int)+2).toNat=cc+2:=by omega
    have t0:(0:Int)≤(cc:Int)+2:=by omega
    have t1:(cc:Int)+2≤(n:Int):=by omega
    have tp: ¬pc=cc+2:=by omega
    have tq:(1:Int)≤(pc:Int):=by omega
    go_wp2
    have HSt:Hid (∀ w',Keep (Slot a7) w7 w'→(fun w'=>True∧Keep (Slot a7) w7 w') w'):=by
     unfold Hid
     intro w' hb
     exact⟨trivial,hb⟩
    refine wp_region_held_drew (S:=fun w'=>True∧Keep (Slot a7) w7 w') (by kernel_rfl) ?_ (fun hHeld=>?_)
    ·exact HSt.out _ ((Keep.refl _ _).drew)
    refine tz (i:=0) rfl ?_
    simp only [Go.Act.put,ps1,ps2,ps3]
    refine tz (i:=1) rfl ?_
    simp only [Go.Act.put,ps1,ps2,ps3]
    refine tz (i:=2) rfl ?_
    simp only [Go.Act.put,ps1,ps2,ps3]
    refine tz (i:=3) rfl ?_
    simp only [Go.Act.put,ps1,ps2,ps3]
    refine tz (i:=4) rfl ?_
    simp only [Go.Act.put,ps1,ps2,ps3]
    refine tz (i:=5) rfl ?_
    simp only [Go.Act.put,ps1,ps2,ps3]
    refine tz (i:=8) rfl ?_
    simp only [Go.Act.put,ps1,ps2,ps3]
    refine tcl 6 fun Kc hK=>?_
    go_simp
    refine hK.out _ _ ?_ (fun hHeld=>?_)
    ·exact HSt.out _ (hHeld.2.alloc _)
    clear hK Kc
    refine tcl 7 fun Kc hK=>?_
    go_simp
    (go_at_call 209;refine Calls.mono (CC.out _ _ (((Below.refl _ _).drew).alloc (by simp) _) (Row.new _ _ _) (by simp)) ?_;rintro e w8 ⟨a8,c8,rfl,ow8,bo8⟩)
    refine hK.out _ _ ?_ (fun hHeld=>?_)
    ·exact HSt.out _ (hHeld.2.to bo8)
    clear hK Kc
    refine tcl 9 fun Kc hK=>?_
    go_simp
    (go_at_call 152;refine Calls.mono (CR2.out w8 a8 c8 (also (((Below.refl _ _).drew).alloc (by simp) _) bo8) (by simpa using ow8)) ?_;rintro e w9 ⟨⟨a9,m9,c9,q9,rfl,told9,s9⟩,k9⟩)
    refine hK.out _ _ ?_ (fun hHeld=>?_)
    ·exact HSt.out _ (hHeld.2.trans k9 (fun i g=>Or.inl g))
    clear hK Kc
    refine tz (i:=10) rfl ?_
    simp only [Go.Act.put,ps1,ps2,ps3]
    refine tz (i:=11) rfl ?_
    simp only [Go.Act.put,ps1,ps2,ps3]
    refine tz (i:=12) rfl ?_
    simp only [Go.Act.put,ps1,ps2,ps3]
    refine tz (i:=13) rfl ?_
    simp only [Go.Act.put,ps1,ps2,ps3]
    refine wpAnyH_done (by kernel_rfl) ?_ _
    have kf:=hHeld.2
    have RES:Hid (FillPost base d (fillP (bestB L) P) da w (.returned (.tuple #[.slice a9 m9 c9, .bool q9])) w9):=by
     refine⟨⟨a9,m9,c9,q9,rfl,?_,fun k hk=>?_⟩,HK7.out.trans kf (fun i g=>HS7.out i g)⟩
     ·rw [STEP.out,HT1.out]
      cases e2:fillP (bestB L) (cutB P (cc+2))with
      |none=>rw [e2]at told9;exact told9
      |some T2=>
       rw [e2]at told9
       obtain⟨t1,t2,t3⟩:=told9
       refine⟨t1,?_,?_⟩
       ·rw [t2];simp only [List.length_append,List.length_cons,List.length_nil];omega
       ·have e:d++(x0,x1,x2)::(T1++T2)=d++ [(x0,x1,x2)]++T1++T2:=by simp
        show OwnS w9 base 51 3 a9 m9 c9 (flat t3C (d++(x0,x1,x2)::(T1++T2)))
        rw [e];exact t3
     ·rcases s9 k hk with q|q
      ·exact HS7.out k q
      ·have:=kf.size
       have:=bo8.size
       simp at this
       exact Or.inr (by omega)
    clear hHeld HSt told9 s9 k9 kf CC CR2
    go_wp2
    exact bodyPost_ret (v:= .tuple #[.slice a9 m9 c9, .bool q9]) (by simp [results,Tryz.results152,go_sem]) rfl RES.out
def fillTop(L:List Pt):Option (List T3):=if L.length<3∨500<L.length then none else fillP (bestB L) (List.range L.length)
structure FillRes(L:List Pt)(w:World)(e:Ending)(w':World):Prop where
 ex: ∃ (a:Option Addr) (m c:Nat) (q:Bool),e= .returned (.tuple #[.slice a m c, .bool q])∧FillTold w.heap.size [] (fillTop L) a m c q w'
 be:Below w.heap.size w w'
theorem take_set1{xs:List Value}{k n:Nat}{a:Value}(hl:xs.length=n)(hk:k<n):(xs.set k a).take (k+1)=xs.take k++ [a]:=by
 rw [List.take_add_one,List.getElem?_set_self (by omega),List.take_set_of_le (Nat.le_refl _)];rfl
theorem eq_3h(a b c a' b' c':Int)(w:World):(Op.equalIn 10000 51 (.agg #[.int .i64 a, .int .i64 b, .int .i64 c]) (.agg #[.int .i64 a', .int .i64 b', .int .i64 c'])).run Tryz.prog w= .ok (a==a' && (b==b' && c==c')) w:=by
 obtain⟨i,hi⟩:=Option.isSome_iff_exists.1 (show(Tryz.prog.info? 3).isSome=true by kernel_rfl)
 have hc:Tryz.prog.cellsOf 3=1:=by kernel_rfl
 rw [run_equalIn_array w 9999 _ _ Tryz.underlying51 hi,hc]
 simp [Op.eqItems,List.range,List.range.loop,go_sem,Tryz.underlying3]
 by_cases e0:a=a'<;>by_cases e1:b=b'<;>by_cases e2:c=c'<;>simp [e0,e1,e2]
theorem OwnS.elH{α:Type}{f:α→List Value}{s:Nat}(hf: ∀ x,(f x).length=s){w:World}{base:Nat}{T:TypeId}{a:Option Addr}{n cap:Nat}{L:List α}(h:OwnS w base T s a n cap (flat f L))(hn:n=L.length){k:Nat}{x:α}(hk:L[k]? =some x):
  ∃ b,a=some ⟨b,0,none⟩∧b<w.heap.size∧base≤b∧n≤cap∧ ∀ j u,(f x)[j]? =some u→w.cell? ⟨b,k*s+j,none⟩=some u:=by
 have hl:=(List.getElem?_eq_some_iff.1 hk).1
 obtain⟨b,e,h1,h2,sg⟩:=h.at (by omega)
 refine⟨b,e,h1,h2,h.room.1,fun j u hu=>?_⟩
 have:=sg.cell (k*s+j) u (flat_at hf hk hu)
 rwa [Nat.zero_add]at this
set_option maxRecDepth 100000 in
set_option maxHeartbeats 4000000 in
theorem hFillTop(la:Option Addr)(nl lc:Nat)(L:List Pt)(w:World)(hL:PSl w la nl lc L)(hnl:nl≤100000):
  Calls Tryz.prog 84 #[.slice la nl lc] w (FillRes L w):=by
 have hlen:=hL.len
 by_cases h3:nl<3
 ·have h3':(nl:Int)<3:=by omega
  have RES:Hid (FillTold w.heap.size [] (fillTop L) none 0 0 false w):=by
   unfold Hid fillTop;rw [if_pos (Or.inl (by omega))];exact⟨rfl,rfl,rfl,rfl⟩
  clear hL
  go_enter Tryz.func84,Tryz.ntmps84
  go_wp2
  exact bodyPost_ret (v:= .tuple #[.slice none 0 0, .bool false]) (by simp [results,Tryz.results84,go_sem]) rfl ⟨⟨none,0,0,false,rfl,RES.out⟩,Below.refl _ _⟩
 have h3': ¬(nl:Int)<3:=by omega
 have d3:decide ((nl:Int)<3)=false:=decide_eq_false h3'
 by_cases h5:500<nl
 ·have h5':(nl:Int)>500:=by omega
  have RES:Hid (FillTold w.heap.size [] (fillTop L) none 0 0 false w):=by
   unfold Hid fillTop;rw [if_pos (Or.inr (by omega))];exact⟨rfl,rfl,rfl,rfl⟩
  clear hL
  go_enter Tryz.func84,Tryz.ntmps84
  go_wp2
  exact bodyPost_ret (v:= .tuple #[.slice none 0 0, .bool false]) (by simp [results,Tryz.results84,go_sem]) rfl ⟨⟨none,0,0,false,rfl,RES.out⟩,Below.refl _ _⟩
 have h5': ¬(nl:Int)>500:=by omega
 obtain⟨i0,hi0,hz0,hz1,hz2⟩:=info_of infoI
 obtain⟨i3,ki0,kz0,kz1,kz2⟩:=info_of info3
 have HL:Hid _:=hL
 obtain⟨lb,lo,_,_,rfl,hlb,_,_⟩:=hL.at (k:=0) (by omega)
 have TOP:Hid (fillTop L=fillP (bestB L) (List.range nl)):=by unfold Hid fillTop;rw [if_neg (by omega),hlen]
 obtain⟨q,hq⟩: ∃ q,q=nl- 2:=⟨_,rfl⟩
 have HQ:Hid ((nl:Int)- 2=(q:Int)):=by unfold Hid;omega
 have hqb:q≤1000:=by omega
 clear hq
 clear hL
 go_enter Tryz.func84,Tryz.ntmps84
 go_wp2_with (at_make;go_loud (refine wpList_make_full _ rfl _ _ 60 rfl w.heap.size 3 i0 _ 1 Tryz.underlying60 hi0 hz0 hz1 _ _ _ _ nl rfl rfl rfl rfl (by rw [hz2];omega) (by unfold maxLen;omega) (Nat.le_refl _) ?_;intro w1 ow1 gr1))
 have b1:Below w.heap.size w w1:=Below.to gr1
 clear gr1
 go_wp2
 go_loopw [19] (fun i wr=> ∃ (k:Nat) (xs:List Value),k≤nl∧i= .int .i64 (k:Int)∧OwnS wr w.heap.size 3 1 (some ⟨w.heap.size,0,none⟩) nl nl xs∧Hid (xs.take k=natC (List.range k))∧Below w.heap.size w wr∧w.heap.size<wr.heap.size) (fun i _=>nl- (Go.RowKit.intOf i).toNat)
 case atStart=>exact⟨0,_,by omega,rfl,ow1,rfl,b1,(OwnS.lt ow1 ⟨0,rfl⟩).1⟩
 case round=>
  clear ow1 b1
  obtain⟨k,xs,hk,rfl,ow,HX,be,zz⟩:=hrel
  by_cases hlt:k<nl
  ·have hlt':(k:Int)<(nl:Int):=by omega
   have hlx:=ow.len
   have g0:=ow.cell (by omega) (List.getElem?_eq_getElem (show k<xs.length by omega))
   have g00:=g0.1
   have g01:=g0.2
   have ow2:=OwnS.set (j:=k) ow (.int .i64 (k:Int))
   have be2:Below w.heap.size w (wr.setCell ⟨w.heap.size,k,none⟩ (.int .i64 (k:Int))):=be.setCell (by simp) _
   have HX2:Hid ((xs.set k (.int .i64 (k:Int))).take (k+1)=natC (List.range (k+1))):=by
    unfold Hid
    rw [take_set1 (n:=nl) (by omega) hlt,HX.out,List.range_succ,natC_app]
    rfl
   clear ow be g0 HX
   go_wp2
   go_roundw
   case rel=>exact⟨k+1,_,by omega,by simp,ow2,HX2.out,be2,by simp;omega⟩
   case measure=>simp [Go.RowKit.intOf];omega
  ·obtain rfl:nl=k:=by omega
   have hx:=HX.out
   rw [List.take_of_length_le (by rw [ow.len];omega)]at hx
   rw [hx]at ow
   have zr:=be.size
   clear HX hx
   go_wp2_with (at_make;go_loud (refine wpList_make_own _ rfl _ _ 164 rfl wr.heap.size 51 i3 _ 3 Tryz.underlying164 ki0 kz0 kz1 _ _ _ q rfl rfl HQ.out (by rw [kz2];omega) (by unfold maxLen;omega) (Nat.le_refl _) ?_;intro w2 ow2 gr2))
   have b2:Below wr.heap.size wr w2:=Below.to gr2
   obtain⟨a2,c2,e2,ow3⟩:=OwnS.form ow2
   cases e2
   have z2:=b2.size
   have CF:Hid (Calls Tryz.prog 152 #[.slice (some ⟨lb,lo,none⟩) nl lc, .slice (some ⟨w.heap.size,0,none⟩) nl nl, .slice (some ⟨wr.heap.size,0,none⟩) 0 q] w2 (FillPost w.heap.size [] (fillP (bestB L) (List.range nl)) (some ⟨wr.heap.size,0,none⟩) w2)):=by
    refine hFillR _ nl lc L (by omega) nl (List.range nl) _ nl nl [] _ 0 q w.heap.size w2 (Nat.le_refl _) ((HL.out.below be).below b2) (Own.sl (OwnS.below ow b2)) (ow3.mono (by omega)) rfl (by omega) (fun k hk=>?_) (fun j hj=>List.mem_range.1 hj) (by show 0+nl≤1000;omega)
    have e:=Slot.eq hk
    exact⟨fun h=>by have:=Slot.eq h;omega,fun h=>by have:=Slot.eq h;omega⟩
   have be2:Below w.heap.size w w2:=also be b2
   clear ow2 gr2 ow3 ow
   go_wp2_with (go_at_call 152;fail)
   refine Calls.mono CF.out ?_
   rintro e w3 ⟨⟨a,m,c,r,rfl,told,_⟩,kp⟩
   have be3:Below w.heap.size w w3:=be2.trans (kp.below (by omega) (fun k hk=>by have:=Slot.eq hk;omega))
   have RES:Hid (FillTold w.heap.size [] (fillTop L) a m c r w3):=by unfold Hid;rw [TOP.out];exact told
   clear CF told kp
   go_wp2
   exact bodyPost_ret (v:= .tuple #[.slice a m c, .bool r]) (by simp [results,Tryz.results84,go_sem]) rfl ⟨⟨a,m,c,r,rfl,RES.out⟩,be3⟩
set_option maxRecDepth 100000 in
set_option maxHeartbeats 4000000 in
theorem rhSame(a b:Option Addr)(ba bb n ca cb:Nat)(D:List T3)(w:World)(ha:OwnS w ba 51 3 a n ca (flat t3C D))(hb:OwnS w bb 51 3 b n cb (flat t3C D))(hn:n=D.length)(hD:n≤1000000):
  Calls Tryz.prog 85 #[.slice a n ca, .slice b n cb] w fun e w'=>e= .returned (.bool true)∧Below w.heap.size w w':=by
 have HA:Hid _:=ha
 have HB:Hid _:=hb
 have HN:Hid _:=hn
 clear ha hb hn
 go_enter Tryz.func85,Tryz.ntmps85
 go_wp2
 go_loopw [5] (fun i wr=> ∃ k:Nat,k≤n∧i= .int .i64 (k:Int)∧Below w.heap.size w wr) (fun i _=>n- (Go.RowKit.intOf i).toNat)
 case atStart=>exact⟨0,by omega,rfl,Below.refl _ _⟩
 case round=>
  obtain⟨k,hk,rfl,be⟩:=hrel
  by_cases hlt:k<n
  ·have hlt':(k:Int)<(n:Int):=by omega
   obtain⟨t,ht⟩: ∃ t,D[k]? =some t:=⟨D[k]'(by rw [←HN.out];exact hlt),List.getElem?_eq_getElem _⟩
   obtain⟨ga,rfl,hla,_,hca,HE⟩:=OwnS.elH t3C_len (OwnS.below HA.out be) HN.out ht
   obtain⟨gb,rfl,hlb,_,hcb,HE2⟩:=OwnS.elH t3C_len (OwnS.below HB.out be) HN.out ht
   have c0:wr.cell? ⟨ga,k*3,none⟩=some (.int .i64 (t.1:Int)):=HE 0 _ rfl
   have d0:wr.cell? ⟨gb,k*3,none⟩=some (.int .i64 (t.1:Int)):=HE2 0 _ rfl
   have c1:wr.cell? ⟨ga,k*3+1,none⟩=some (.int .i64 (t.2.1:Int)):=HE 1 _ rfl
   have d1:wr.cell? ⟨gb,k*3+1,none⟩=some (.int .i64 (t.2.1:Int)):=HE2 1 _ rfl
   have c2:wr.cell? ⟨ga,k*3+2,none⟩=some (.int .i64 (t.2.2:Int)):=HE 2 _ rfl
   have d2:wr.cell? ⟨gb,k*3+2,none⟩=some (.int .i64 (t.2.2:Int)):=HE2 2 _ rfl
   have heq: ∀ w',(Op.equalIn 10000 51 (.agg #[.int .i64 (t.1:Int), .int .i64 (t.2.1:Int), .int .i64 (t.2.2:Int)]) (.agg #[.int .i64 (t.1:Int), .int .i64 (t.2.1:Int), .int .i64 (t.2.2:Int)])).run Tryz.prog w'= .ok true w':=fun w'=>by rw [eq_3h];simp
   clear HE HE2 ht
   go_wp2
   have HSs:Hid (∀ w',Below (wr.heap.size) wr w'→(fun w'=>w'.cell? ⟨ga,k*3,none⟩=some (.int .i64 (t.1:Int))∧w'.cell? ⟨ga,k*3+1,none⟩=some (.int .i64 (t.2.1:Int))∧w'.cell? ⟨ga,k*3+2,none⟩=some (.int .i64 (t.2.2:Int))∧w'.cell? ⟨gb,k*3,none⟩=some (.int .i64 (t.1:Int))∧w'.cell? ⟨gb,k*3+1,none⟩=some (.int .i64 (t.2.1:Int))∧w'.cell? ⟨gb,k*3+2,none⟩=some (.int .i64 (t.2.2:Int))∧Below (wr.heap.size) wr w') w'):=by
    unfold Hid
    intro w' hb
    exact⟨(hb.cell (p:=⟨ga,k*3,none⟩) hla).trans c0,(hb.cell (p:=⟨ga,k*3+1,none⟩) hla).trans c1,(hb.cell (p:=⟨ga,k*3+2,none⟩) hla).trans c2,(hb.cell (p:=⟨gb,k*3,none⟩) hlb).trans d0,(hb.cell (p:=⟨gb,k*3+1,none⟩) hlb).trans d1,(hb.cell (p:=⟨gb,k*3+2,none⟩) hlb).trans d2,hb⟩
   refine wp_region_held_drew (S:=fun w'=>w'.cell? ⟨ga,k*3,none⟩=some (.int .i64 (t.1:Int))∧w'.cell? ⟨ga,k*3+1,none⟩=some (.int .i64 (t.2.1:Int))∧w'.cell? ⟨ga,k*3+2,none⟩=some (.int .i64 (t.2.2:Int))∧w'.cell? ⟨gb,k*3,none⟩=some (.int .i64 (t.1:Int))∧w'.cell? ⟨gb,k*3+1,none⟩=some (.int .i64 (t.2.1:Int))∧w'.cell? ⟨gb,k*3+2,none⟩=some (.int .i64 (t.2.2:Int))∧Below (wr.heap.size) wr w') (by kernel_rfl) ?_ (fun hHeld=>?_)
   ·exact HSs.out _ ((Below.refl _ _).drew)
   refine tz (i:=0) rfl ?_
   simp only [Go.Act.put,ps1,ps2,ps3]
   refine tz (i:=1) rfl ?_
   simp only [Go.Act.put,ps1,ps2,ps3]
   refine tz (i:=2) rfl ?_
   simp only [Go.Act.put,ps1,ps2,ps3]
   refine tz (i:=3) rfl ?_
   simp only [Go.Act.put,ps1,ps2,ps3]
   refine tz (i:=4) rfl ?_
   simp only [Go.Act.put,ps1,ps2,ps3]
   refine tz (i:=5) rfl ?_
   simp only [Go.Act.put,ps1,ps2,ps3]
   refine tz (i:=6) rfl ?_
   simp only [Go.Act.put,ps1,ps2,ps3]
   refine tz (i:=7) rfl ?_
   simp only [Go.Act.put,ps1,ps2,ps3]
   refine tz (i:=8) rfl ?_
   simp only [Go.Act.put,ps1,ps2,ps3]
   refine wpAnyH_done (by kernel_rfl) ?_ _
   have b2:=hHeld.2.2.2.2.2.2
   have be2:Below w.heap.size w wr.drew:=be.trans (b2.mono be.size)
   clear hHeld HSs
   go_wp2
   go_roundw
   case rel=>exact⟨k+1,by omega,by simp,be2⟩
   case measure=>simp [Go.RowKit.intOf];omega
  ·obtain rfl:n=k:=by omega
   go_wp2
   go_ret
   exact⟨rfl,be⟩
theorem live_fill:fillTop [(0,0),(2,0),(2,2),(0,2)]=some [(0,1,3),(1,2,3)]:=by decide
set_option maxRecDepth 100000 in
set_option maxHeartbeats 4000000 in
theorem hLives(w:World):Calls Tryz.prog 34 #[] w fun e w'=>e= .returned (.bool true)∧Below w.heap.size w w':=by
 obtain⟨W,hW⟩: ∃ W,W=w.alloc (.cells #[.int .i64 0, .int .i64 0, .int .i64 2, .int .i64 0, .int .i64 2, .int .i64 2, .int .i64 0, .int .i64 2] 24):=⟨_,rfl⟩
 have bW:Below w.heap.size w W:=by rw [hW];exact(Below.refl _ _).alloc (Nat.le_refl _) _
 have zW:W.heap.size=w.heap.size+1:=by rw [hW];simp
 have RW:Row W w.heap.size (pcells [(0,0),(2,0),(2,2),(0,2)]):=by rw [hW];exact Row.new w _ _
 have PS:PSl W (some ⟨w.heap.size,0,none⟩) 4 4 [(0,0),(2,0),(2,2),(0,2)]:=⟨rfl,Nat.le_refl _,(by intro e;cases e),Or.inr ⟨_,0,rfl,by omega,RW.seg⟩⟩
 have CF:Hid _:=hFillTop _ 4 4 _ W PS (by omega)
 have HW:w.alloc (.cells #[.int .i64 0, .int .i64 0, .int .i64 2, .int .i64 0, .int .i64 2, .int .i64 2, .int .i64 0, .int .i64 2] 24)=W:=hW.symm
 clear RW PS hW
 go_enter Tryz.func34,Tryz.ntmps34
 go_wp2_with (go_at_call 84;fail)
 refine Calls.mono CF.out ?_
 rintro e w2 ⟨⟨a,m,c,q,rfl,told⟩,b2⟩
 rw [live_fill]at told
 obtain⟨rfl,rfl,ow⟩:=told
 have z2:=b2.size
 obtain⟨V,hV⟩: ∃ V,V=w2.alloc (.cells #[.int .i64 0, .int .i64 1, .int .i64 3, .int .i64 1, .int .i64 2, .int .i64 3] 51):=⟨_,rfl⟩
 have bV:Below w2.heap.size w2 V:=by rw [hV];exact(Below.refl _ _).alloc (Nat.le_refl _) _
 have owV:OwnS V w2.heap.size 51 3 (some ⟨w2.heap.size,0,none⟩) 2 2 (flat t3C [(0,1,3),(1,2,3)]):=by rw [hV];exact World.ownsRow_lit w2 #[.int .i64 0, .int .i64 1, .int .i64 3, .int .i64 1, .int .i64 2, .int .i64 3] 2 (Nat.le_refl _) (by decide) rfl
 have CS:Hid (Calls Tryz.prog 85 #[.slice a 2 c, .slice (some ⟨w2.heap.size,0,none⟩) 2 2] V fun e w'=>e= .returned (.bool true)∧Below V.heap.size V w'):=rhSame a _ _ _ 2 c 2 [(0,1,3),(1,2,3)] V (ow.below bV) owV rfl (by omega)
 have HV:w2.alloc (.cells #[.int .i64 0, .int .i64 1, .int .i64 3, .int .i64 1, .int .i64 2, .int .i64 3] 51)=V:=hV.symm
 have b0V:Below w.heap.size w V:=also (also bW b2) bV
 clear CF ow owV hV HW
 go_wp2_with (go_at_call 85;fail)
 refine Calls.mono CS.out ?_
 rintro e w3 ⟨rfl,b3⟩
 clear CS
 go_wp2
 go_ret
 exact⟨rfl,also b0V b3⟩
end Go.Proofs.YtjmhfdimoeaplaaGreat
