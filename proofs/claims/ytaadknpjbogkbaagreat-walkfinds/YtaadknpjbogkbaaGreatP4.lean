/-
  Joined texts, part 4:
  What zelligeref04's Of, Same, make1, Neg, Add, Sub, Mul and Cmp answer.
  What zelligeref03's DivMod answers: bit by bit.
  What zelligeref04's Long and Floor answer.
-/
import Derived.Test.YtaadknpjbogkbaaGreatP1
import Derived.Test.YtaadknpjbogkbaaGreatP3
namespace Go.Proofs.YtaadknpjbogkbaaGreat
open Go.RowKit
set_option linter.unusedVariables false
structure RN(w:World)(s:Int)(d:Option Addr)(l c:Nat)(z:Int):Prop where
 hd:HD w d l c z.natAbs
 sg:s=z.sign
theorem RN.below{w w':World}{s:Int}{d:Option Addr}{l c:Nat}{z:Int}(h:RN w s d l c z)(hb:Below w.heap.size w w'):RN w' s d l c z:=⟨h.hd.below hb,h.sg⟩
theorem RN.put{w:World}{s:Int}{d:Option Addr}{l c b:Nat}{z:Int}(h:RN w s d l c z)(hn:NA b d l)(i:Nat)(v:Value):RN (w.setCell ⟨b,i,none⟩ v) s d l c z:=⟨h.hd.put hn i v,h.sg⟩
theorem RN.put2{w:World}{s:Int}{d:Option Addr}{l c b:Nat}{z:Int}(h:RN w s d l c z)(hn:NA b d l)(u v:Value):RN ((w.setCell ⟨b,0,none⟩ u).setCell ⟨b,1,none⟩ v) s d l c z:=(h.put hn 0 u).put hn 1 v
def GotR(w:World)(P:Nat→Prop)(z:Int)(e:Ending)(w':World):Prop:= ∃ (s:Int) (d:Option Addr) (l c:Nat),e= .returned (.agg #[.int .i64 s, .slice d l c])∧RN w' s d l c z∧(∀ k,k<w.heap.size→P k→NA k d l)∧Below w.heap.size w w'
theorem endR{w w2:World}{s:Int}{d:Option Addr}{l c:Nat}{z:Int}{P:Nat→Prop}(k:Nat)(hk:w.heap.size≤k)(B:Below w.heap.size w w2)(h:RN w2 s d l c z)(hn:NA k d l)(hf: ∀ j,j<w.heap.size→P j→NA j d l)(u v:Value):
  GotR w P z (.returned (.agg #[.int .i64 s, .slice d l c])) ((w2.setCell ⟨k,0,none⟩ u).setCell ⟨k,1,none⟩ v):=
 ⟨s,d,l,c,rfl,h.put2 hn u v,hf,below_put2 B hk u v⟩
theorem rn_zero(w:World)(c:Nat):RN w 0 none 0 0 0:=⟨hd_nil w,rfl⟩
theorem HD.pos{w:World}{d:Option Addr}{l c u:Nat}(h:HD w d l c u):l=0↔u=0:=by
 rw [h.len]
 constructor
 ·intro e
  rcases Nat.eq_zero_or_pos u with z|z
  ·exact z
  ·have:=hf.nlen_pos z;omega
 ·rintro rfl;exact hf.nlen_zero
theorem sign_pos{x:Int}(h:0<x):x.sign=1:=Int.sign_eq_one_of_pos h
theorem sign_neg{x:Int}(h:x<0):x.sign= -1:=Int.sign_eq_neg_one_of_neg h
theorem sign_nul{x:Int}:x.sign=0↔x=0:=Int.sign_eq_zero_iff_zero
theorem sign_cases(x:Int):(x<0∧x.sign= -1)∨(x=0∧x.sign=0)∨(0<x∧x.sign=1):=by
 rcases Int.lt_trichotomy x 0 with h|h|h
 ·exact Or.inl ⟨h,sign_neg h⟩
 ·exact Or.inr (Or.inl ⟨h,sign_nul.2 h⟩)
 ·exact Or.inr (Or.inr ⟨h,sign_pos h⟩)
set_option maxRecDepth 100000 in
set_option maxHeartbeats 1000000 in
theorem rwMake(s:Int)(d:Option Addr)(l c u:Nat)(z:Int)(w:World)(hd:HD w d l c u)(hu:u=z.natAbs)(hs:z≠0→s=z.sign):
  Calls Tryz.prog 86 #[.int .i64 s, .slice d l c] w (GotR w (fun k=>NA k d l) z):=by
 subst hu
 have B0:Below w.heap.size w (w.alloc (.cells #[.int .i64 0, .slice none 0 0] 102)):=(Below.refl _ _).alloc (Nat.le_refl _) _
 have h0:=hd.below B0
 by_cases hz:z=0
 ·obtain rfl:l=0:=hd.pos.2 (by rw [hz];rfl)
  subst hz
  go_enter Tryz.func86,Tryz.ntmps86
  go_wp2
  exact bodyPost_ret (v:= .agg #[.int .i64 0, .slice none 0 0]) (by simp [results,Tryz.results86,go_sem, *]) rfl ⟨0,none,0,0,rfl,rn_zero _ 0,fun _ _ _=>Or.inl rfl,(Below.refl _ _).alloc (Nat.le_refl _) _⟩
 ·have hl: ¬(l:Int)=0:=by have:=hd.pos;omega
  have hsz:=hs hz
  go_enter Tryz.func86,Tryz.ntmps86
  have HS:Hid _:=hsz
  clear hs hsz
  go_wp2
  have B1:Below w.heap.size w (w.alloc (.cells #[.int .i64 s, .slice d l c] 102)):=(Below.refl _ _).alloc (Nat.le_refl _) _
  exact bodyPost_ret (v:= .agg #[.int .i64 s, .slice d l c]) (by simp [results,Tryz.results86,go_sem, *]) rfl ⟨s,d,l,c,rfl,⟨hd.below B1,HS.out⟩,fun _ _ h=>h,B1⟩
set_option maxRecDepth 100000 in
set_option maxHeartbeats 1000000 in
theorem rwNeg(s:Int)(d:Option Addr)(l c:Nat)(x z:Int)(w:World)(hd:RN w s d l c x)(hz:z= -x):
  Calls Tryz.prog 129 #[.agg #[.int .i64 s, .slice d l c]] w (GotR w (fun k=>NA k d l) z):=by
 have hs:=hd.sg
 obtain⟨t,ht⟩: ∃ t,t=0- s:=⟨_,rfl⟩
 have hb: -1≤s∧s≤1:=by rcases sign_cases x with⟨_,e⟩|⟨_,e⟩|⟨_,e⟩<;>omega
 obtain⟨hb1,hb2⟩:=hb
 have hh:HD w d l c z.natAbs:=by rw [hz,Int.natAbs_neg];exact hd.hd
 have HT:Hid (0- s=z.sign):=by unfold Hid;rw [hz,Int.sign_neg,hs];omega
 have B1:Below w.heap.size w ((w.alloc (.cells #[.int .i64 s, .slice d l c] 102)).alloc (.cells #[.int .i64 (-s), .slice d l c] 102)):=((Below.refl _ _).alloc (Nat.le_refl _) _).alloc (by simp) _
 clear ht hs
 go_enter Tryz.func129,Tryz.ntmps129
 go_wp2
 exact bodyPost_ret (v:= .agg #[.int .i64 (-s), .slice d l c]) (by simp [results,Tryz.results129,go_sem, *]) rfl ⟨-s,d,l,c,rfl,⟨hh.below B1,by have:=HT.out;omega⟩,fun _ _ h=>h,B1⟩
set_option maxRecDepth 100000 in
set_option maxHeartbeats 1000000 in
theorem rwAdd(s t:Int)(d e:Option Addr)(l c m k:Nat)(x y z:Int)(w:World)(hx:RN w s d l c x)(hy:RN w t e m k y)(fx:hf.nlen x.natAbs≤1000000)(fy:hf.nlen y.natAbs≤1000000)(hz:z=x+y):Calls Tryz.prog 41 #[.agg #[.int .i64 s, .slice d l c], .agg #[.int .i64 t, .slice e m k]] w (GotR w (fun k'=>NA k' d l∧NA k' e m) z):=by
 obtain⟨B0,xa,xb,xz,hs⟩:=box2 w (.int .i64 s) (.slice d l c) (.int .i64 t) (.slice e m k) (.int .i64 0) (.slice none 0 0) 102 102 102
 have es:=hx.sg
 have et:=hy.sg
 by_cases h1:x=0
 ·obtain rfl:s=0:=by rw [es,h1];rfl
  obtain rfl:z=y:=by omega
  clear es et
  obtain⟨k0,k1,k2,k3⟩:=xz
  go_enter Tryz.func41,Tryz.ntmps41
  go_wp2
  obtain⟨B9,_,_,_,_⟩:=box2 w (.int .i64 0) (.slice d l c) (.int .i64 t) (.slice e m k) (.int .i64 t) (.slice e m k) 102 102 102
  exact bodyPost_ret (v:= .agg #[.int .i64 t, .slice e m k]) (by simp [results,Tryz.results41,go_sem, *]) rfl ⟨t,e,m,k,rfl,hy.below B9,fun _ _ h=>h.2,B9⟩
 have s0: ¬s=0:=by rw [es,sign_nul];exact h1
 by_cases h2:y=0
 ·obtain rfl:t=0:=by rw [et,h2];rfl
  obtain rfl:z=x:=by omega
  clear es et
  obtain⟨k0,k1,k2,k3⟩:=xz
  go_enter Tryz.func41,Tryz.ntmps41
  go_wp2
  obtain⟨B9,_,_,_,_⟩:=box2 w (.int .i64 s) (.slice d l c) (.int .i64 0) (.slice e m k) (.int .i64 s) (.slice d l c) 102 102 102
  exact bodyPost_ret (v:= .agg #[.int .i64 s, .slice d l c]) (by simp [results,Tryz.results41,go_sem, *]) rfl ⟨s,d,l,c,rfl,hx.below B9,fun _ _ h=>h.1,B9⟩
 have t0: ¬t=0:=by rw [et,sign_nul];exact h2
 by_cases h3:s=t
 ·have HU:Hid (x.natAbs+y.natAbs=z.natAbs):=by
   unfold Hid
   rcases sign_cases x with⟨a,b⟩|⟨a,b⟩|⟨a,b⟩<;>rcases sign_cases y with⟨a',b'⟩|⟨a',b'⟩|⟨a',b'⟩<;>omega
  have HS:Hid (s=z.sign):=by
   unfold Hid
   rcases sign_cases x with⟨a,b⟩|⟨a,b⟩|⟨a,b⟩<;>rcases sign_cases y with⟨a',b'⟩|⟨a',b'⟩|⟨a',b'⟩<;>rcases sign_cases z with⟨a2,b2⟩|⟨a2,b2⟩|⟨a2,b2⟩<;>omega
  clear es et hz
  subst h3
  replace B0:=B0.drew
  replace xa:=xa.drew
  replace xb:=xb.drew
  replace xz:=xz.drew
  go_enter Tryz.func41,Tryz.ntmps41
  go_wp2
  refine wp_region_held_drew (S:=(fun w'=>w'.cell? ⟨w.heap.size,0,none⟩=some (.int .i64 s)∧w'.cell? ⟨w.heap.size,1,none⟩=some (.slice d l c)∧w'.cell? ⟨w.heap.size+1,0,none⟩=some (.int .i64 s)∧w'.cell? ⟨w.heap.size+1,1,none⟩=some (.slice e m k)∧Below w.heap.size w w')) (by kernel_rfl) ?_ (fun hHeld=>?_)
  ·first|exact keepB2 hHeld b2|exact keepB2 hHeld b1|exact⟨xa.c0,xa.c1,xb.c0,xb.c1,B0⟩|exact keepS2 hHeld (by omega) (by omega) _ _
  refine tn 0 ?_;refine tn 1 ?_;refine tn 2 ?_;refine tn 3 ?_;refine tn 4 ?_;refine tn 5 ?_
  simp only [Act.put,ps1,ps2,ps3]
  refine take_call (i:=6) rfl (by kernel_rfl) (fun K hK=>?_)
  go_simp
  first
   |(go_at_call 84;refine(hfAdd d e l m c k _ _ _ (hx.hd.below hHeld.2.2.2.2) (hy.hd.below hHeld.2.2.2.2) fx fy).mono ?_;rintro e' w1 ⟨a1,l1,c1,rfl,h1,f1,b1⟩)
  refine hK.out _ _ ?_ (fun hHeld=>?_)
  ·first|exact keepB2 hHeld b2|exact keepB2 hHeld b1|exact⟨xa.c0,xa.c1,xb.c0,xb.c1,B0⟩|exact keepS2 hHeld (by omega) (by omega) _ _
  clear hK K
  refine tz (i:=7) rfl ?_
  simp only [Act.put,ps1,ps2,ps3]
  obtain⟨k0,k1,k2,k3⟩:=xz.on b1
  refine take_call (i:=8) rfl (by kernel_rfl) (fun K hK=>?_)
  go_simp
  refine hK.out _ _ ?_ (fun hHeld=>?_)
  ·first|exact keepB2 hHeld b2|exact keepB2 hHeld b1|exact⟨xa.c0,xa.c1,xb.c0,xb.c1,B0⟩|exact keepS2 hHeld (by omega) (by omega) _ _
  clear hK K
  refine wpAnyH_done (by kernel_rfl) ?_ _
  go_wp2
  rw [HU.out]at h1
  exact bodyPost_ret (v:= .agg #[.int .i64 s, .slice a1 l1 c1]) (by simp [results,Tryz.results41,go_sem, *]) rfl (endR _ (by omega) (also B0 b1) ⟨h1,HS.out⟩ (f1 _ hs) (fun j hj _=>f1 j (Nat.lt_of_lt_of_le hj B0.size)) _ _)
 ·have h3':(s==t)=false:=by simpa using h3
  have HC: ∃ c',c'=cmpI (x.natAbs:Int) y.natAbs:=⟨_,rfl⟩
  obtain⟨g,hg⟩:=HC
  have HG:Hid _:=hg
  by_cases hle:y.natAbs≤x.natAbs
  ·have g0:0≤g:=by rw [hg];unfold cmpI;rw [if_neg (by omega)];split<;>decide
   have HU:Hid (x.natAbs- y.natAbs=z.natAbs):=by
    unfold Hid
    rcases sign_cases x with⟨a,b⟩|⟨a,b⟩|⟨a,b⟩<;>rcases sign_cases y with⟨a',b'⟩|⟨a',b'⟩|⟨a',b'⟩<;>omega
   have HS:Hid (z≠0→s=z.sign):=fun hz0=>by
    rcases sign_cases x with⟨a,b⟩|⟨a,b⟩|⟨a,b⟩<;>rcases sign_cases y with⟨a',b'⟩|⟨a',b'⟩|⟨a',b'⟩<;>rcases sign_cases z with⟨a2,b2⟩|⟨a2,b2⟩|⟨a2,b2⟩<;>omega
   clear es et hz hg h3
   go_enter Tryz.func41,Tryz.ntmps41
   go_wp2_with (go_at_call 85;fail)
   refine(hCmp d e l m c k _ _ _ (hx.hd.below B0) (hy.hd.below B0) HG.out).mono ?_
   rintro e' w1 ⟨rfl,b1⟩
   replace B0:=(also B0 b1).drew
   replace xa:=(xa.on b1).drew
   replace xb:=(xb.on b1).drew
   replace xz:=(xz.on b1).drew
   obtain⟨k0,k1,k2,k3⟩:=xa
   obtain⟨j0,j1,j2,j3⟩:=xb
   have xa:Bx _ _ _ _:=⟨k0,k1,k2,k3⟩
   have xb:Bx _ _ _ _:=⟨j0,j1,j2,j3⟩
   go_wp2
   refine wp_region_held_drew (S:=(fun w'=>w'.cell? ⟨w.heap.size,0,none⟩=some (.int .i64 s)∧w'.cell? ⟨w.heap.size,1,none⟩=some (.slice d l c)∧w'.cell? ⟨w.heap.size+1,0,none⟩=some (.int .i64 t)∧w'.cell? ⟨w.heap.size+1,1,none⟩=some (.slice e m k)∧Below w.heap.size w w')) (by kernel_rfl) ?_ (fun hHeld=>?_)
   ·first|exact keepB2 hHeld b3|exact keepB2 hHeld b2|exact keepB2 hHeld b1|exact⟨xa.c0,xa.c1,xb.c0,xb.c1,B0⟩|exact keepS2 hHeld (by omega) (by omega) _ _
   refine tn 0 ?_;refine tn 1 ?_;refine tn 2 ?_;refine tn 3 ?_;refine tn 4 ?_;refine tn 5 ?_
   simp only [Act.put,ps1,ps2,ps3]
   refine take_call (i:=6) rfl (by kernel_rfl) (fun K hK=>?_)
   go_simp
   first
   |(go_at_call 87;refine(hfSub d e l m c k _ _ _ (hx.hd.below hHeld.2.2.2.2) (hy.hd.below hHeld.2.2.2.2) fx fy hle).mono ?_;rintro e' w2 ⟨a1,l1,c1,rfl,h1,f1,b2⟩)
   |(go_at_call 86;refine(rwMake s a1 l1 c1 _ z _ h1 HU.out HS.out).mono ?_;rintro e' w3 ⟨s3,a3,l3,c3,rfl,h3,f3,b3⟩)
   refine hK.out _ _ ?_ (fun hHeld=>?_)
   ·first|exact keepB2 hHeld b3|exact keepB2 hHeld b2|exact keepB2 hHeld b1|exact⟨xa.c0,xa.c1,xb.c0,xb.c1,B0⟩|exact keepS2 hHeld (by omega) (by omega) _ _
   clear hK K
   refine take_call (i:=7) rfl (by kernel_rfl) (fun K hK=>?_)
   go_simp
   first
   |(go_at_call 87;refine(hfSub d e l m c k _ _ _ (hx.hd.below hHeld.2.2.2.2) (hy.hd.below hHeld.2.2.2.2) fx fy hle).mono ?_;rintro e' w2 ⟨a1,l1,c1,rfl,h1,f1,b2⟩)
   |(go_at_call 86;refine(rwMake s a1 l1 c1 _ z _ h1 HU.out HS.out).mono ?_;rintro e' w3 ⟨s3,a3,l3,c3,rfl,h3,f3,b3⟩)
   refine hK.out _ _ ?_ (fun hHeld=>?_)
   ·first|exact keepB2 hHeld b3|exact keepB2 hHeld b2|exact keepB2 hHeld b1|exact⟨xa.c0,xa.c1,xb.c0,xb.c1,B0⟩|exact keepS2 hHeld (by omega) (by omega) _ _
   clear hK K
   obtain⟨k0,k1,k2,k3⟩:=(xz.on b2).on b3
   refine take_call (i:=8) rfl (by kernel_rfl) (fun K hK=>?_)
   go_simp
   refine hK.out _ _ ?_ (fun hHeld=>?_)
   ·first|exact keepB2 hHeld b3|exact keepB2 hHeld b2|exact keepB2 hHeld b1|exact⟨xa.c0,xa.c1,xb.c0,xb.c1,B0⟩|exact keepS2 hHeld (by omega) (by omega) _ _
   clear hK K
   refine wpAnyH_done (by kernel_rfl) ?_ _
   go_wp2
   exact bodyPost_ret (v:= .agg #[.int .i64 s3, .slice a3 l3 c3]) (by simp [results,Tryz.results41,go_sem, *]) rfl (endR _ (by omega) (also (also B0 b2) b3) h3 (f3 _ (Nat.lt_of_lt_of_le (Nat.lt_of_lt_of_le hs b1.size) b2.size) (f1 _ (Nat.lt_of_lt_of_le hs b1.size))) (fun j hj _=>f3 j (Nat.lt_of_lt_of_le hj (Nat.le_trans B0.size b2.size)) (f1 j (Nat.lt_of_lt_of_le hj B0.size))) _ _)
  ·have hlt:x.natAbs<y.natAbs:=by omega
   replace hle:x.natAbs≤y.natAbs:=by omega
   have g0: ¬0≤g:=by rw [hg];unfold cmpI;rw [if_pos (by omega)];decide
   have HU:Hid (y.natAbs- x.natAbs=z.natAbs):=by
    unfold Hid
    rcases sign_cases x with⟨a,b⟩|⟨a,b⟩|⟨a,b⟩<;>rcases sign_cases y with⟨a',b'⟩|⟨a',b'⟩|⟨a',b'⟩<;>omega
   have HS:Hid (z≠0→t=z.sign):=fun hz0=>by
    rcases sign_cases x with⟨a,b⟩|⟨a,b⟩|⟨a,b⟩<;>rcases sign_cases y with⟨a',b'⟩|⟨a',b'⟩|⟨a',b'⟩<;>rcases sign_cases z with⟨a2,b2⟩|⟨a2,b2⟩|⟨a2,b2⟩<;>omega
   clear es et hz hg h3
   go_enter Tryz.func41,Tryz.ntmps41
   go_wp2_with (go_at_call 85;fail)
   refine(hCmp d e l m c k _ _ _ (hx.hd.below B0) (hy.hd.below B0) HG.out).mono ?_
   rintro e' w1 ⟨rfl,b1⟩
   replace B0:=(also B0 b1).drew
   replace xa:=(xa.on b1).drew
   replace xb:=(xb.on b1).drew
   replace xz:=(xz.on b1).drew
   obtain⟨k0,k1,k2,k3⟩:=xa
   obtain⟨j0,j1,j2,j3⟩:=xb
   have xa:Bx _ _ _ _:=⟨k0,k1,k2,k3⟩
   have xb:Bx _ _ _ _:=⟨j0,j1,j2,j3⟩
   go_wp2
   refine wp_region_held_drew (S:=(fun w'=>w'.cell? ⟨w.heap.size,0,none⟩=some (.int .i64 s)∧w'.cell? ⟨w.heap.size,1,none⟩=some (.slice d l c)∧w'.cell? ⟨w.heap.size+1,0,none⟩=some (.int .i64 t)∧w'.cell? ⟨w.heap.size+1,1,none⟩=some (.slice e m k)∧Below w.heap.size w w')) (by kernel_rfl) ?_ (fun hHeld=>?_)
   ·first|exact keepB2 hHeld b3|exact keepB2 hHeld b2|exact keepB2 hHeld b1|exact⟨xa.c0,xa.c1,xb.c0,xb.c1,B0⟩|exact keepS2 hHeld (by omega) (by omega) _ _
   refine tn 0 ?_;refine tn 1 ?_;refine tn 2 ?_;refine tn 3 ?_;refine tn 4 ?_;refine tn 5 ?_
   simp only [Act.put,ps1,ps2,ps3]
   refine take_call (i:=6) rfl (by kernel_rfl) (fun K hK=>?_)
   go_simp
   first
   |(go_at_call 87;refine(hfSub e d m l k c _ _ _ (hy.hd.below hHeld.2.2.2.2) (hx.hd.below hHeld.2.2.2.2) fy fx hle).mono ?_;rintro e' w2 ⟨a1,l1,c1,rfl,h1,f1,b2⟩)
   |(go_at_call 86;refine(rwMake t a1 l1 c1 _ z _ h1 HU.out HS.out).mono ?_;rintro e' w3 ⟨s3,a3,l3,c3,rfl,h3,f3,b3⟩)
   refine hK.out _ _ ?_ (fun hHeld=>?_)
   ·first|exact keepB2 hHeld b3|exact keepB2 hHeld b2|exact keepB2 hHeld b1|exact⟨xa.c0,xa.c1,xb.c0,xb.c1,B0⟩|exact keepS2 hHeld (by omega) (by omega) _ _
   clear hK K
   refine take_call (i:=7) rfl (by kernel_rfl) (fun K hK=>?_)
   go_simp
   first
   |(go_at_call 87;refine(hfSub e d m l k c _ _ _ (hy.hd.below hHeld.2.2.2.2) (hx.hd.below hHeld.2.2.2.2) fy fx hle).mono ?_;rintro e' w2 ⟨a1,l1,c1,rfl,h1,f1,b2⟩)
   |(go_at_call 86;refine(rwMake t a1 l1 c1 _ z _ h1 HU.out HS.out).mono ?_;rintro e' w3 ⟨s3,a3,l3,c3,rfl,h3,f3,b3⟩)
   refine hK.out _ _ ?_ (fun hHeld=>?_)
   ·first|exact keepB2 hHeld b3|exact keepB2 hHeld b2|exact keepB2 hHeld b1|exact⟨xa.c0,xa.c1,xb.c0,xb.c1,B0⟩|exact keepS2 hHeld (by omega) (by omega) _ _
   clear hK K
   obtain⟨k0,k1,k2,k3⟩:=(xz.on b2).on b3
   refine take_call (i:=8) rfl (by kernel_rfl) (fun K hK=>?_)
   go_simp
   refine hK.out _ _ ?_ (fun hHeld=>?_)
   ·first|exact keepB2 hHeld b3|exact keepB2 hHeld b2|exact keepB2 hHeld b1|exact⟨xa.c0,xa.c1,xb.c0,xb.c1,B0⟩|exact keepS2 hHeld (by omega) (by omega) _ _
   clear hK K
   refine wpAnyH_done (by kernel_rfl) ?_ _
   go_wp2
   exact bodyPost_ret (v:= .agg #[.int .i64 s3, .slice a3 l3 c3]) (by simp [results,Tryz.results41,go_sem, *]) rfl (endR _ (by omega) (also (also B0 b2) b3) h3 (f3 _ (Nat.lt_of_lt_of_le (Nat.lt_of_lt_of_le hs b1.size) b2.size) (f1 _ (Nat.lt_of_lt_of_le hs b1.size))) (fun j hj _=>f3 j (Nat.lt_of_lt_of_le hj (Nat.le_trans B0.size b2.size)) (f1 j (Nat.lt_of_lt_of_le hj B0.size))) _ _)
set_option maxRecDepth 100000 in
set_option maxHeartbeats 1000000 in
theorem rwSub(s t:Int)(d e:Option Addr)(l c m k:Nat)(x y z:Int)(w:World)(hx:RN w s d l c x)(hy:RN w t e m k y)(fx:hf.nlen x.natAbs≤1000000)(fy:hf.nlen y.natAbs≤1000000)(hz:z=x- y):Calls Tryz.prog 110 #[.agg #[.int .i64 s, .slice d l c], .agg #[.int .i64 t, .slice e m k]] w (GotR w (fun k'=>NA k' d l∧NA k' e m) z):=by
 obtain⟨B0,xa,xb,xz,hs⟩:=box2 w (.int .i64 s) (.slice d l c) (.int .i64 t) (.slice e m k) (.int .i64 0) (.slice none 0 0) 102 102 102
 have HZ:Hid (z=x+ -y):=by unfold Hid;omega
 clear hz
 replace B0:=B0.drew
 replace xa:=xa.drew
 replace xb:=xb.drew
 replace xz:=xz.drew
 go_enter Tryz.func110,Tryz.ntmps110
 go_wp2
 refine wp_region_held_drew (S:=(fun w'=>w'.cell? ⟨w.heap.size,0,none⟩=some (.int .i64 s)∧w'.cell? ⟨w.heap.size,1,none⟩=some (.slice d l c)∧w'.cell? ⟨w.heap.size+1,0,none⟩=some (.int .i64 t)∧w'.cell? ⟨w.heap.size+1,1,none⟩=some (.slice e m k)∧Below w.heap.size w w')) (by kernel_rfl) ?_ (fun hHeld=>?_)
 ·first|exact keepB2 hHeld b2|exact keepB2 hHeld b1|exact⟨xa.c0,xa.c1,xb.c0,xb.c1,B0⟩|exact keepS2 hHeld (by omega) (by omega) _ _
 refine tn 0 ?_;refine tn 1 ?_
 simp only [Act.put,ps1,ps2,ps3]
 refine take_call (i:=2) rfl (by kernel_rfl) (fun K hK=>?_)
 go_simp
 first
   |(go_at_call 129;refine(rwNeg t e m k y (-y) _ (hy.below hHeld.2.2.2.2) rfl).mono ?_;rintro e' w1 ⟨s1,a1,l1,c1,rfl,h1,f1,b1⟩)
   |(go_at_call 41;refine(rwAdd s s1 d a1 l c l1 c1 x (-y) z _ (hx.below hHeld.2.2.2.2) h1 fx (by rw [Int.natAbs_neg];exact fy) HZ.out).mono ?_;rintro e' w2 ⟨s2,a2,l2,c2,rfl,h2,f2,b2⟩)
 refine hK.out _ _ ?_ (fun hHeld=>?_)
 ·first|exact keepB2 hHeld b2|exact keepB2 hHeld b1|exact⟨xa.c0,xa.c1,xb.c0,xb.c1,B0⟩|exact keepS2 hHeld (by omega) (by omega) _ _
 clear hK K
 refine take_call (i:=3) rfl (by kernel_rfl) (fun K hK=>?_)
 go_simp
 first
   |(go_at_call 129;refine(rwNeg t e m k y (-y) _ (hy.below hHeld.2.2.2.2) rfl).mono ?_;rintro e' w1 ⟨s1,a1,l1,c1,rfl,h1,f1,b1⟩)
   |(go_at_call 41;refine(rwAdd s s1 d a1 l c l1 c1 x (-y) z _ (hx.below hHeld.2.2.2.2) h1 fx (by rw [Int.natAbs_neg];exact fy) HZ.out).mono ?_;rintro e' w2 ⟨s2,a2,l2,c2,rfl,h2,f2,b2⟩)
 refine hK.out _ _ ?_ (fun hHeld=>?_)
 ·first|exact keepB2 hHeld b2|exact keepB2 hHeld b1|exact⟨xa.c0,xa.c1,xb.c0,xb.c1,B0⟩|exact keepS2 hHeld (by omega) (by omega) _ _
 clear hK K
 obtain⟨k0,k1,k2,k3⟩:=(xz.on b1).on b2
 refine take_call (i:=4) rfl (by kernel_rfl) (fun K hK=>?_)
 go_simp
 refine hK.out _ _ ?_ (fun hHeld=>?_)
 ·first|exact keepB2 hHeld b2|exact keepB2 hHeld b1|exact⟨xa.c0,xa.c1,xb.c0,xb.c1,B0⟩|exact keepS2 hHeld (by omega) (by omega) _ _
 clear hK K
 refine wpAnyH_done (by kernel_rfl) ?_ _
 go_wp2
 have nd:NA (w.heap.size+1+1) d l:=hx.hd.sl.na (by omega)
 have ne:NA (w.heap.size+1+1) e m:=hy.hd.sl.na (by omega)
 exact bodyPost_ret (v:= .agg #[.int .i64 s2, .slice a2 l2 c2]) (by simp [results,Tryz.results110,go_sem, *]) rfl (endR _ (by omega) (also (also B0 b1) b2) h2 (f2 _ (Nat.lt_of_lt_of_le hs b1.size) ⟨nd,f1 _ hs ne⟩) (fun j hj hp=>f2 j (Nat.lt_of_lt_of_le hj (Nat.le_trans B0.size b1.size)) ⟨hp.1,f1 j (Nat.lt_of_lt_of_le hj B0.size) hp.2⟩) _ _)
set_option maxRecDepth 100000 in
set_option maxHeartbeats 1000000 in
theorem rwMul(s t:Int)(d e:Option Addr)(l c m k:Nat)(x y z:Int)(w:World)(hx:RN w s d l c x)(hy:RN w t e m k y)(fx:hf.nlen x.natAbs≤1000000)(fy:hf.nlen y.natAbs≤1000000)(hz:z=x*y):Calls Tryz.prog 42 #[.agg #[.int .i64 s, .slice d l c], .agg #[.int .i64 t, .slice e m k]] w (GotR w (fun _=>True) z):=by
 obtain⟨B0,xa,xb,xz,hs⟩:=box2 w (.int .i64 s) (.slice d l c) (.int .i64 t) (.slice e m k) (.int .i64 0) (.slice none 0 0) 102 102 102
 have HU:Hid (x.natAbs*y.natAbs=z.natAbs):=by unfold Hid;rw [hz,Int.natAbs_mul]
 have HS:Hid (z≠0→s*t=z.sign):=fun _=>by rw [hz,Int.sign_mul,hx.sg,hy.sg]
 have es: -1≤s∧s≤1:=by rw [hx.sg];rcases sign_cases x with⟨_,e⟩|⟨_,e⟩|⟨_,e⟩<;>omega
 have et:t= -1∨t=0∨t=1:=by rw [hy.sg];rcases sign_cases y with⟨_,e⟩|⟨_,e⟩|⟨_,e⟩<;>omega
 have ew:IntKind.i64.wrap (s*t)=s*t:=by
  rw [IntKind.wrap_i64]
  rcases et with e|e|e<;>rw [e]<;>omega
 have ew':wrap64 (s*t)=s*t:=by
  unfold wrap64
  rcases et with e|e|e<;>rw [e]<;>omega
 clear hz es et
 replace B0:=B0.drew
 replace xa:=xa.drew
 replace xb:=xb.drew
 replace xz:=xz.drew
 go_enter Tryz.func42,Tryz.ntmps42
 go_wp2
 refine wp_region_held_drew (S:=(fun w'=>w'.cell? ⟨w.heap.size,0,none⟩=some (.int .i64 s)∧w'.cell? ⟨w.heap.size,1,none⟩=some (.slice d l c)∧w'.cell? ⟨w.heap.size+1,0,none⟩=some (.int .i64 t)∧w'.cell? ⟨w.heap.size+1,1,none⟩=some (.slice e m k)∧Below w.heap.size w w')) (by kernel_rfl) ?_ (fun hHeld=>?_)
 ·first|exact keepB2 hHeld b2|exact keepB2 hHeld b1|exact⟨xa.c0,xa.c1,xb.c0,xb.c1,B0⟩|exact keepS2 hHeld (by omega) (by omega) _ _
 refine tn 0 ?_;refine tn 1 ?_;refine tn 2 ?_;refine tn 3 ?_;refine tn 4 ?_;refine tn 5 ?_;refine tn 6 ?_;refine tn 7 ?_;refine tn 8 ?_
 simp only [Act.put,ps1,ps2,ps3]
 refine take_call (i:=9) rfl (by kernel_rfl) (fun K hK=>?_)
 go_simp
 first
   |(go_at_call 88;refine(hfMul d e l m c k _ _ _ (hx.hd.below hHeld.2.2.2.2) (hy.hd.below hHeld.2.2.2.2) fx fy).mono ?_;rintro e' w1 ⟨a1,l1,c1,rfl,h1,f1,b1⟩)
   |(go_at_call 86;refine(rwMake _ a1 l1 c1 _ z _ h1 HU.out HS.out).mono ?_;rintro e' w2 ⟨s2,a2,l2,c2,rfl,h2,f2,b2⟩)
 refine hK.out _ _ ?_ (fun hHeld=>?_)
 ·first|exact keepB2 hHeld b2|exact keepB2 hHeld b1|exact⟨xa.c0,xa.c1,xb.c0,xb.c1,B0⟩|exact keepS2 hHeld (by omega) (by omega) _ _
 clear hK K
 refine take_call (i:=10) rfl (by kernel_rfl) (fun K hK=>?_)
 go_simp
 first
   |(go_at_call 88;refine(hfMul d e l m c k _ _ _ (hx.hd.below hHeld.2.2.2.2) (hy.hd.below hHeld.2.2.2.2) fx fy).mono ?_;rintro e' w1 ⟨a1,l1,c1,rfl,h1,f1,b1⟩)
   |(go_at_call 86;refine(rwMake _ a1 l1 c1 _ z _ h1 HU.out HS.out).mono ?_;rintro e' w2 ⟨s2,a2,l2,c2,rfl,h2,f2,b2⟩)
 refine hK.out _ _ ?_ (fun hHeld=>?_)
 ·first|exact keepB2 hHeld b2|exact keepB2 hHeld b1|exact⟨xa.c0,xa.c1,xb.c0,xb.c1,B0⟩|exact keepS2 hHeld (by omega) (by omega) _ _
 clear hK K
 obtain⟨k0,k1,k2,k3⟩:=(xz.on b1).on b2
 refine take_call (i:=11) rfl (by kernel_rfl) (fun K hK=>?_)
 go_simp
 refine hK.out _ _ ?_ (fun hHeld=>?_)
 ·first|exact keepB2 hHeld b2|exact keepB2 hHeld b1|exact⟨xa.c0,xa.c1,xb.c0,xb.c1,B0⟩|exact keepS2 hHeld (by omega) (by omega) _ _
 clear hK K
 refine wpAnyH_done (by kernel_rfl) ?_ _
 go_wp2
 exact bodyPost_ret (v:= .agg #[.int .i64 s2, .slice a2 l2 c2]) (by simp [results,Tryz.results42,go_sem, *]) rfl (endR _ (by omega) (also (also B0 b1) b2) h2 (f2 _ (Nat.lt_of_lt_of_le hs b1.size) (f1 _ hs)) (fun j hj _=>f2 j (Nat.lt_of_lt_of_le hj (Nat.le_trans B0.size b1.size)) (f1 j (Nat.lt_of_lt_of_le hj B0.size))) _ _)
theorem field_int(s:Int)(d:Option Addr)(l c:Nat)(w:World):(Instr.field 102 (.agg #[.int .i64 s, .slice d l c]) 0).run Tryz.prog w= .ok (.int .i64 s) w:=by show _=_;kernel_rfl
set_option maxRecDepth 100000 in
set_option maxHeartbeats 1000000 in
theorem rwCmp(s t:Int)(d e:Option Addr)(l c m k:Nat)(x y:Int)(w:World)(hx:RN w s d l c x)(hy:RN w t e m k y)(fx:hf.nlen x.natAbs≤1000000)(fy:hf.nlen y.natAbs≤1000000){g:Int}(hg:g=(x- y).sign):Calls Tryz.prog 81 #[.agg #[.int .i64 s, .slice d l c], .agg #[.int .i64 t, .slice e m k]] w fun e' w'=>e'= .returned (.int .i64 g)∧Below w.heap.size w w':=by
 obtain⟨B0,xa,xb,hs⟩:=box1 w (.int .i64 s) (.slice d l c) (.int .i64 t) (.slice e m k) 102 102
 have HG:Hid _:=hg
 clear hg
 go_enter Tryz.func81,Tryz.ntmps81
 go_wp2_with (go_at_call 110;fail)
 refine(rwSub s t d e l c m k x y (x- y) _ (hx.below B0) (hy.below B0) fx fy rfl).mono ?_
 rintro e' w1 ⟨s1,a1,l1,c1,rfl,h1,f1,b1⟩
 obtain rfl:s1=g:=by rw [h1.sg];exact HG.out.symm
 have EF:=field_int s1 a1 l1 c1
 go_wp2
 go_ret
 exact⟨rfl,also B0 b1⟩
theorem new_one(w:World)(x:Int)(T:TypeId):Sl (w.alloc (.cells #[.int .i64 x] T)) (some ⟨w.heap.size,0,none⟩) 1 1 [.int .i64 x]:=Own.sl (World.ownsRow_lit (base:=w.heap.size) (e:=T) (size:=1) w #[.int .i64 x] 1 (Nat.le_refl _) (by decide) rfl)
theorem cell_one(x:Nat)(h:x<65536):hf.dcells 1 (x:Int)= [.int .i64 (x:Int)]:=by
 simp [hf.dcells,List.range_succ,hf.dg]
 omega
theorem pow_bits(j:Nat):2^j=2^(j % 16)*65536^(j/16):=by
 rw [show(65536:Nat)=2^16 from rfl,←Nat.pow_mul,←Nat.pow_add]
 congr 1
 omega
theorem bit_of(u j:Nat):(hf.dg (u:Int) (j/16))/2^(j % 16) % 2=((u/2^j % 2:Nat):Int):=by
 have e:u/2^j=u/65536^(j/16)/2^(j % 16):=by rw [pow_bits,Nat.mul_comm,Nat.div_div_eq_div_mul]
 have e2:hf.dg (u:Int) (j/16)=((u/65536^(j/16) % 65536:Nat):Int):=by
  unfold hf.dg
  rw [Int.natCast_emod,Int.natCast_ediv,hf.pow_cast]
  rfl
 rw [e,e2]
 generalize u/65536^(j/16)=X
 obtain⟨b,hb⟩: ∃ b,b=j % 16:=⟨_,rfl⟩
 have hb16:b<16:=by omega
 rw [←hb]
 have e3:X % 65536/2^b % 2=X/2^b % 2:=by
  have h1:65536=2^b*(2*2^(15- b)):=by rw [←Nat.mul_assoc,Nat.mul_comm (2^b) 2,←Nat.pow_succ',←Nat.pow_add,show b+1+(15- b)=16 by omega]
  rw [h1,Nat.mod_mul_right_div_self,Nat.mod_mul_right_mod]
 have e4:((X % 65536/2^b % 2:Nat):Int)=((X % 65536:Nat):Int)/2^b % 2:=by
  rw [Int.natCast_emod (X % 65536/2^b),Int.natCast_ediv,Int.natCast_pow];rfl
 rw [←e4,e3]
theorem bit_set(l j Q:Nat)(h:2^(j+1)∣Q):(hf.dcells l (Q:Int)).set (j/16) (.int .i64 (hf.dg (Q:Int) (j/16)+2^(j % 16)))=hf.dcells l ((Q+2^j:Nat):Int):=by
 obtain⟨b,hb⟩: ∃ b,b=j % 16:=⟨_,rfl⟩
 obtain⟨a,ha⟩: ∃ a,a=j/16:=⟨_,rfl⟩
 rw [←ha,←hb]
 have hp:=hf.pow_nat a
 have e1:2^j=2^b*65536^a:=by rw [ha,hb];exact pow_bits j
 have e2:(Q+2^j)/65536^a=Q/65536^a+2^b:=by rw [e1,Nat.add_mul_div_right _ _ hp]
 obtain⟨X,hX⟩: ∃ X,X=Q/65536^a:=⟨_,rfl⟩
 have hd:2^(b+1)∣X:=by
  obtain⟨c,rfl⟩:=h
  refine⟨c,?_⟩
  rw [hX,Nat.pow_succ,e1,show 2^b*65536^a*2*c=2^b*2*c*65536^a by rw [Nat.mul_right_comm (2^b),Nat.mul_right_comm _ (65536^a) c],Nat.mul_div_cancel _ hp,Nat.pow_succ]
 have hb16:b<16:=by omega
 have hX2:(X+2^b)/65536=X/65536∧(X+2^b) % 65536=X % 65536+2^b:=by
  obtain⟨c,rfl⟩:=hd
  have h1:65536=2^(b+1)*2^(15- b):=by rw [←Nat.pow_add,show b+1+(15- b)=16 by omega]
  have h3:2^(b+1)*c % 65536=2^(b+1)*(c % 2^(15- b)):=by rw [h1,Nat.mul_mod_mul_left]
  have h4:c % 2^(15- b)+1≤2^(15- b):=Nat.mod_lt _ (Nat.pow_pos (by decide))
  have h5:2^(b+1)*(c % 2^(15- b))+2^(b+1)≤65536:=by
   have:=Nat.mul_le_mul_left (2^(b+1)) h4
   rw [←h1,Nat.mul_add,Nat.mul_one]at this
   exact this
  have h6:2^(b+1)=2*2^b:=by rw [Nat.pow_succ,Nat.mul_comm]
  have h7:0<2^b:=Nat.pow_pos (by decide)
  rw [←h3]at h5
  generalize 2^(b+1)*c=Y at*
  omega
 refine List.ext_getElem? fun i=>?_
 rw [List.getElem?_set]
 by_cases hi:i<l
 ·have hdg: ∀ Z:Nat,hf.dg (Z:Int) i=((Z/65536^i % 65536:Nat):Int):=fun Z=>by
   unfold hf.dg
   rw [Int.natCast_emod,Int.natCast_ediv,hf.pow_cast]
   rfl
  by_cases hai:a=i
  ·subst hai
   rw [if_pos rfl,if_pos (by rw [hf.dcells_length];exact hi),hf.dcells_at _ _ _ hi,hdg,hdg,e2,←hX,hX2.2]
   simp
  ·rw [if_neg hai,hf.dcells_at _ _ _ hi,hf.dcells_at _ _ _ hi,hdg,hdg]
   rcases Nat.lt_or_ge i a with h1|h1
   ·have e3:(Q+2^j)/65536^i % 65536=Q/65536^i % 65536:=by
     have e4:2^j=2^b*65536^(a- i- 1)*65536*65536^i:=by
      rw [e1,Nat.mul_assoc,Nat.mul_assoc,←Nat.pow_succ',←Nat.pow_add,show a- i- 1+(i+1)=a by omega]
     rw [e4,Nat.add_mul_div_right _ _ (hf.pow_nat i),Nat.add_mul_mod_self_right]
    rw [e3]
   ·have e3: ∀ Z:Nat,Z/65536^i=Z/65536^a/65536/65536^(i- a- 1):=fun Z=>by
     rw [Nat.div_div_eq_div_mul,Nat.div_div_eq_div_mul,←Nat.pow_succ',←Nat.pow_add,show a+(i- a- 1+1)=i by omega]
    rw [e3 (Q+2^j),e2,←hX,hX2.1,hX,←e3]
 ·have hl1: ∀ Z:Int,(hf.dcells l Z)[i]? =none:=fun Z=>List.getElem?_eq_none (by rw [hf.dcells_length];omega)
  rw [hl1,hl1,hf.dcells_length]
  by_cases hai:a=i
  ·rw [if_pos hai,if_neg (by omega)]
  ·rw [if_neg hai]
theorem bit_step(X v c:Nat)(hv:0<v)(hc:c<2):
  (v≤X % v+X % v+c→(2*X+c) % v=X % v+X % v+c- v∧(2*X+c)/v=2*(X/v)+1)∧(¬v≤X % v+X % v+c→(2*X+c) % v=X % v+X % v+c∧(2*X+c)/v=2*(X/v)):=by
 have hr:=Nat.mod_lt X hv
 have hd:=Nat.div_add_mod X v
 obtain⟨q,hq⟩: ∃ q,q=X/v:=⟨_,rfl⟩
 obtain⟨r,hr'⟩: ∃ r,r=X % v:=⟨_,rfl⟩
 rw [←hq,←hr']at hd
 rw [←hr']at hr
 rw [←hq,←hr']
 refine⟨fun h=>?_,fun h=>?_⟩
 ·have e:2*X+c=(r+r+c- v)+v*(2*q+1):=by rw [Nat.mul_add,Nat.mul_left_comm];omega
  rw [e,Nat.add_mul_mod_self_left,Nat.add_mul_div_left _ _ hv,Nat.mod_eq_of_lt (by omega),Nat.div_eq_of_lt (by omega)]
  omega
 ·have e:2*X+c=(r+r+c)+v*(2*q):=by rw [Nat.mul_left_comm];omega
  rw [e,Nat.add_mul_mod_self_left,Nat.add_mul_div_left _ _ hv,Nat.mod_eq_of_lt (by omega),Nat.div_eq_of_lt (by omega)]
  omega
theorem half_bit(u j:Nat):u/2^j=2*(u/2^(j+1))+u/2^j % 2:=by
 rw [Nat.pow_succ,←Nat.div_div_eq_div_mul]
 omega
theorem add1(a:Option Addr)(ca N B:Nat)(w:World)(ha:Sl w a (hf.nlen N) ca (hf.dcells (hf.nlen N) (N:Int)))(hlu:hf.nlen N≤1000000000)(hb:Sl w (some ⟨B,0,none⟩) 1 1 [.int .i64 1]):
  Calls Tryz.prog 84 #[.slice a (hf.nlen N) ca, .slice (some ⟨B,0,none⟩) 1 1] w fun e w'=> ∃ a' cap',e= .returned (.slice a' (hf.nlen (N+1)) cap')∧Own w' w.heap.size 3 a' (hf.nlen (N+1)) cap' (hf.dcells (hf.nlen (N+1)) ((N+1:Nat):Int))∧Below w.heap.size w w':=by
 have n1:hf.nlen 1=1:=hf.nlen_eq ⟨by decide,Or.inr (by decide)⟩
 have h:=radd_any a (some ⟨B,0,none⟩) ca 1 N 1 w ha (by rw [n1];rw [cell_one 1 (by decide)];exact hb) hlu (by rw [n1];decide)
 rw [n1]at h
 exact h
theorem few2{R v X:Nat}(h:R<v)(hv:hf.nlen v≤10000000)(hX:X≤R+R+1):hf.nlen X≤1000000000:=by
 have h1:=hf.nlen_lt v
 have:hf.nlen X≤hf.nlen v+1:=hf.nlen_le (by rw [Nat.pow_succ];omega)
 omega
def BitwRel(w:World)(u v l qb:Nat)(r i:Value)(wr:World):Prop:= ∃ (t R cap:Nat) (ar:Option Addr),t≤16*l∧i= .int .i64 ((t:Int)- 1)∧r= .slice ar (hf.nlen R) cap∧Hid (R=u/2^t % v)∧
 Own wr w.heap.size 3 (some ⟨qb,0,none⟩) l l (hf.dcells l ((u/2^t/v*2^t:Nat):Int))∧Own wr w.heap.size 3 ar (hf.nlen R) cap (hf.dcells (hf.nlen R) (R:Int))∧Below w.heap.size w wr
theorem own_ne{w:World}{base n cap qb:Nat}{T:TypeId}{a:Option Addr}{xs:List Value}(h:Own w base T a n cap xs)(hb:qb<base): ∀ o,a≠some ⟨qb,o,none⟩:=by
 intro o e
 obtain⟨hl,⟨h1,_⟩|⟨g,cap',cur,hv,hb',r⟩⟩:=h
 ·rw [e]at h1
  cases h1
 ·rw [e]at hv
  cases hv
  omega
theorem bitw_less{w w3:World}{u v l qb j R2 c2 c:Nat}{a2:Option Addr}(ht:j≤16*l)(hv:0<v)(hc:c<2)(HX:u/2^j=2*(u/2^(j+1))+c)(hR2:R2=u/2^(j+1) % v+u/2^(j+1) % v+c)(hlt: ¬v≤R2)
  (hq:Own w3 w.heap.size 3 (some ⟨qb,0,none⟩) l l (hf.dcells l ((u/2^(j+1)/v*2^(j+1):Nat):Int))) (hr:Own w3 w.heap.size 3 a2 (hf.nlen R2) c2 (hf.dcells (hf.nlen R2) (R2:Int))) (hb:Below w.heap.size w w3):
  BitwRel w u v l qb (.slice a2 (hf.nlen R2) c2) (.int .i64 ((j:Int)- 1)) w3:=by
 obtain⟨h1,h2⟩:=(bit_step (u/2^(j+1)) v c hv hc).2 (by rw [←hR2];exact hlt)
 rw [←HX]at h1 h2
 refine⟨j,R2,c2,a2,ht,rfl,rfl,by unfold Hid;rw [h1,hR2],?_,hr,hb⟩
 rw [h2,show 2*(u/2^(j+1)/v)*2^j=u/2^(j+1)/v*2^(j+1) by rw [Nat.pow_succ,Nat.mul_comm 2,Nat.mul_assoc,Nat.mul_comm 2]]
 exact hq
theorem bitw_more{w w4:World}{u v l qb j A R2 c3 c base:Nat}{a3:Option Addr}{P:Int}(ht:j<16*l)(hv:0<v)(hc:c<2)(HX:u/2^j=2*(u/2^(j+1))+c)(hR2:R2=u/2^(j+1) % v+u/2^(j+1) % v+c)(hge:v≤R2)(hA:A=j/16)(hP:P=2^(j % 16))
  (hq:Own w4 w.heap.size 3 (some ⟨qb,0,none⟩) l l (hf.dcells l ((u/2^(j+1)/v*2^(j+1):Nat):Int))) (hr:Own w4 base 3 a3 (hf.nlen (R2- v)) c3 (hf.dcells (hf.nlen (R2- v)) ((R2- v:Nat):Int))) (hbase:qb<base) (hwb:w.heap.size≤base) (hqw:w.heap.size≤qb) (hb:Below w.heap.size w w4):
  BitwRel w u v l qb (.slice a3 (hf.nlen (R2- v)) c3) (.int .i64 ((j:Int)- 1)) (w4.setCell ⟨qb,A,none⟩ (.int .i64 (hf.dg ((u/2^(j+1)/v*2^(j+1):Nat):Int) A+P))):=by
 subst hA hP
 obtain⟨h1,h2⟩:=(bit_step (u/2^(j+1)) v c hv hc).1 (by rw [←hR2];exact hge)
 rw [←HX]at h1 h2
 have ws:Wr w4 (w4.setCell ⟨qb,j/16,none⟩ (.int .i64 (hf.dg ((u/2^(j+1)/v*2^(j+1):Nat):Int) (j/16)+2^(j % 16)))) qb 0 l:=(Wr.refl _ _ _ _).set _ (Nat.zero_le _) (by omega)
 refine⟨j,R2- v,c3,a3,by omega,rfl,rfl,by unfold Hid;rw [h1,hR2],?_,Own.mono (ws.own hr (own_ne hr hbase)) hwb,hb.setCell hqw _⟩
 rw [h2,show(2*(u/2^(j+1)/v)+1)*2^j=u/2^(j+1)/v*2^(j+1)+2^j by rw [Nat.add_mul,Nat.pow_succ,Nat.mul_comm 2,Nat.mul_assoc,Nat.mul_comm 2,Nat.one_mul],←bit_set _ _ _ (Nat.dvd_mul_left _ _)]
 exact Own.set hq _ (by omega)
set_option maxRecDepth 100000 in
set_option maxHeartbeats 2000000 in
theorem rdivMod_own(a b:Option Addr)(ca cb u v:Nat)(w:World)(ha:Sl w a (hf.nlen u) ca (hf.dcells (hf.nlen u) (u:Int)))(hb:Sl w b (hf.nlen v) cb (hf.dcells (hf.nlen v) (v:Int)))(hlu:hf.nlen u≤10000000)(hlv:hf.nlen v≤10000000)(hv:0<v):
  Calls Tryz.prog 109 #[.slice a (hf.nlen u) ca, .slice b (hf.nlen v) cb] w fun e w'=> ∃ aq cq ar cr,e= .returned (.tuple #[.slice aq (hf.nlen (u/v)) cq, .slice ar (hf.nlen (u % v)) cr])∧
   Own w' w.heap.size 3 aq (hf.nlen (u/v)) cq (hf.dcells (hf.nlen (u/v)) ((u/v:Nat):Int))∧Own w' w.heap.size 3 ar (hf.nlen (u % v)) cr (hf.dcells (hf.nlen (u % v)) ((u % v:Nat):Int))∧Below w.heap.size w w':=by
 obtain⟨i0,hi0,hz0,hz1,hz2⟩:=info_parts infoInt
 obtain⟨l,hl⟩: ∃ l,l=hf.nlen u:=⟨_,rfl⟩
 rw [←hl]at ha hlu
 have hul:u<65536^l:=by rw [hl];exact hf.nlen_lt u
 rw [←hl]
 clear hl
 have hz0':hf.dcells l 0=List.replicate l (.int .i64 0):=hf.dcells_zero _
 have hmax:l≤maxLen:=by unfold maxLen;omega
 go_enter Tryz.func109,Tryz.ntmps109
 go_wp2_with (at_make;refine make_any _ rfl (.tmp 10) (.tmp 10) 99 rfl w.heap.size 3 i0 (.int .i64 0) Tryz.underlying99 hi0 hz0 hz1 rfl .i64 .i64 _ _ l rfl rfl (by simp) (by simp) (by rw [hz2];omega) (by omega) (Nat.le_refl _) ?_;intro w1 hownQ hbel1)
 have hownR:Own (w1.alloc (.cells #[] 3)) w.heap.size 3 (some ⟨w1.heap.size,0,none⟩) 0 0 []:=own_empty w1 w.heap.size 3 hbel1.size
 have b2:Below w1.heap.size w1 (w1.alloc (.cells #[] 3)):=(Below.refl _ _).alloc (Nat.le_refl _) _
 have hz16:u/2^(16*l)=0:=Nat.div_eq_of_lt (by rw [Nat.pow_mul];exact hul)
 have HST:Hid (BitwRel w u v l w.heap.size (.slice (some ⟨w1.heap.size,0,none⟩) 0 0) (.int .i64 ((16:Int)*(l:Int)- 1)) (w1.alloc (.cells #[] 3))):=by
  refine⟨16*l,0,0,some ⟨w1.heap.size,0,none⟩,Nat.le_refl _,by simp,by rw [hf.nlen_zero],by unfold Hid;rw [hz16,Nat.zero_mod],?_,by rw [hf.nlen_zero];exact hownR,hbel1.trans (b2.mono hbel1.size)⟩
  rw [hz16,Nat.zero_div,Nat.zero_mul]
  rw [←hz0']at hownQ
  exact Own.below hownQ b2
 clear hownQ hownR hbel1 b2 hz16
 have hcapA:=ha.big
 have hroomA:=ha.room
 unfold maxLen at hcapA
 have HB:Hid _:=hb
 have fv:hf.nlen v≤1000000000:=by omega
 go_loopw [7,8] (fun r i wr=>BitwRel w u v l w.heap.size r i wr) (fun _ i _=>(intOf i+1).toNat)
 case atStart=>exact HST.out
 case round=>
  obtain⟨t,R,cap,ar,ht,rfl,rfl,HR,hq,hr,hbel⟩:=hrel
  rcases t with _|j
  ·have hR:R=u % v:=by have:=HR.out;simpa using this
   have hq':Own wr w.heap.size 3 (some ⟨w.heap.size,0,none⟩) l l (hf.dcells l ((u/v:Nat):Int)):=by simpa using hq
   have hQl:Hid (u/v<65536^l):=Nat.lt_of_le_of_lt (Nat.div_le_self _ _) hul
   have HQ:Hid _:=hq'
   have HRR:Hid _:=hr
   have HRe:Hid _:=hR
   clear hq hq' hr hR
   go_wp2_with (go_at_call 116;fail)
   refine(rtrim_own _ l l (u/v) w.heap.size wr HQ.out hQl.out).mono ?_
   rintro e w' ⟨rfl,hw,hq2⟩
   subst hw
   have hq3:Hid _:=hq2
   clear hq2
   go_wp2
   go_ret2
   rw [←HRe.out]
   exact⟨_,_,ar,cap,rfl,hq3.out,HRR.out,hbel⟩
  ·obtain⟨A,hA⟩: ∃ A,A=j/16:=⟨_,rfl⟩
   obtain⟨B,hB⟩: ∃ B,B=j % 16:=⟨_,rfl⟩
   have hAl:A<l:=by omega
   obtain⟨ba,oa,rfl,hba,hsg⟩:=ha.at (by omega)
   have c1:wr.cell? ⟨ba,oa+A,none⟩=some (.int .i64 (hf.dg u A)):=(hbel.cell (p:=⟨ba,oa+A,none⟩) hba).trans (hsg.cell A _ (hf.dcells_at _ _ _ hAl))
   have e1:((j+1:Nat):Int)- 1=(j:Int):=by omega
   have e2:(j:Int)/16=(A:Int):=by omega
   have e3:(j:Int) % 16=(B:Int):=by omega
   have hB16:B<16:=by omega
   have sR:=Own.sl hr
   have HO:Hid _:=hq
   have hRv:R<v:=by rw [HR.out];exact Nat.mod_lt _ hv
   clear hq hr
   have fR:hf.nlen R≤1000000000:=Nat.le_trans (hf.nlen_le (Nat.lt_trans hRv (hf.nlen_lt v))) fv
   have HBits:Hid ((hf.dg (u:Int) A)/2^B % 2=((u/2^j % 2:Nat):Int)):=by unfold Hid;rw [hA,hB];exact bit_of u j
   have hc2:u/2^j % 2<2:=Nat.mod_lt _ (by decide)
   have HX:Hid _:=half_bit u j
   have HSt:Hid _:=bit_step (u/2^(j+1)) v (u/2^j % 2) hv hc2
   obtain⟨d0,d1⟩:=hf.dg_range u A
   rw [e1]
   go_wp2_with (go_at_call 84;fail)
   refine(radd_any ar ar cap cap R R wr sR sR fR fR).mono ?_
   rintro e w2 ⟨a2,c2,rfl,ho2,hb2⟩
   have c1:w2.cell? ⟨ba,oa+A,none⟩=some (.int .i64 (hf.dg u A)):=(hb2.cell (p:=⟨ba,oa+A,none⟩) (Nat.lt_of_lt_of_le hba hbel.size)).trans c1
   obtain⟨c,hc⟩: ∃ c,c=u/2^j % 2:=⟨_,rfl⟩
   rw [←hc]at HBits HSt HX hc2
   have HC:Hid _:=hc
   clear hc
   have HA:Hid _:=hA
   have hj16:j<16*l:=by omega
   obtain⟨P2,hP2⟩: ∃ P2:Nat,P2=2^B:=⟨_,rfl⟩
   have HP2:Hid ((P2:Int)=2^(j % 16)):=by unfold Hid;rw [hP2,hB,Int.natCast_pow];rfl
   have fP:(2:Int)^B=(P2:Int):=by rw [hP2,Int.natCast_pow];rfl
   have P2b:P2≤32768:=by rw [hP2];exact Nat.le_trans (Nat.pow_le_pow_right (by decide) (show B≤15 by omega)) (by decide)
   have P2p:0<P2:=by rw [hP2];exact Nat.pow_pos (by decide)
   rw [fP]at HBits
   clear hA hB hP2
   obtain⟨x,hx⟩: ∃ x:Int,x=hf.dg (u:Int) A:=⟨_,rfl⟩
   rw [←hx]at d0 d1 HBits c1
   clear hx hsg
   rcases Nat.eq_zero_or_pos c with h0|h0
   ·subst h0
    have fB:(x/(P2:Int)).tmod 2=0:=by rw [Int.tmod_eq_emod_of_nonneg (Int.ediv_nonneg d0 (by omega))];exact HBits.out
    go_wp2_with (go_at_call 85;fail)
    have sr2:=Own.sl ho2
    have sb2:=(HB.out.below hbel).below hb2
    have bel2:=hbel.trans (hb2.mono hbel.size)
    have hq2:=Own.below HO.out hb2
    have fR2:hf.nlen (R+R)≤1000000000:=few2 hRv hlv (by omega)
    have HQ2:Hid _:=hq2
    have HR2:Hid (R+R=u/2^(j+1) % v+u/2^(j+1) % v+0):=by unfold Hid;first|(rw [←HR.out];done)|(rw [←HR.out];rfl)
    by_cases hge:v≤R+R
    ·obtain⟨k,hk,hk0⟩: ∃ k,k=cmpI ((R+R:Nat):Int) (v:Int)∧0≤k:=⟨_,rfl,by unfold cmpI;rw [if_neg (by omega)];split<;>decide⟩
     have HK:Hid _:=hk.symm
     clear hk hq2
     have hwsz:=bel2.size
     refine(rcmp_any a2 b c2 cb (R+R) v w2 sr2 sb2).mono ?_
     rw [HK.out]
     rintro e w5 ⟨rfl,hb5⟩
     have sr5:=sr2.below hb5
     have sb5:=sb2.below hb5
     have hq5:=Own.below HQ2.out hb5
     have bel5:=bel2.trans (hb5.mono bel2.size)
     have HQ5:Hid _:=hq5
     clear hq5
     go_wp2_with (go_at_call 87;fail)
     refine(rsub_any a2 b c2 cb (R+R) v w5 sr5 sb5 fR2 fv hge).mono ?_
     rintro e w6 ⟨a6,c6,rfl,ho6,hb6⟩
     have hq6:=Own.below HQ5.out hb6
     have bel6:=bel5.trans (hb6.mono bel5.size)
     have c3:w6.cell? ⟨w.heap.size,A,none⟩=some (.int .i64 (hf.dg ((u/2^(j+1)/v*2^(j+1):Nat):Int) A)):=Own.cell hq6 A _ (hf.dcells_at _ _ _ hAl)
     have c4:w6.frozen? ⟨w.heap.size,A,none⟩=false:=Own.free hq6 A hAl
     obtain⟨g0,g1⟩:=hf.dg_range ((u/2^(j+1)/v*2^(j+1):Nat):Int) A
     have HN:Hid _:=bitw_more (P:=(P2:Int)) hj16 hv (by omega) HX.out HR2.out hge HA.out HP2.out hq6 ho6 (Nat.lt_of_lt_of_le (seg_of_own HQ5.out).2.1 (Nat.le_refl _)) bel5.size (Nat.le_refl _) bel6
     obtain⟨dq,hdq⟩: ∃ dq:Int,dq=hf.dg ((u/2^(j+1)/v*2^(j+1):Nat):Int) A:=⟨_,rfl⟩
     rw [←hdq]at c3 g0 g1 HN
     clear hq6 ho6 hdq
     go_wp2
     go_roundw
     case rel=>exact HN.out
     case measure=>simp [intOf]
    ·obtain⟨k,hk,hk0⟩: ∃ k,k=cmpI ((R+R:Nat):Int) (v:Int)∧k<0:=⟨_,rfl,by unfold cmpI;rw [if_pos (by omega)];decide⟩
     have HK:Hid _:=hk.symm
     clear hk hq2
     refine(rcmp_any a2 b c2 cb (R+R) v w2 sr2 sb2).mono ?_
     rw [HK.out]
     rintro e w5 ⟨rfl,hb5⟩
     have hq5:=Own.below HQ2.out hb5
     have bel5:=bel2.trans (hb5.mono bel2.size)
     have HN:Hid _:=bitw_less (by omega) hv (by omega) HX.out HR2.out hge hq5 (Own.below (Own.mono ho2 (Nat.le_trans hbel.size (Nat.le_refl _))) hb5) bel5
     clear hq5
     go_wp2
     go_roundw
     case rel=>exact HN.out
     case measure=>simp [intOf]
   ·obtain rfl:c=1:=by omega
    have fB:(x/(P2:Int)).tmod 2=1:=by rw [Int.tmod_eq_emod_of_nonneg (Int.ediv_nonneg d0 (by omega))];exact HBits.out
    go_wp2_with (go_at_call 84;fail)
    refine(add1 a2 c2 (R+R) w2.heap.size _ ((Own.sl ho2).below ((Below.refl _ _).alloc (Nat.le_refl _) _)) (few2 hRv hlv (by omega)) (new_one w2 1 3)).mono ?_
    rintro e w4 ⟨a4,c4',rfl,ho4,hb4⟩
    have hb4x:Below wr.heap.size wr w4:=(hb2.alloc hb2.size _).trans (hb4.mono (by have:=hb2.size;simp;omega))
    go_wp2_with (go_at_call 85;fail)
    have sr2:=Own.sl ho4
    have sb2:=(HB.out.below hbel).below hb4x
    have bel2:=hbel.trans (hb4x.mono hbel.size)
    have hq2:=Own.below HO.out hb4x
    have fR2:hf.nlen (R+R+1)≤1000000000:=few2 hRv hlv (by omega)
    have HQ2:Hid _:=hq2
    have HR2:Hid (R+R+1=u/2^(j+1) % v+u/2^(j+1) % v+1):=by unfold Hid;first|(rw [←HR.out];done)|(rw [←HR.out];rfl)
    by_cases hge:v≤R+R+1
    ·obtain⟨k,hk,hk0⟩: ∃ k,k=cmpI ((R+R+1:Nat):Int) (v:Int)∧0≤k:=⟨_,rfl,by unfold cmpI;rw [if_neg (by omega)];split<;>decide⟩
     have HK:Hid _:=hk.symm
     clear hk hq2
     have hwsz:=bel2.size
     refine(rcmp_any a4 b c4' cb (R+R+1) v w4 sr2 sb2).mono ?_
     rw [HK.out]
     rintro e w5 ⟨rfl,hb5⟩
     have sr5:=sr2.below hb5
     have sb5:=sb2.below hb5
     have hq5:=Own.below HQ2.out hb5
     have bel5:=bel2.trans (hb5.mono bel2.size)
     have HQ5:Hid _:=hq5
     clear hq5
     go_wp2_with (go_at_call 87;fail)
     refine(rsub_any a4 b c4' cb (R+R+1) v w5 sr5 sb5 fR2 fv hge).mono ?_
     rintro e w6 ⟨a6,c6,rfl,ho6,hb6⟩
     have hq6:=Own.below HQ5.out hb6
     have bel6:=bel5.trans (hb6.mono bel5.size)
     have c3:w6.cell? ⟨w.heap.size,A,none⟩=some (.int .i64 (hf.dg ((u/2^(j+1)/v*2^(j+1):Nat):Int) A)):=Own.cell hq6 A _ (hf.dcells_at _ _ _ hAl)
     have c4:w6.frozen? ⟨w.heap.size,A,none⟩=false:=Own.free hq6 A hAl
     obtain⟨g0,g1⟩:=hf.dg_range ((u/2^(j+1)/v*2^(j+1):Nat):Int) A
     have HN:Hid _:=bitw_more (P:=(P2:Int)) hj16 hv (by omega) HX.out HR2.out hge HA.out HP2.out hq6 ho6 (Nat.lt_of_lt_of_le (seg_of_own HQ5.out).2.1 (Nat.le_refl _)) bel5.size (Nat.le_refl _) bel6
     obtain⟨dq,hdq⟩: ∃ dq:Int,dq=hf.dg ((u/2^(j+1)/v*2^(j+1):Nat):Int) A:=⟨_,rfl⟩
     rw [←hdq]at c3 g0 g1 HN
     clear hq6 ho6 hdq
     go_wp2
     go_roundw
     case rel=>exact HN.out
     case measure=>simp [intOf]
    ·obtain⟨k,hk,hk0⟩: ∃ k,k=cmpI ((R+R+1:Nat):Int) (v:Int)∧k<0:=⟨_,rfl,by unfold cmpI;rw [if_pos (by omega)];decide⟩
     have HK:Hid _:=hk.symm
     clear hk hq2
     refine(rcmp_any a4 b c4' cb (R+R+1) v w4 sr2 sb2).mono ?_
     rw [HK.out]
     rintro e w5 ⟨rfl,hb5⟩
     have hq5:=Own.below HQ2.out hb5
     have bel5:=bel2.trans (hb5.mono bel2.size)
     have HN:Hid _:=bitw_less (by omega) hv (by omega) HX.out HR2.out hge hq5 (Own.below (Own.mono ho4 (Nat.le_trans hbel.size (Nat.le_trans hb2.size (by simp)))) hb5) bel5
     clear hq5
     go_wp2
     go_roundw
     case rel=>exact HN.out
     case measure=>simp [intOf]
def GotHB(w:World)(q r:Nat)(e:Ending)(w':World):Prop:= ∃ aq lq cq ar lr cr,e= .returned (.tuple #[.slice aq lq cq, .slice ar lr cr])∧HD w' aq lq cq q∧HD w' ar lr cr r∧Far w.heap.size aq lq∧Far w.heap.size ar lr∧Below w.heap.size w w'
theorem hfDiv(a b:Option Addr)(la lb ca cb u v:Nat)(w:World)(ha:HD w a la ca u)(hb:HD w b lb cb v)(fu:hf.nlen u≤1000000)(fv:hf.nlen v≤1000000)(hv:0<v):Calls Tryz.prog 109 #[.slice a la ca, .slice b lb cb] w (GotHB w (u/v) (u % v)):=by
 obtain⟨ha,rfl⟩:=ha
 obtain⟨hb,rfl⟩:=hb
 refine(rdivMod_own a b ca cb u v w ha hb (by omega) (by omega) hv).mono ?_
 rintro e w' ⟨aq,cq,ar,cr,he,hq,hr,hbel⟩
 exact⟨aq,_,cq,ar,_,cr,he,⟨Own.sl hq,rfl⟩,⟨Own.sl hr,rfl⟩,Own.far hq,Own.far hr,hbel⟩
set_option maxRecDepth 100000 in
set_option maxHeartbeats 1000000 in
theorem rwLong(x:Int)(w:World)(h1: -9223372036854775808≤x)(h2:x≤9223372036854775807):Calls Tryz.prog 39 #[.int .i64 x] w (GotR w (fun _=>True) x):=by
 by_cases hx:x=0
 ·subst hx
  go_enter Tryz.func39,Tryz.ntmps39
  go_wp2
  exact bodyPost_ret (v:= .agg #[.int .i64 0, .slice none 0 0]) (by simp [results,Tryz.results39,go_sem, *]) rfl ⟨0,none,0,0,rfl,rn_zero _ 0,fun _ _ _=>Or.inl rfl,(Below.refl _ _).alloc (Nat.le_refl _) _⟩
 have B0:Below w.heap.size w (w.alloc (.cells #[.int .i64 0, .slice none 0 0] 102)):=(Below.refl _ _).alloc (Nat.le_refl _) _
 have x0:=bx_new w (.int .i64 0) (.slice none 0 0) 102
 obtain⟨u,hu⟩: ∃ u,u=x.natAbs:=⟨_,rfl⟩
 have hul:u<18446744073709551616:=by omega
 have ho:=own_two (w.alloc (.cells #[.int .i64 0, .slice none 0 0] 102)) u hul
 have hb1:Below (w.alloc (.cells #[.int .i64 0, .slice none 0 0] 102)).heap.size (w.alloc (.cells #[.int .i64 0, .slice none 0 0] 102)) ((w.alloc (.cells #[.int .i64 0, .slice none 0 0] 102)).alloc (.cells #[.int .u32 ((u:Int) % 4294967296), .int .u32 ((u:Int)/4294967296)] 161)):=(Below.refl _ _).alloc (Nat.le_refl _) _
 have hni:NI _ _ 2 2 u:=⟨Own.sl ho,by omega,by decide⟩
 rw [World.size_alloc]at hni
 have x1:=x0.on hb1
 have E2:(u:Int)/4294967296 % 4294967296=(u:Int)/4294967296:=by omega
 by_cases hn:x<0
 ·have E:IntKind.u64.wrap (-IntKind.u64.wrap x)=(u:Int):=by rw [IntKind.wrap_u64,IntKind.wrap_u64];omega
  have HR:Hid ((-1:Int)=x.sign):=(sign_neg hn).symm
  have HU:Hid _:=hu
  clear hu ho
  go_enter Tryz.func39,Tryz.ntmps39
  go_wp2_with (go_at_call 82;fail)
  refine(hfOf _ 2 2 u _ hni).mono ?_
  rintro e w2 ⟨d,l,c,rfl,hd,fd,b2⟩
  obtain⟨k0,k1,k2,k3⟩:=x1.on b2
  go_wp2
  exact bodyPost_ret (v:= .agg #[.int .i64 (-1), .slice d l c]) (by simp [results,Tryz.results39,go_sem, *]) rfl (endR _ (by omega) (also (also B0 hb1) b2) ⟨HU.out▸hd,HR.out⟩ (fd _ (by simp;omega)) (fun j hj _=>fd j (by simp;omega)) _ _)
 ·obtain⟨y,rfl⟩:=Int.eq_ofNat_of_zero_le (show 0≤x by omega)
  obtain rfl:u=y:=by omega
  have HR:Hid ((1:Int)=((u:Nat):Int).sign):=(sign_pos (by omega)).symm
  have HU:Hid (u=((u:Nat):Int).natAbs):=hu
  clear hu ho
  go_enter Tryz.func39,Tryz.ntmps39
  go_wp2_with (go_at_call 82;fail)
  refine(hfOf _ 2 2 u _ hni).mono ?_
  rintro e w2 ⟨d,l,c,rfl,hd,fd,b2⟩
  obtain⟨k0,k1,k2,k3⟩:=x1.on b2
  go_wp2
  exact bodyPost_ret (v:= .agg #[.int .i64 (1), .slice d l c]) (by simp [results,Tryz.results39,go_sem, *]) rfl (endR _ (by omega) (also (also B0 hb1) b2) ⟨HU.out▸hd,HR.out⟩ (fd _ (by simp;omega)) (fun j hj _=>fd j (by simp;omega)) _ _)
theorem one_few:hf.nlen (1:Int).natAbs≤1000000:=Nat.le_trans (hf.nlen_le (n:=1) (by decide)) (by decide)
theorem sg_mul(x y:Int):x.sign*y.sign=(x*y).sign:=(Int.sign_mul x y).symm
theorem keepC3{p q r:Nat}{v1 v2 v3 v4 v5 v6:Value}{w0 w w':World}(h:w.cell? ⟨p,0,none⟩=some v1∧w.cell? ⟨p,1,none⟩=some v2∧w.cell? ⟨q,0,none⟩=some v3∧w.cell? ⟨q,1,none⟩=some v4∧w.cell? ⟨r,0,none⟩=some v5∧w.cell? ⟨r,1,none⟩=some v6∧Below w0.heap.size w0 w)(hb:Below w.heap.size w w'):
  w'.cell? ⟨p,0,none⟩=some v1∧w'.cell? ⟨p,1,none⟩=some v2∧w'.cell? ⟨q,0,none⟩=some v3∧w'.cell? ⟨q,1,none⟩=some v4∧w'.cell? ⟨r,0,none⟩=some v5∧w'.cell? ⟨r,1,none⟩=some v6∧Below w0.heap.size w0 w':=
 ⟨cell_on hb h.1,cell_on hb h.2.1,cell_on hb h.2.2.1,cell_on hb h.2.2.2.1,cell_on hb h.2.2.2.2.1,cell_on hb h.2.2.2.2.2.1,also h.2.2.2.2.2.2 hb⟩
theorem keepP3{p q r k:Nat}{v1 v2 v3 v4 v5 v6:Value}{w0 w:World}(h:w.cell? ⟨p,0,none⟩=some v1∧w.cell? ⟨p,1,none⟩=some v2∧w.cell? ⟨q,0,none⟩=some v3∧w.cell? ⟨q,1,none⟩=some v4∧w.cell? ⟨r,0,none⟩=some v5∧w.cell? ⟨r,1,none⟩=some v6∧Below w0.heap.size w0 w)(hp:k≠p)(hq:k≠q)(hr:k≠r)(hB:w0.heap.size≤k)(u v:Value):
  ((w.setCell ⟨k,0,none⟩ u).setCell ⟨k,1,none⟩ v).cell? ⟨p,0,none⟩=some v1∧((w.setCell ⟨k,0,none⟩ u).setCell ⟨k,1,none⟩ v).cell? ⟨p,1,none⟩=some v2∧((w.setCell ⟨k,0,none⟩ u).setCell ⟨k,1,none⟩ v).cell? ⟨q,0,none⟩=some v3∧((w.setCell ⟨k,0,none⟩ u).setCell ⟨k,1,none⟩ v).cell? ⟨q,1,none⟩=some v4∧((w.setCell ⟨k,0,none⟩ u).setCell ⟨k,1,none⟩ v).cell? ⟨r,0,none⟩=some v5∧((w.setCell ⟨k,0,none⟩ u).setCell ⟨k,1,none⟩ v).cell? ⟨r,1,none⟩=some v6∧Below w0.heap.size w0 ((w.setCell ⟨k,0,none⟩ u).setCell ⟨k,1,none⟩ v):=by
 have hne: ∀ i j b:Nat,k≠b→(⟨k,i,none⟩:Addr)≠⟨b,j,none⟩:=fun i j b hb e=>by simp only [Addr.mk.injEq]at e;omega
 have g: ∀ (b j:Nat) (x:Value),k≠b→w.cell? ⟨b,j,none⟩=some x→((w.setCell ⟨k,0,none⟩ u).setCell ⟨k,1,none⟩ v).cell? ⟨b,j,none⟩=some x:=fun b j x hb hc=>by
  rw [World.cell?_setCell_other _ _ _ _ (hne _ _ _ hb),World.cell?_setCell_other _ _ _ _ (hne _ _ _ hb)];exact hc
 exact⟨g _ _ _ hp h.1,g _ _ _ hp h.2.1,g _ _ _ hq h.2.2.1,g _ _ _ hq h.2.2.2.1,g _ _ _ hr h.2.2.2.2.1,g _ _ _ hr h.2.2.2.2.2.1,below_put2 h.2.2.2.2.2.2 hB u v⟩
def GotRFF(w:World)(q r:Int)(e:Ending)(w':World):Prop:= ∃ (s1:Int) (d1:Option Addr) (l1 c1:Nat) (s2:Int) (d2:Option Addr) (l2 c2:Nat),e= .returned (.tuple #[.agg #[.int .i64 s1, .slice d1 l1 c1], .agg #[.int .i64 s2, .slice d2 l2 c2]])∧RN w' s1 d1 l1 c1 q∧RN w' s2 d2 l2 c2 r∧Far w.heap.size d1 l1∧Below w.heap.size w w'
theorem endRF{w w6:World}{s1 s2:Int}{d1 d2:Option Addr}{l1 c1 l2 c2:Nat}{Q R:Int}(hq:RN w6 s1 d1 l1 c1 Q)(hr:RN w6 s2 d2 l2 c2 R)(B:Below w.heap.size w w6)(a1:NA (w.heap.size+1+1) d1 l1)(a2:NA (w.heap.size+1+1+1) d1 l1)(a3:NA (w.heap.size+1+1) d2 l2)(a4:NA (w.heap.size+1+1+1) d2 l2)(fa:Far w.heap.size d1 l1)(u v u' v':Value):
  GotRFF w Q R (.returned (.tuple #[.agg #[.int .i64 s1, .slice d1 l1 c1], .agg #[.int .i64 s2, .slice d2 l2 c2]])) ((((w6.setCell ⟨w.heap.size+1+1,0,none⟩ u).setCell ⟨w.heap.size+1+1,1,none⟩ v).setCell ⟨w.heap.size+1+1+1,0,none⟩ u').setCell ⟨w.heap.size+1+1+1,1,none⟩ v'):=
 ⟨s1,d1,l1,c1,s2,d2,l2,c2,rfl,(hq.put2 a1 u v).put2 a2 u' v',(hr.put2 a3 u v).put2 a4 u' v',fa,below_put2 (below_put2 B (by omega) u v) (by omega) u' v'⟩
set_option maxRecDepth 100000 in
set_option maxHeartbeats 10000000 in
theorem rwFloorF(s t:Int)(d g:Option Addr)(l c h k:Nat)(x y:Int)(w:World)(hx:RN w s d l c x)(hy:RN w t g h k y)(fx:hf.nlen x.natAbs≤1000000)(fy:hf.nlen y.natAbs≤1000000)(h0:y≠0)(fq0:hf.nlen (x.sign*y.sign*((x.natAbs/y.natAbs:Nat):Int)).natAbs≤1000000)(fq:hf.nlen (flQ x y).natAbs≤1000000)(fp:hf.nlen (flQ x y*y).natAbs≤1000000)
  (Q R:Int) (hQ0:Q=flQ x y) (hR0:R=flR x y):Calls Tryz.prog 61 #[.agg #[.int .i64 s, .slice d l c], .agg #[.int .i64 t, .slice g h k]] w (GotRFF w Q R):=by
 obtain⟨W,hW,B0,xa,xb,x4,x5,hs⟩:=box3 w (.int .i64 s) (.slice d l c) (.int .i64 t) (.slice g h k) (.int .i64 0) (.slice none 0 0) (.int .i64 0) (.slice none 0 0) 102 102 102 102
 have es: -1≤s∧s≤1:=by rw [hx.sg];rcases sign_cases x with⟨_,e⟩|⟨_,e⟩|⟨_,e⟩<;>omega
 have et:t= -1∨t=0∨t=1:=by rw [hy.sg];rcases sign_cases y with⟨_,e⟩|⟨_,e⟩|⟨_,e⟩<;>omega
 have ew':wrap64 (s*t)=s*t:=by
  unfold wrap64
  rcases et with e|e|e<;>rw [e]<;>omega
 have hst:s*t=x.sign*y.sign:=by rw [hx.sg,hy.sg]
 obtain⟨sd,hsd⟩: ∃ sd,sd=s*t:=⟨_,rfl⟩
 rw [←hsd]at hst ew'
 have EW:wrap64 (s*t)=sd:=by rw [hsd]at ew' ⊢;exact ew'
 have hv0:0<y.natAbs:=by omega
 obtain⟨q0,hq0⟩: ∃ q0:Nat,q0=x.natAbs/y.natAbs:=⟨_,rfl⟩
 obtain⟨r0,hr0⟩: ∃ r0:Nat,r0=x.natAbs % y.natAbs:=⟨_,rfl⟩
 obtain⟨z0,hz0⟩: ∃ z0,z0=x.sign*y.sign*((x.natAbs/y.natAbs:Nat):Int):=⟨_,rfl⟩
 have HD0:=hfDiv d g l h c k _ _ W (hx.hd.below B0) (hy.hd.below B0) fx fy hv0
 rw [←hq0,←hr0]at HD0
 have HDD:Hid _:=HD0
 have hzq:q0=z0.natAbs:=by
  rw [hz0,←hq0,Int.natAbs_mul,sg_mul]
  rcases sign_cases (x*y)with⟨_,e⟩|⟨e',e⟩|⟨_,e⟩
  ·rw [e];simp
  ·have:x=0:=by rcases Int.mul_eq_zero.1 e' with z|z;exact z;exact absurd z h0
   rw [hq0,this];simp
  ·rw [e];simp
 have hzs:z0≠0→sd=z0.sign:=fun hz=>by
  rw [hst]
  have hq1:q0≠0:=by rw [hzq];omega
  rw [hz0,←hq0,Int.sign_mul,sg_mul,Int.sign_sign,Int.sign_natCast_of_ne_zero hq1,Int.mul_one]
 have HZQ:Hid _:=hzq
 have HZS:Hid _:=hzs
 have HQ:Hid (Q=z0- (if sd<0∧r0≠0 then 1 else 0)):=by
  unfold Hid
  rw [hQ0]
  unfold flQ
  rw [hz0,hst,hr0]
 have HR:Hid (R=x- Q*y):=by unfold Hid;rw [hR0,hQ0];rfl
 have fq0':hf.nlen z0.natAbs≤1000000:=by rw [hz0];exact fq0
 rw [←hQ0]at fq fp
 have n2:NA (w.heap.size+2) d l:=hx.hd.sl.na (by omega)
 have n3:NA (w.heap.size+3) d l:=hx.hd.sl.na (by omega)
 have n4:NA (w.heap.size+2) g h:=hy.hd.sl.na (by omega)
 have n5:NA (w.heap.size+3) g h:=hy.hd.sl.na (by omega)
 have hxW:=hx.below B0
 have hyW:=hy.below B0
 clear HD0 hzq hzs hq0 hr0 hz0 hst hsd es et ew' fq0 hQ0 hR0
 go_enter Tryz.func61,Tryz.ntmps61
 go_wp2_with (go_at_call 109;fail)
 rw [←hW]
 clear hW
 refine(show Calls _ _ _ _ (GotHB W q0 r0)from HDD.out).mono ?_
 rintro e w1 ⟨aq,lq,cq,ar,lr,cr,rfl,hq,hr,fq1,fr1,b1⟩
 obtain⟨k0,k1,k2,k3⟩:=xa.on b1
 obtain⟨j0,j1,j2,j3⟩:=xb.on b1
 go_wp2_with (go_at_call 86;fail)
 refine(rwMake sd aq lq cq q0 z0 w1 hq HZQ.out HZS.out).mono ?_
 rintro e w2 ⟨s2,a2,l2,c2,rfl,h2,f2,b2⟩
 have x8:=bx_new w2 (.int .i64 s2) (.slice a2 l2 c2) 102
 have b3:Below w2.heap.size w2 (w2.alloc (.cells #[.int .i64 s2, .slice a2 l2 c2] 102)):=(Below.refl _ _).alloc (Nat.le_refl _) _
 have g8:w.heap.size+1+1+1<w2.heap.size:=Nat.lt_of_lt_of_le hs (Nat.le_trans b1.size b2.size)
 have H2:=h2.below b3
 have BW:=also (also (also B0 b1) b2) b3
 have XA:=((xa.on b1).on b2).on b3
 have XB:=((xb.on b1).on b2).on b3
 have X4:=((x4.on b1).on b2).on b3
 have X5:=((x5.on b1).on b2).on b3
 have hxB:=((hxW.below b1).below b2).below b3
 have hyB:=((hyW.below b1).below b2).below b3
 have F2:Far W.heap.size a2 l2:=fun j hj=>f2 j (Nat.lt_of_lt_of_le hj b1.size) (fq1 j hj)
 have n82:NA w2.heap.size a2 l2:=h2.hd.sl.na (Nat.le_refl _)
 have nx8:NA w2.heap.size d l:=((hxW.below b1).below b2).hd.sl.na (Nat.le_refl _)
 have ny8:NA w2.heap.size g h:=((hyW.below b1).below b2).hd.sl.na (Nat.le_refl _)
 obtain⟨k0,k1,k2,k3⟩:=XA
 obtain⟨j0,j1,j2,j3⟩:=XB
 have XA:Bx _ _ _ _:=⟨k0,k1,k2,k3⟩
 have XB:Bx _ _ _ _:=⟨j0,j1,j2,j3⟩
 have hlr:=hr.pos
 clear x4 x5 xa xb hq hr h2 HDD HZQ HZS hxW hyW
 by_cases hadj:sd<0∧r0≠0
 ·obtain⟨hsn,hrn⟩:=hadj
  have HQ1:Hid (Q=z0- 1):=by have:=HQ.out;rwa [if_pos ⟨hsn,hrn⟩]at this
  have hlr0:(0:Int)<lr:=by omega
  clear HQ hlr
  go_wp2
  generalize w2.alloc (.cells #[.int .i64 s2, .slice a2 l2 c2] 102)=W2 at x8 H2 BW XA XB X4 X5 hxB hyB b3 k0 k1 k2 k3 j0 j1 j2 j3 ⊢
  generalize w2.heap.size=b8 at x8 g8 nx8 ny8 n82 ⊢
  have x8':=x8.drew
  obtain⟨i0,i1,i2,i3⟩:=x8'
  have x8':Bx _ _ _ _:=⟨i0,i1,i2,i3⟩
  have d0:Below W2.heap.size W2 W2.drew:=(Below.refl _ _).drew
  go_region_with (first
   |(go_at_call 39;refine(rwLong 1 _ (by decide) (by decide)).mono ?_;rintro e w5 ⟨s5,d5,l5,c5,rfl,h5,f5,b5⟩;obtain⟨i0,i1,i2,i3⟩:=x8'.on b5)
   |(go_at_call 110;refine(rwSub s2 s5 a2 d5 l2 c2 l5 c5 z0 1 (z0- 1) _ ((H2.below d0).below b5) h5 fq0' one_few rfl).mono ?_;rintro e w6 ⟨s6,d6,l6,c6,rfl,h6,f6,b6⟩;obtain⟨i0,i1,i2,i3⟩:=(x8'.on b5).on b6))
  ·skip
   have F6:Far W.heap.size d6 l6:=fun j hj=>f6 j (Nat.lt_of_lt_of_le (Nat.lt_of_lt_of_le hj (Nat.le_trans (Nat.le_trans b1.size b2.size) b3.size)) b5.size) ⟨F2 j hj,f5 j (Nat.lt_of_lt_of_le hj (Nat.le_trans (Nat.le_trans b1.size b2.size) b3.size)) trivial⟩
   have n8:NA b8 d6 l6:=f6 b8 (Nat.lt_of_lt_of_le (bx_lt x8) b5.size) ⟨n82,f5 b8 (bx_lt x8') trivial⟩
   have e8:Bx ((w6.setCell ⟨b8,0,none⟩ (.int .i64 s6)).setCell ⟨b8,1,none⟩ (.slice d6 l6 c6)) b8 (.int .i64 s6) (.slice d6 l6 c6):=((x8'.on b5).on b6).set
   have eA:=((((XA.on d0).on b5).on b6).put (i:=0) (v:= .int .i64 s6) (show b8≠_ by omega)).put (i:=1) (v:= .slice d6 l6 c6) (show b8≠_ by omega)
   have eB:=((((XB.on d0).on b5).on b6).put (i:=0) (v:= .int .i64 s6) (show b8≠_ by omega)).put (i:=1) (v:= .slice d6 l6 c6) (show b8≠_ by omega)
   have e4:=((((X4.on d0).on b5).on b6).put (i:=0) (v:= .int .i64 s6) (show b8≠_ by omega)).put (i:=1) (v:= .slice d6 l6 c6) (show b8≠_ by omega)
   have e5:=((((X5.on d0).on b5).on b6).put (i:=0) (v:= .int .i64 s6) (show b8≠_ by omega)).put (i:=1) (v:= .slice d6 l6 c6) (show b8≠_ by omega)
   have ex:=(((hxB.below d0).below b5).below b6).put2 nx8 (.int .i64 s6) (.slice d6 l6 c6)
   have ey:=(((hyB.below d0).below b5).below b6).put2 ny8 (.int .i64 s6) (.slice d6 l6 c6)
   have eq:=h6.put2 n8 (.int .i64 s6) (.slice d6 l6 c6)
   have eb:=below_put2 (also (also (also BW d0) b5) b6) (show w.heap.size≤b8 by omega) (.int .i64 s6) (.slice d6 l6 c6)
   rw [←HQ1.out]at eq
   clear x8 x8' i0 i1 i2 i3 k0 k1 k2 k3 j0 j1 j2 j3 XA XB X4 X5 hxB hyB H2 BW F2 f6 f5 h5 h6 d0
   dsimp only [Exit.then]
   go_wp2
   generalize (w6.setCell ⟨b8,0,none⟩ (.int .i64 s6)).setCell ⟨b8,1,none⟩ (.slice d6 l6 c6)=WF at e8 eA eB e4 e5 ex ey eq eb ⊢
   have g2:w.heap.size+1+1<b8:=by omega
   refine wp_region_held_drew (S:=(fun w'=>w'.cell? ⟨b8,0,none⟩=some (.int .i64 s6)∧w'.cell? ⟨b8,1,none⟩=some (.slice d6 l6 c6)∧w'.cell? ⟨w.heap.size,0,none⟩=some (.int .i64 s)∧w'.cell? ⟨w.heap.size,1,none⟩=some (.slice d l c)∧w'.cell? ⟨w.heap.size+1,0,none⟩=some (.int .i64 t)∧w'.cell? ⟨w.heap.size+1,1,none⟩=some (.slice g h k)∧Below w.heap.size w w')) (by kernel_rfl) ?_ (fun hHeld=>?_)
   ·first|exact keepC3 hHeld b21|exact keepC3 hHeld b20|exact⟨e8.c0,e8.c1,eA.c0,eA.c1,eB.c0,eB.c1,eb.drew⟩|exact keepP3 hHeld (by omega) (by omega) (by omega) (by omega) _ _
   refine tn 0 ?_;refine tn 1 ?_;refine tn 2 ?_;refine tn 3 ?_
   simp only [Act.put,ps1,ps2,ps3]
   refine tcl 4 fun Kc hK=>?_
   go_simp
   (go_at_call 42;refine(rwMul s6 t d6 g l6 c6 h k Q y (Q*y) _ (eq.below ((Below.refl _ _).drew)) (ey.below ((Below.refl _ _).drew)) fq fy rfl).mono ?_;rintro e w20 ⟨s20,d20,l20,c20,rfl,h20,f20,b20⟩)
   refine hK.out _ _ ?_ (fun hHeld=>?_)
   ·first|exact keepC3 hHeld b21|exact keepC3 hHeld b20|exact⟨e8.c0,e8.c1,eA.c0,eA.c1,eB.c0,eB.c1,eb.drew⟩|exact keepP3 hHeld (by omega) (by omega) (by omega) (by omega) _ _
   clear hK Kc
   refine tcl 5 fun Kc hK=>?_
   go_simp
   (go_at_call 110;refine(rwSub s s20 d d20 l c l20 c20 x (Q*y) R _ ((ex.below ((Below.refl _ _).drew)).below b20) h20 fx fp HR.out).mono ?_;rintro e w21 ⟨s21,d21,l21,c21,rfl,h21,f21,b21⟩)
   refine hK.out _ _ ?_ (fun hHeld=>?_)
   ·first|exact keepC3 hHeld b21|exact keepC3 hHeld b20|exact⟨e8.c0,e8.c1,eA.c0,eA.c1,eB.c0,eB.c1,eb.drew⟩|exact keepP3 hHeld (by omega) (by omega) (by omega) (by omega) _ _
   clear hK Kc
   obtain⟨k0,k1,k2,k3⟩:=(e4.drew.on b20).on b21
   refine tcl 6 fun Kc hK=>?_
   go_simp
   refine hK.out _ _ ?_ (fun hHeld=>?_)
   ·first|exact keepC3 hHeld b21|exact keepC3 hHeld b20|exact⟨e8.c0,e8.c1,eA.c0,eA.c1,eB.c0,eB.c1,eb.drew⟩|exact keepP3 hHeld (by omega) (by omega) (by omega) (by omega) _ _
   clear hK Kc
   obtain⟨j0,j1,j2,j3⟩:Bx ((w21.setCell ⟨w.heap.size+1+1,0,none⟩ (.int .i64 s6)).setCell ⟨w.heap.size+1+1,1,none⟩ (.slice d6 l6 c6)) (w.heap.size+1+1+1) (.int .i64 0) (.slice none 0 0):=(((e5.drew.on b20).on b21).put (by omega)).put (by omega)
   refine tcl 7 fun Kc hK=>?_
   go_simp
   refine hK.out _ _ ?_ (fun hHeld=>?_)
   ·first|exact keepC3 hHeld b21|exact keepC3 hHeld b20|exact⟨e8.c0,e8.c1,eA.c0,eA.c1,eB.c0,eB.c1,eb.drew⟩|exact keepP3 hHeld (by omega) (by omega) (by omega) (by omega) _ _
   clear hK Kc
   refine wpAnyH_done (by kernel_rfl) ?_ _
   go_wp2
   have z2:WF.heap.size≤w20.heap.size:=b20.size
   exact bodyPost_ret (v:= .tuple #[.agg #[.int .i64 s6, .slice d6 l6 c6], .agg #[.int .i64 s21, .slice d21 l21 c21]]) (by simp [results,Tryz.results61,go_sem, *]) rfl (endRF (((eq.below ((Below.refl _ _).drew)).below b20).below b21) h21 (also (also eb.drew b20) b21) (F6 _ (by omega)) (F6 _ (by omega)) (f21 _ (Nat.lt_of_lt_of_le (Nat.lt_trans g2 (bx_lt e8)) z2) ⟨n2,f20 _ (Nat.lt_trans g2 (bx_lt e8.drew)) trivial⟩) (f21 _ (Nat.lt_of_lt_of_le (Nat.lt_trans g8 (bx_lt e8)) z2) ⟨n3,f20 _ (Nat.lt_trans g8 (bx_lt e8.drew)) trivial⟩) (F6.mono (by omega)) _ _ _ _)
  ·skip
   have F6:Far W.heap.size d6 l6:=fun j hj=>f6 j (Nat.lt_of_lt_of_le (Nat.lt_of_lt_of_le hj (Nat.le_trans (Nat.le_trans b1.size b2.size) b3.size)) b5.size) ⟨F2 j hj,f5 j (Nat.lt_of_lt_of_le hj (Nat.le_trans (Nat.le_trans b1.size b2.size) b3.size)) trivial⟩
   have n8:NA b8 d6 l6:=f6 b8 (Nat.lt_of_lt_of_le (bx_lt x8) b5.size) ⟨n82,f5 b8 (bx_lt x8') trivial⟩
   have e8:Bx ((w6.setCell ⟨b8,0,none⟩ (.int .i64 s6)).setCell ⟨b8,1,none⟩ (.slice d6 l6 c6)) b8 (.int .i64 s6) (.slice d6 l6 c6):=((x8'.on b5).on b6).set
   have eA:=((((XA.on d0).on b5).on b6).put (i:=0) (v:= .int .i64 s6) (show b8≠_ by omega)).put (i:=1) (v:= .slice d6 l6 c6) (show b8≠_ by omega)
   have eB:=((((XB.on d0).on b5).on b6).put (i:=0) (v:= .int .i64 s6) (show b8≠_ by omega)).put (i:=1) (v:= .slice d6 l6 c6) (show b8≠_ by omega)
   have e4:=((((X4.on d0).on b5).on b6).put (i:=0) (v:= .int .i64 s6) (show b8≠_ by omega)).put (i:=1) (v:= .slice d6 l6 c6) (show b8≠_ by omega)
   have e5:=((((X5.on d0).on b5).on b6).put (i:=0) (v:= .int .i64 s6) (show b8≠_ by omega)).put (i:=1) (v:= .slice d6 l6 c6) (show b8≠_ by omega)
   have ex:=(((hxB.below d0).below b5).below b6).put2 nx8 (.int .i64 s6) (.slice d6 l6 c6)
   have ey:=(((hyB.below d0).below b5).below b6).put2 ny8 (.int .i64 s6) (.slice d6 l6 c6)
   have eq:=h6.put2 n8 (.int .i64 s6) (.slice d6 l6 c6)
   have eb:=below_put2 (also (also (also BW d0) b5) b6) (show w.heap.size≤b8 by omega) (.int .i64 s6) (.slice d6 l6 c6)
   rw [←HQ1.out]at eq
   clear x8 x8' i0 i1 i2 i3 k0 k1 k2 k3 j0 j1 j2 j3 XA XB X4 X5 hxB hyB H2 BW F2 f6 f5 h5 h6 d0
   dsimp only [Exit.then]
   go_wp2
   generalize (w6.setCell ⟨b8,0,none⟩ (.int .i64 s6)).setCell ⟨b8,1,none⟩ (.slice d6 l6 c6)=WF at e8 eA eB e4 e5 ex ey eq eb ⊢
   have g2:w.heap.size+1+1<b8:=by omega
   refine wp_region_held_drew (S:=(fun w'=>w'.cell? ⟨b8,0,none⟩=some (.int .i64 s6)∧w'.cell? ⟨b8,1,none⟩=some (.slice d6 l6 c6)∧w'.cell? ⟨w.heap.size,0,none⟩=some (.int .i64 s)∧w'.cell? ⟨w.heap.size,1,none⟩=some (.slice d l c)∧w'.cell? ⟨w.heap.size+1,0,none⟩=some (.int .i64 t)∧w'.cell? ⟨w.heap.size+1,1,none⟩=some (.slice g h k)∧Below w.heap.size w w')) (by kernel_rfl) ?_ (fun hHeld=>?_)
   ·first|exact keepC3 hHeld b21|exact keepC3 hHeld b20|exact⟨e8.c0,e8.c1,eA.c0,eA.c1,eB.c0,eB.c1,eb.drew⟩|exact keepP3 hHeld (by omega) (by omega) (by omega) (by omega) _ _
   refine tn 0 ?_;refine tn 1 ?_;refine tn 2 ?_;refine tn 3 ?_
   simp only [Act.put,ps1,ps2,ps3]
   refine tcl 4 fun Kc hK=>?_
   go_simp
   (go_at_call 42;refine(rwMul s6 t d6 g l6 c6 h k Q y (Q*y) _ (eq.below ((Below.refl _ _).drew)) (ey.below ((Below.refl _ _).drew)) fq fy rfl).mono ?_;rintro e w20 ⟨s20,d20,l20,c20,rfl,h20,f20,b20⟩)
   refine hK.out _ _ ?_ (fun hHeld=>?_)
   ·first|exact keepC3 hHeld b21|exact keepC3 hHeld b20|exact⟨e8.c0,e8.c1,eA.c0,eA.c1,eB.c0,eB.c1,eb.drew⟩|exact keepP3 hHeld (by omega) (by omega) (by omega) (by omega) _ _
   clear hK Kc
   refine tcl 5 fun Kc hK=>?_
   go_simp
   (go_at_call 110;refine(rwSub s s20 d d20 l c l20 c20 x (Q*y) R _ ((ex.below ((Below.refl _ _).drew)).below b20) h20 fx fp HR.out).mono ?_;rintro e w21 ⟨s21,d21,l21,c21,rfl,h21,f21,b21⟩)
   refine hK.out _ _ ?_ (fun hHeld=>?_)
   ·first|exact keepC3 hHeld b21|exact keepC3 hHeld b20|exact⟨e8.c0,e8.c1,eA.c0,eA.c1,eB.c0,eB.c1,eb.drew⟩|exact keepP3 hHeld (by omega) (by omega) (by omega) (by omega) _ _
   clear hK Kc
   obtain⟨k0,k1,k2,k3⟩:=(e4.drew.on b20).on b21
   refine tcl 6 fun Kc hK=>?_
   go_simp
   refine hK.out _ _ ?_ (fun hHeld=>?_)
   ·first|exact keepC3 hHeld b21|exact keepC3 hHeld b20|exact⟨e8.c0,e8.c1,eA.c0,eA.c1,eB.c0,eB.c1,eb.drew⟩|exact keepP3 hHeld (by omega) (by omega) (by omega) (by omega) _ _
   clear hK Kc
   obtain⟨j0,j1,j2,j3⟩:Bx ((w21.setCell ⟨w.heap.size+1+1,0,none⟩ (.int .i64 s6)).setCell ⟨w.heap.size+1+1,1,none⟩ (.slice d6 l6 c6)) (w.heap.size+1+1+1) (.int .i64 0) (.slice none 0 0):=(((e5.drew.on b20).on b21).put (by omega)).put (by omega)
   refine tcl 7 fun Kc hK=>?_
   go_simp
   refine hK.out _ _ ?_ (fun hHeld=>?_)
   ·first|exact keepC3 hHeld b21|exact keepC3 hHeld b20|exact⟨e8.c0,e8.c1,eA.c0,eA.c1,eB.c0,eB.c1,eb.drew⟩|exact keepP3 hHeld (by omega) (by omega) (by omega) (by omega) _ _
   clear hK Kc
   refine wpAnyH_done (by kernel_rfl) ?_ _
   go_wp2
   have z2:WF.heap.size≤w20.heap.size:=b20.size
   exact bodyPost_ret (v:= .tuple #[.agg #[.int .i64 s6, .slice d6 l6 c6], .agg #[.int .i64 s21, .slice d21 l21 c21]]) (by simp [results,Tryz.results61,go_sem, *]) rfl (endRF (((eq.below ((Below.refl _ _).drew)).below b20).below b21) h21 (also (also eb.drew b20) b21) (F6 _ (by omega)) (F6 _ (by omega)) (f21 _ (Nat.lt_of_lt_of_le (Nat.lt_trans g2 (bx_lt e8)) z2) ⟨n2,f20 _ (Nat.lt_trans g2 (bx_lt e8.drew)) trivial⟩) (f21 _ (Nat.lt_of_lt_of_le (Nat.lt_trans g8 (bx_lt e8)) z2) ⟨n3,f20 _ (Nat.lt_trans g8 (bx_lt e8.drew)) trivial⟩) (F6.mono (by omega)) _ _ _ _)
 ·have HQ1:Hid (Q=z0):=by have:=HQ.out;rw [if_neg hadj,Int.sub_zero]at this;exact this
  clear HQ
  have hnot: ¬(sd<0∧0<lr):=fun hh=>hadj ⟨hh.1,fun e=>by have:=hlr.2 e;omega⟩
  clear hlr hadj
  by_cases hsn:sd<0
  ·have hl0:lr=0:=by
    rcases Nat.eq_zero_or_pos lr with e|e
    ·exact e
    ·exact absurd ⟨hsn,e⟩ hnot
   subst hl0
   clear hnot
   go_wp2
   have e8:=x8
   have eA:=XA
   have eB:=XB
   have e4:=X4
   have e5:=X5
   have ex:=hxB
   have ey:=hyB
   have eq:=H2
   have eb:=BW
   rw [←HQ1.out]at eq
   clear x8 k0 k1 k2 k3 j0 j1 j2 j3 XA XB X4 X5 hxB hyB H2 BW
   generalize w2.alloc (.cells #[.int .i64 s2, .slice a2 l2 c2] 102)=WF at e8 eA eB e4 e5 ex ey eq eb b3 ⊢
   generalize w2.heap.size=b8 at e8 g8 nx8 ny8 n82 ⊢
   have g2:w.heap.size+1+1<b8:=by omega
   refine wp_region_held_drew (S:=(fun w'=>w'.cell? ⟨b8,0,none⟩=some (.int .i64 s2)∧w'.cell? ⟨b8,1,none⟩=some (.slice a2 l2 c2)∧w'.cell? ⟨w.heap.size,0,none⟩=some (.int .i64 s)∧w'.cell? ⟨w.heap.size,1,none⟩=some (.slice d l c)∧w'.cell? ⟨w.heap.size+1,0,none⟩=some (.int .i64 t)∧w'.cell? ⟨w.heap.size+1,1,none⟩=some (.slice g h k)∧Below w.heap.size w w')) (by kernel_rfl) ?_ (fun hHeld=>?_)
   ·first|exact keepC3 hHeld b21|exact keepC3 hHeld b20|exact⟨e8.c0,e8.c1,eA.c0,eA.c1,eB.c0,eB.c1,eb.drew⟩|exact keepP3 hHeld (by omega) (by omega) (by omega) (by omega) _ _
   refine tn 0 ?_;refine tn 1 ?_;refine tn 2 ?_;refine tn 3 ?_
   simp only [Act.put,ps1,ps2,ps3]
   refine tcl 4 fun Kc hK=>?_
   go_simp
   (go_at_call 42;refine(rwMul s2 t a2 g l2 c2 h k Q y (Q*y) _ (eq.below ((Below.refl _ _).drew)) (ey.below ((Below.refl _ _).drew)) fq fy rfl).mono ?_;rintro e w20 ⟨s20,d20,l20,c20,rfl,h20,f20,b20⟩)
   refine hK.out _ _ ?_ (fun hHeld=>?_)
   ·first|exact keepC3 hHeld b21|exact keepC3 hHeld b20|exact⟨e8.c0,e8.c1,eA.c0,eA.c1,eB.c0,eB.c1,eb.drew⟩|exact keepP3 hHeld (by omega) (by omega) (by omega) (by omega) _ _
   clear hK Kc
   refine tcl 5 fun Kc hK=>?_
   go_simp
   (go_at_call 110;refine(rwSub s s20 d d20 l c l20 c20 x (Q*y) R _ ((ex.below ((Below.refl _ _).drew)).below b20) h20 fx fp HR.out).mono ?_;rintro e w21 ⟨s21,d21,l21,c21,rfl,h21,f21,b21⟩)
   refine hK.out _ _ ?_ (fun hHeld=>?_)
   ·first|exact keepC3 hHeld b21|exact keepC3 hHeld b20|exact⟨e8.c0,e8.c1,eA.c0,eA.c1,eB.c0,eB.c1,eb.drew⟩|exact keepP3 hHeld (by omega) (by omega) (by omega) (by omega) _ _
   clear hK Kc
   obtain⟨k0,k1,k2,k3⟩:=(e4.drew.on b20).on b21
   refine tcl 6 fun Kc hK=>?_
   go_simp
   refine hK.out _ _ ?_ (fun hHeld=>?_)
   ·first|exact keepC3 hHeld b21|exact keepC3 hHeld b20|exact⟨e8.c0,e8.c1,eA.c0,eA.c1,eB.c0,eB.c1,eb.drew⟩|exact keepP3 hHeld (by omega) (by omega) (by omega) (by omega) _ _
   clear hK Kc
   obtain⟨j0,j1,j2,j3⟩:Bx ((w21.setCell ⟨w.heap.size+1+1,0,none⟩ (.int .i64 s2)).setCell ⟨w.heap.size+1+1,1,none⟩ (.slice a2 l2 c2)) (w.heap.size+1+1+1) (.int .i64 0) (.slice none 0 0):=(((e5.drew.on b20).on b21).put (by omega)).put (by omega)
   refine tcl 7 fun Kc hK=>?_
   go_simp
   refine hK.out _ _ ?_ (fun hHeld=>?_)
   ·first|exact keepC3 hHeld b21|exact keepC3 hHeld b20|exact⟨e8.c0,e8.c1,eA.c0,eA.c1,eB.c0,eB.c1,eb.drew⟩|exact keepP3 hHeld (by omega) (by omega) (by omega) (by omega) _ _
   clear hK Kc
   refine wpAnyH_done (by kernel_rfl) ?_ _
   go_wp2
   have z2:WF.heap.size≤w20.heap.size:=b20.size
   exact bodyPost_ret (v:= .tuple #[.agg #[.int .i64 s2, .slice a2 l2 c2], .agg #[.int .i64 s21, .slice d21 l21 c21]]) (by simp [results,Tryz.results61,go_sem, *]) rfl (endRF (((eq.below ((Below.refl _ _).drew)).below b20).below b21) h21 (also (also eb.drew b20) b21) (F2 _ (by omega)) (F2 _ (by omega)) (f21 _ (Nat.lt_of_lt_of_le (Nat.lt_trans g2 (bx_lt e8)) z2) ⟨n2,f20 _ (Nat.lt_trans g2 (bx_lt e8.drew)) trivial⟩) (f21 _ (Nat.lt_of_lt_of_le (Nat.lt_trans g8 (bx_lt e8)) z2) ⟨n3,f20 _ (Nat.lt_trans g8 (bx_lt e8.drew)) trivial⟩) (F2.mono (by omega)) _ _ _ _)
  ·clear hnot
   have hsn':decide (sd<0)=false:=by simpa using hsn
   go_wp2
   have e8:=x8
   have eA:=XA
   have eB:=XB
   have e4:=X4
   have e5:=X5
   have ex:=hxB
   have ey:=hyB
   have eq:=H2
   have eb:=BW
   rw [←HQ1.out]at eq
   clear x8 k0 k1 k2 k3 j0 j1 j2 j3 XA XB X4 X5 hxB hyB H2 BW
   generalize w2.alloc (.cells #[.int .i64 s2, .slice a2 l2 c2] 102)=WF at e8 eA eB e4 e5 ex ey eq eb b3 ⊢
   generalize w2.heap.size=b8 at e8 g8 nx8 ny8 n82 ⊢
   have g2:w.heap.size+1+1<b8:=by omega
   refine wp_region_held_drew (S:=(fun w'=>w'.cell? ⟨b8,0,none⟩=some (.int .i64 s2)∧w'.cell? ⟨b8,1,none⟩=some (.slice a2 l2 c2)∧w'.cell? ⟨w.heap.size,0,none⟩=some (.int .i64 s)∧w'.cell? ⟨w.heap.size,1,none⟩=some (.slice d l c)∧w'.cell? ⟨w.heap.size+1,0,none⟩=some (.int .i64 t)∧w'.cell? ⟨w.heap.size+1,1,none⟩=some (.slice g h k)∧Below w.heap.size w w')) (by kernel_rfl) ?_ (fun hHeld=>?_)
   ·first|exact keepC3 hHeld b21|exact keepC3 hHeld b20|exact⟨e8.c0,e8.c1,eA.c0,eA.c1,eB.c0,eB.c1,eb.drew⟩|exact keepP3 hHeld (by omega) (by omega) (by omega) (by omega) _ _
   refine tn 0 ?_;refine tn 1 ?_;refine tn 2 ?_;refine tn 3 ?_
   simp only [Act.put,ps1,ps2,ps3]
   refine tcl 4 fun Kc hK=>?_
   go_simp
   (go_at_call 42;refine(rwMul s2 t a2 g l2 c2 h k Q y (Q*y) _ (eq.below ((Below.refl _ _).drew)) (ey.below ((Below.refl _ _).drew)) fq fy rfl).mono ?_;rintro e w20 ⟨s20,d20,l20,c20,rfl,h20,f20,b20⟩)
   refine hK.out _ _ ?_ (fun hHeld=>?_)
   ·first|exact keepC3 hHeld b21|exact keepC3 hHeld b20|exact⟨e8.c0,e8.c1,eA.c0,eA.c1,eB.c0,eB.c1,eb.drew⟩|exact keepP3 hHeld (by omega) (by omega) (by omega) (by omega) _ _
   clear hK Kc
   refine tcl 5 fun Kc hK=>?_
   go_simp
   (go_at_call 110;refine(rwSub s s20 d d20 l c l20 c20 x (Q*y) R _ ((ex.below ((Below.refl _ _).drew)).below b20) h20 fx fp HR.out).mono ?_;rintro e w21 ⟨s21,d21,l21,c21,rfl,h21,f21,b21⟩)
   refine hK.out _ _ ?_ (fun hHeld=>?_)
   ·first|exact keepC3 hHeld b21|exact keepC3 hHeld b20|exact⟨e8.c0,e8.c1,eA.c0,eA.c1,eB.c0,eB.c1,eb.drew⟩|exact keepP3 hHeld (by omega) (by omega) (by omega) (by omega) _ _
   clear hK Kc
   obtain⟨k0,k1,k2,k3⟩:=(e4.drew.on b20).on b21
   refine tcl 6 fun Kc hK=>?_
   go_simp
   refine hK.out _ _ ?_ (fun hHeld=>?_)
   ·first|exact keepC3 hHeld b21|exact keepC3 hHeld b20|exact⟨e8.c0,e8.c1,eA.c0,eA.c1,eB.c0,eB.c1,eb.drew⟩|exact keepP3 hHeld (by omega) (by omega) (by omega) (by omega) _ _
   clear hK Kc
   obtain⟨j0,j1,j2,j3⟩:Bx ((w21.setCell ⟨w.heap.size+1+1,0,none⟩ (.int .i64 s2)).setCell ⟨w.heap.size+1+1,1,none⟩ (.slice a2 l2 c2)) (w.heap.size+1+1+1) (.int .i64 0) (.slice none 0 0):=(((e5.drew.on b20).on b21).put (by omega)).put (by omega)
   refine tcl 7 fun Kc hK=>?_
   go_simp
   refine hK.out _ _ ?_ (fun hHeld=>?_)
   ·first|exact keepC3 hHeld b21|exact keepC3 hHeld b20|exact⟨e8.c0,e8.c1,eA.c0,eA.c1,eB.c0,eB.c1,eb.drew⟩|exact keepP3 hHeld (by omega) (by omega) (by omega) (by omega) _ _
   clear hK Kc
   refine wpAnyH_done (by kernel_rfl) ?_ _
   go_wp2
   have z2:WF.heap.size≤w20.heap.size:=b20.size
   exact bodyPost_ret (v:= .tuple #[.agg #[.int .i64 s2, .slice a2 l2 c2], .agg #[.int .i64 s21, .slice d21 l21 c21]]) (by simp [results,Tryz.results61,go_sem, *]) rfl (endRF (((eq.below ((Below.refl _ _).drew)).below b20).below b21) h21 (also (also eb.drew b20) b21) (F2 _ (by omega)) (F2 _ (by omega)) (f21 _ (Nat.lt_of_lt_of_le (Nat.lt_trans g2 (bx_lt e8)) z2) ⟨n2,f20 _ (Nat.lt_trans g2 (bx_lt e8.drew)) trivial⟩) (f21 _ (Nat.lt_of_lt_of_le (Nat.lt_trans g8 (bx_lt e8)) z2) ⟨n3,f20 _ (Nat.lt_trans g8 (bx_lt e8.drew)) trivial⟩) (F2.mono (by omega)) _ _ _ _)
end Go.Proofs.YtaadknpjbogkbaaGreat
