/-
  Joined texts, part 6:
  What zelligeref06's At answers.
-/
import Derived.Test.YtaadknpjbogkbaaGreatP5
import Derived.Test.YtaadknpjbogkbaaGreatP3
namespace Go.Proofs.YtaadknpjbogkbaaGreat
open Go.RowKit
set_option linter.unusedVariables false
theorem few_prod{i s:Int}(hi: -9223372036854775808≤i∧i≤9223372036854775807)(hs: -9223372036854775808≤s∧s≤9223372036854775807):(i*s).natAbs≤9223372036854775808*9223372036854775808:=by
 rw [Int.natAbs_mul]
 exact Nat.mul_le_mul (by omega) (by omega)
theorem few_mul{i s:Int}(hi: -9223372036854775808≤i∧i≤9223372036854775807)(hs: -9223372036854775808≤s∧s≤9223372036854775807):hf.nlen (i*s).natAbs≤1000000:=
 hfew (K:=4) (Nat.lt_of_le_of_lt (few_prod hi hs) (by decide)) (by decide)
theorem few_sum{x i s:Int}(hx: -9223372036854775808≤x∧x≤9223372036854775807)(hi: -9223372036854775808≤i∧i≤9223372036854775807)(hs: -9223372036854775808≤s∧s≤9223372036854775807):hf.nlen (x+i*s).natAbs≤1000000:=by
 have h:=few_prod hi hs
 refine hfew (K:=4) ?_ (by decide)
 have e:(4294967296:Nat)^4=340282366920938463463374607431768211456:=by decide
 rw [e]
 omega
theorem sm_in{z:Int}(h:inC z=true):z=smV z∧true=smOk z:=by
 have:=inC_true.1 h
 have e:smOk z=true:=by unfold smOk;exact decide_eq_true (by omega)
 exact⟨by unfold smV;rw [e];rfl,e.symm⟩
set_option maxRecDepth 100000 in
set_option maxHeartbeats 20000000 in
theorem rlAt(x y i k s:Int)(w:World)(BX:Hid (-9223372036854775808≤x∧x≤9223372036854775807))(BY:Hid (-9223372036854775808≤y∧y≤9223372036854775807))(BI:Hid (-9223372036854775808≤i∧i≤9223372036854775807))(BK:Hid (-9223372036854775808≤k∧k≤9223372036854775807))(BS:Hid (-9223372036854775808≤s∧s≤9223372036854775807)){u v:Int}{b:Bool}(hb:b=atC x y i k s)(hu:u=if b then x+i*s else 0)(hv:v=if b then y+k*s else 0):
  Calls Tryz.prog 15 #[.agg #[.int .i64 x, .int .i64 y], .agg #[.int .i64 i, .int .i64 k], .int .i64 s] w fun e w'=>e= .returned (.tuple #[.agg #[.int .i64 u, .int .i64 v], .bool b])∧Below w.heap.size w w':=by
 have HOK:Hid _:=hb
 have HU:Hid _:=hu
 have HV:Hid _:=hv
 clear hb hu hv
 obtain⟨P,hP⟩: ∃ P,P=i*s:=⟨_,rfl⟩
 have HP:Hid _:=hP
 obtain⟨R,hR⟩: ∃ R,R=k*s:=⟨_,rfl⟩
 have HR:Hid _:=hR
 obtain⟨A,hA⟩: ∃ A,A=x+P:=⟨_,rfl⟩
 have HA:Hid _:=hA
 obtain⟨B,hB⟩: ∃ B,B=y+R:=⟨_,rfl⟩
 have HB:Hid _:=hB
 have FP:Hid (hf.nlen P.natAbs≤1000000):=by unfold Hid;rw [hP];exact few_mul BI.out BS.out
 have FR:Hid (hf.nlen R.natAbs≤1000000):=by unfold Hid;rw [hR];exact few_mul BK.out BS.out
 have FA:Hid (hf.nlen A.natAbs≤1000000):=by unfold Hid;rw [hA,hP];exact few_sum BX.out BI.out BS.out
 have FB:Hid (hf.nlen B.natAbs≤1000000):=by unfold Hid;rw [hB,hR];exact few_sum BY.out BK.out BS.out
 have EA:Hid (A=x+i*s):=by unfold Hid;rw [hA,hP]
 have EB:Hid (B=y+k*s):=by unfold Hid;rw [hB,hR]
 clear hP hR hA hB
 obtain⟨W,hW,bW,x_p,x_o,x_z,sW⟩:=bs_222 w (.int .i64 x) (.int .i64 y) (.int .i64 i) (.int .i64 k) (.int .i64 0) (.int .i64 0) 24 32 24
 have zbW:=bW.size
 have BB:=bW
 go_enter Tryz.func15,Tryz.ntmps15
 go_wp2
 rw [←hW]
 clear hW
 obtain⟨QQ,hQQ⟩: ∃ QQ:Exit→Act→World→Prop,QQ=fun e act wr=>e= .normal∧ ∃ (pa:Nat) (s2:Int) (d2:Option Addr) (l2 c2:Nat) (s3:Int) (d3:Option Addr) (l3 c3:Nat) (s4:Int) (d4:Option Addr) (l4 c4:Nat) (s5:Int) (d5:Option Addr) (l5 c5:Nat) (s6:Int) (d6:Option Addr) (l6 c6:Nat),act=⟨#[.agg #[.int .i64 x, .int .i64 y], .agg #[.int .i64 i, .int .i64 k], .int .i64 s, .pointer (some ⟨w.heap.size,0,none⟩), .pointer (some ⟨w.heap.size+1,0,none⟩),undef, .pointer (some ⟨w.heap.size+1+1,0,none⟩), .bool false, .pointer (some ⟨pa,0,none⟩),undef,undef,undef,undef,undef, .pointer (some ⟨w.heap.size,0,none⟩), .int .i64 x, .agg #[.int .i64 s2, .slice d2 l2 c2], .pointer (some ⟨w.heap.size+1,0,none⟩), .int .i64 i, .agg #[.int .i64 s3, .slice d3 l3 c3], .int .i64 s, .agg #[.int .i64 s4, .slice d4 l4 c4], .agg #[.int .i64 s5, .slice d5 l5 c5], .agg #[.int .i64 s6, .slice d6 l6 c6],undef,undef,undef,undef,undef,undef,undef,undef,undef,undef,undef,undef,undef,undef,undef,undef,undef,undef,undef,undef,undef,undef,undef,undef,undef,undef,undef,undef,undef,undef,undef,undef,undef,undef,undef,undef,undef,undef,undef,undef,undef,undef], []⟩∧RN wr s2 d2 l2 c2 x∧RN wr s3 d3 l3 c3 i∧RN wr s4 d4 l4 c4 s∧RN wr s5 d5 l5 c5 P∧RN wr s6 d6 l6 c6 A∧Bx wr (w.heap.size) (.int .i64 x) (.int .i64 y)∧Bx wr (w.heap.size+1) (.int .i64 i) (.int .i64 k)∧Bx wr (w.heap.size+1+1) (.int .i64 0) (.int .i64 0)∧Bx wr pa (.int .i64 s6) (.slice d6 l6 c6)∧Below w.heap.size w wr∧W.heap.size≤wr.heap.size∧(W.heap.size≤pa∧pa<wr.heap.size):=⟨_,rfl⟩
 have HQQ:Hid _:=hQQ
 clear hQQ
 refine wp_mono (Q:=QQ) ?_ ?_
 ·refine wp_region_held_drew (S:=(fun w'=>w'.cell? ⟨w.heap.size,0,none⟩=some (.int .i64 x)∧w'.cell? ⟨w.heap.size,1,none⟩=some (.int .i64 y)∧w'.cell? ⟨w.heap.size+1,0,none⟩=some (.int .i64 i)∧w'.cell? ⟨w.heap.size+1,1,none⟩=some (.int .i64 k)∧Below w.heap.size w w')) (by kernel_rfl) ?_ (fun hHeld=>?_)
  ·exact⟨x_p.c0,x_p.c1,x_o.c0,x_o.c1,BB.drew⟩
  refine tQ 0 ?_
  simp only [Act.put,ps1,ps2,ps3]
  refine tQ 1 ?_
  simp only [Act.put,ps1,ps2,ps3]
  refine tQ 3 ?_
  simp only [Act.put,ps1,ps2,ps3]
  refine tQ 4 ?_
  simp only [Act.put,ps1,ps2,ps3]
  refine tQ 6 ?_
  simp only [Act.put,ps1,ps2,ps3]
  have b0:Below W.heap.size W W.drew:=(Below.refl _ _).drew
  have BU:=b0
  generalize W.drew=X0 at b0 BU hHeld ⊢
  replace x_p:=x_p.on b0
  replace x_o:=x_o.on b0
  replace x_z:=x_z.on b0
  replace BB:=also BB b0
  refine wpAnyH_ready (rs:= [2,10]) (by kernel_rfl) (by simp) (AllReadyH.cons (i:=2) rfl (fun Kc hK=>?_) (AllReadyH.cons (i:=10) rfl (fun Kc hK=>?_) AllReadyH.nil))
  ·skip
   go_simp
   (go_at_call 39;refine(rwLong x _ BX.out.1 BX.out.2).mono ?_;rintro e X1 ⟨s2,d2,l2,c2,rfl,r2,f2,e1⟩)
   refine hK.out _ _ ⟨cell_on e1 hHeld.1,cell_on e1 hHeld.2.1,cell_on e1 hHeld.2.2.1,cell_on e1 hHeld.2.2.2.1,also hHeld.2.2.2.2 e1⟩ (fun hHeld=>?_)
   clear hK Kc
   replace x_p:=x_p.on e1
   replace x_o:=x_o.on e1
   replace x_z:=x_z.on e1
   replace BB:=also BB e1
   replace BU:=also BU e1
   refine wpAnyH_ready (rs:= [5,10]) (by kernel_rfl) (by simp) (AllReadyH.cons (i:=5) rfl (fun Kc hK=>?_) (AllReadyH.cons (i:=10) rfl (fun Kc hK=>?_) AllReadyH.nil))
   ·skip
    go_simp
    (go_at_call 39;refine(rwLong i _ BI.out.1 BI.out.2).mono ?_;rintro e X2 ⟨s3,d3,l3,c3,rfl,r3,f3,e2⟩)
    refine hK.out _ _ ⟨cell_on e2 hHeld.1,cell_on e2 hHeld.2.1,cell_on e2 hHeld.2.2.1,cell_on e2 hHeld.2.2.2.1,also hHeld.2.2.2.2 e2⟩ (fun hHeld=>?_)
    clear hK Kc
    replace r2:=r2.below e2
    replace x_p:=x_p.on e2
    replace x_o:=x_o.on e2
    replace x_z:=x_z.on e2
    replace BB:=also BB e2
    replace BU:=also BU e2
    refine wpAnyH_ready (rs:= [7,10]) (by kernel_rfl) (by simp) (AllReadyH.cons (i:=7) rfl (fun Kc hK=>?_) (AllReadyH.cons (i:=10) rfl (fun Kc hK=>?_) AllReadyH.nil))
    ·skip
     go_simp
     (go_at_call 39;refine(rwLong s _ BS.out.1 BS.out.2).mono ?_;rintro e X3 ⟨s4,d4,l4,c4,rfl,r4,f4,e3⟩)
     refine hK.out _ _ ⟨cell_on e3 hHeld.1,cell_on e3 hHeld.2.1,cell_on e3 hHeld.2.2.1,cell_on e3 hHeld.2.2.2.1,also hHeld.2.2.2.2 e3⟩ (fun hHeld=>?_)
     clear hK Kc
     replace r2:=r2.below e3
     replace r3:=r3.below e3
     replace x_p:=x_p.on e3
     replace x_o:=x_o.on e3
     replace x_z:=x_z.on e3
     replace BB:=also BB e3
     replace BU:=also BU e3
     refine wpAnyH_ready (rs:= [8,10]) (by kernel_rfl) (by simp) (AllReadyH.cons (i:=8) rfl (fun Kc hK=>?_) (AllReadyH.cons (i:=10) rfl (fun Kc hK=>?_) AllReadyH.nil))
     ·skip
      go_simp
      (go_at_call 42;refine(rwMul s3 s4 d3 d4 l3 c3 l4 c4 i s P _ r3 r4 (few_i64 BI.out) (few_i64 BS.out) HP.out).mono ?_;rintro e X4 ⟨s5,d5,l5,c5,rfl,r5,f5,e4⟩)
      refine hK.out _ _ ⟨cell_on e4 hHeld.1,cell_on e4 hHeld.2.1,cell_on e4 hHeld.2.2.1,cell_on e4 hHeld.2.2.2.1,also hHeld.2.2.2.2 e4⟩ (fun hHeld=>?_)
      clear hK Kc
      replace r2:=r2.below e4
      replace r3:=r3.below e4
      replace r4:=r4.below e4
      replace x_p:=x_p.on e4
      replace x_o:=x_o.on e4
      replace x_z:=x_z.on e4
      replace BB:=also BB e4
      replace BU:=also BU e4
      refine wpAnyH_ready (rs:= [9,10]) (by kernel_rfl) (by simp) (AllReadyH.cons (i:=9) rfl (fun Kc hK=>?_) (AllReadyH.cons (i:=10) rfl (fun Kc hK=>?_) AllReadyH.nil))
      ·skip
       go_simp
       (go_at_call 41;refine(rwAdd s2 s5 d2 d5 l2 c2 l5 c5 x P A _ r2 r5 (few_i64 BX.out) FP.out HA.out).mono ?_;rintro e X5 ⟨s6,d6,l6,c6,rfl,r6,f6,e5⟩)
       refine hK.out _ _ ⟨cell_on e5 hHeld.1,cell_on e5 hHeld.2.1,cell_on e5 hHeld.2.2.1,cell_on e5 hHeld.2.2.2.1,also hHeld.2.2.2.2 e5⟩ (fun hHeld=>?_)
       clear hK Kc
       replace r2:=r2.below e5
       replace r3:=r3.below e5
       replace r4:=r4.below e5
       replace r5:=r5.below e5
       replace x_p:=x_p.on e5
       replace x_o:=x_o.on e5
       replace x_z:=x_z.on e5
       replace BB:=also BB e5
       replace BU:=also BU e5
       refine tcl 10 fun Kc hK=>?_
       go_simp
       refine hK.out _ _ ⟨cell_on ((Below.refl _ _).alloc (Nat.le_refl _) _) hHeld.1,cell_on ((Below.refl _ _).alloc (Nat.le_refl _) _) hHeld.2.1,cell_on ((Below.refl _ _).alloc (Nat.le_refl _) _) hHeld.2.2.1,cell_on ((Below.refl _ _).alloc (Nat.le_refl _) _) hHeld.2.2.2.1,also hHeld.2.2.2.2 ((Below.refl _ _).alloc (Nat.le_refl _) _)⟩ (fun hHeld=>?_)
       clear hK Kc
       have y_pa:=bx_new X5 (.int .i64 0) (.slice none 0 0) 102
       have e6:Below X5.heap.size X5 (X5.alloc (.cells #[.int .i64 0, .slice none 0 0] 102)):=(Below.refl _ _).alloc (Nat.le_refl _) _
       have lpa:X5.heap.size<(X5.alloc (.cells #[.int .i64 0, .slice none 0 0] 102)).heap.size:=by simp
       have gpa:W.heap.size≤X5.heap.size:=BU.size
       have n_r2_0_pa:NA X5.heap.size d2 l2:=r2.hd.sl.na (Nat.le_refl _)
       have n_r3_0_pa:NA X5.heap.size d3 l3:=r3.hd.sl.na (Nat.le_refl _)
       have n_r4_0_pa:NA X5.heap.size d4 l4:=r4.hd.sl.na (Nat.le_refl _)
       have n_r5_0_pa:NA X5.heap.size d5 l5:=r5.hd.sl.na (Nat.le_refl _)
       have n_r6_0_pa:NA X5.heap.size d6 l6:=r6.hd.sl.na (Nat.le_refl _)
       generalize X5.alloc (.cells #[.int .i64 0, .slice none 0 0] 102)=X6 at y_pa e6 lpa hHeld ⊢
       replace r2:=r2.below e6
       replace r3:=r3.below e6
       replace r4:=r4.below e6
       replace r5:=r5.below e6
       replace r6:=r6.below e6
       replace x_p:=x_p.on e6
       replace x_o:=x_o.on e6
       replace x_z:=x_z.on e6
       replace BB:=also BB e6
       replace BU:=also BU e6
       generalize X5.heap.size=pa at y_pa lpa gpa n_r2_0_pa n_r3_0_pa n_r4_0_pa n_r5_0_pa n_r6_0_pa ⊢
       have⟨c_pa_0,c_pa_1,c_pa_2,c_pa_3⟩:Bx X6 pa (.int .i64 0) (.slice none 0 0):=y_pa
       refine tcl 11 fun Kc hK=>?_
       go_simp
       refine hK.out _ _ ⟨cell_put2 hHeld.1 (by omega) _ _,cell_put2 hHeld.2.1 (by omega) _ _,cell_put2 hHeld.2.2.1 (by omega) _ _,cell_put2 hHeld.2.2.2.1 (by omega) _ _,below_put2 hHeld.2.2.2.2 (by omega) _ _⟩ (fun hHeld=>?_)
       clear hK Kc
       refine wpAnyH_done (by kernel_rfl) ?_ _
       rw [HQQ.out]
       exact⟨rfl,pa,s2,d2,l2,c2,s3,d3,l3,c3,s4,d4,l4,c4,s5,d5,l5,c5,s6,d6,l6,c6,rfl,((r2.put n_r2_0_pa 0 _).put n_r2_0_pa 1 _),((r3.put n_r3_0_pa 0 _).put n_r3_0_pa 1 _),((r4.put n_r4_0_pa 0 _).put n_r4_0_pa 1 _),((r5.put n_r5_0_pa 0 _).put n_r5_0_pa 1 _),((r6.put n_r6_0_pa 0 _).put n_r6_0_pa 1 _),((x_p.put (by omega)).put (by omega)),((x_o.put (by omega)).put (by omega)),((x_z.put (by omega)).put (by omega)),y_pa.set,(below_put2 BB (by omega) _ _),by have:=BU.size;simp only [World.size_setCell];omega,⟨gpa,by simp only [World.size_setCell];omega⟩⟩
      ·skip
       go_simp
       refine hK.out _ _ ⟨cell_on ((Below.refl _ _).alloc (Nat.le_refl _) _) hHeld.1,cell_on ((Below.refl _ _).alloc (Nat.le_refl _) _) hHeld.2.1,cell_on ((Below.refl _ _).alloc (Nat.le_refl _) _) hHeld.2.2.1,cell_on ((Below.refl _ _).alloc (Nat.le_refl _) _) hHeld.2.2.2.1,also hHeld.2.2.2.2 ((Below.refl _ _).alloc (Nat.le_refl _) _)⟩ (fun hHeld=>?_)
       clear hK Kc
       have y_pa:=bx_new X4 (.int .i64 0) (.slice none 0 0) 102
       have e7:Below X4.heap.size X4 (X4.alloc (.cells #[.int .i64 0, .slice none 0 0] 102)):=(Below.refl _ _).alloc (Nat.le_refl _) _
       have lpa:X4.heap.size<(X4.alloc (.cells #[.int .i64 0, .slice none 0 0] 102)).heap.size:=by simp
       have gpa:W.heap.size≤X4.heap.size:=BU.size
       have n_r2_0_pa:NA X4.heap.size d2 l2:=r2.hd.sl.na (Nat.le_refl _)
       have n_r3_0_pa:NA X4.heap.size d3 l3:=r3.hd.sl.na (Nat.le_refl _)
       have n_r4_0_pa:NA X4.heap.size d4 l4:=r4.hd.sl.na (Nat.le_refl _)
       have n_r5_0_pa:NA X4.heap.size d5 l5:=r5.hd.sl.na (Nat.le_refl _)
       generalize X4.alloc (.cells #[.int .i64 0, .slice none 0 0] 102)=X7 at y_pa e7 lpa hHeld ⊢
       replace r2:=r2.below e7
       replace r3:=r3.below e7
       replace r4:=r4.below e7
       replace r5:=r5.below e7
       replace x_p:=x_p.on e7
       replace x_o:=x_o.on e7
       replace x_z:=x_z.on e7
       replace BB:=also BB e7
       replace BU:=also BU e7
       generalize X4.heap.size=pa at y_pa lpa gpa n_r2_0_pa n_r3_0_pa n_r4_0_pa n_r5_0_pa ⊢
       refine tcl 9 fun Kc hK=>?_
       go_simp
       (go_at_call 41;refine(rwAdd s2 s5 d2 d5 l2 c2 l5 c5 x P A _ r2 r5 (few_i64 BX.out) FP.out HA.out).mono ?_;rintro e X8 ⟨s6,d6,l6,c6,rfl,r6,f6,e8⟩)
       refine hK.out _ _ ⟨cell_on e8 hHeld.1,cell_on e8 hHeld.2.1,cell_on e8 hHeld.2.2.1,cell_on e8 hHeld.2.2.2.1,also hHeld.2.2.2.2 e8⟩ (fun hHeld=>?_)
       clear hK Kc
       have n_r6_0_pa:NA pa d6 l6:=f6 pa lpa ⟨n_r2_0_pa,n_r5_0_pa⟩
       replace r2:=r2.below e8
       replace r3:=r3.below e8
       replace r4:=r4.below e8
       replace r5:=r5.below e8
       replace x_p:=x_p.on e8
       replace x_o:=x_o.on e8
       replace x_z:=x_z.on e8
       replace BB:=also BB e8
       replace BU:=also BU e8
       replace y_pa:=y_pa.on e8
       replace lpa:=Nat.lt_of_lt_of_le lpa e8.size
       have⟨c_pa_0,c_pa_1,c_pa_2,c_pa_3⟩:Bx X8 pa (.int .i64 0) (.slice none 0 0):=y_pa
       refine tcl 11 fun Kc hK=>?_
       go_simp
       refine hK.out _ _ ⟨cell_put2 hHeld.1 (by omega) _ _,cell_put2 hHeld.2.1 (by omega) _ _,cell_put2 hHeld.2.2.1 (by omega) _ _,cell_put2 hHeld.2.2.2.1 (by omega) _ _,below_put2 hHeld.2.2.2.2 (by omega) _ _⟩ (fun hHeld=>?_)
       clear hK Kc
       refine wpAnyH_done (by kernel_rfl) ?_ _
       rw [HQQ.out]
       exact⟨rfl,pa,s2,d2,l2,c2,s3,d3,l3,c3,s4,d4,l4,c4,s5,d5,l5,c5,s6,d6,l6,c6,rfl,((r2.put n_r2_0_pa 0 _).put n_r2_0_pa 1 _),((r3.put n_r3_0_pa 0 _).put n_r3_0_pa 1 _),((r4.put n_r4_0_pa 0 _).put n_r4_0_pa 1 _),((r5.put n_r5_0_pa 0 _).put n_r5_0_pa 1 _),((r6.put n_r6_0_pa 0 _).put n_r6_0_pa 1 _),((x_p.put (by omega)).put (by omega)),((x_o.put (by omega)).put (by omega)),((x_z.put (by omega)).put (by omega)),y_pa.set,(below_put2 BB (by omega) _ _),by have:=BU.size;simp only [World.size_setCell];omega,⟨gpa,by simp only [World.size_setCell];omega⟩⟩
     ·skip
      go_simp
      refine hK.out _ _ ⟨cell_on ((Below.refl _ _).alloc (Nat.le_refl _) _) hHeld.1,cell_on ((Below.refl _ _).alloc (Nat.le_refl _) _) hHeld.2.1,cell_on ((Below.refl _ _).alloc (Nat.le_refl _) _) hHeld.2.2.1,cell_on ((Below.refl _ _).alloc (Nat.le_refl _) _) hHeld.2.2.2.1,also hHeld.2.2.2.2 ((Below.refl _ _).alloc (Nat.le_refl _) _)⟩ (fun hHeld=>?_)
      clear hK Kc
      have y_pa:=bx_new X3 (.int .i64 0) (.slice none 0 0) 102
      have e9:Below X3.heap.size X3 (X3.alloc (.cells #[.int .i64 0, .slice none 0 0] 102)):=(Below.refl _ _).alloc (Nat.le_refl _) _
      have lpa:X3.heap.size<(X3.alloc (.cells #[.int .i64 0, .slice none 0 0] 102)).heap.size:=by simp
      have gpa:W.heap.size≤X3.heap.size:=BU.size
      have n_r2_0_pa:NA X3.heap.size d2 l2:=r2.hd.sl.na (Nat.le_refl _)
      have n_r3_0_pa:NA X3.heap.size d3 l3:=r3.hd.sl.na (Nat.le_refl _)
      have n_r4_0_pa:NA X3.heap.size d4 l4:=r4.hd.sl.na (Nat.le_refl _)
      generalize X3.alloc (.cells #[.int .i64 0, .slice none 0 0] 102)=X9 at y_pa e9 lpa hHeld ⊢
      replace r2:=r2.below e9
      replace r3:=r3.below e9
      replace r4:=r4.below e9
      replace x_p:=x_p.on e9
      replace x_o:=x_o.on e9
      replace x_z:=x_z.on e9
      replace BB:=also BB e9
      replace BU:=also BU e9
      generalize X3.heap.size=pa at y_pa lpa gpa n_r2_0_pa n_r3_0_pa n_r4_0_pa ⊢
      refine tcl 8 fun Kc hK=>?_
      go_simp
      (go_at_call 42;refine(rwMul s3 s4 d3 d4 l3 c3 l4 c4 i s P _ r3 r4 (few_i64 BI.out) (few_i64 BS.out) HP.out).mono ?_;rintro e X10 ⟨s5,d5,l5,c5,rfl,r5,f5,e10⟩)
      refine hK.out _ _ ⟨cell_on e10 hHeld.1,cell_on e10 hHeld.2.1,cell_on e10 hHeld.2.2.1,cell_on e10 hHeld.2.2.2.1,also hHeld.2.2.2.2 e10⟩ (fun hHeld=>?_)
      clear hK Kc
      have n_r5_0_pa:NA pa d5 l5:=f5 pa lpa trivial
      replace r2:=r2.below e10
      replace r3:=r3.below e10
      replace r4:=r4.below e10
      replace x_p:=x_p.on e10
      replace x_o:=x_o.on e10
      replace x_z:=x_z.on e10
      replace BB:=also BB e10
      replace BU:=also BU e10
      replace y_pa:=y_pa.on e10
      replace lpa:=Nat.lt_of_lt_of_le lpa e10.size
      refine tcl 9 fun Kc hK=>?_
      go_simp
      (go_at_call 41;refine(rwAdd s2 s5 d2 d5 l2 c2 l5 c5 x P A _ r2 r5 (few_i64 BX.out) FP.out HA.out).mono ?_;rintro e X11 ⟨s6,d6,l6,c6,rfl,r6,f6,e11⟩)
      refine hK.out _ _ ⟨cell_on e11 hHeld.1,cell_on e11 hHeld.2.1,cell_on e11 hHeld.2.2.1,cell_on e11 hHeld.2.2.2.1,also hHeld.2.2.2.2 e11⟩ (fun hHeld=>?_)
      clear hK Kc
      have n_r6_0_pa:NA pa d6 l6:=f6 pa lpa ⟨n_r2_0_pa,n_r5_0_pa⟩
      replace r2:=r2.below e11
      replace r3:=r3.below e11
      replace r4:=r4.below e11
      replace r5:=r5.below e11
      replace x_p:=x_p.on e11
      replace x_o:=x_o.on e11
      replace x_z:=x_z.on e11
      replace BB:=also BB e11
      replace BU:=also BU e11
      replace y_pa:=y_pa.on e11
      replace lpa:=Nat.lt_of_lt_of_le lpa e11.size
      have⟨c_pa_0,c_pa_1,c_pa_2,c_pa_3⟩:Bx X11 pa (.int .i64 0) (.slice none 0 0):=y_pa
      refine tcl 11 fun Kc hK=>?_
      go_simp
      refine hK.out _ _ ⟨cell_put2 hHeld.1 (by omega) _ _,cell_put2 hHeld.2.1 (by omega) _ _,cell_put2 hHeld.2.2.1 (by omega) _ _,cell_put2 hHeld.2.2.2.1 (by omega) _ _,below_put2 hHeld.2.2.2.2 (by omega) _ _⟩ (fun hHeld=>?_)
      clear hK Kc
      refine wpAnyH_done (by kernel_rfl) ?_ _
      rw [HQQ.out]
      exact⟨rfl,pa,s2,d2,l2,c2,s3,d3,l3,c3,s4,d4,l4,c4,s5,d5,l5,c5,s6,d6,l6,c6,rfl,((r2.put n_r2_0_pa 0 _).put n_r2_0_pa 1 _),((r3.put n_r3_0_pa 0 _).put n_r3_0_pa 1 _),((r4.put n_r4_0_pa 0 _).put n_r4_0_pa 1 _),((r5.put n_r5_0_pa 0 _).put n_r5_0_pa 1 _),((r6.put n_r6_0_pa 0 _).put n_r6_0_pa 1 _),((x_p.put (by omega)).put (by omega)),((x_o.put (by omega)).put (by omega)),((x_z.put (by omega)).put (by omega)),y_pa.set,(below_put2 BB (by omega) _ _),by have:=BU.size;simp only [World.size_setCell];omega,⟨gpa,by simp only [World.size_setCell];omega⟩⟩
    ·skip
     go_simp
     refine hK.out _ _ ⟨cell_on ((Below.refl _ _).alloc (Nat.le_refl _) _) hHeld.1,cell_on ((Below.refl _ _).alloc (Nat.le_refl _) _) hHeld.2.1,cell_on ((Below.refl _ _).alloc (Nat.le_refl _) _) hHeld.2.2.1,cell_on ((Below.refl _ _).alloc (Nat.le_refl _) _) hHeld.2.2.2.1,also hHeld.2.2.2.2 ((Below.refl _ _).alloc (Nat.le_refl _) _)⟩ (fun hHeld=>?_)
     clear hK Kc
     have y_pa:=bx_new X2 (.int .i64 0) (.slice none 0 0) 102
     have e12:Below X2.heap.size X2 (X2.alloc (.cells #[.int .i64 0, .slice none 0 0] 102)):=(Below.refl _ _).alloc (Nat.le_refl _) _
     have lpa:X2.heap.size<(X2.alloc (.cells #[.int .i64 0, .slice none 0 0] 102)).heap.size:=by simp
     have gpa:W.heap.size≤X2.heap.size:=BU.size
     have n_r2_0_pa:NA X2.heap.size d2 l2:=r2.hd.sl.na (Nat.le_refl _)
     have n_r3_0_pa:NA X2.heap.size d3 l3:=r3.hd.sl.na (Nat.le_refl _)
     generalize X2.alloc (.cells #[.int .i64 0, .slice none 0 0] 102)=X12 at y_pa e12 lpa hHeld ⊢
     replace r2:=r2.below e12
     replace r3:=r3.below e12
     replace x_p:=x_p.on e12
     replace x_o:=x_o.on e12
     replace x_z:=x_z.on e12
     replace BB:=also BB e12
     replace BU:=also BU e12
     generalize X2.heap.size=pa at y_pa lpa gpa n_r2_0_pa n_r3_0_pa ⊢
     refine tcl 7 fun Kc hK=>?_
     go_simp
     (go_at_call 39;refine(rwLong s _ BS.out.1 BS.out.2).mono ?_;rintro e X13 ⟨s4,d4,l4,c4,rfl,r4,f4,e13⟩)
     refine hK.out _ _ ⟨cell_on e13 hHeld.1,cell_on e13 hHeld.2.1,cell_on e13 hHeld.2.2.1,cell_on e13 hHeld.2.2.2.1,also hHeld.2.2.2.2 e13⟩ (fun hHeld=>?_)
     clear hK Kc
     have n_r4_0_pa:NA pa d4 l4:=f4 pa lpa trivial
     replace r2:=r2.below e13
     replace r3:=r3.below e13
     replace x_p:=x_p.on e13
     replace x_o:=x_o.on e13
     replace x_z:=x_z.on e13
     replace BB:=also BB e13
     replace BU:=also BU e13
     replace y_pa:=y_pa.on e13
     replace lpa:=Nat.lt_of_lt_of_le lpa e13.size
     refine tcl 8 fun Kc hK=>?_
     go_simp
     (go_at_call 42;refine(rwMul s3 s4 d3 d4 l3 c3 l4 c4 i s P _ r3 r4 (few_i64 BI.out) (few_i64 BS.out) HP.out).mono ?_;rintro e X14 ⟨s5,d5,l5,c5,rfl,r5,f5,e14⟩)
     refine hK.out _ _ ⟨cell_on e14 hHeld.1,cell_on e14 hHeld.2.1,cell_on e14 hHeld.2.2.1,cell_on e14 hHeld.2.2.2.1,also hHeld.2.2.2.2 e14⟩ (fun hHeld=>?_)
     clear hK Kc
     have n_r5_0_pa:NA pa d5 l5:=f5 pa lpa trivial
     replace r2:=r2.below e14
     replace r3:=r3.below e14
     replace r4:=r4.below e14
     replace x_p:=x_p.on e14
     replace x_o:=x_o.on e14
     replace x_z:=x_z.on e14
     replace BB:=also BB e14
     replace BU:=also BU e14
     replace y_pa:=y_pa.on e14
     replace lpa:=Nat.lt_of_lt_of_le lpa e14.size
     refine tcl 9 fun Kc hK=>?_
     go_simp
     (go_at_call 41;refine(rwAdd s2 s5 d2 d5 l2 c2 l5 c5 x P A _ r2 r5 (few_i64 BX.out) FP.out HA.out).mono ?_;rintro e X15 ⟨s6,d6,l6,c6,rfl,r6,f6,e15⟩)
     refine hK.out _ _ ⟨cell_on e15 hHeld.1,cell_on e15 hHeld.2.1,cell_on e15 hHeld.2.2.1,cell_on e15 hHeld.2.2.2.1,also hHeld.2.2.2.2 e15⟩ (fun hHeld=>?_)
     clear hK Kc
     have n_r6_0_pa:NA pa d6 l6:=f6 pa lpa ⟨n_r2_0_pa,n_r5_0_pa⟩
     replace r2:=r2.below e15
     replace r3:=r3.below e15
     replace r4:=r4.below e15
     replace r5:=r5.below e15
     replace x_p:=x_p.on e15
     replace x_o:=x_o.on e15
     replace x_z:=x_z.on e15
     replace BB:=also BB e15
     replace BU:=also BU e15
     replace y_pa:=y_pa.on e15
     replace lpa:=Nat.lt_of_lt_of_le lpa e15.size
     have⟨c_pa_0,c_pa_1,c_pa_2,c_pa_3⟩:Bx X15 pa (.int .i64 0) (.slice none 0 0):=y_pa
     refine tcl 11 fun Kc hK=>?_
     go_simp
     refine hK.out _ _ ⟨cell_put2 hHeld.1 (by omega) _ _,cell_put2 hHeld.2.1 (by omega) _ _,cell_put2 hHeld.2.2.1 (by omega) _ _,cell_put2 hHeld.2.2.2.1 (by omega) _ _,below_put2 hHeld.2.2.2.2 (by omega) _ _⟩ (fun hHeld=>?_)
     clear hK Kc
     refine wpAnyH_done (by kernel_rfl) ?_ _
     rw [HQQ.out]
     exact⟨rfl,pa,s2,d2,l2,c2,s3,d3,l3,c3,s4,d4,l4,c4,s5,d5,l5,c5,s6,d6,l6,c6,rfl,((r2.put n_r2_0_pa 0 _).put n_r2_0_pa 1 _),((r3.put n_r3_0_pa 0 _).put n_r3_0_pa 1 _),((r4.put n_r4_0_pa 0 _).put n_r4_0_pa 1 _),((r5.put n_r5_0_pa 0 _).put n_r5_0_pa 1 _),((r6.put n_r6_0_pa 0 _).put n_r6_0_pa 1 _),((x_p.put (by omega)).put (by omega)),((x_o.put (by omega)).put (by omega)),((x_z.put (by omega)).put (by omega)),y_pa.set,(below_put2 BB (by omega) _ _),by have:=BU.size;simp only [World.size_setCell];omega,⟨gpa,by simp only [World.size_setCell];omega⟩⟩
   ·skip
    go_simp
    refine hK.out _ _ ⟨cell_on ((Below.refl _ _).alloc (Nat.le_refl _) _) hHeld.1,cell_on ((Below.refl _ _).alloc (Nat.le_refl _) _) hHeld.2.1,cell_on ((Below.refl _ _).alloc (Nat.le_refl _) _) hHeld.2.2.1,cell_on ((Below.refl _ _).alloc (Nat.le_refl _) _) hHeld.2.2.2.1,also hHeld.2.2.2.2 ((Below.refl _ _).alloc (Nat.le_refl _) _)⟩ (fun hHeld=>?_)
    clear hK Kc
    have y_pa:=bx_new X1 (.int .i64 0) (.slice none 0 0) 102
    have e16:Below X1.heap.size X1 (X1.alloc (.cells #[.int .i64 0, .slice none 0 0] 102)):=(Below.refl _ _).alloc (Nat.le_refl _) _
    have lpa:X1.heap.size<(X1.alloc (.cells #[.int .i64 0, .slice none 0 0] 102)).heap.size:=by simp
    have gpa:W.heap.size≤X1.heap.size:=BU.size
    have n_r2_0_pa:NA X1.heap.size d2 l2:=r2.hd.sl.na (Nat.le_refl _)
    generalize X1.alloc (.cells #[.int .i64 0, .slice none 0 0] 102)=X16 at y_pa e16 lpa hHeld ⊢
    replace r2:=r2.below e16
    replace x_p:=x_p.on e16
    replace x_o:=x_o.on e16
    replace x_z:=x_z.on e16
    replace BB:=also BB e16
    replace BU:=also BU e16
    generalize X1.heap.size=pa at y_pa lpa gpa n_r2_0_pa ⊢
    refine tcl 5 fun Kc hK=>?_
    go_simp
    (go_at_call 39;refine(rwLong i _ BI.out.1 BI.out.2).mono ?_;rintro e X17 ⟨s3,d3,l3,c3,rfl,r3,f3,e17⟩)
    refine hK.out _ _ ⟨cell_on e17 hHeld.1,cell_on e17 hHeld.2.1,cell_on e17 hHeld.2.2.1,cell_on e17 hHeld.2.2.2.1,also hHeld.2.2.2.2 e17⟩ (fun hHeld=>?_)
    clear hK Kc
    have n_r3_0_pa:NA pa d3 l3:=f3 pa lpa trivial
    replace r2:=r2.below e17
    replace x_p:=x_p.on e17
    replace x_o:=x_o.on e17
    replace x_z:=x_z.on e17
    replace BB:=also BB e17
    replace BU:=also BU e17
    replace y_pa:=y_pa.on e17
    replace lpa:=Nat.lt_of_lt_of_le lpa e17.size
    refine tcl 7 fun Kc hK=>?_
    go_simp
    (go_at_call 39;refine(rwLong s _ BS.out.1 BS.out.2).mono ?_;rintro e X18 ⟨s4,d4,l4,c4,rfl,r4,f4,e18⟩)
    refine hK.out _ _ ⟨cell_on e18 hHeld.1,cell_on e18 hHeld.2.1,cell_on e18 hHeld.2.2.1,cell_on e18 hHeld.2.2.2.1,also hHeld.2.2.2.2 e18⟩ (fun hHeld=>?_)
    clear hK Kc
    have n_r4_0_pa:NA pa d4 l4:=f4 pa lpa trivial
    replace r2:=r2.below e18
    replace r3:=r3.below e18
    replace x_p:=x_p.on e18
    replace x_o:=x_o.on e18
    replace x_z:=x_z.on e18
    replace BB:=also BB e18
    replace BU:=also BU e18
    replace y_pa:=y_pa.on e18
    replace lpa:=Nat.lt_of_lt_of_le lpa e18.size
    refine tcl 8 fun Kc hK=>?_
    go_simp
    (go_at_call 42;refine(rwMul s3 s4 d3 d4 l3 c3 l4 c4 i s P _ r3 r4 (few_i64 BI.out) (few_i64 BS.out) HP.out).mono ?_;rintro e X19 ⟨s5,d5,l5,c5,rfl,r5,f5,e19⟩)
    refine hK.out _ _ ⟨cell_on e19 hHeld.1,cell_on e19 hHeld.2.1,cell_on e19 hHeld.2.2.1,cell_on e19 hHeld.2.2.2.1,also hHeld.2.2.2.2 e19⟩ (fun hHeld=>?_)
    clear hK Kc
    have n_r5_0_pa:NA pa d5 l5:=f5 pa lpa trivial
    replace r2:=r2.below e19
    replace r3:=r3.below e19
    replace r4:=r4.below e19
    replace x_p:=x_p.on e19
    replace x_o:=x_o.on e19
    replace x_z:=x_z.on e19
    replace BB:=also BB e19
    replace BU:=also BU e19
    replace y_pa:=y_pa.on e19
    replace lpa:=Nat.lt_of_lt_of_le lpa e19.size
    refine tcl 9 fun Kc hK=>?_
    go_simp
    (go_at_call 41;refine(rwAdd s2 s5 d2 d5 l2 c2 l5 c5 x P A _ r2 r5 (few_i64 BX.out) FP.out HA.out).mono ?_;rintro e X20 ⟨s6,d6,l6,c6,rfl,r6,f6,e20⟩)
    refine hK.out _ _ ⟨cell_on e20 hHeld.1,cell_on e20 hHeld.2.1,cell_on e20 hHeld.2.2.1,cell_on e20 hHeld.2.2.2.1,also hHeld.2.2.2.2 e20⟩ (fun hHeld=>?_)
    clear hK Kc
    have n_r6_0_pa:NA pa d6 l6:=f6 pa lpa ⟨n_r2_0_pa,n_r5_0_pa⟩
    replace r2:=r2.below e20
    replace r3:=r3.below e20
    replace r4:=r4.below e20
    replace r5:=r5.below e20
    replace x_p:=x_p.on e20
    replace x_o:=x_o.on e20
    replace x_z:=x_z.on e20
    replace BB:=also BB e20
    replace BU:=also BU e20
    replace y_pa:=y_pa.on e20
    replace lpa:=Nat.lt_of_lt_of_le lpa e20.size
    have⟨c_pa_0,c_pa_1,c_pa_2,c_pa_3⟩:Bx X20 pa (.int .i64 0) (.slice none 0 0):=y_pa
    refine tcl 11 fun Kc hK=>?_
    go_simp
    refine hK.out _ _ ⟨cell_put2 hHeld.1 (by omega) _ _,cell_put2 hHeld.2.1 (by omega) _ _,cell_put2 hHeld.2.2.1 (by omega) _ _,cell_put2 hHeld.2.2.2.1 (by omega) _ _,below_put2 hHeld.2.2.2.2 (by omega) _ _⟩ (fun hHeld=>?_)
    clear hK Kc
    refine wpAnyH_done (by kernel_rfl) ?_ _
    rw [HQQ.out]
    exact⟨rfl,pa,s2,d2,l2,c2,s3,d3,l3,c3,s4,d4,l4,c4,s5,d5,l5,c5,s6,d6,l6,c6,rfl,((r2.put n_r2_0_pa 0 _).put n_r2_0_pa 1 _),((r3.put n_r3_0_pa 0 _).put n_r3_0_pa 1 _),((r4.put n_r4_0_pa 0 _).put n_r4_0_pa 1 _),((r5.put n_r5_0_pa 0 _).put n_r5_0_pa 1 _),((r6.put n_r6_0_pa 0 _).put n_r6_0_pa 1 _),((x_p.put (by omega)).put (by omega)),((x_o.put (by omega)).put (by omega)),((x_z.put (by omega)).put (by omega)),y_pa.set,(below_put2 BB (by omega) _ _),by have:=BU.size;simp only [World.size_setCell];omega,⟨gpa,by simp only [World.size_setCell];omega⟩⟩
  ·skip
   go_simp
   refine hK.out _ _ ⟨cell_on ((Below.refl _ _).alloc (Nat.le_refl _) _) hHeld.1,cell_on ((Below.refl _ _).alloc (Nat.le_refl _) _) hHeld.2.1,cell_on ((Below.refl _ _).alloc (Nat.le_refl _) _) hHeld.2.2.1,cell_on ((Below.refl _ _).alloc (Nat.le_refl _) _) hHeld.2.2.2.1,also hHeld.2.2.2.2 ((Below.refl _ _).alloc (Nat.le_refl _) _)⟩ (fun hHeld=>?_)
   clear hK Kc
   have y_pa:=bx_new X0 (.int .i64 0) (.slice none 0 0) 102
   have e21:Below X0.heap.size X0 (X0.alloc (.cells #[.int .i64 0, .slice none 0 0] 102)):=(Below.refl _ _).alloc (Nat.le_refl _) _
   have lpa:X0.heap.size<(X0.alloc (.cells #[.int .i64 0, .slice none 0 0] 102)).heap.size:=by simp
   have gpa:W.heap.size≤X0.heap.size:=BU.size
   generalize X0.alloc (.cells #[.int .i64 0, .slice none 0 0] 102)=X21 at y_pa e21 lpa hHeld ⊢
   replace x_p:=x_p.on e21
   replace x_o:=x_o.on e21
   replace x_z:=x_z.on e21
   replace BB:=also BB e21
   replace BU:=also BU e21
   generalize X0.heap.size=pa at y_pa lpa gpa ⊢
   refine tcl 2 fun Kc hK=>?_
   go_simp
   (go_at_call 39;refine(rwLong x _ BX.out.1 BX.out.2).mono ?_;rintro e X22 ⟨s2,d2,l2,c2,rfl,r2,f2,e22⟩)
   refine hK.out _ _ ⟨cell_on e22 hHeld.1,cell_on e22 hHeld.2.1,cell_on e22 hHeld.2.2.1,cell_on e22 hHeld.2.2.2.1,also hHeld.2.2.2.2 e22⟩ (fun hHeld=>?_)
   clear hK Kc
   have n_r2_0_pa:NA pa d2 l2:=f2 pa lpa trivial
   replace x_p:=x_p.on e22
   replace x_o:=x_o.on e22
   replace x_z:=x_z.on e22
   replace BB:=also BB e22
   replace BU:=also BU e22
   replace y_pa:=y_pa.on e22
   replace lpa:=Nat.lt_of_lt_of_le lpa e22.size
   refine tcl 5 fun Kc hK=>?_
   go_simp
   (go_at_call 39;refine(rwLong i _ BI.out.1 BI.out.2).mono ?_;rintro e X23 ⟨s3,d3,l3,c3,rfl,r3,f3,e23⟩)
   refine hK.out _ _ ⟨cell_on e23 hHeld.1,cell_on e23 hHeld.2.1,cell_on e23 hHeld.2.2.1,cell_on e23 hHeld.2.2.2.1,also hHeld.2.2.2.2 e23⟩ (fun hHeld=>?_)
   clear hK Kc
   have n_r3_0_pa:NA pa d3 l3:=f3 pa lpa trivial
   replace r2:=r2.below e23
   replace x_p:=x_p.on e23
   replace x_o:=x_o.on e23
   replace x_z:=x_z.on e23
   replace BB:=also BB e23
   replace BU:=also BU e23
   replace y_pa:=y_pa.on e23
   replace lpa:=Nat.lt_of_lt_of_le lpa e23.size
   refine tcl 7 fun Kc hK=>?_
   go_simp
   (go_at_call 39;refine(rwLong s _ BS.out.1 BS.out.2).mono ?_;rintro e X24 ⟨s4,d4,l4,c4,rfl,r4,f4,e24⟩)
   refine hK.out _ _ ⟨cell_on e24 hHeld.1,cell_on e24 hHeld.2.1,cell_on e24 hHeld.2.2.1,cell_on e24 hHeld.2.2.2.1,also hHeld.2.2.2.2 e24⟩ (fun hHeld=>?_)
   clear hK Kc
   have n_r4_0_pa:NA pa d4 l4:=f4 pa lpa trivial
   replace r2:=r2.below e24
   replace r3:=r3.below e24
   replace x_p:=x_p.on e24
   replace x_o:=x_o.on e24
   replace x_z:=x_z.on e24
   replace BB:=also BB e24
   replace BU:=also BU e24
   replace y_pa:=y_pa.on e24
   replace lpa:=Nat.lt_of_lt_of_le lpa e24.size
   refine tcl 8 fun Kc hK=>?_
   go_simp
   (go_at_call 42;refine(rwMul s3 s4 d3 d4 l3 c3 l4 c4 i s P _ r3 r4 (few_i64 BI.out) (few_i64 BS.out) HP.out).mono ?_;rintro e X25 ⟨s5,d5,l5,c5,rfl,r5,f5,e25⟩)
   refine hK.out _ _ ⟨cell_on e25 hHeld.1,cell_on e25 hHeld.2.1,cell_on e25 hHeld.2.2.1,cell_on e25 hHeld.2.2.2.1,also hHeld.2.2.2.2 e25⟩ (fun hHeld=>?_)
   clear hK Kc
   have n_r5_0_pa:NA pa d5 l5:=f5 pa lpa trivial
   replace r2:=r2.below e25
   replace r3:=r3.below e25
   replace r4:=r4.below e25
   replace x_p:=x_p.on e25
   replace x_o:=x_o.on e25
   replace x_z:=x_z.on e25
   replace BB:=also BB e25
   replace BU:=also BU e25
   replace y_pa:=y_pa.on e25
   replace lpa:=Nat.lt_of_lt_of_le lpa e25.size
   refine tcl 9 fun Kc hK=>?_
   go_simp
   (go_at_call 41;refine(rwAdd s2 s5 d2 d5 l2 c2 l5 c5 x P A _ r2 r5 (few_i64 BX.out) FP.out HA.out).mono ?_;rintro e X26 ⟨s6,d6,l6,c6,rfl,r6,f6,e26⟩)
   refine hK.out _ _ ⟨cell_on e26 hHeld.1,cell_on e26 hHeld.2.1,cell_on e26 hHeld.2.2.1,cell_on e26 hHeld.2.2.2.1,also hHeld.2.2.2.2 e26⟩ (fun hHeld=>?_)
   clear hK Kc
   have n_r6_0_pa:NA pa d6 l6:=f6 pa lpa ⟨n_r2_0_pa,n_r5_0_pa⟩
   replace r2:=r2.below e26
   replace r3:=r3.below e26
   replace r4:=r4.below e26
   replace r5:=r5.below e26
   replace x_p:=x_p.on e26
   replace x_o:=x_o.on e26
   replace x_z:=x_z.on e26
   replace BB:=also BB e26
   replace BU:=also BU e26
   replace y_pa:=y_pa.on e26
   replace lpa:=Nat.lt_of_lt_of_le lpa e26.size
   have⟨c_pa_0,c_pa_1,c_pa_2,c_pa_3⟩:Bx X26 pa (.int .i64 0) (.slice none 0 0):=y_pa
   refine tcl 11 fun Kc hK=>?_
   go_simp
   refine hK.out _ _ ⟨cell_put2 hHeld.1 (by omega) _ _,cell_put2 hHeld.2.1 (by omega) _ _,cell_put2 hHeld.2.2.1 (by omega) _ _,cell_put2 hHeld.2.2.2.1 (by omega) _ _,below_put2 hHeld.2.2.2.2 (by omega) _ _⟩ (fun hHeld=>?_)
   clear hK Kc
   refine wpAnyH_done (by kernel_rfl) ?_ _
   rw [HQQ.out]
   exact⟨rfl,pa,s2,d2,l2,c2,s3,d3,l3,c3,s4,d4,l4,c4,s5,d5,l5,c5,s6,d6,l6,c6,rfl,((r2.put n_r2_0_pa 0 _).put n_r2_0_pa 1 _),((r3.put n_r3_0_pa 0 _).put n_r3_0_pa 1 _),((r4.put n_r4_0_pa 0 _).put n_r4_0_pa 1 _),((r5.put n_r5_0_pa 0 _).put n_r5_0_pa 1 _),((r6.put n_r6_0_pa 0 _).put n_r6_0_pa 1 _),((x_p.put (by omega)).put (by omega)),((x_o.put (by omega)).put (by omega)),((x_z.put (by omega)).put (by omega)),y_pa.set,(below_put2 BB (by omega) _ _),by have:=BU.size;simp only [World.size_setCell];omega,⟨gpa,by simp only [World.size_setCell];omega⟩⟩
 rw [HQQ.out]
 rintro e act Y1 ⟨rfl,pa,s2,d2,l2,c2,s3,d3,l3,c3,s4,d4,l4,c4,s5,d5,l5,c5,s6,d6,l6,c6,rfl,r2,r3,r4,r5,r6,x_p,x_o,x_z,x_X,BB,z_Y1,z_Y1_pa⟩
 clear HQQ QQ
 dsimp only
 clear r2 r3 r4 r5
 go_wp2
 obtain⟨QQ,hQQ⟩: ∃ QQ:Exit→Act→World→Prop,QQ=fun e act wr=>e= .normal∧ ∃ (pb:Nat) (s7:Int) (d7:Option Addr) (l7 c7:Nat) (s8:Int) (d8:Option Addr) (l8 c8:Nat) (s9:Int) (d9:Option Addr) (l9 c9:Nat) (s10:Int) (d10:Option Addr) (l10 c10:Nat) (s11:Int) (d11:Option Addr) (l11 c11:Nat),act=⟨#[.agg #[.int .i64 x, .int .i64 y], .agg #[.int .i64 i, .int .i64 k], .int .i64 s, .pointer (some ⟨w.heap.size,0,none⟩), .pointer (some ⟨w.heap.size+1,0,none⟩),undef, .pointer (some ⟨w.heap.size+1+1,0,none⟩), .bool false, .pointer (some ⟨pa,0,none⟩), .pointer (some ⟨pb,0,none⟩),undef,undef,undef,undef, .pointer (some ⟨w.heap.size,0,none⟩), .int .i64 x, .agg #[.int .i64 s2, .slice d2 l2 c2], .pointer (some ⟨w.heap.size+1,0,none⟩), .int .i64 i, .agg #[.int .i64 s3, .slice d3 l3 c3], .int .i64 s, .agg #[.int .i64 s4, .slice d4 l4 c4], .agg #[.int .i64 s5, .slice d5 l5 c5], .agg #[.int .i64 s6, .slice d6 l6 c6], .pointer (some ⟨w.heap.size,1,none⟩), .int .i64 y, .agg #[.int .i64 s7, .slice d7 l7 c7], .pointer (some ⟨w.heap.size+1,1,none⟩), .int .i64 k, .agg #[.int .i64 s8, .slice d8 l8 c8], .int .i64 s, .agg #[.int .i64 s9, .slice d9 l9 c9], .agg #[.int .i64 s10, .slice d10 l10 c10], .agg #[.int .i64 s11, .slice d11 l11 c11],undef,undef,undef,undef,undef,undef,undef,undef,undef,undef,undef,undef,undef,undef,undef,undef,undef,undef,undef,undef,undef,undef,undef,undef,undef,undef,undef,undef,undef,undef,undef,undef], []⟩∧RN wr s6 d6 l6 c6 A∧RN wr s7 d7 l7 c7 y∧RN wr s8 d8 l8 c8 k∧RN wr s9 d9 l9 c9 s∧RN wr s10 d10 l10 c10 R∧RN wr s11 d11 l11 c11 B∧Bx wr (w.heap.size) (.int .i64 x) (.int .i64 y)∧Bx wr (w.heap.size+1) (.int .i64 i) (.int .i64 k)∧Bx wr (w.heap.size+1+1) (.int .i64 0) (.int .i64 0)∧Bx wr (pa) (.int .i64 s6) (.slice d6 l6 c6)∧Bx wr pb (.int .i64 s11) (.slice d11 l11 c11)∧Below w.heap.size w wr∧Y1.heap.size≤wr.heap.size∧(Y1.heap.size≤pb∧pb<wr.heap.size):=⟨_,rfl⟩
 have HQQ:Hid _:=hQQ
 clear hQQ
 refine wp_mono (Q:=QQ) ?_ ?_
 ·refine wp_region_held_drew (S:=(fun w'=>w'.cell? ⟨w.heap.size,0,none⟩=some (.int .i64 x)∧w'.cell? ⟨w.heap.size,1,none⟩=some (.int .i64 y)∧w'.cell? ⟨w.heap.size+1,0,none⟩=some (.int .i64 i)∧w'.cell? ⟨w.heap.size+1,1,none⟩=some (.int .i64 k)∧Below w.heap.size w w')) (by kernel_rfl) ?_ (fun hHeld=>?_)
  ·exact⟨x_p.c0,x_p.c1,x_o.c0,x_o.c1,BB.drew⟩
  refine tQ 0 ?_
  simp only [Act.put,ps1,ps2,ps3]
  refine tQ 1 ?_
  simp only [Act.put,ps1,ps2,ps3]
  refine tQ 3 ?_
  simp only [Act.put,ps1,ps2,ps3]
  refine tQ 4 ?_
  simp only [Act.put,ps1,ps2,ps3]
  refine tQ 6 ?_
  simp only [Act.put,ps1,ps2,ps3]
  have b0:Below Y1.heap.size Y1 Y1.drew:=(Below.refl _ _).drew
  have BU:=b0
  generalize Y1.drew=X0 at b0 BU hHeld ⊢
  replace r6:=r6.below b0
  replace x_p:=x_p.on b0
  replace x_o:=x_o.on b0
  replace x_z:=x_z.on b0
  replace x_X:=x_X.on b0
  replace BB:=also BB b0
  refine wpAnyH_ready (rs:= [2,10]) (by kernel_rfl) (by simp) (AllReadyH.cons (i:=2) rfl (fun Kc hK=>?_) (AllReadyH.cons (i:=10) rfl (fun Kc hK=>?_) AllReadyH.nil))
  ·skip
   go_simp
   (go_at_call 39;refine(rwLong y _ BY.out.1 BY.out.2).mono ?_;rintro e X1 ⟨s7,d7,l7,c7,rfl,r7,f7,e1⟩)
   refine hK.out _ _ ⟨cell_on e1 hHeld.1,cell_on e1 hHeld.2.1,cell_on e1 hHeld.2.2.1,cell_on e1 hHeld.2.2.2.1,also hHeld.2.2.2.2 e1⟩ (fun hHeld=>?_)
   clear hK Kc
   replace r6:=r6.below e1
   replace x_p:=x_p.on e1
   replace x_o:=x_o.on e1
   replace x_z:=x_z.on e1
   replace x_X:=x_X.on e1
   replace BB:=also BB e1
   replace BU:=also BU e1
   refine wpAnyH_ready (rs:= [5,10]) (by kernel_rfl) (by simp) (AllReadyH.cons (i:=5) rfl (fun Kc hK=>?_) (AllReadyH.cons (i:=10) rfl (fun Kc hK=>?_) AllReadyH.nil))
   ·skip
    go_simp
    (go_at_call 39;refine(rwLong k _ BK.out.1 BK.out.2).mono ?_;rintro e X2 ⟨s8,d8,l8,c8,rfl,r8,f8,e2⟩)
    refine hK.out _ _ ⟨cell_on e2 hHeld.1,cell_on e2 hHeld.2.1,cell_on e2 hHeld.2.2.1,cell_on e2 hHeld.2.2.2.1,also hHeld.2.2.2.2 e2⟩ (fun hHeld=>?_)
    clear hK Kc
    replace r6:=r6.below e2
    replace r7:=r7.below e2
    replace x_p:=x_p.on e2
    replace x_o:=x_o.on e2
    replace x_z:=x_z.on e2
    replace x_X:=x_X.on e2
    replace BB:=also BB e2
    replace BU:=also BU e2
    refine wpAnyH_ready (rs:= [7,10]) (by kernel_rfl) (by simp) (AllReadyH.cons (i:=7) rfl (fun Kc hK=>?_) (AllReadyH.cons (i:=10) rfl (fun Kc hK=>?_) AllReadyH.nil))
    ·skip
     go_simp
     (go_at_call 39;refine(rwLong s _ BS.out.1 BS.out.2).mono ?_;rintro e X3 ⟨s9,d9,l9,c9,rfl,r9,f9,e3⟩)
     refine hK.out _ _ ⟨cell_on e3 hHeld.1,cell_on e3 hHeld.2.1,cell_on e3 hHeld.2.2.1,cell_on e3 hHeld.2.2.2.1,also hHeld.2.2.2.2 e3⟩ (fun hHeld=>?_)
     clear hK Kc
     replace r6:=r6.below e3
     replace r7:=r7.below e3
     replace r8:=r8.below e3
     replace x_p:=x_p.on e3
     replace x_o:=x_o.on e3
     replace x_z:=x_z.on e3
     replace x_X:=x_X.on e3
     replace BB:=also BB e3
     replace BU:=also BU e3
     refine wpAnyH_ready (rs:= [8,10]) (by kernel_rfl) (by simp) (AllReadyH.cons (i:=8) rfl (fun Kc hK=>?_) (AllReadyH.cons (i:=10) rfl (fun Kc hK=>?_) AllReadyH.nil))
     ·skip
      go_simp
      (go_at_call 42;refine(rwMul s8 s9 d8 d9 l8 c8 l9 c9 k s R _ r8 r9 (few_i64 BK.out) (few_i64 BS.out) HR.out).mono ?_;rintro e X4 ⟨s10,d10,l10,c10,rfl,r10,f10,e4⟩)
      refine hK.out _ _ ⟨cell_on e4 hHeld.1,cell_on e4 hHeld.2.1,cell_on e4 hHeld.2.2.1,cell_on e4 hHeld.2.2.2.1,also hHeld.2.2.2.2 e4⟩ (fun hHeld=>?_)
      clear hK Kc
      replace r6:=r6.below e4
      replace r7:=r7.below e4
      replace r8:=r8.below e4
      replace r9:=r9.below e4
      replace x_p:=x_p.on e4
      replace x_o:=x_o.on e4
      replace x_z:=x_z.on e4
      replace x_X:=x_X.on e4
      replace BB:=also BB e4
      replace BU:=also BU e4
      refine wpAnyH_ready (rs:= [9,10]) (by kernel_rfl) (by simp) (AllReadyH.cons (i:=9) rfl (fun Kc hK=>?_) (AllReadyH.cons (i:=10) rfl (fun Kc hK=>?_) AllReadyH.nil))
      ·skip
       go_simp
       (go_at_call 41;refine(rwAdd s7 s10 d7 d10 l7 c7 l10 c10 y R B _ r7 r10 (few_i64 BY.out) FR.out HB.out).mono ?_;rintro e X5 ⟨s11,d11,l11,c11,rfl,r11,f11,e5⟩)
       refine hK.out _ _ ⟨cell_on e5 hHeld.1,cell_on e5 hHeld.2.1,cell_on e5 hHeld.2.2.1,cell_on e5 hHeld.2.2.2.1,also hHeld.2.2.2.2 e5⟩ (fun hHeld=>?_)
       clear hK Kc
       replace r6:=r6.below e5
       replace r7:=r7.below e5
       replace r8:=r8.below e5
       replace r9:=r9.below e5
       replace r10:=r10.below e5
       replace x_p:=x_p.on e5
       replace x_o:=x_o.on e5
       replace x_z:=x_z.on e5
       replace x_X:=x_X.on e5
       replace BB:=also BB e5
       replace BU:=also BU e5
       refine tcl 10 fun Kc hK=>?_
       go_simp
       refine hK.out _ _ ⟨cell_on ((Below.refl _ _).alloc (Nat.le_refl _) _) hHeld.1,cell_on ((Below.refl _ _).alloc (Nat.le_refl _) _) hHeld.2.1,cell_on ((Below.refl _ _).alloc (Nat.le_refl _) _) hHeld.2.2.1,cell_on ((Below.refl _ _).alloc (Nat.le_refl _) _) hHeld.2.2.2.1,also hHeld.2.2.2.2 ((Below.refl _ _).alloc (Nat.le_refl _) _)⟩ (fun hHeld=>?_)
       clear hK Kc
       have y_pb:=bx_new X5 (.int .i64 0) (.slice none 0 0) 102
       have e6:Below X5.heap.size X5 (X5.alloc (.cells #[.int .i64 0, .slice none 0 0] 102)):=(Below.refl _ _).alloc (Nat.le_refl _) _
       have lpb:X5.heap.size<(X5.alloc (.cells #[.int .i64 0, .slice none 0 0] 102)).heap.size:=by simp
       have gpb:Y1.heap.size≤X5.heap.size:=BU.size
       have n_r6_0_pb:NA X5.heap.size d6 l6:=r6.hd.sl.na (Nat.le_refl _)
       have n_r7_0_pb:NA X5.heap.size d7 l7:=r7.hd.sl.na (Nat.le_refl _)
       have n_r8_0_pb:NA X5.heap.size d8 l8:=r8.hd.sl.na (Nat.le_refl _)
       have n_r9_0_pb:NA X5.heap.size d9 l9:=r9.hd.sl.na (Nat.le_refl _)
       have n_r10_0_pb:NA X5.heap.size d10 l10:=r10.hd.sl.na (Nat.le_refl _)
       have n_r11_0_pb:NA X5.heap.size d11 l11:=r11.hd.sl.na (Nat.le_refl _)
       generalize X5.alloc (.cells #[.int .i64 0, .slice none 0 0] 102)=X6 at y_pb e6 lpb hHeld ⊢
       replace r6:=r6.below e6
       replace r7:=r7.below e6
       replace r8:=r8.below e6
       replace r9:=r9.below e6
       replace r10:=r10.below e6
       replace r11:=r11.below e6
       replace x_p:=x_p.on e6
       replace x_o:=x_o.on e6
       replace x_z:=x_z.on e6
       replace x_X:=x_X.on e6
       replace BB:=also BB e6
       replace BU:=also BU e6
       generalize X5.heap.size=pb at y_pb lpb gpb n_r6_0_pb n_r7_0_pb n_r8_0_pb n_r9_0_pb n_r10_0_pb n_r11_0_pb ⊢
       have⟨c_pb_0,c_pb_1,c_pb_2,c_pb_3⟩:Bx X6 pb (.int .i64 0) (.slice none 0 0):=y_pb
       refine tcl 11 fun Kc hK=>?_
       go_simp
       refine hK.out _ _ ⟨cell_put2 hHeld.1 (by omega) _ _,cell_put2 hHeld.2.1 (by omega) _ _,cell_put2 hHeld.2.2.1 (by omega) _ _,cell_put2 hHeld.2.2.2.1 (by omega) _ _,below_put2 hHeld.2.2.2.2 (by omega) _ _⟩ (fun hHeld=>?_)
       clear hK Kc
       refine wpAnyH_done (by kernel_rfl) ?_ _
       rw [HQQ.out]
       exact⟨rfl,pb,s7,d7,l7,c7,s8,d8,l8,c8,s9,d9,l9,c9,s10,d10,l10,c10,s11,d11,l11,c11,rfl,((r6.put n_r6_0_pb 0 _).put n_r6_0_pb 1 _),((r7.put n_r7_0_pb 0 _).put n_r7_0_pb 1 _),((r8.put n_r8_0_pb 0 _).put n_r8_0_pb 1 _),((r9.put n_r9_0_pb 0 _).put n_r9_0_pb 1 _),((r10.put n_r10_0_pb 0 _).put n_r10_0_pb 1 _),((r11.put n_r11_0_pb 0 _).put n_r11_0_pb 1 _),((x_p.put (by omega)).put (by omega)),((x_o.put (by omega)).put (by omega)),((x_z.put (by omega)).put (by omega)),((x_X.put (by omega)).put (by omega)),y_pb.set,(below_put2 BB (by omega) _ _),by have:=BU.size;simp only [World.size_setCell];omega,⟨gpb,by simp only [World.size_setCell];omega⟩⟩
      ·skip
       go_simp
       refine hK.out _ _ ⟨cell_on ((Below.refl _ _).alloc (Nat.le_refl _) _) hHeld.1,cell_on ((Below.refl _ _).alloc (Nat.le_refl _) _) hHeld.2.1,cell_on ((Below.refl _ _).alloc (Nat.le_refl _) _) hHeld.2.2.1,cell_on ((Below.refl _ _).alloc (Nat.le_refl _) _) hHeld.2.2.2.1,also hHeld.2.2.2.2 ((Below.refl _ _).alloc (Nat.le_refl _) _)⟩ (fun hHeld=>?_)
       clear hK Kc
       have y_pb:=bx_new X4 (.int .i64 0) (.slice none 0 0) 102
       have e7:Below X4.heap.size X4 (X4.alloc (.cells #[.int .i64 0, .slice none 0 0] 102)):=(Below.refl _ _).alloc (Nat.le_refl _) _
       have lpb:X4.heap.size<(X4.alloc (.cells #[.int .i64 0, .slice none 0 0] 102)).heap.size:=by simp
       have gpb:Y1.heap.size≤X4.heap.size:=BU.size
       have n_r6_0_pb:NA X4.heap.size d6 l6:=r6.hd.sl.na (Nat.le_refl _)
       have n_r7_0_pb:NA X4.heap.size d7 l7:=r7.hd.sl.na (Nat.le_refl _)
       have n_r8_0_pb:NA X4.heap.size d8 l8:=r8.hd.sl.na (Nat.le_refl _)
       have n_r9_0_pb:NA X4.heap.size d9 l9:=r9.hd.sl.na (Nat.le_refl _)
       have n_r10_0_pb:NA X4.heap.size d10 l10:=r10.hd.sl.na (Nat.le_refl _)
       generalize X4.alloc (.cells #[.int .i64 0, .slice none 0 0] 102)=X7 at y_pb e7 lpb hHeld ⊢
       replace r6:=r6.below e7
       replace r7:=r7.below e7
       replace r8:=r8.below e7
       replace r9:=r9.below e7
       replace r10:=r10.below e7
       replace x_p:=x_p.on e7
       replace x_o:=x_o.on e7
       replace x_z:=x_z.on e7
       replace x_X:=x_X.on e7
       replace BB:=also BB e7
       replace BU:=also BU e7
       generalize X4.heap.size=pb at y_pb lpb gpb n_r6_0_pb n_r7_0_pb n_r8_0_pb n_r9_0_pb n_r10_0_pb ⊢
       refine tcl 9 fun Kc hK=>?_
       go_simp
       (go_at_call 41;refine(rwAdd s7 s10 d7 d10 l7 c7 l10 c10 y R B _ r7 r10 (few_i64 BY.out) FR.out HB.out).mono ?_;rintro e X8 ⟨s11,d11,l11,c11,rfl,r11,f11,e8⟩)
       refine hK.out _ _ ⟨cell_on e8 hHeld.1,cell_on e8 hHeld.2.1,cell_on e8 hHeld.2.2.1,cell_on e8 hHeld.2.2.2.1,also hHeld.2.2.2.2 e8⟩ (fun hHeld=>?_)
       clear hK Kc
       have n_r11_0_pb:NA pb d11 l11:=f11 pb lpb ⟨n_r7_0_pb,n_r10_0_pb⟩
       replace r6:=r6.below e8
       replace r7:=r7.below e8
       replace r8:=r8.below e8
       replace r9:=r9.below e8
       replace r10:=r10.below e8
       replace x_p:=x_p.on e8
       replace x_o:=x_o.on e8
       replace x_z:=x_z.on e8
       replace x_X:=x_X.on e8
       replace BB:=also BB e8
       replace BU:=also BU e8
       replace y_pb:=y_pb.on e8
       replace lpb:=Nat.lt_of_lt_of_le lpb e8.size
       have⟨c_pb_0,c_pb_1,c_pb_2,c_pb_3⟩:Bx X8 pb (.int .i64 0) (.slice none 0 0):=y_pb
       refine tcl 11 fun Kc hK=>?_
       go_simp
       refine hK.out _ _ ⟨cell_put2 hHeld.1 (by omega) _ _,cell_put2 hHeld.2.1 (by omega) _ _,cell_put2 hHeld.2.2.1 (by omega) _ _,cell_put2 hHeld.2.2.2.1 (by omega) _ _,below_put2 hHeld.2.2.2.2 (by omega) _ _⟩ (fun hHeld=>?_)
       clear hK Kc
       refine wpAnyH_done (by kernel_rfl) ?_ _
       rw [HQQ.out]
       exact⟨rfl,pb,s7,d7,l7,c7,s8,d8,l8,c8,s9,d9,l9,c9,s10,d10,l10,c10,s11,d11,l11,c11,rfl,((r6.put n_r6_0_pb 0 _).put n_r6_0_pb 1 _),((r7.put n_r7_0_pb 0 _).put n_r7_0_pb 1 _),((r8.put n_r8_0_pb 0 _).put n_r8_0_pb 1 _),((r9.put n_r9_0_pb 0 _).put n_r9_0_pb 1 _),((r10.put n_r10_0_pb 0 _).put n_r10_0_pb 1 _),((r11.put n_r11_0_pb 0 _).put n_r11_0_pb 1 _),((x_p.put (by omega)).put (by omega)),((x_o.put (by omega)).put (by omega)),((x_z.put (by omega)).put (by omega)),((x_X.put (by omega)).put (by omega)),y_pb.set,(below_put2 BB (by omega) _ _),by have:=BU.size;simp only [World.size_setCell];omega,⟨gpb,by simp only [World.size_setCell];omega⟩⟩
     ·skip
      go_simp
      refine hK.out _ _ ⟨cell_on ((Below.refl _ _).alloc (Nat.le_refl _) _) hHeld.1,cell_on ((Below.refl _ _).alloc (Nat.le_refl _) _) hHeld.2.1,cell_on ((Below.refl _ _).alloc (Nat.le_refl _) _) hHeld.2.2.1,cell_on ((Below.refl _ _).alloc (Nat.le_refl _) _) hHeld.2.2.2.1,also hHeld.2.2.2.2 ((Below.refl _ _).alloc (Nat.le_refl _) _)⟩ (fun hHeld=>?_)
      clear hK Kc
      have y_pb:=bx_new X3 (.int .i64 0) (.slice none 0 0) 102
      have e9:Below X3.heap.size X3 (X3.alloc (.cells #[.int .i64 0, .slice none 0 0] 102)):=(Below.refl _ _).alloc (Nat.le_refl _) _
      have lpb:X3.heap.size<(X3.alloc (.cells #[.int .i64 0, .slice none 0 0] 102)).heap.size:=by simp
      have gpb:Y1.heap.size≤X3.heap.size:=BU.size
      have n_r6_0_pb:NA X3.heap.size d6 l6:=r6.hd.sl.na (Nat.le_refl _)
      have n_r7_0_pb:NA X3.heap.size d7 l7:=r7.hd.sl.na (Nat.le_refl _)
      have n_r8_0_pb:NA X3.heap.size d8 l8:=r8.hd.sl.na (Nat.le_refl _)
      have n_r9_0_pb:NA X3.heap.size d9 l9:=r9.hd.sl.na (Nat.le_refl _)
      generalize X3.alloc (.cells #[.int .i64 0, .slice none 0 0] 102)=X9 at y_pb e9 lpb hHeld ⊢
      replace r6:=r6.below e9
      replace r7:=r7.below e9
      replace r8:=r8.below e9
      replace r9:=r9.below e9
      replace x_p:=x_p.on e9
      replace x_o:=x_o.on e9
      replace x_z:=x_z.on e9
      replace x_X:=x_X.on e9
      replace BB:=also BB e9
      replace BU:=also BU e9
      generalize X3.heap.size=pb at y_pb lpb gpb n_r6_0_pb n_r7_0_pb n_r8_0_pb n_r9_0_pb ⊢
      refine tcl 8 fun Kc hK=>?_
      go_simp
      (go_at_call 42;refine(rwMul s8 s9 d8 d9 l8 c8 l9 c9 k s R _ r8 r9 (few_i64 BK.out) (few_i64 BS.out) HR.out).mono ?_;rintro e X10 ⟨s10,d10,l10,c10,rfl,r10,f10,e10⟩)
      refine hK.out _ _ ⟨cell_on e10 hHeld.1,cell_on e10 hHeld.2.1,cell_on e10 hHeld.2.2.1,cell_on e10 hHeld.2.2.2.1,also hHeld.2.2.2.2 e10⟩ (fun hHeld=>?_)
      clear hK Kc
      have n_r10_0_pb:NA pb d10 l10:=f10 pb lpb trivial
      replace r6:=r6.below e10
      replace r7:=r7.below e10
      replace r8:=r8.below e10
      replace r9:=r9.below e10
      replace x_p:=x_p.on e10
      replace x_o:=x_o.on e10
      replace x_z:=x_z.on e10
      replace x_X:=x_X.on e10
      replace BB:=also BB e10
      replace BU:=also BU e10
      replace y_pb:=y_pb.on e10
      replace lpb:=Nat.lt_of_lt_of_le lpb e10.size
      refine tcl 9 fun Kc hK=>?_
      go_simp
      (go_at_call 41;refine(rwAdd s7 s10 d7 d10 l7 c7 l10 c10 y R B _ r7 r10 (few_i64 BY.out) FR.out HB.out).mono ?_;rintro e X11 ⟨s11,d11,l11,c11,rfl,r11,f11,e11⟩)
      refine hK.out _ _ ⟨cell_on e11 hHeld.1,cell_on e11 hHeld.2.1,cell_on e11 hHeld.2.2.1,cell_on e11 hHeld.2.2.2.1,also hHeld.2.2.2.2 e11⟩ (fun hHeld=>?_)
      clear hK Kc
      have n_r11_0_pb:NA pb d11 l11:=f11 pb lpb ⟨n_r7_0_pb,n_r10_0_pb⟩
      replace r6:=r6.below e11
      replace r7:=r7.below e11
      replace r8:=r8.below e11
      replace r9:=r9.below e11
      replace r10:=r10.below e11
      replace x_p:=x_p.on e11
      replace x_o:=x_o.on e11
      replace x_z:=x_z.on e11
      replace x_X:=x_X.on e11
      replace BB:=also BB e11
      replace BU:=also BU e11
      replace y_pb:=y_pb.on e11
      replace lpb:=Nat.lt_of_lt_of_le lpb e11.size
      have⟨c_pb_0,c_pb_1,c_pb_2,c_pb_3⟩:Bx X11 pb (.int .i64 0) (.slice none 0 0):=y_pb
      refine tcl 11 fun Kc hK=>?_
      go_simp
      refine hK.out _ _ ⟨cell_put2 hHeld.1 (by omega) _ _,cell_put2 hHeld.2.1 (by omega) _ _,cell_put2 hHeld.2.2.1 (by omega) _ _,cell_put2 hHeld.2.2.2.1 (by omega) _ _,below_put2 hHeld.2.2.2.2 (by omega) _ _⟩ (fun hHeld=>?_)
      clear hK Kc
      refine wpAnyH_done (by kernel_rfl) ?_ _
      rw [HQQ.out]
      exact⟨rfl,pb,s7,d7,l7,c7,s8,d8,l8,c8,s9,d9,l9,c9,s10,d10,l10,c10,s11,d11,l11,c11,rfl,((r6.put n_r6_0_pb 0 _).put n_r6_0_pb 1 _),((r7.put n_r7_0_pb 0 _).put n_r7_0_pb 1 _),((r8.put n_r8_0_pb 0 _).put n_r8_0_pb 1 _),((r9.put n_r9_0_pb 0 _).put n_r9_0_pb 1 _),((r10.put n_r10_0_pb 0 _).put n_r10_0_pb 1 _),((r11.put n_r11_0_pb 0 _).put n_r11_0_pb 1 _),((x_p.put (by omega)).put (by omega)),((x_o.put (by omega)).put (by omega)),((x_z.put (by omega)).put (by omega)),((x_X.put (by omega)).put (by omega)),y_pb.set,(below_put2 BB (by omega) _ _),by have:=BU.size;simp only [World.size_setCell];omega,⟨gpb,by simp only [World.size_setCell];omega⟩⟩
    ·skip
     go_simp
     refine hK.out _ _ ⟨cell_on ((Below.refl _ _).alloc (Nat.le_refl _) _) hHeld.1,cell_on ((Below.refl _ _).alloc (Nat.le_refl _) _) hHeld.2.1,cell_on ((Below.refl _ _).alloc (Nat.le_refl _) _) hHeld.2.2.1,cell_on ((Below.refl _ _).alloc (Nat.le_refl _) _) hHeld.2.2.2.1,also hHeld.2.2.2.2 ((Below.refl _ _).alloc (Nat.le_refl _) _)⟩ (fun hHeld=>?_)
     clear hK Kc
     have y_pb:=bx_new X2 (.int .i64 0) (.slice none 0 0) 102
     have e12:Below X2.heap.size X2 (X2.alloc (.cells #[.int .i64 0, .slice none 0 0] 102)):=(Below.refl _ _).alloc (Nat.le_refl _) _
     have lpb:X2.heap.size<(X2.alloc (.cells #[.int .i64 0, .slice none 0 0] 102)).heap.size:=by simp
     have gpb:Y1.heap.size≤X2.heap.size:=BU.size
     have n_r6_0_pb:NA X2.heap.size d6 l6:=r6.hd.sl.na (Nat.le_refl _)
     have n_r7_0_pb:NA X2.heap.size d7 l7:=r7.hd.sl.na (Nat.le_refl _)
     have n_r8_0_pb:NA X2.heap.size d8 l8:=r8.hd.sl.na (Nat.le_refl _)
     generalize X2.alloc (.cells #[.int .i64 0, .slice none 0 0] 102)=X12 at y_pb e12 lpb hHeld ⊢
     replace r6:=r6.below e12
     replace r7:=r7.below e12
     replace r8:=r8.below e12
     replace x_p:=x_p.on e12
     replace x_o:=x_o.on e12
     replace x_z:=x_z.on e12
     replace x_X:=x_X.on e12
     replace BB:=also BB e12
     replace BU:=also BU e12
     generalize X2.heap.size=pb at y_pb lpb gpb n_r6_0_pb n_r7_0_pb n_r8_0_pb ⊢
     refine tcl 7 fun Kc hK=>?_
     go_simp
     (go_at_call 39;refine(rwLong s _ BS.out.1 BS.out.2).mono ?_;rintro e X13 ⟨s9,d9,l9,c9,rfl,r9,f9,e13⟩)
     refine hK.out _ _ ⟨cell_on e13 hHeld.1,cell_on e13 hHeld.2.1,cell_on e13 hHeld.2.2.1,cell_on e13 hHeld.2.2.2.1,also hHeld.2.2.2.2 e13⟩ (fun hHeld=>?_)
     clear hK Kc
     have n_r9_0_pb:NA pb d9 l9:=f9 pb lpb trivial
     replace r6:=r6.below e13
     replace r7:=r7.below e13
     replace r8:=r8.below e13
     replace x_p:=x_p.on e13
     replace x_o:=x_o.on e13
     replace x_z:=x_z.on e13
     replace x_X:=x_X.on e13
     replace BB:=also BB e13
     replace BU:=also BU e13
     replace y_pb:=y_pb.on e13
     replace lpb:=Nat.lt_of_lt_of_le lpb e13.size
     refine tcl 8 fun Kc hK=>?_
     go_simp
     (go_at_call 42;refine(rwMul s8 s9 d8 d9 l8 c8 l9 c9 k s R _ r8 r9 (few_i64 BK.out) (few_i64 BS.out) HR.out).mono ?_;rintro e X14 ⟨s10,d10,l10,c10,rfl,r10,f10,e14⟩)
     refine hK.out _ _ ⟨cell_on e14 hHeld.1,cell_on e14 hHeld.2.1,cell_on e14 hHeld.2.2.1,cell_on e14 hHeld.2.2.2.1,also hHeld.2.2.2.2 e14⟩ (fun hHeld=>?_)
     clear hK Kc
     have n_r10_0_pb:NA pb d10 l10:=f10 pb lpb trivial
     replace r6:=r6.below e14
     replace r7:=r7.below e14
     replace r8:=r8.below e14
     replace r9:=r9.below e14
     replace x_p:=x_p.on e14
     replace x_o:=x_o.on e14
     replace x_z:=x_z.on e14
     replace x_X:=x_X.on e14
     replace BB:=also BB e14
     replace BU:=also BU e14
     replace y_pb:=y_pb.on e14
     replace lpb:=Nat.lt_of_lt_of_le lpb e14.size
     refine tcl 9 fun Kc hK=>?_
     go_simp
     (go_at_call 41;refine(rwAdd s7 s10 d7 d10 l7 c7 l10 c10 y R B _ r7 r10 (few_i64 BY.out) FR.out HB.out).mono ?_;rintro e X15 ⟨s11,d11,l11,c11,rfl,r11,f11,e15⟩)
     refine hK.out _ _ ⟨cell_on e15 hHeld.1,cell_on e15 hHeld.2.1,cell_on e15 hHeld.2.2.1,cell_on e15 hHeld.2.2.2.1,also hHeld.2.2.2.2 e15⟩ (fun hHeld=>?_)
     clear hK Kc
     have n_r11_0_pb:NA pb d11 l11:=f11 pb lpb ⟨n_r7_0_pb,n_r10_0_pb⟩
     replace r6:=r6.below e15
     replace r7:=r7.below e15
     replace r8:=r8.below e15
     replace r9:=r9.below e15
     replace r10:=r10.below e15
     replace x_p:=x_p.on e15
     replace x_o:=x_o.on e15
     replace x_z:=x_z.on e15
     replace x_X:=x_X.on e15
     replace BB:=also BB e15
     replace BU:=also BU e15
     replace y_pb:=y_pb.on e15
     replace lpb:=Nat.lt_of_lt_of_le lpb e15.size
     have⟨c_pb_0,c_pb_1,c_pb_2,c_pb_3⟩:Bx X15 pb (.int .i64 0) (.slice none 0 0):=y_pb
     refine tcl 11 fun Kc hK=>?_
     go_simp
     refine hK.out _ _ ⟨cell_put2 hHeld.1 (by omega) _ _,cell_put2 hHeld.2.1 (by omega) _ _,cell_put2 hHeld.2.2.1 (by omega) _ _,cell_put2 hHeld.2.2.2.1 (by omega) _ _,below_put2 hHeld.2.2.2.2 (by omega) _ _⟩ (fun hHeld=>?_)
     clear hK Kc
     refine wpAnyH_done (by kernel_rfl) ?_ _
     rw [HQQ.out]
     exact⟨rfl,pb,s7,d7,l7,c7,s8,d8,l8,c8,s9,d9,l9,c9,s10,d10,l10,c10,s11,d11,l11,c11,rfl,((r6.put n_r6_0_pb 0 _).put n_r6_0_pb 1 _),((r7.put n_r7_0_pb 0 _).put n_r7_0_pb 1 _),((r8.put n_r8_0_pb 0 _).put n_r8_0_pb 1 _),((r9.put n_r9_0_pb 0 _).put n_r9_0_pb 1 _),((r10.put n_r10_0_pb 0 _).put n_r10_0_pb 1 _),((r11.put n_r11_0_pb 0 _).put n_r11_0_pb 1 _),((x_p.put (by omega)).put (by omega)),((x_o.put (by omega)).put (by omega)),((x_z.put (by omega)).put (by omega)),((x_X.put (by omega)).put (by omega)),y_pb.set,(below_put2 BB (by omega) _ _),by have:=BU.size;simp only [World.size_setCell];omega,⟨gpb,by simp only [World.size_setCell];omega⟩⟩
   ·skip
    go_simp
    refine hK.out _ _ ⟨cell_on ((Below.refl _ _).alloc (Nat.le_refl _) _) hHeld.1,cell_on ((Below.refl _ _).alloc (Nat.le_refl _) _) hHeld.2.1,cell_on ((Below.refl _ _).alloc (Nat.le_refl _) _) hHeld.2.2.1,cell_on ((Below.refl _ _).alloc (Nat.le_refl _) _) hHeld.2.2.2.1,also hHeld.2.2.2.2 ((Below.refl _ _).alloc (Nat.le_refl _) _)⟩ (fun hHeld=>?_)
    clear hK Kc
    have y_pb:=bx_new X1 (.int .i64 0) (.slice none 0 0) 102
    have e16:Below X1.heap.size X1 (X1.alloc (.cells #[.int .i64 0, .slice none 0 0] 102)):=(Below.refl _ _).alloc (Nat.le_refl _) _
    have lpb:X1.heap.size<(X1.alloc (.cells #[.int .i64 0, .slice none 0 0] 102)).heap.size:=by simp
    have gpb:Y1.heap.size≤X1.heap.size:=BU.size
    have n_r6_0_pb:NA X1.heap.size d6 l6:=r6.hd.sl.na (Nat.le_refl _)
    have n_r7_0_pb:NA X1.heap.size d7 l7:=r7.hd.sl.na (Nat.le_refl _)
    generalize X1.alloc (.cells #[.int .i64 0, .slice none 0 0] 102)=X16 at y_pb e16 lpb hHeld ⊢
    replace r6:=r6.below e16
    replace r7:=r7.below e16
    replace x_p:=x_p.on e16
    replace x_o:=x_o.on e16
    replace x_z:=x_z.on e16
    replace x_X:=x_X.on e16
    replace BB:=also BB e16
    replace BU:=also BU e16
    generalize X1.heap.size=pb at y_pb lpb gpb n_r6_0_pb n_r7_0_pb ⊢
    refine tcl 5 fun Kc hK=>?_
    go_simp
    (go_at_call 39;refine(rwLong k _ BK.out.1 BK.out.2).mono ?_;rintro e X17 ⟨s8,d8,l8,c8,rfl,r8,f8,e17⟩)
    refine hK.out _ _ ⟨cell_on e17 hHeld.1,cell_on e17 hHeld.2.1,cell_on e17 hHeld.2.2.1,cell_on e17 hHeld.2.2.2.1,also hHeld.2.2.2.2 e17⟩ (fun hHeld=>?_)
    clear hK Kc
    have n_r8_0_pb:NA pb d8 l8:=f8 pb lpb trivial
    replace r6:=r6.below e17
    replace r7:=r7.below e17
    replace x_p:=x_p.on e17
    replace x_o:=x_o.on e17
    replace x_z:=x_z.on e17
    replace x_X:=x_X.on e17
    replace BB:=also BB e17
    replace BU:=also BU e17
    replace y_pb:=y_pb.on e17
    replace lpb:=Nat.lt_of_lt_of_le lpb e17.size
    refine tcl 7 fun Kc hK=>?_
    go_simp
    (go_at_call 39;refine(rwLong s _ BS.out.1 BS.out.2).mono ?_;rintro e X18 ⟨s9,d9,l9,c9,rfl,r9,f9,e18⟩)
    refine hK.out _ _ ⟨cell_on e18 hHeld.1,cell_on e18 hHeld.2.1,cell_on e18 hHeld.2.2.1,cell_on e18 hHeld.2.2.2.1,also hHeld.2.2.2.2 e18⟩ (fun hHeld=>?_)
    clear hK Kc
    have n_r9_0_pb:NA pb d9 l9:=f9 pb lpb trivial
    replace r6:=r6.below e18
    replace r7:=r7.below e18
    replace r8:=r8.below e18
    replace x_p:=x_p.on e18
    replace x_o:=x_o.on e18
    replace x_z:=x_z.on e18
    replace x_X:=x_X.on e18
    replace BB:=also BB e18
    replace BU:=also BU e18
    replace y_pb:=y_pb.on e18
    replace lpb:=Nat.lt_of_lt_of_le lpb e18.size
    refine tcl 8 fun Kc hK=>?_
    go_simp
    (go_at_call 42;refine(rwMul s8 s9 d8 d9 l8 c8 l9 c9 k s R _ r8 r9 (few_i64 BK.out) (few_i64 BS.out) HR.out).mono ?_;rintro e X19 ⟨s10,d10,l10,c10,rfl,r10,f10,e19⟩)
    refine hK.out _ _ ⟨cell_on e19 hHeld.1,cell_on e19 hHeld.2.1,cell_on e19 hHeld.2.2.1,cell_on e19 hHeld.2.2.2.1,also hHeld.2.2.2.2 e19⟩ (fun hHeld=>?_)
    clear hK Kc
    have n_r10_0_pb:NA pb d10 l10:=f10 pb lpb trivial
    replace r6:=r6.below e19
    replace r7:=r7.below e19
    replace r8:=r8.below e19
    replace r9:=r9.below e19
    replace x_p:=x_p.on e19
    replace x_o:=x_o.on e19
    replace x_z:=x_z.on e19
    replace x_X:=x_X.on e19
    replace BB:=also BB e19
    replace BU:=also BU e19
    replace y_pb:=y_pb.on e19
    replace lpb:=Nat.lt_of_lt_of_le lpb e19.size
    refine tcl 9 fun Kc hK=>?_
    go_simp
    (go_at_call 41;refine(rwAdd s7 s10 d7 d10 l7 c7 l10 c10 y R B _ r7 r10 (few_i64 BY.out) FR.out HB.out).mono ?_;rintro e X20 ⟨s11,d11,l11,c11,rfl,r11,f11,e20⟩)
    refine hK.out _ _ ⟨cell_on e20 hHeld.1,cell_on e20 hHeld.2.1,cell_on e20 hHeld.2.2.1,cell_on e20 hHeld.2.2.2.1,also hHeld.2.2.2.2 e20⟩ (fun hHeld=>?_)
    clear hK Kc
    have n_r11_0_pb:NA pb d11 l11:=f11 pb lpb ⟨n_r7_0_pb,n_r10_0_pb⟩
    replace r6:=r6.below e20
    replace r7:=r7.below e20
    replace r8:=r8.below e20
    replace r9:=r9.below e20
    replace r10:=r10.below e20
    replace x_p:=x_p.on e20
    replace x_o:=x_o.on e20
    replace x_z:=x_z.on e20
    replace x_X:=x_X.on e20
    replace BB:=also BB e20
    replace BU:=also BU e20
    replace y_pb:=y_pb.on e20
    replace lpb:=Nat.lt_of_lt_of_le lpb e20.size
    have⟨c_pb_0,c_pb_1,c_pb_2,c_pb_3⟩:Bx X20 pb (.int .i64 0) (.slice none 0 0):=y_pb
    refine tcl 11 fun Kc hK=>?_
    go_simp
    refine hK.out _ _ ⟨cell_put2 hHeld.1 (by omega) _ _,cell_put2 hHeld.2.1 (by omega) _ _,cell_put2 hHeld.2.2.1 (by omega) _ _,cell_put2 hHeld.2.2.2.1 (by omega) _ _,below_put2 hHeld.2.2.2.2 (by omega) _ _⟩ (fun hHeld=>?_)
    clear hK Kc
    refine wpAnyH_done (by kernel_rfl) ?_ _
    rw [HQQ.out]
    exact⟨rfl,pb,s7,d7,l7,c7,s8,d8,l8,c8,s9,d9,l9,c9,s10,d10,l10,c10,s11,d11,l11,c11,rfl,((r6.put n_r6_0_pb 0 _).put n_r6_0_pb 1 _),((r7.put n_r7_0_pb 0 _).put n_r7_0_pb 1 _),((r8.put n_r8_0_pb 0 _).put n_r8_0_pb 1 _),((r9.put n_r9_0_pb 0 _).put n_r9_0_pb 1 _),((r10.put n_r10_0_pb 0 _).put n_r10_0_pb 1 _),((r11.put n_r11_0_pb 0 _).put n_r11_0_pb 1 _),((x_p.put (by omega)).put (by omega)),((x_o.put (by omega)).put (by omega)),((x_z.put (by omega)).put (by omega)),((x_X.put (by omega)).put (by omega)),y_pb.set,(below_put2 BB (by omega) _ _),by have:=BU.size;simp only [World.size_setCell];omega,⟨gpb,by simp only [World.size_setCell];omega⟩⟩
  ·skip
   go_simp
   refine hK.out _ _ ⟨cell_on ((Below.refl _ _).alloc (Nat.le_refl _) _) hHeld.1,cell_on ((Below.refl _ _).alloc (Nat.le_refl _) _) hHeld.2.1,cell_on ((Below.refl _ _).alloc (Nat.le_refl _) _) hHeld.2.2.1,cell_on ((Below.refl _ _).alloc (Nat.le_refl _) _) hHeld.2.2.2.1,also hHeld.2.2.2.2 ((Below.refl _ _).alloc (Nat.le_refl _) _)⟩ (fun hHeld=>?_)
   clear hK Kc
   have y_pb:=bx_new X0 (.int .i64 0) (.slice none 0 0) 102
   have e21:Below X0.heap.size X0 (X0.alloc (.cells #[.int .i64 0, .slice none 0 0] 102)):=(Below.refl _ _).alloc (Nat.le_refl _) _
   have lpb:X0.heap.size<(X0.alloc (.cells #[.int .i64 0, .slice none 0 0] 102)).heap.size:=by simp
   have gpb:Y1.heap.size≤X0.heap.size:=BU.size
   have n_r6_0_pb:NA X0.heap.size d6 l6:=r6.hd.sl.na (Nat.le_refl _)
   generalize X0.alloc (.cells #[.int .i64 0, .slice none 0 0] 102)=X21 at y_pb e21 lpb hHeld ⊢
   replace r6:=r6.below e21
   replace x_p:=x_p.on e21
   replace x_o:=x_o.on e21
   replace x_z:=x_z.on e21
   replace x_X:=x_X.on e21
   replace BB:=also BB e21
   replace BU:=also BU e21
   generalize X0.heap.size=pb at y_pb lpb gpb n_r6_0_pb ⊢
   refine tcl 2 fun Kc hK=>?_
   go_simp
   (go_at_call 39;refine(rwLong y _ BY.out.1 BY.out.2).mono ?_;rintro e X22 ⟨s7,d7,l7,c7,rfl,r7,f7,e22⟩)
   refine hK.out _ _ ⟨cell_on e22 hHeld.1,cell_on e22 hHeld.2.1,cell_on e22 hHeld.2.2.1,cell_on e22 hHeld.2.2.2.1,also hHeld.2.2.2.2 e22⟩ (fun hHeld=>?_)
   clear hK Kc
   have n_r7_0_pb:NA pb d7 l7:=f7 pb lpb trivial
   replace r6:=r6.below e22
   replace x_p:=x_p.on e22
   replace x_o:=x_o.on e22
   replace x_z:=x_z.on e22
   replace x_X:=x_X.on e22
   replace BB:=also BB e22
   replace BU:=also BU e22
   replace y_pb:=y_pb.on e22
   replace lpb:=Nat.lt_of_lt_of_le lpb e22.size
   refine tcl 5 fun Kc hK=>?_
   go_simp
   (go_at_call 39;refine(rwLong k _ BK.out.1 BK.out.2).mono ?_;rintro e X23 ⟨s8,d8,l8,c8,rfl,r8,f8,e23⟩)
   refine hK.out _ _ ⟨cell_on e23 hHeld.1,cell_on e23 hHeld.2.1,cell_on e23 hHeld.2.2.1,cell_on e23 hHeld.2.2.2.1,also hHeld.2.2.2.2 e23⟩ (fun hHeld=>?_)
   clear hK Kc
   have n_r8_0_pb:NA pb d8 l8:=f8 pb lpb trivial
   replace r6:=r6.below e23
   replace r7:=r7.below e23
   replace x_p:=x_p.on e23
   replace x_o:=x_o.on e23
   replace x_z:=x_z.on e23
   replace x_X:=x_X.on e23
   replace BB:=also BB e23
   replace BU:=also BU e23
   replace y_pb:=y_pb.on e23
   replace lpb:=Nat.lt_of_lt_of_le lpb e23.size
   refine tcl 7 fun Kc hK=>?_
   go_simp
   (go_at_call 39;refine(rwLong s _ BS.out.1 BS.out.2).mono ?_;rintro e X24 ⟨s9,d9,l9,c9,rfl,r9,f9,e24⟩)
   refine hK.out _ _ ⟨cell_on e24 hHeld.1,cell_on e24 hHeld.2.1,cell_on e24 hHeld.2.2.1,cell_on e24 hHeld.2.2.2.1,also hHeld.2.2.2.2 e24⟩ (fun hHeld=>?_)
   clear hK Kc
   have n_r9_0_pb:NA pb d9 l9:=f9 pb lpb trivial
   replace r6:=r6.below e24
   replace r7:=r7.below e24
   replace r8:=r8.below e24
   replace x_p:=x_p.on e24
   replace x_o:=x_o.on e24
   replace x_z:=x_z.on e24
   replace x_X:=x_X.on e24
   replace BB:=also BB e24
   replace BU:=also BU e24
   replace y_pb:=y_pb.on e24
   replace lpb:=Nat.lt_of_lt_of_le lpb e24.size
   refine tcl 8 fun Kc hK=>?_
   go_simp
   (go_at_call 42;refine(rwMul s8 s9 d8 d9 l8 c8 l9 c9 k s R _ r8 r9 (few_i64 BK.out) (few_i64 BS.out) HR.out).mono ?_;rintro e X25 ⟨s10,d10,l10,c10,rfl,r10,f10,e25⟩)
   refine hK.out _ _ ⟨cell_on e25 hHeld.1,cell_on e25 hHeld.2.1,cell_on e25 hHeld.2.2.1,cell_on e25 hHeld.2.2.2.1,also hHeld.2.2.2.2 e25⟩ (fun hHeld=>?_)
   clear hK Kc
   have n_r10_0_pb:NA pb d10 l10:=f10 pb lpb trivial
   replace r6:=r6.below e25
   replace r7:=r7.below e25
   replace r8:=r8.below e25
   replace r9:=r9.below e25
   replace x_p:=x_p.on e25
   replace x_o:=x_o.on e25
   replace x_z:=x_z.on e25
   replace x_X:=x_X.on e25
   replace BB:=also BB e25
   replace BU:=also BU e25
   replace y_pb:=y_pb.on e25
   replace lpb:=Nat.lt_of_lt_of_le lpb e25.size
   refine tcl 9 fun Kc hK=>?_
   go_simp
   (go_at_call 41;refine(rwAdd s7 s10 d7 d10 l7 c7 l10 c10 y R B _ r7 r10 (few_i64 BY.out) FR.out HB.out).mono ?_;rintro e X26 ⟨s11,d11,l11,c11,rfl,r11,f11,e26⟩)
   refine hK.out _ _ ⟨cell_on e26 hHeld.1,cell_on e26 hHeld.2.1,cell_on e26 hHeld.2.2.1,cell_on e26 hHeld.2.2.2.1,also hHeld.2.2.2.2 e26⟩ (fun hHeld=>?_)
   clear hK Kc
   have n_r11_0_pb:NA pb d11 l11:=f11 pb lpb ⟨n_r7_0_pb,n_r10_0_pb⟩
   replace r6:=r6.below e26
   replace r7:=r7.below e26
   replace r8:=r8.below e26
   replace r9:=r9.below e26
   replace r10:=r10.below e26
   replace x_p:=x_p.on e26
   replace x_o:=x_o.on e26
   replace x_z:=x_z.on e26
   replace x_X:=x_X.on e26
   replace BB:=also BB e26
   replace BU:=also BU e26
   replace y_pb:=y_pb.on e26
   replace lpb:=Nat.lt_of_lt_of_le lpb e26.size
   have⟨c_pb_0,c_pb_1,c_pb_2,c_pb_3⟩:Bx X26 pb (.int .i64 0) (.slice none 0 0):=y_pb
   refine tcl 11 fun Kc hK=>?_
   go_simp
   refine hK.out _ _ ⟨cell_put2 hHeld.1 (by omega) _ _,cell_put2 hHeld.2.1 (by omega) _ _,cell_put2 hHeld.2.2.1 (by omega) _ _,cell_put2 hHeld.2.2.2.1 (by omega) _ _,below_put2 hHeld.2.2.2.2 (by omega) _ _⟩ (fun hHeld=>?_)
   clear hK Kc
   refine wpAnyH_done (by kernel_rfl) ?_ _
   rw [HQQ.out]
   exact⟨rfl,pb,s7,d7,l7,c7,s8,d8,l8,c8,s9,d9,l9,c9,s10,d10,l10,c10,s11,d11,l11,c11,rfl,((r6.put n_r6_0_pb 0 _).put n_r6_0_pb 1 _),((r7.put n_r7_0_pb 0 _).put n_r7_0_pb 1 _),((r8.put n_r8_0_pb 0 _).put n_r8_0_pb 1 _),((r9.put n_r9_0_pb 0 _).put n_r9_0_pb 1 _),((r10.put n_r10_0_pb 0 _).put n_r10_0_pb 1 _),((r11.put n_r11_0_pb 0 _).put n_r11_0_pb 1 _),((x_p.put (by omega)).put (by omega)),((x_o.put (by omega)).put (by omega)),((x_z.put (by omega)).put (by omega)),((x_X.put (by omega)).put (by omega)),y_pb.set,(below_put2 BB (by omega) _ _),by have:=BU.size;simp only [World.size_setCell];omega,⟨gpb,by simp only [World.size_setCell];omega⟩⟩
 rw [HQQ.out]
 rintro e act Y2 ⟨rfl,pb,s7,d7,l7,c7,s8,d8,l8,c8,s9,d9,l9,c9,s10,d10,l10,c10,s11,d11,l11,c11,rfl,r6,r7,r8,r9,r10,r11,x_p,x_o,x_z,x_X,x_Y,BB,z_Y2,z_Y2_pb⟩
 clear HQQ QQ
 dsimp only
 clear r7 r8 r9 r10
 cases hs:sideC s
 ·skip
  obtain rfl:b=false:=by rw [HOK.out];exact at_no_side hs
  obtain rfl:u=0:=HU.out
  obtain rfl:v=0:=HV.out
  clear HOK HU HV
  have⟨x_p_0,x_p_1,x_p_2,x_p_3⟩:=x_p
  have⟨x_z_0,x_z_1,x_z_2,x_z_3⟩:=x_z
  have⟨x_X_0,x_X_1,x_X_2,x_X_3⟩:=x_X
  have⟨x_Y_0,x_Y_1,x_Y_2,x_Y_3⟩:=x_Y
  go_wp2_with (go_at_call 43;fail)
  refine(rlTorus s Y2 hs.symm).mono ?_
  rintro e u0 ⟨rfl,bu0⟩
  clear x_p_0 x_p_1 x_p_2 x_p_3 x_z_0 x_z_1 x_z_2 x_z_3 x_X_0 x_X_1 x_X_2 x_X_3 x_Y_0 x_Y_1 x_Y_2 x_Y_3
  have zbu0:=bu0.size
  replace BB:=also BB bu0
  replace x_p:=x_p.on bu0
  replace x_o:=x_o.on bu0
  replace x_z:=x_z.on bu0
  replace r6:=r6.below bu0
  replace x_X:=x_X.on bu0
  replace r11:=r11.below bu0
  replace x_Y:=x_Y.on bu0
  have⟨x_p_0,x_p_1,x_p_2,x_p_3⟩:=x_p
  have⟨x_z_0,x_z_1,x_z_2,x_z_3⟩:=x_z
  have⟨x_X_0,x_X_1,x_X_2,x_X_3⟩:=x_X
  have⟨x_Y_0,x_Y_1,x_Y_2,x_Y_3⟩:=x_Y
  go_wp2
  exact bodyPost_ret (v:= .tuple #[.agg #[.int .i64 0, .int .i64 0], .bool false]) (by simp [results,Tryz.results15,go_sem, *]) rfl (⟨rfl,below_put2 BB (by omega) _ _⟩)
 ·skip
  cases hc:canC x y
  ·skip
   obtain rfl:b=false:=by rw [HOK.out];exact at_no_can hc
   obtain rfl:u=0:=HU.out
   obtain rfl:v=0:=HV.out
   clear HOK HU HV
   have⟨x_p_0,x_p_1,x_p_2,x_p_3⟩:=x_p
   have⟨x_z_0,x_z_1,x_z_2,x_z_3⟩:=x_z
   have⟨x_X_0,x_X_1,x_X_2,x_X_3⟩:=x_X
   have⟨x_Y_0,x_Y_1,x_Y_2,x_Y_3⟩:=x_Y
   go_wp2_with (go_at_call 43;fail)
   refine(rlTorus s Y2 hs.symm).mono ?_
   rintro e u0 ⟨rfl,bu0⟩
   clear x_p_0 x_p_1 x_p_2 x_p_3 x_z_0 x_z_1 x_z_2 x_z_3 x_X_0 x_X_1 x_X_2 x_X_3 x_Y_0 x_Y_1 x_Y_2 x_Y_3
   have zbu0:=bu0.size
   replace BB:=also BB bu0
   replace x_p:=x_p.on bu0
   replace x_o:=x_o.on bu0
   replace x_z:=x_z.on bu0
   replace r6:=r6.below bu0
   replace x_X:=x_X.on bu0
   replace r11:=r11.below bu0
   replace x_Y:=x_Y.on bu0
   have⟨x_p_0,x_p_1,x_p_2,x_p_3⟩:=x_p
   have⟨x_z_0,x_z_1,x_z_2,x_z_3⟩:=x_z
   have⟨x_X_0,x_X_1,x_X_2,x_X_3⟩:=x_X
   have⟨x_Y_0,x_Y_1,x_Y_2,x_Y_3⟩:=x_Y
   go_wp2_with (go_at_call 13;fail)
   refine(rlCan x y u0 BX.out BY.out hc.symm).mono ?_
   rintro e u1 ⟨rfl,bu1⟩
   clear x_p_0 x_p_1 x_p_2 x_p_3 x_z_0 x_z_1 x_z_2 x_z_3 x_X_0 x_X_1 x_X_2 x_X_3 x_Y_0 x_Y_1 x_Y_2 x_Y_3
   have zbu1:=bu1.size
   replace BB:=also BB bu1
   replace x_p:=x_p.on bu1
   replace x_o:=x_o.on bu1
   replace x_z:=x_z.on bu1
   replace r6:=r6.below bu1
   replace x_X:=x_X.on bu1
   replace r11:=r11.below bu1
   replace x_Y:=x_Y.on bu1
   have⟨x_p_0,x_p_1,x_p_2,x_p_3⟩:=x_p
   have⟨x_z_0,x_z_1,x_z_2,x_z_3⟩:=x_z
   have⟨x_X_0,x_X_1,x_X_2,x_X_3⟩:=x_X
   have⟨x_Y_0,x_Y_1,x_Y_2,x_Y_3⟩:=x_Y
   go_wp2
   exact bodyPost_ret (v:= .tuple #[.agg #[.int .i64 0, .int .i64 0], .bool false]) (by simp [results,Tryz.results15,go_sem, *]) rfl (⟨rfl,below_put2 BB (by omega) _ _⟩)
  ·skip
   cases h1:inC A
   ·skip
    obtain rfl:b=false:=by rw [HOK.out];exact at_no_there (by unfold canC;rw [←EA.out,h1];rfl)
    obtain rfl:u=0:=HU.out
    obtain rfl:v=0:=HV.out
    clear HOK HU HV
    have⟨x_p_0,x_p_1,x_p_2,x_p_3⟩:=x_p
    have⟨x_z_0,x_z_1,x_z_2,x_z_3⟩:=x_z
    have⟨x_X_0,x_X_1,x_X_2,x_X_3⟩:=x_X
    have⟨x_Y_0,x_Y_1,x_Y_2,x_Y_3⟩:=x_Y
    go_wp2_with (go_at_call 43;fail)
    refine(rlTorus s Y2 hs.symm).mono ?_
    rintro e u0 ⟨rfl,bu0⟩
    clear x_p_0 x_p_1 x_p_2 x_p_3 x_z_0 x_z_1 x_z_2 x_z_3 x_X_0 x_X_1 x_X_2 x_X_3 x_Y_0 x_Y_1 x_Y_2 x_Y_3
    have zbu0:=bu0.size
    replace BB:=also BB bu0
    replace x_p:=x_p.on bu0
    replace x_o:=x_o.on bu0
    replace x_z:=x_z.on bu0
    replace r6:=r6.below bu0
    replace x_X:=x_X.on bu0
    replace r11:=r11.below bu0
    replace x_Y:=x_Y.on bu0
    have⟨x_p_0,x_p_1,x_p_2,x_p_3⟩:=x_p
    have⟨x_z_0,x_z_1,x_z_2,x_z_3⟩:=x_z
    have⟨x_X_0,x_X_1,x_X_2,x_X_3⟩:=x_X
    have⟨x_Y_0,x_Y_1,x_Y_2,x_Y_3⟩:=x_Y
    go_wp2_with (go_at_call 13;fail)
    refine(rlCan x y u0 BX.out BY.out hc.symm).mono ?_
    rintro e u1 ⟨rfl,bu1⟩
    clear x_p_0 x_p_1 x_p_2 x_p_3 x_z_0 x_z_1 x_z_2 x_z_3 x_X_0 x_X_1 x_X_2 x_X_3 x_Y_0 x_Y_1 x_Y_2 x_Y_3
    have zbu1:=bu1.size
    replace BB:=also BB bu1
    replace x_p:=x_p.on bu1
    replace x_o:=x_o.on bu1
    replace x_z:=x_z.on bu1
    replace r6:=r6.below bu1
    replace x_X:=x_X.on bu1
    replace r11:=r11.below bu1
    replace x_Y:=x_Y.on bu1
    have⟨x_p_0,x_p_1,x_p_2,x_p_3⟩:=x_p
    have⟨x_z_0,x_z_1,x_z_2,x_z_3⟩:=x_z
    have⟨x_X_0,x_X_1,x_X_2,x_X_3⟩:=x_X
    have⟨x_Y_0,x_Y_1,x_Y_2,x_Y_3⟩:=x_Y
    go_wp2_with (go_at_call 38;fail)
    refine(rlIn s6 d6 l6 c6 A u1 r6 FA.out h1.symm).mono ?_
    rintro e u2 ⟨rfl,bu2⟩
    clear x_p_0 x_p_1 x_p_2 x_p_3 x_z_0 x_z_1 x_z_2 x_z_3 x_X_0 x_X_1 x_X_2 x_X_3 x_Y_0 x_Y_1 x_Y_2 x_Y_3
    have zbu2:=bu2.size
    replace BB:=also BB bu2
    replace x_p:=x_p.on bu2
    replace x_o:=x_o.on bu2
    replace x_z:=x_z.on bu2
    replace r6:=r6.below bu2
    replace x_X:=x_X.on bu2
    replace r11:=r11.below bu2
    replace x_Y:=x_Y.on bu2
    have⟨x_p_0,x_p_1,x_p_2,x_p_3⟩:=x_p
    have⟨x_z_0,x_z_1,x_z_2,x_z_3⟩:=x_z
    have⟨x_X_0,x_X_1,x_X_2,x_X_3⟩:=x_X
    have⟨x_Y_0,x_Y_1,x_Y_2,x_Y_3⟩:=x_Y
    go_wp2
    exact bodyPost_ret (v:= .tuple #[.agg #[.int .i64 0, .int .i64 0], .bool false]) (by simp [results,Tryz.results15,go_sem, *]) rfl (⟨rfl,below_put2 BB (by omega) _ _⟩)
   ·skip
    cases h2:inC B
    ·skip
     obtain rfl:b=false:=by rw [HOK.out];exact at_no_there (by unfold canC;rw [←EB.out,h2];simp)
     obtain rfl:u=0:=HU.out
     obtain rfl:v=0:=HV.out
     clear HOK HU HV
     have⟨x_p_0,x_p_1,x_p_2,x_p_3⟩:=x_p
     have⟨x_z_0,x_z_1,x_z_2,x_z_3⟩:=x_z
     have⟨x_X_0,x_X_1,x_X_2,x_X_3⟩:=x_X
     have⟨x_Y_0,x_Y_1,x_Y_2,x_Y_3⟩:=x_Y
     go_wp2_with (go_at_call 43;fail)
     refine(rlTorus s Y2 hs.symm).mono ?_
     rintro e u0 ⟨rfl,bu0⟩
     clear x_p_0 x_p_1 x_p_2 x_p_3 x_z_0 x_z_1 x_z_2 x_z_3 x_X_0 x_X_1 x_X_2 x_X_3 x_Y_0 x_Y_1 x_Y_2 x_Y_3
     have zbu0:=bu0.size
     replace BB:=also BB bu0
     replace x_p:=x_p.on bu0
     replace x_o:=x_o.on bu0
     replace x_z:=x_z.on bu0
     replace r6:=r6.below bu0
     replace x_X:=x_X.on bu0
     replace r11:=r11.below bu0
     replace x_Y:=x_Y.on bu0
     have⟨x_p_0,x_p_1,x_p_2,x_p_3⟩:=x_p
     have⟨x_z_0,x_z_1,x_z_2,x_z_3⟩:=x_z
     have⟨x_X_0,x_X_1,x_X_2,x_X_3⟩:=x_X
     have⟨x_Y_0,x_Y_1,x_Y_2,x_Y_3⟩:=x_Y
     go_wp2_with (go_at_call 13;fail)
     refine(rlCan x y u0 BX.out BY.out hc.symm).mono ?_
     rintro e u1 ⟨rfl,bu1⟩
     clear x_p_0 x_p_1 x_p_2 x_p_3 x_z_0 x_z_1 x_z_2 x_z_3 x_X_0 x_X_1 x_X_2 x_X_3 x_Y_0 x_Y_1 x_Y_2 x_Y_3
     have zbu1:=bu1.size
     replace BB:=also BB bu1
     replace x_p:=x_p.on bu1
     replace x_o:=x_o.on bu1
     replace x_z:=x_z.on bu1
     replace r6:=r6.below bu1
     replace x_X:=x_X.on bu1
     replace r11:=r11.below bu1
     replace x_Y:=x_Y.on bu1
     have⟨x_p_0,x_p_1,x_p_2,x_p_3⟩:=x_p
     have⟨x_z_0,x_z_1,x_z_2,x_z_3⟩:=x_z
     have⟨x_X_0,x_X_1,x_X_2,x_X_3⟩:=x_X
     have⟨x_Y_0,x_Y_1,x_Y_2,x_Y_3⟩:=x_Y
     go_wp2_with (go_at_call 38;fail)
     refine(rlIn s6 d6 l6 c6 A u1 r6 FA.out h1.symm).mono ?_
     rintro e u2 ⟨rfl,bu2⟩
     clear x_p_0 x_p_1 x_p_2 x_p_3 x_z_0 x_z_1 x_z_2 x_z_3 x_X_0 x_X_1 x_X_2 x_X_3 x_Y_0 x_Y_1 x_Y_2 x_Y_3
     have zbu2:=bu2.size
     replace BB:=also BB bu2
     replace x_p:=x_p.on bu2
     replace x_o:=x_o.on bu2
     replace x_z:=x_z.on bu2
     replace r6:=r6.below bu2
     replace x_X:=x_X.on bu2
     replace r11:=r11.below bu2
     replace x_Y:=x_Y.on bu2
     have⟨x_p_0,x_p_1,x_p_2,x_p_3⟩:=x_p
     have⟨x_z_0,x_z_1,x_z_2,x_z_3⟩:=x_z
     have⟨x_X_0,x_X_1,x_X_2,x_X_3⟩:=x_X
     have⟨x_Y_0,x_Y_1,x_Y_2,x_Y_3⟩:=x_Y
     go_wp2_with (go_at_call 38;fail)
     refine(rlIn s11 d11 l11 c11 B u2 r11 FB.out h2.symm).mono ?_
     rintro e u3 ⟨rfl,bu3⟩
     clear x_p_0 x_p_1 x_p_2 x_p_3 x_z_0 x_z_1 x_z_2 x_z_3 x_X_0 x_X_1 x_X_2 x_X_3 x_Y_0 x_Y_1 x_Y_2 x_Y_3
     have zbu3:=bu3.size
     replace BB:=also BB bu3
     replace x_p:=x_p.on bu3
     replace x_o:=x_o.on bu3
     replace x_z:=x_z.on bu3
     replace r6:=r6.below bu3
     replace x_X:=x_X.on bu3
     replace r11:=r11.below bu3
     replace x_Y:=x_Y.on bu3
     have⟨x_p_0,x_p_1,x_p_2,x_p_3⟩:=x_p
     have⟨x_z_0,x_z_1,x_z_2,x_z_3⟩:=x_z
     have⟨x_X_0,x_X_1,x_X_2,x_X_3⟩:=x_X
     have⟨x_Y_0,x_Y_1,x_Y_2,x_Y_3⟩:=x_Y
     go_wp2
     exact bodyPost_ret (v:= .tuple #[.agg #[.int .i64 0, .int .i64 0], .bool false]) (by simp [results,Tryz.results15,go_sem, *]) rfl (⟨rfl,below_put2 BB (by omega) _ _⟩)
    ·skip
     obtain rfl:b=true:=by rw [HOK.out];exact at_yes hc hs (by unfold canC;rw [←EA.out,←EB.out,h1,h2];rfl)
     obtain rfl:A=u:=EA.out.trans HU.out.symm
     obtain rfl:B=v:=EB.out.trans HV.out.symm
     clear HOK HU HV
     have⟨x_p_0,x_p_1,x_p_2,x_p_3⟩:=x_p
     have⟨x_z_0,x_z_1,x_z_2,x_z_3⟩:=x_z
     have⟨x_X_0,x_X_1,x_X_2,x_X_3⟩:=x_X
     have⟨x_Y_0,x_Y_1,x_Y_2,x_Y_3⟩:=x_Y
     go_wp2_with (go_at_call 43;fail)
     refine(rlTorus s Y2 hs.symm).mono ?_
     rintro e u0 ⟨rfl,bu0⟩
     clear x_p_0 x_p_1 x_p_2 x_p_3 x_z_0 x_z_1 x_z_2 x_z_3 x_X_0 x_X_1 x_X_2 x_X_3 x_Y_0 x_Y_1 x_Y_2 x_Y_3
     have zbu0:=bu0.size
     replace BB:=also BB bu0
     replace x_p:=x_p.on bu0
     replace x_o:=x_o.on bu0
     replace x_z:=x_z.on bu0
     replace r6:=r6.below bu0
     replace x_X:=x_X.on bu0
     replace r11:=r11.below bu0
     replace x_Y:=x_Y.on bu0
     have⟨x_p_0,x_p_1,x_p_2,x_p_3⟩:=x_p
     have⟨x_z_0,x_z_1,x_z_2,x_z_3⟩:=x_z
     have⟨x_X_0,x_X_1,x_X_2,x_X_3⟩:=x_X
     have⟨x_Y_0,x_Y_1,x_Y_2,x_Y_3⟩:=x_Y
     go_wp2_with (go_at_call 13;fail)
     refine(rlCan x y u0 BX.out BY.out hc.symm).mono ?_
     rintro e u1 ⟨rfl,bu1⟩
     clear x_p_0 x_p_1 x_p_2 x_p_3 x_z_0 x_z_1 x_z_2 x_z_3 x_X_0 x_X_1 x_X_2 x_X_3 x_Y_0 x_Y_1 x_Y_2 x_Y_3
     have zbu1:=bu1.size
     replace BB:=also BB bu1
     replace x_p:=x_p.on bu1
     replace x_o:=x_o.on bu1
     replace x_z:=x_z.on bu1
     replace r6:=r6.below bu1
     replace x_X:=x_X.on bu1
     replace r11:=r11.below bu1
     replace x_Y:=x_Y.on bu1
     have⟨x_p_0,x_p_1,x_p_2,x_p_3⟩:=x_p
     have⟨x_z_0,x_z_1,x_z_2,x_z_3⟩:=x_z
     have⟨x_X_0,x_X_1,x_X_2,x_X_3⟩:=x_X
     have⟨x_Y_0,x_Y_1,x_Y_2,x_Y_3⟩:=x_Y
     go_wp2_with (go_at_call 38;fail)
     refine(rlIn s6 d6 l6 c6 A u1 r6 FA.out h1.symm).mono ?_
     rintro e u2 ⟨rfl,bu2⟩
     clear x_p_0 x_p_1 x_p_2 x_p_3 x_z_0 x_z_1 x_z_2 x_z_3 x_X_0 x_X_1 x_X_2 x_X_3 x_Y_0 x_Y_1 x_Y_2 x_Y_3
     have zbu2:=bu2.size
     replace BB:=also BB bu2
     replace x_p:=x_p.on bu2
     replace x_o:=x_o.on bu2
     replace x_z:=x_z.on bu2
     replace r6:=r6.below bu2
     replace x_X:=x_X.on bu2
     replace r11:=r11.below bu2
     replace x_Y:=x_Y.on bu2
     have⟨x_p_0,x_p_1,x_p_2,x_p_3⟩:=x_p
     have⟨x_z_0,x_z_1,x_z_2,x_z_3⟩:=x_z
     have⟨x_X_0,x_X_1,x_X_2,x_X_3⟩:=x_X
     have⟨x_Y_0,x_Y_1,x_Y_2,x_Y_3⟩:=x_Y
     go_wp2_with (go_at_call 38;fail)
     refine(rlIn s11 d11 l11 c11 B u2 r11 FB.out h2.symm).mono ?_
     rintro e u3 ⟨rfl,bu3⟩
     clear x_p_0 x_p_1 x_p_2 x_p_3 x_z_0 x_z_1 x_z_2 x_z_3 x_X_0 x_X_1 x_X_2 x_X_3 x_Y_0 x_Y_1 x_Y_2 x_Y_3
     have zbu3:=bu3.size
     replace BB:=also BB bu3
     replace x_p:=x_p.on bu3
     replace x_o:=x_o.on bu3
     replace x_z:=x_z.on bu3
     replace r6:=r6.below bu3
     replace x_X:=x_X.on bu3
     replace r11:=r11.below bu3
     replace x_Y:=x_Y.on bu3
     have⟨x_p_0,x_p_1,x_p_2,x_p_3⟩:=x_p
     have⟨x_z_0,x_z_1,x_z_2,x_z_3⟩:=x_z
     have⟨x_X_0,x_X_1,x_X_2,x_X_3⟩:=x_X
     have⟨x_Y_0,x_Y_1,x_Y_2,x_Y_3⟩:=x_Y
     go_wp2_with (go_at_call 44;fail)
     refine(rwSmall s6 d6 l6 c6 A u3 r6 FA.out (sm_in h1).1 (sm_in h1).2).mono ?_
     rintro e u5 ⟨rfl,bu5⟩
     clear x_p_0 x_p_1 x_p_2 x_p_3 x_z_0 x_z_1 x_z_2 x_z_3 x_X_0 x_X_1 x_X_2 x_X_3 x_Y_0 x_Y_1 x_Y_2 x_Y_3
     have zbu5:=bu5.size
     replace BB:=also BB bu5
     replace x_p:=x_p.on bu5
     replace x_o:=x_o.on bu5
     replace x_z:=x_z.on bu5
     replace r6:=r6.below bu5
     replace x_X:=x_X.on bu5
     replace r11:=r11.below bu5
     replace x_Y:=x_Y.on bu5
     have⟨x_p_0,x_p_1,x_p_2,x_p_3⟩:=x_p
     have⟨x_z_0,x_z_1,x_z_2,x_z_3⟩:=x_z
     have⟨x_X_0,x_X_1,x_X_2,x_X_3⟩:=x_X
     have⟨x_Y_0,x_Y_1,x_Y_2,x_Y_3⟩:=x_Y
     go_wp2_with (go_at_call 44;fail)
     refine(rwSmall s11 d11 l11 c11 B u5 r11 FB.out (sm_in h2).1 (sm_in h2).2).mono ?_
     rintro e u6 ⟨rfl,bu6⟩
     clear x_p_0 x_p_1 x_p_2 x_p_3 x_z_0 x_z_1 x_z_2 x_z_3 x_X_0 x_X_1 x_X_2 x_X_3 x_Y_0 x_Y_1 x_Y_2 x_Y_3
     have zbu6:=bu6.size
     replace BB:=also BB bu6
     replace x_p:=x_p.on bu6
     replace x_o:=x_o.on bu6
     replace x_z:=x_z.on bu6
     replace r6:=r6.below bu6
     replace x_X:=x_X.on bu6
     replace r11:=r11.below bu6
     replace x_Y:=x_Y.on bu6
     have⟨x_p_0,x_p_1,x_p_2,x_p_3⟩:=x_p
     have⟨x_z_0,x_z_1,x_z_2,x_z_3⟩:=x_z
     have⟨x_X_0,x_X_1,x_X_2,x_X_3⟩:=x_X
     have⟨x_Y_0,x_Y_1,x_Y_2,x_Y_3⟩:=x_Y
     go_wp2
     exact bodyPost_ret (v:= .tuple #[.agg #[.int .i64 A, .int .i64 B], .bool true]) (by simp [results,Tryz.results15,go_sem, *]) rfl (⟨rfl,below_put2 BB (by omega) _ _⟩)
end Go.Proofs.YtaadknpjbogkbaaGreat
