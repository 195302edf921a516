/-
  Joined texts, part 9:
  What zelligeref11's DropVert and DropFace do.
  Both meshes, an act at a time: the law's own 'does'.
  Both meshes, act by act: the law's own 'Plays'.
  A slice of acts, and an array of two ints, that come as arguments, opened.
  The law's own looks, and MeshActs, over what the program's mesh must do.
-/
import Derived.Test.YtjmhfdimoeaplaaGreatP6
import Derived.Test.YtjmhfdimoeaplaaGreatP8
import Derived.Test.YtjmhfdimoeaplaaGreatP7
import Derived.Deep.Slices
import Derived.ProofKit
import Derived.OpenShut
import Derived.ChangeSlices
import Derived.Lib.SmallJoins
import Derived.Test.YtjmhfdimoeaplaaGreatP4
set_option maxRecDepth 100000
set_option maxHeartbeats 20000000
namespace Go.Proofs.YtjmhfdimoeaplaaGreat
open Go.RowKit
set_option linter.unusedVariables false
theorem cut_length{α:Type}{L:List α}{i:Nat}(h:i<L.length):(cut L i).length=i+(L.length- (i+1)):=by unfold cut;rw [List.length_append,List.length_take,List.length_drop];omega
theorem flat_cut{α:Type}{f:α→List Value}{s:Nat}(hf: ∀ x,(f x).length=s)(L:List α)(i:Nat):flat f (cut L i)=(flat f L).take (i*s)++(flat f L).drop ((i+1)*s):=by unfold cut;rw [flat_append,flat_take hf,flat_drop hf]
theorem mrDropV0(p:Nat)(S:Ms)(v:Int)(w:World)(h:MeLook p S w)(hV:S.V.length≤1000)(hC:S.C.length≤1000)(hn:fAt Vt.no v S.V 0<0):Calls Tryz.prog 147 #[ptR p, .int .i64 v] w fun e w'=>e= .returned (.bool false)∧Below w.heap.size w w':=by
 go_enter Tryz.func147,Tryz.ntmps147
 go_wp2_with (go_at_call 33;fail)
 refine(mrVertAt p S v w h hV rfl).mono ?_
 rintro e w1 ⟨rfl,b1⟩
 go_wp2
 go_ret
 exact⟨rfl,b1⟩
theorem mrDropV1(p:Nat)(S:Ms)(v:Int)(w:World)(h:MeLook p S w)(hV:S.V.length≤1000)(hC:S.C.length≤1000)(hn:0≤fAt Vt.no v S.V 0)(hne:around S.C v≠ []):Calls Tryz.prog 147 #[ptR p, .int .i64 v] w fun e w'=>e= .returned (.bool false)∧Below w.heap.size w w':=by
 have hd:decide (fAt Vt.no v S.V 0<0)=false:=decide_eq_false (by omega)
 have hpos:0<((around S.C v).length:Int):=by have:=List.length_pos_iff.2 hne;omega
 have HL:Hid _:=h
 clear h
 go_enter Tryz.func147,Tryz.ntmps147
 go_wp2_with (go_at_call 33;fail)
 refine(mrVertAt p S v w HL.out hV rfl).mono ?_
 rintro e w1 ⟨rfl,b1⟩
 go_wp2_with (go_at_call 204;fail)
 refine(mrAround p S v w1 (HL.out.below b1) hC rfl).mono ?_
 rintro e w2 ⟨a2,c2,rfl,h2,b2⟩
 go_wp2
 go_ret
 exact⟨rfl,b1.trans (b2.mono b1.size)⟩
theorem mrDropV(base p:Nat)(S:Ms)(F:Nat→Prop)(v:Int)(i:Nat)(w:World)(hM:MeR base p S F w)(hV:S.V.length≤1000)(hC:S.C.length≤1000)(l1:S.av.L.length≤1000)(l2:S.av.B.length≤1000)(hi:fAt Vt.no v S.V 0=(i:Int))(hlt:i<S.V.length)(hL:v∈S.av.L)(hne:around S.C v= []):
  Calls Tryz.prog 147 #[ptR p, .int .i64 v] w fun e w'=>e= .returned (.bool true)∧Left (MeR base p (S.dropV v i)) F w w':=by
 have HM:Hid _:=hM
 have HI:Hid ((i:Int)=_):=hi.symm
 have HL:Hid _:=hL
 obtain⟨i0,hi0,hz0,hz1,hz2⟩:=info_of infoV
 have hd:decide ((i:Int)<0)=false:=decide_eq_false (by omega)
 have HNE:Hid ([]=around S.C v):=hne.symm
 clear hM hi hL hne
 go_enter Tryz.func147,Tryz.ntmps147
 go_wp2_with (go_at_call 33;fail)
 refine(mrVertAt p S v w HM.out.look hV HI.out).mono ?_
 rintro e w0 ⟨rfl,b0⟩
 go_wp2_with (go_at_call 204;fail)
 refine(mrAround p S v w0 (HM.out.look.below b0) hC HNE.out).mono ?_
 rintro e w1 ⟨a2,c2,rfl,h2,b1⟩
 have B1:Below w.heap.size w w1:=b0.trans (b1.mono b0.size)
 clear h2
 have M1:=HM.out.below B1
 have HM1:Hid _:=M1
 obtain⟨pv,pf,Fv,Ff,a,ca,b,cb,hrow,hv,hf,ha,hb,hp,hFv,hFf,hFa,hFb⟩:=M1.ex
 have hpl:=hrow.lt
 have hbase:base≤w1.heap.size:=by have:=M1.ft p hp;omega
 obtain⟨g,rfl,hg,_,hseg⟩:=ha.at (by omega)
 have hroom:=ha.room.1
 have q:=hrow.cell 3 _ rfl
 have fz:=hrow.free 3 (by simp)
 have HS:Hid _:=hseg
 have hlen:=ha.len
 have HLEN:Hid _:=hlen
 obtain⟨nn,hnn⟩: ∃ nn,nn=S.V.length:=⟨_,rfl⟩
 have HNN:Hid _:=hnn
 rw [←hnn]at q hlt hroom hV
 have hF1:Hid (F p):=hp
 clear hrow hv hf ha hb hFv hFf hFa hFb hseg hlen M1 hnn hp
 obtain⟨k,hk⟩: ∃ k,k=i+1:=⟨_,rfl⟩
 have kw:IntKind.i64.wrap ((i:Int)+1)=(k:Int):=by rw [wrap_i64,hk];unfold wrap64;omega
 have HK:Hid _:=hk
 have hic:i≤ca:=by omega
 have hic1:(k:Int)≤(nn:Int):=by omega
 have hic2:k≤nn:=by omega
 clear hk
 obtain⟨ad,hif,had⟩: ∃ ad:Addr,(if ca=k then some (⟨g,0,none⟩:Addr)else some ⟨g,k*4,none⟩)=some ad∧((ca=k∧ad=⟨g,0,none⟩)∨(¬ca=k∧ad=⟨g,k*4,none⟩)):=by
  by_cases e:ca=k
  ·exact⟨_,by rw [if_pos e],Or.inl ⟨e,rfl⟩⟩
  ·exact⟨_,by rw [if_neg e],Or.inr ⟨e,rfl⟩⟩
 have own0:OwnS (w1.drew.alloc (.cells #[] 67)) w1.heap.size 67 4 (some ⟨w1.heap.size,0,none⟩) 0 0 []:=ownS_new w1.drew w1.heap.size 67 4 (Nat.le_refl _)
 have B2:Below w1.heap.size w1 (w1.drew.alloc (.cells #[] 67)):=((Below.refl w1.heap.size w1).drew).alloc (Nat.le_refl _) _
 have news1:News (w1.drew.alloc (.cells #[] 67)) ⟨g,0,none⟩ ((flat vtC S.V).take (i*4)):=by
  intro j u hu
  have h1:=((Seg.take (w:=w1) HS.out (i*4)).cell j u hu)
  rw [Addr.add_lit]
  exact(B2.cell (p:=⟨g,0+j,none⟩) hg).trans h1
 have len1:((flat vtC S.V).take (i*4)).length=i*4:=by rw [List.length_take,HLEN.out,←HNN.out];omega
 have newsP: ∀ w3,Below w1.heap.size w1 w3→News w3 ad ((flat vtC S.V).drop (k*4)):=by
  intro w3 B3 j u hu
  rcases had with⟨e1,rfl⟩|⟨_,rfl⟩
  ·exact absurd (List.getElem?_eq_some_iff.1 hu).1 (by rw [List.length_drop,HLEN.out,←HNN.out,show nn=k by omega];omega)
  ·have h1:=((Seg.drop (w:=w1) HS.out (k*4)).cell j u hu)
   rw [Nat.zero_add]at h1
   rw [Addr.add_lit]
   exact(B3.cell (p:=⟨g,k*4+j,none⟩) hg).trans h1
 have HNP:Hid _:=newsP
 clear newsP had
 go_wp2
 refine regionL 19 (S:=fun w'=>w'.cell? ⟨p,3,none⟩=some (.slice (some ⟨g,0,none⟩) nn ca)) (by kernel_rfl) ?_ (fun hHeld=>?_)
 ·exact q
 refine tyL (i:=0) (v:=?vdrV0) rfl ?hydrV0 ?_
 case hydrV0=>(intro w hSw;(try dsimp only at hSw);go_simp<;>with_reducible rfl)
 simp only [Go.Act.put,ps1,ps2,ps3]
 refine tyL (i:=2) (v:=?vdrV2) rfl ?hydrV2 ?_
 case hydrV2=>(intro w hSw;(try dsimp only at hSw);go_simp<;>with_reducible rfl)
 simp only [Go.Act.put,ps1,ps2,ps3]
 refine tyL (i:=3) (v:=?vdrV3) rfl ?hydrV3 ?_
 case hydrV3=>(intro w hSw;(try dsimp only at hSw);go_simp<;>with_reducible rfl)
 simp only [Go.Act.put,ps1,ps2,ps3]
 refine tyL (i:=4) (v:=?vdrV4) rfl ?hydrV4 ?_
 case hydrV4=>(intro w hSw;(try dsimp only at hSw);go_simp<;>with_reducible rfl)
 simp only [Go.Act.put,ps1,ps2,ps3]
 refine tyL (i:=5) (v:=?vdrV5) rfl ?hydrV5 ?_
 case hydrV5=>(intro w hSw;(try dsimp only at hSw);go_simp<;>with_reducible rfl)
 simp only [Go.Act.put,ps1,ps2,ps3]
 refine tyL (i:=6) (v:=?vdrV6) rfl ?hydrV6 ?_
 case hydrV6=>(intro w hSw;(try dsimp only at hSw);go_simp<;>with_reducible rfl)
 simp only [Go.Act.put,ps1,ps2,ps3]
 refine tyL (i:=7) (v:=?vdrV7) rfl ?hydrV7 ?_
 case hydrV7=>(intro w hSw;(try dsimp only at hSw);go_simp<;>with_reducible rfl)
 simp only [Go.Act.put,ps1,ps2,ps3]
 refine tyL (i:=9) (v:=?vdrV9) rfl ?hydrV9 ?_
 case hydrV9=>(intro w hSw;(try dsimp only at hSw);go_simp<;>with_reducible rfl)
 simp only [Go.Act.put,ps1,ps2,ps3]
 refine tyL (i:=10) (v:=?vdrV10) rfl ?hydrV10 ?_
 case hydrV10=>(intro w hSw;(try dsimp only at hSw);go_simp<;>with_reducible rfl)
 simp only [Go.Act.put,ps1,ps2,ps3]
 refine tyL (i:=11) (v:=?vdrV11) rfl ?hydrV11 ?_
 case hydrV11=>(intro w hSw;(try dsimp only at hSw);go_simp<;>with_reducible rfl)
 simp only [Go.Act.put,ps1,ps2,ps3]
 refine tyL (i:=12) (v:=?vdrV12) rfl ?hydrV12 ?_
 case hydrV12=>(intro w hSw;(try dsimp only at hSw);go_simp<;>with_reducible rfl)
 simp only [Go.Act.put,ps1,ps2,ps3]
 refine tyL (i:=13) (v:=?vdrV13) rfl ?hydrV13 ?_
 case hydrV13=>(intro w hSw;(try dsimp only at hSw);go_simp<;>with_reducible rfl)
 simp only [Go.Act.put,ps1,ps2,ps3]
 refine tyL (i:=14) (v:=?vdrV14) rfl ?hydrV14 ?_
 case hydrV14=>(intro w hSw;(try dsimp only at hSw);go_simp<;>with_reducible rfl)
 simp only [Go.Act.put,ps1,ps2,ps3]
 refine tyL (i:=15) (v:=?vdrV15) rfl ?hydrV15 ?_
 case hydrV15=>(intro w hSw;(try dsimp only at hSw);go_simp<;>with_reducible rfl)
 simp only [Go.Act.put,ps1,ps2,ps3]
 refine takeL_call (i:=1) rfl (by kernel_rfl) (fun Kc hK=>?_)
 go_simp
 refine hK.out _ _ ?_ (fun hHeld=>?_)
 ·first|exact q4|exact(B2.cell (p:=⟨p,3,none⟩) hpl).trans q
 clear hK Kc
 refine takeL_call (i:=8) rfl (by kernel_rfl) (fun Kc hK=>?_)
 refine step_append_S rfl (.tmp 19) (.tmp 25) 55 rfl w1.heap.size 67 i0 _ 4 32 Tryz.underlying55 hi0 hz0 hz1 hz2 rfl (by decide) _ 0 0 [] rfl own0 ⟨g,0,none⟩ i ca _ rfl len1 news1 (fun u hu=>flat_one_cell vtC_one S.V u (List.mem_of_mem_take hu)) (by unfold maxLen;omega) (by omega) (by simp) ?_;intro a3 c3 w3 h3 g3 s3
 refine hK.out _ _ ?_ (fun hHeld=>?_)
 ·exact(((Keep.of (F:=fun k=>w1.heap.size≤k) B2).grown g3 (fun k e=>Or.inl (by simp [Value.ownBlock]at e;omega))).below (Nat.le_refl _) (fun k h=>h)).cell (p:=⟨p,3,none⟩) hpl|>.trans q
 clear hK Kc
 rw [List.nil_append]at h3
 have k3:Keep (fun k=>w1.heap.size≤k) w1 w3:=(Keep.of B2).grown g3 (fun k e=>Or.inl (by simp [Value.ownBlock]at e;omega))
 have B3:Below w1.heap.size w1 w3:=k3.below (Nat.le_refl _) (fun k h=>h)
 have z3:=B3.size
 have len2:((flat vtC S.V).drop (k*4)).length=(nn- k)*4:=(by rw [List.length_drop,HLEN.out,←HNN.out,←Nat.sub_mul])
 refine takeL_call (i:=16) rfl (by kernel_rfl) (fun Kc hK=>?_)
 refine step_append_S rfl (.tmp 26) (.tmp 33) 55 rfl w1.heap.size 67 i0 _ 4 32 Tryz.underlying55 hi0 hz0 hz1 hz2 rfl (by decide) a3 (0+i) c3 _ rfl h3 ad (nn- k) _ _ rfl len2 (HNP.out w3 B3) (fun u hu=>flat_one_cell vtC_one S.V u (List.mem_of_mem_drop hu)) (by unfold maxLen;have:=HK.out;omega) (by have:=HK.out;omega) z3 ?_;intro a4 c4 w4 h4 g4 s4
 refine hK.out _ _ ?_ (fun hHeld=>?_)
 ·exact((k3.grown g4 (fun k e=>Or.inl (OwnS.lt h3 (OwnS.slot h3 e)).2)).below (Nat.le_refl _) (fun k h=>h)).cell (p:=⟨p,3,none⟩) hpl|>.trans q
 clear hK Kc
 have k4:Keep (fun k=>w1.heap.size≤k) w1 w4:=k3.grown g4 (fun k e=>Or.inl (OwnS.lt h3 (OwnS.slot h3 e)).2)
 have B4:Below w1.heap.size w1 w4:=k4.below (Nat.le_refl _) (fun k h=>h)
 have M4:=HM1.out.below B4
 have fz4:=(World.frozen?_of_block (w:=w1) (a:=⟨p,3,none⟩) (B4.block p hpl)).trans fz
 have q4:=(B4.cell (p:=⟨p,3,none⟩) hpl).trans q
 refine takeL_call (i:=17) rfl (by kernel_rfl) (fun Kc hK=>?_)
 go_simp
 refine hK.out _ _ ?_ (fun hHeld=>?_)
 ·first|exact q4|exact(B2.cell (p:=⟨p,3,none⟩) hpl).trans q
 clear hK Kc
 refine tyL (i:=18) (v:=?vdrV18) rfl ?hydrV18 ?_
 case hydrV18=>(intro w hSw;(try dsimp only at hSw);go_simp<;>with_reducible rfl)
 simp only [Go.Act.put,ps1,ps2,ps3]
 refine takeL_last rfl (by kernel_rfl) (fun Kc hK=>?_)
 go_simp
 refine hK.out _ _ ?_
 clear hK Kc
 refine anyL_done (by kernel_rfl) ?_ _
 have hk:=HK.out
 subst hk
 have hcl:i+(nn- (i+1))=(cut S.V i).length:=by rw [cut_length (by rw [←HNN.out];exact hlt),←HNN.out]
 rw [←flat_cut vtC_len]at h4
 rw [Nat.zero_add]at h4
 rw [hcl]at h4 ⊢
 have hno: ∀ k,F k→ ¬Slot a4 k:=fun k f s=>by have:=(HM.out.ft k f).2;have:=B1.size;have:=(OwnS.lt h4 s).2;omega
 have M5:=M4.putV (OwnS.mono h4 hbase) hno
 obtain⟨q5,G,gc,hG,hA,_,hleft⟩:=M5.focusV
 have HLF:Hid _:=hleft
 clear hleft
 obtain⟨w5,hw5⟩: ∃ w5,w5=w4.setCell ⟨p,3,none⟩ (.slice a4 (cut S.V i).length c4):=⟨_,rfl⟩
 rw [←hw5]at gc hA HLF ⊢
 have HW5:Hid _:=hw5
 clear hw5
 go_wp2_with (go_at_call 203;fail)
 refine(anFree base q5 S.av.L S.av.B S.av.T G v w5 hA l1 l2 HL.out rfl).mono ?_
 rintro e w6 ⟨rfl,HT⟩
 go_wp2
 go_ret
 obtain⟨k6,F6,h6,hs6⟩:=HLF.out (S.av.freed v) w6 HT
 have zB:=B1.size
 have K5:Keep F w w5:=by rw [HW5.out];exact((Keep.of B1).to B4).set (Or.inl hF1.out) _
 have z4:=B4.size
 refine⟨rfl,Left.step (Ob:=MeR base p S) (F1:=fun k=>F k∨Slot a4 k) K5 (fun k f=>f.imp (fun x=>x) (fun s=>by have:=(OwnS.lt h4 s).2;omega)) k6 h6 hs6⟩
theorem mrDropF0(p:Nat)(S:Ms)(v:Int)(w:World)(h:MeLook p S w)(hV:S.C.length≤1000)(hn:fAt Ce.no v S.C 0<0):Calls Tryz.prog 145 #[ptR p, .int .i64 v] w fun e w'=>e= .returned (.bool false)∧Below w.heap.size w w':=by
 go_enter Tryz.func145,Tryz.ntmps145
 go_wp2_with (go_at_call 202;fail)
 refine(mrFaceAt p S v w h hV rfl).mono ?_
 rintro e w1 ⟨rfl,b1⟩
 go_wp2
 go_ret
 exact⟨rfl,b1⟩
theorem mrDropF(base p:Nat)(S:Ms)(F:Nat→Prop)(v:Int)(i:Nat)(w:World)(hM:MeR base p S F w)(hV:S.C.length≤1000)(l1:S.af.L.length≤1000)(l2:S.af.B.length≤1000)(hi:fAt Ce.no v S.C 0=(i:Int))(hlt:i<S.C.length)(hL:v∈S.af.L):
  Calls Tryz.prog 145 #[ptR p, .int .i64 v] w fun e w'=>e= .returned (.bool true)∧Left (MeR base p (S.dropF v i)) F w w':=by
 have HM:Hid _:=hM
 have HI:Hid ((i:Int)=_):=hi.symm
 have HL:Hid _:=hL
 obtain⟨i0,hi0,hz0,hz1,hz2⟩:=info_of infoC
 have hd:decide ((i:Int)<0)=false:=decide_eq_false (by omega)
 clear hM hi hL
 go_enter Tryz.func145,Tryz.ntmps145
 go_wp2_with (go_at_call 202;fail)
 refine(mrFaceAt p S v w HM.out.look hV HI.out).mono ?_
 rintro e w0 ⟨rfl,b0⟩
 obtain⟨w1,hw1,B1⟩: ∃ w1,w1=w0∧Below w.heap.size w w1:=⟨_,rfl,b0⟩
 rw [←hw1]
 clear hw1
 have M1:=HM.out.below B1
 have HM1:Hid _:=M1
 obtain⟨pv,pf,Fv,Ff,a,ca,b,cb,hrow,hv,hf,ha,hb,hp,hFv,hFf,hFa,hFb⟩:=M1.ex
 have hpl:=hrow.lt
 have hbase:base≤w1.heap.size:=by have:=M1.ft p hp;omega
 obtain⟨g,rfl,hg,_,hseg⟩:=hb.at (by omega)
 have hroom:=hb.room.1
 have q:=hrow.cell 4 _ rfl
 have fz:=hrow.free 4 (by simp)
 have HS:Hid _:=hseg
 have hlen:=hb.len
 have HLEN:Hid _:=hlen
 obtain⟨nn,hnn⟩: ∃ nn,nn=S.C.length:=⟨_,rfl⟩
 have HNN:Hid _:=hnn
 rw [←hnn]at q hlt hroom hV
 have hF1:Hid (F p):=hp
 clear hrow hv hf ha hb hFv hFf hFa hFb hseg hlen M1 hnn hp
 obtain⟨k,hk⟩: ∃ k,k=i+1:=⟨_,rfl⟩
 have kw:IntKind.i64.wrap ((i:Int)+1)=(k:Int):=by rw [wrap_i64,hk];unfold wrap64;omega
 have HK:Hid _:=hk
 have hic:i≤cb:=by omega
 have hic1:(k:Int)≤(nn:Int):=by omega
 have hic2:k≤nn:=by omega
 clear hk
 obtain⟨ad,hif,had⟩: ∃ ad:Addr,(if cb=k then some (⟨g,0,none⟩:Addr)else some ⟨g,k*10,none⟩)=some ad∧((cb=k∧ad=⟨g,0,none⟩)∨(¬cb=k∧ad=⟨g,k*10,none⟩)):=by
  by_cases e:cb=k
  ·exact⟨_,by rw [if_pos e],Or.inl ⟨e,rfl⟩⟩
  ·exact⟨_,by rw [if_neg e],Or.inr ⟨e,rfl⟩⟩
 have own0:OwnS (w1.drew.alloc (.cells #[] 139)) w1.heap.size 139 10 (some ⟨w1.heap.size,0,none⟩) 0 0 []:=ownS_new w1.drew w1.heap.size 139 10 (Nat.le_refl _)
 have B2:Below w1.heap.size w1 (w1.drew.alloc (.cells #[] 139)):=((Below.refl w1.heap.size w1).drew).alloc (Nat.le_refl _) _
 have news1:News (w1.drew.alloc (.cells #[] 139)) ⟨g,0,none⟩ ((flat ceC S.C).take (i*10)):=by
  intro j u hu
  have h1:=((Seg.take (w:=w1) HS.out (i*10)).cell j u hu)
  rw [Addr.add_lit]
  exact(B2.cell (p:=⟨g,0+j,none⟩) hg).trans h1
 have len1:((flat ceC S.C).take (i*10)).length=i*10:=by rw [List.length_take,HLEN.out,←HNN.out];omega
 have newsP: ∀ w3,Below w1.heap.size w1 w3→News w3 ad ((flat ceC S.C).drop (k*10)):=by
  intro w3 B3 j u hu
  rcases had with⟨e1,rfl⟩|⟨_,rfl⟩
  ·exact absurd (List.getElem?_eq_some_iff.1 hu).1 (by rw [List.length_drop,HLEN.out,←HNN.out,show nn=k by omega];omega)
  ·have h1:=((Seg.drop (w:=w1) HS.out (k*10)).cell j u hu)
   rw [Nat.zero_add]at h1
   rw [Addr.add_lit]
   exact(B3.cell (p:=⟨g,k*10+j,none⟩) hg).trans h1
 have HNP:Hid _:=newsP
 clear newsP had
 go_wp2
 refine regionL 19 (S:=fun w'=>w'.cell? ⟨p,4,none⟩=some (.slice (some ⟨g,0,none⟩) nn cb)) (by kernel_rfl) ?_ (fun hHeld=>?_)
 ·exact q
 refine tyL (i:=0) (v:=?vdrC0) rfl ?hydrC0 ?_
 case hydrC0=>(intro w hSw;(try dsimp only at hSw);go_simp<;>with_reducible rfl)
 simp only [Go.Act.put,ps1,ps2,ps3]
 refine tyL (i:=2) (v:=?vdrC2) rfl ?hydrC2 ?_
 case hydrC2=>(intro w hSw;(try dsimp only at hSw);go_simp<;>with_reducible rfl)
 simp only [Go.Act.put,ps1,ps2,ps3]
 refine tyL (i:=3) (v:=?vdrC3) rfl ?hydrC3 ?_
 case hydrC3=>(intro w hSw;(try dsimp only at hSw);go_simp<;>with_reducible rfl)
 simp only [Go.Act.put,ps1,ps2,ps3]
 refine tyL (i:=4) (v:=?vdrC4) rfl ?hydrC4 ?_
 case hydrC4=>(intro w hSw;(try dsimp only at hSw);go_simp<;>with_reducible rfl)
 simp only [Go.Act.put,ps1,ps2,ps3]
 refine tyL (i:=5) (v:=?vdrC5) rfl ?hydrC5 ?_
 case hydrC5=>(intro w hSw;(try dsimp only at hSw);go_simp<;>with_reducible rfl)
 simp only [Go.Act.put,ps1,ps2,ps3]
 refine tyL (i:=6) (v:=?vdrC6) rfl ?hydrC6 ?_
 case hydrC6=>(intro w hSw;(try dsimp only at hSw);go_simp<;>with_reducible rfl)
 simp only [Go.Act.put,ps1,ps2,ps3]
 refine tyL (i:=7) (v:=?vdrC7) rfl ?hydrC7 ?_
 case hydrC7=>(intro w hSw;(try dsimp only at hSw);go_simp<;>with_reducible rfl)
 simp only [Go.Act.put,ps1,ps2,ps3]
 refine tyL (i:=9) (v:=?vdrC9) rfl ?hydrC9 ?_
 case hydrC9=>(intro w hSw;(try dsimp only at hSw);go_simp<;>with_reducible rfl)
 simp only [Go.Act.put,ps1,ps2,ps3]
 refine tyL (i:=10) (v:=?vdrC10) rfl ?hydrC10 ?_
 case hydrC10=>(intro w hSw;(try dsimp only at hSw);go_simp<;>with_reducible rfl)
 simp only [Go.Act.put,ps1,ps2,ps3]
 refine tyL (i:=11) (v:=?vdrC11) rfl ?hydrC11 ?_
 case hydrC11=>(intro w hSw;(try dsimp only at hSw);go_simp<;>with_reducible rfl)
 simp only [Go.Act.put,ps1,ps2,ps3]
 refine tyL (i:=12) (v:=?vdrC12) rfl ?hydrC12 ?_
 case hydrC12=>(intro w hSw;(try dsimp only at hSw);go_simp<;>with_reducible rfl)
 simp only [Go.Act.put,ps1,ps2,ps3]
 refine tyL (i:=13) (v:=?vdrC13) rfl ?hydrC13 ?_
 case hydrC13=>(intro w hSw;(try dsimp only at hSw);go_simp<;>with_reducible rfl)
 simp only [Go.Act.put,ps1,ps2,ps3]
 refine tyL (i:=14) (v:=?vdrC14) rfl ?hydrC14 ?_
 case hydrC14=>(intro w hSw;(try dsimp only at hSw);go_simp<;>with_reducible rfl)
 simp only [Go.Act.put,ps1,ps2,ps3]
 refine tyL (i:=15) (v:=?vdrC15) rfl ?hydrC15 ?_
 case hydrC15=>(intro w hSw;(try dsimp only at hSw);go_simp<;>with_reducible rfl)
 simp only [Go.Act.put,ps1,ps2,ps3]
 refine takeL_call (i:=1) rfl (by kernel_rfl) (fun Kc hK=>?_)
 go_simp
 refine hK.out _ _ ?_ (fun hHeld=>?_)
 ·first|exact q4|exact(B2.cell (p:=⟨p,4,none⟩) hpl).trans q
 clear hK Kc
 refine takeL_call (i:=8) rfl (by kernel_rfl) (fun Kc hK=>?_)
 refine step_append_S rfl (.tmp 12) (.tmp 18) 56 rfl w1.heap.size 139 i0 _ 10 80 Tryz.underlying56 hi0 hz0 hz1 hz2 rfl (by decide) _ 0 0 [] rfl own0 ⟨g,0,none⟩ i cb _ rfl len1 news1 (fun u hu=>flat_one_cell ceC_one S.C u (List.mem_of_mem_take hu)) (by unfold maxLen;omega) (by omega) (by simp) ?_;intro a3 c3 w3 h3 g3 s3
 refine hK.out _ _ ?_ (fun hHeld=>?_)
 ·exact(((Keep.of (F:=fun k=>w1.heap.size≤k) B2).grown g3 (fun k e=>Or.inl (by simp [Value.ownBlock]at e;omega))).below (Nat.le_refl _) (fun k h=>h)).cell (p:=⟨p,4,none⟩) hpl|>.trans q
 clear hK Kc
 rw [List.nil_append]at h3
 have k3:Keep (fun k=>w1.heap.size≤k) w1 w3:=(Keep.of B2).grown g3 (fun k e=>Or.inl (by simp [Value.ownBlock]at e;omega))
 have B3:Below w1.heap.size w1 w3:=k3.below (Nat.le_refl _) (fun k h=>h)
 have z3:=B3.size
 have len2:((flat ceC S.C).drop (k*10)).length=(nn- k)*10:=(by rw [List.length_drop,HLEN.out,←HNN.out,←Nat.sub_mul])
 refine takeL_call (i:=16) rfl (by kernel_rfl) (fun Kc hK=>?_)
 refine step_append_S rfl (.tmp 19) (.tmp 26) 56 rfl w1.heap.size 139 i0 _ 10 80 Tryz.underlying56 hi0 hz0 hz1 hz2 rfl (by decide) a3 (0+i) c3 _ rfl h3 ad (nn- k) _ _ rfl len2 (HNP.out w3 B3) (fun u hu=>flat_one_cell ceC_one S.C u (List.mem_of_mem_drop hu)) (by unfold maxLen;have:=HK.out;omega) (by have:=HK.out;omega) z3 ?_;intro a4 c4 w4 h4 g4 s4
 refine hK.out _ _ ?_ (fun hHeld=>?_)
 ·exact((k3.grown g4 (fun k e=>Or.inl (OwnS.lt h3 (OwnS.slot h3 e)).2)).below (Nat.le_refl _) (fun k h=>h)).cell (p:=⟨p,4,none⟩) hpl|>.trans q
 clear hK Kc
 have k4:Keep (fun k=>w1.heap.size≤k) w1 w4:=k3.grown g4 (fun k e=>Or.inl (OwnS.lt h3 (OwnS.slot h3 e)).2)
 have B4:Below w1.heap.size w1 w4:=k4.below (Nat.le_refl _) (fun k h=>h)
 have M4:=HM1.out.below B4
 have fz4:=(World.frozen?_of_block (w:=w1) (a:=⟨p,4,none⟩) (B4.block p hpl)).trans fz
 have q4:=(B4.cell (p:=⟨p,4,none⟩) hpl).trans q
 refine takeL_call (i:=17) rfl (by kernel_rfl) (fun Kc hK=>?_)
 go_simp
 refine hK.out _ _ ?_ (fun hHeld=>?_)
 ·first|exact q4|exact(B2.cell (p:=⟨p,4,none⟩) hpl).trans q
 clear hK Kc
 refine tyL (i:=18) (v:=?vdrC18) rfl ?hydrC18 ?_
 case hydrC18=>(intro w hSw;(try dsimp only at hSw);go_simp<;>with_reducible rfl)
 simp only [Go.Act.put,ps1,ps2,ps3]
 refine takeL_last rfl (by kernel_rfl) (fun Kc hK=>?_)
 go_simp
 refine hK.out _ _ ?_
 clear hK Kc
 refine anyL_done (by kernel_rfl) ?_ _
 have hk:=HK.out
 subst hk
 have hcl:i+(nn- (i+1))=(cut S.C i).length:=by rw [cut_length (by rw [←HNN.out];exact hlt),←HNN.out]
 rw [←flat_cut ceC_len]at h4
 rw [Nat.zero_add]at h4
 rw [hcl]at h4 ⊢
 have hno: ∀ k,F k→ ¬Slot a4 k:=fun k f s=>by have:=(HM.out.ft k f).2;have:=B1.size;have:=(OwnS.lt h4 s).2;omega
 have M5:=M4.putF (OwnS.mono h4 hbase) hno
 obtain⟨q5,G,gc,hG,hA,_,hleft⟩:=M5.focusF
 have HLF:Hid _:=hleft
 clear hleft
 obtain⟨w5,hw5⟩: ∃ w5,w5=w4.setCell ⟨p,4,none⟩ (.slice a4 (cut S.C i).length c4):=⟨_,rfl⟩
 rw [←hw5]at gc hA HLF ⊢
 have HW5:Hid _:=hw5
 clear hw5
 go_wp2_with (go_at_call 203;fail)
 refine(anFree base q5 S.af.L S.af.B S.af.T G v w5 hA l1 l2 HL.out rfl).mono ?_
 rintro e w6 ⟨rfl,HT⟩
 go_wp2
 go_ret
 obtain⟨k6,F6,h6,hs6⟩:=HLF.out (S.af.freed v) w6 HT
 have zB:=B1.size
 have K5:Keep F w w5:=by rw [HW5.out];exact((Keep.of B1).to B4).set (Or.inl hF1.out) _
 have z4:=B4.size
 refine⟨rfl,Left.step (Ob:=MeR base p S) (F1:=fun k=>F k∨Slot a4 k) K5 (fun k f=>f.imp (fun x=>x) (fun s=>by have:=(OwnS.lt h4 s).2;omega)) k6 h6 hs6⟩
theorem offB_of{S:Ms}{m:Nat}(h:MsOk S m): ∀ c∈S.C,offB c.t:=fun c hc=>h.offs (h.fi c hc) (h.fo c hc)
theorem vt64_of{S:Ms}{m:Nat}(h:MsOk S m)(hm:m≤1000): ∀ v∈S.V,Vt64 v:=by
 intro v hv
 obtain⟨q1,q2,q3⟩:=h.vq v hv
 have h1:=h.vmem hv
 have h2:=h.vt
 have h3:=h.n1
 exact⟨⟨by omega,by omega⟩,⟨by omega,by omega⟩,⟨by omega,by omega⟩,q3⟩
theorem n64_of{S:Ms}{m:Nat}(h:MsOk S m):In64 S.n:=by have:=h.n1;exact⟨by omega,by omega⟩
theorem tr64_all{t:Tr}(h:Tr64 t): ∀ i,(-9223372036854775808≤t.v i∧t.v i≤9223372036854775807)∧(-9223372036854775808≤t.x i∧t.x i≤9223372036854775807)∧(-9223372036854775808≤t.y i∧t.y i≤9223372036854775807):=fun i=>⟨h.v i,h.x i,h.y i⟩
theorem mrAddF0(base p:Nat)(S:Ms)(m:Nat)(F:Nat→Prop)(t:Tr)(w:World)(hM:MeR base p S F w)(hk:MsOk S m)(hm:m≤1000)(ht:Tr64 t){e0:Int}(he:e0=fErr S t)(hne:e0≠0):
  Calls Tryz.prog 144 #[ptR p,trV t] w fun e w'=>e= .returned (.tuple #[.int .i64 (-1), .int .i64 e0])∧Below w.heap.size w w':=by
 have hl:=hM.look
 obtain⟨lv,lc,l1,l2,l3,l4⟩:=hk.lens
 have hV:S.V.length≤1000:=by omega
 have hC:S.C.length≤1000:=by omega
 have hn:=n64_of hk
 have hvs:=vt64_of hk hm
 cases h0:isV S t.v0 with
 |false=>
       obtain rfl:e0=1:=by rw [he];unfold fErr;rw [if_pos (Or.inl h0)]
       exact addF1_0 p S t w hl hV hn hvs ht h0
 |true=>
 cases h1:isV S t.v1 with
 |false=>
       obtain rfl:e0=1:=by rw [he];unfold fErr;rw [if_pos (Or.inr (Or.inl h1))]
       exact addF1_1 p S t w hl hV hn hvs ht h0 h1
 |true=>
 cases h2:isV S t.v2 with
 |false=>
       obtain rfl:e0=1:=by rw [he];unfold fErr;rw [if_pos (Or.inr (Or.inr h2))]
       exact addF1_2 p S t w hl hV hn hvs ht h0 h1 h2
 |true=>
 have hn1: ¬(isV S t.v0=false∨isV S t.v1=false∨isV S t.v2=false):=by rw [h0,h1,h2];simp
 have h6:(plOk S t 0=false∨plOk S t 1=false∨plOk S t 2=false∨(areaT S t).sign≠1∨there t S.C=true)∧e0=6:=by
  unfold fErr at he
  rw [if_neg hn1]at he
  split at he
  ·rename_i h;exact⟨h,he⟩
  ·exact absurd he hne
 obtain⟨h6,rfl⟩:=h6
 cases o0:plOk S t 0 with
 |false=>exact addF6_0 p S t w hl hV hn hvs ht h0 h1 h2 o0
 |true=>
 cases o1:plOk S t 1 with
 |false=>exact addF6_1 p S t w hl hV hn hvs ht h0 h1 h2 o0 o1
 |true=>
 cases o2:plOk S t 2 with
 |false=>exact addF6_2 p S t w hl hV hn hvs ht h0 h1 h2 o0 o1 o2
 |true=>
 by_cases hg:(areaT S t).sign=1
 ·have hth:there t S.C=true:=by rw [o0,o1,o2]at h6;simpa [hg]using h6
  have hto:offB t:=hk.offs (fun i hi=>by rcases(by omega:i=0∨i=1∨i=2)with rfl|rfl|rfl;exact h0;exact h1;exact h2) (fun i hi=>by rcases(by omega:i=0∨i=1∨i=2)with rfl|rfl|rfl;exact o0;exact o1;exact o2)
  refine(mrAddFl base p S F t w hM hV hC (by omega) (by omega) (by have:=hk.ft;omega) hn hvs ht hto (offB_of hk) h0 h1 h2 o0 o1 o2 hg rfl).mono ?_
  rintro e w' (⟨_,he,b⟩|⟨hf,_⟩)
  ·exact⟨he,b⟩
  ·rw [hth]at hf;cases hf
 ·exact addF6_3 p S t w hl hV hn hvs ht h0 h1 h2 o0 o1 o2 hg
theorem mrAddF(base p:Nat)(S:Ms)(m:Nat)(F:Nat→Prop)(t:Tr)(w:World)(hM:MeR base p S F w)(hk:MsOk S m)(hm:m≤1000)(ht:Tr64 t)(he:fErr S t=0):
  Calls Tryz.prog 144 #[ptR p,trV t] w fun e w'=>e= .returned (.tuple #[.int .i64 S.af.num, .int .i64 0])∧Left (MeR base p (S.addF t)) F w w':=by
 obtain⟨lv,lc,l1,l2,l3,l4⟩:=hk.lens
 obtain⟨q1,q2,q3,q4⟩:=fErr_ok he
 refine(mrAddFl base p S F t w hM (by omega) (by omega) (by omega) (by omega) (by have:=hk.ft;omega) (n64_of hk) (vt64_of hk hm) ht (hk.offs q1 q2) (offB_of hk) (q1 0 (by omega)) (q1 1 (by omega)) (q1 2 (by omega)) (q2 0 (by omega)) (q2 1 (by omega)) (q2 2 (by omega)) q3 rfl).mono ?_
 rintro e w' (⟨hf,_⟩|⟨_,he,hl⟩)
 ·rw [q4]at hf;cases hf
 ·exact⟨he,hl⟩
structure Act where
 kind:Int
 n:Int
 x:Int
 y:Int
 t:Tr
abbrev actV(a:Act):Value:= .agg #[.int .i64 a.kind, .int .i64 a.n, .int .i64 a.x, .int .i64 a.y, .int .i64 a.t.v0, .int .i64 a.t.v1, .int .i64 a.t.v2, .int .i64 a.t.x0, .int .i64 a.t.y0, .int .i64 a.t.x1, .int .i64 a.t.y1, .int .i64 a.t.x2, .int .i64 a.t.y2]
def actC(a:Act):List Value:= [.int .i64 a.kind, .int .i64 a.n, .int .i64 a.x, .int .i64 a.y, .int .i64 a.t.v0, .int .i64 a.t.v1, .int .i64 a.t.v2, .int .i64 a.t.x0, .int .i64 a.t.y0, .int .i64 a.t.x1, .int .i64 a.t.y1, .int .i64 a.t.x2, .int .i64 a.t.y2]
theorem actC_len(a:Act):(actC a).length=13:=rfl
structure Act64(a:Act):Prop where
 kind:In64 a.kind
 n:In64 a.n
 x:In64 a.x
 y:In64 a.y
 t:Tr64 a.t
structure BothM(MP:MeShape)(base pm px:Nat)(S:Ms)(m:Nat)(w:World):Prop where
 ex: ∃ Fm Fx,MP base pm S Fm w∧MeR base px S Fx w∧ ∀ k,Fm k→ ¬Fx k
 ok:MsOk S m
theorem keep_cell{F:Nat→Prop}{w w':World}{b j:Nat}{u:Value}(hk:Keep F w w')(hb:b<w.heap.size)(hF: ¬F b)(h:w.cell? ⟨b,j,none⟩=some u):w'.cell? ⟨b,j,none⟩=some u:=by
 rw [World.cell?_of_block (w:=w) (a:=⟨b,j,none⟩) (hk.block b hb hF)]
 exact h
theorem does_1n{MP:MeShape}(H:MeSpec MP)(base pm px:Nat)(S:Ms)(m:Nat)(Fm Fx:Nat→Prop)(a:Act)(w:World)(h1:MP base pm S Fm w)(h2:MeR base px S Fx w)(hd: ∀ k,Fm k→ ¬Fx k)(hk:MsOk S m)(hm:m≤999)(h64:Act64 a)(hkd:a.kind=1)(he:fErr S a.t≠0):
  Calls Tryz.prog 78 #[ptR pm,ptR px,actV a] w fun e w'=>e= .returned (.bool true)∧Below base w w'∧BothM MP base pm px (S) (m+1) w':=by
 have HH:Hid _:=H
 have HK:Hid _:=hk
 have hm0:m≤1000:=by omega
 have hbase:base≤w.heap.size:=by obtain⟨pv,pf,Fv,Ff,a,ca,b,cb,hrow,hv,hf,ha,hb,hp,_⟩:=h2.ex;have:=h2.ft px hp;omega
 obtain⟨W,hW⟩: ∃ W,W=w.alloc (.cells (actC a).toArray 156):=⟨_,rfl⟩
 have BW:Below w.heap.size w W:=by rw [hW];exact(Below.refl _ _).alloc (Nat.le_refl _) _
 have zW:W.heap.size=w.heap.size+1:=by rw [hW];simp
 have R0:Row W w.heap.size (actC a):=by rw [hW];exact Row.new w _ _
 have hW':w.alloc (.cells #[.int .i64 a.kind, .int .i64 a.n, .int .i64 a.x, .int .i64 a.y, .int .i64 a.t.v0, .int .i64 a.t.v1, .int .i64 a.t.v2, .int .i64 a.t.x0, .int .i64 a.t.y0, .int .i64 a.t.x1, .int .i64 a.t.y1, .int .i64 a.t.x2, .int .i64 a.t.y2] 156)=W:=hW.symm
 have M1:=HH.out.below h1 BW
 have M2:=h2.below BW
 have am: ¬Fm w.heap.size:=fun f=>by have:=(H.ft h1 _ f).2;omega
 have ax: ¬Fx w.heap.size:=fun f=>by have:=(h2.ft _ f).2;omega
 have fm: ∀ k,Fm k→k<w.heap.size:=fun k f=>(H.ft h1 k f).2
 have fx: ∀ k,Fx k→k<w.heap.size:=fun k f=>(h2.ft k f).2
 have bm: ∀ k,Fm k→base≤k:=fun k f=>(H.ft h1 k f).1
 have bx: ∀ k,Fx k→base≤k:=fun k f=>(h2.ft k f).1
 have c0:=R0.cell 0 _ rfl
 have c1:=R0.cell 1 _ rfl
 have c2:=R0.cell 2 _ rfl
 have c3:=R0.cell 3 _ rfl
 have c4:=R0.cell 4 _ rfl
 have c5:=R0.cell 5 _ rfl
 have c6:=R0.cell 6 _ rfl
 have c7:=R0.cell 7 _ rfl
 have c8:=R0.cell 8 _ rfl
 have c9:=R0.cell 9 _ rfl
 have c10:=R0.cell 10 _ rfl
 have c11:=R0.cell 11 _ rfl
 have c12:=R0.cell 12 _ rfl
 have B0:Below base w W:=BW.mono hbase
 have HM1:Hid _:=M1
 have HM2:Hid _:=M2
 clear hW H h1 h2 hk M1 M2
 have e1:(a.kind==1)=true:=by simpa using hkd
 clear  hkd
 obtain⟨e0,hee⟩: ∃ e0,e0=fErr S a.t:=⟨_,rfl⟩
 have HE:Hid _:=hee
 have HNE:Hid (e0≠0):=by unfold Hid;rw [hee];exact he
 clear hee he
 go_enter Tryz.func78,Tryz.ntmps78
 go_wp2_with (go_at_call 47;fail)
 clear hW' c0 c1 c2 c3 c4 c5 c6 c7 c8 c9 c10 c11 c12
 refine(HH.out.addF0 base pm S m Fm W HM1.out HK.out hm0 a.t e0 h64.t HE.out HNE.out).mono ?_
 rintro e w1 ⟨rfl,k1,F1,g1,s1⟩
 have kF1:=k1
 have R1:=R0.keep k1 (by omega) am
 have z1:=k1.size
 have M3:=HM2.out.keep k1 (fun k f g=>hd k g f)
 have hd1: ∀ k,F1 k→ ¬Fx k:=fun k f g=>(s1 k f).elim (fun f=>hd k f g) (fun e=>by have:=fx k g;omega)
 have b1:Below base W w1:=k1.below (by omega) bm
 have HG1:Hid _:=g1
 have HM3:Hid _:=M3
 have d4:=R1.cell 4 _ rfl
 have d5:=R1.cell 5 _ rfl
 have d6:=R1.cell 6 _ rfl
 have d7:=R1.cell 7 _ rfl
 have d8:=R1.cell 8 _ rfl
 have d9:=R1.cell 9 _ rfl
 have d10:=R1.cell 10 _ rfl
 have d11:=R1.cell 11 _ rfl
 have d12:=R1.cell 12 _ rfl
 go_wp2_with (go_at_call 144;fail)
 refine(mrAddF0 base px S m Fx a.t w1 HM3.out HK.out hm0 h64.t HE.out HNE.out).mono ?_
 rintro e w2 ⟨rfl,b2'⟩
 have k2:Keep Fx w1 w2:=Keep.of b2'
 have g2:=HM3.out.below b2'
 have s2: ∀ k,Fx k→Fx k∨w1.heap.size≤k:=fun k f=>Or.inl f
 obtain⟨F2,hF2⟩: ∃ F2,F2=Fx:=⟨_,rfl⟩
 rw [←hF2]at g2
 have s2: ∀ k,F2 k→Fx k∨w1.heap.size≤k:=fun k f=>Or.inl (by rw [hF2]at f;exact f)
 clear hF2
 go_wp2
 go_ret
 have Mm:=HH.out.keep HG1.out k2 (fun k f g=>hd1 k f g)
 have hd2: ∀ k,F1 k→ ¬F2 k:=fun k f g=>(s2 k g).elim (fun g=>hd1 k f g) (fun e=>by have:=(HH.out.ft HG1.out k f).2;omega)
 have b2:Below base w1 w2:=k2.below (by omega) bx
 exact⟨rfl,(B0.trans b1).trans b2,⟨⟨F1,F2,Mm,g2,hd2⟩,HK.out.mono (by omega)⟩⟩
theorem does_1y{MP:MeShape}(H:MeSpec MP)(base pm px:Nat)(S:Ms)(m:Nat)(Fm Fx:Nat→Prop)(a:Act)(w:World)(h1:MP base pm S Fm w)(h2:MeR base px S Fx w)(hd: ∀ k,Fm k→ ¬Fx k)(hk:MsOk S m)(hm:m≤999)(h64:Act64 a)(hkd:a.kind=1)(he:fErr S a.t=0):
  Calls Tryz.prog 78 #[ptR pm,ptR px,actV a] w fun e w'=>e= .returned (.bool true)∧Below base w w'∧BothM MP base pm px (S.addF a.t) (m+1) w':=by
 have HH:Hid _:=H
 have HK:Hid _:=hk
 have hm0:m≤1000:=by omega
 have hbase:base≤w.heap.size:=by obtain⟨pv,pf,Fv,Ff,a,ca,b,cb,hrow,hv,hf,ha,hb,hp,_⟩:=h2.ex;have:=h2.ft px hp;omega
 obtain⟨W,hW⟩: ∃ W,W=w.alloc (.cells (actC a).toArray 156):=⟨_,rfl⟩
 have BW:Below w.heap.size w W:=by rw [hW];exact(Below.refl _ _).alloc (Nat.le_refl _) _
 have zW:W.heap.size=w.heap.size+1:=by rw [hW];simp
 have R0:Row W w.heap.size (actC a):=by rw [hW];exact Row.new w _ _
 have hW':w.alloc (.cells #[.int .i64 a.kind, .int .i64 a.n, .int .i64 a.x, .int .i64 a.y, .int .i64 a.t.v0, .int .i64 a.t.v1, .int .i64 a.t.v2, .int .i64 a.t.x0, .int .i64 a.t.y0, .int .i64 a.t.x1, .int .i64 a.t.y1, .int .i64 a.t.x2, .int .i64 a.t.y2] 156)=W:=hW.symm
 have M1:=HH.out.below h1 BW
 have M2:=h2.below BW
 have am: ¬Fm w.heap.size:=fun f=>by have:=(H.ft h1 _ f).2;omega
 have ax: ¬Fx w.heap.size:=fun f=>by have:=(h2.ft _ f).2;omega
 have fm: ∀ k,Fm k→k<w.heap.size:=fun k f=>(H.ft h1 k f).2
 have fx: ∀ k,Fx k→k<w.heap.size:=fun k f=>(h2.ft k f).2
 have bm: ∀ k,Fm k→base≤k:=fun k f=>(H.ft h1 k f).1
 have bx: ∀ k,Fx k→base≤k:=fun k f=>(h2.ft k f).1
 have c0:=R0.cell 0 _ rfl
 have c1:=R0.cell 1 _ rfl
 have c2:=R0.cell 2 _ rfl
 have c3:=R0.cell 3 _ rfl
 have c4:=R0.cell 4 _ rfl
 have c5:=R0.cell 5 _ rfl
 have c6:=R0.cell 6 _ rfl
 have c7:=R0.cell 7 _ rfl
 have c8:=R0.cell 8 _ rfl
 have c9:=R0.cell 9 _ rfl
 have c10:=R0.cell 10 _ rfl
 have c11:=R0.cell 11 _ rfl
 have c12:=R0.cell 12 _ rfl
 have B0:Below base w W:=BW.mono hbase
 have HM1:Hid _:=M1
 have HM2:Hid _:=M2
 clear hW H h1 h2 hk M1 M2
 have e1:(a.kind==1)=true:=by simpa using hkd
 clear  hkd
 obtain⟨e0,hee⟩: ∃ e0,e0=fErr S a.t:=⟨_,rfl⟩
 have HE:Hid _:=hee
 have HNE:Hid (e0=0):=by unfold Hid;rw [hee];exact he
 clear hee he
 go_enter Tryz.func78,Tryz.ntmps78
 go_wp2_with (go_at_call 47;fail)
 clear hW' c0 c1 c2 c3 c4 c5 c6 c7 c8 c9 c10 c11 c12
 refine(HH.out.addF base pm S m Fm W HM1.out HK.out hm0 a.t h64.t (HE.out.symm.trans HNE.out)).mono ?_
 rintro e w1 ⟨rfl,k1,F1,g1,s1⟩
 have kF1:=k1
 have R1:=R0.keep k1 (by omega) am
 have z1:=k1.size
 have M3:=HM2.out.keep k1 (fun k f g=>hd k g f)
 have hd1: ∀ k,F1 k→ ¬Fx k:=fun k f g=>(s1 k f).elim (fun f=>hd k f g) (fun e=>by have:=fx k g;omega)
 have b1:Below base W w1:=k1.below (by omega) bm
 have HG1:Hid _:=g1
 have HM3:Hid _:=M3
 have d4:=R1.cell 4 _ rfl
 have d5:=R1.cell 5 _ rfl
 have d6:=R1.cell 6 _ rfl
 have d7:=R1.cell 7 _ rfl
 have d8:=R1.cell 8 _ rfl
 have d9:=R1.cell 9 _ rfl
 have d10:=R1.cell 10 _ rfl
 have d11:=R1.cell 11 _ rfl
 have d12:=R1.cell 12 _ rfl
 go_wp2_with (go_at_call 144;fail)
 refine(mrAddF base px S m Fx a.t w1 HM3.out HK.out hm0 h64.t (HE.out.symm.trans HNE.out)).mono ?_
 rintro e w2 ⟨rfl,k2,F2,g2,s2⟩
 go_wp2
 go_ret
 have Mm:=HH.out.keep HG1.out k2 (fun k f g=>hd1 k f g)
 have hd2: ∀ k,F1 k→ ¬F2 k:=fun k f g=>(s2 k g).elim (fun g=>hd1 k f g) (fun e=>by have:=(HH.out.ft HG1.out k f).2;omega)
 have b2:Below base w1 w2:=k2.below (by omega) bx
 exact⟨rfl,(B0.trans b1).trans b2,⟨⟨F1,F2,Mm,g2,hd2⟩,HK.out.addF (HE.out.symm.trans HNE.out) (tr64_all h64.t)⟩⟩
theorem does_2n{MP:MeShape}(H:MeSpec MP)(base pm px:Nat)(S:Ms)(m:Nat)(Fm Fx:Nat→Prop)(a:Act)(w:World)(h1:MP base pm S Fm w)(h2:MeR base px S Fx w)(hd: ∀ k,Fm k→ ¬Fx k)(hk:MsOk S m)(hm:m≤999)(h64:Act64 a)(n1:a.kind≠1)(hkd:a.kind=2)(hf:isF S a.n=false):
  Calls Tryz.prog 78 #[ptR pm,ptR px,actV a] w fun e w'=>e= .returned (.bool true)∧Below base w w'∧BothM MP base pm px (S) (m+1) w':=by
 have HH:Hid _:=H
 have HK:Hid _:=hk
 have hm0:m≤1000:=by omega
 have hbase:base≤w.heap.size:=by obtain⟨pv,pf,Fv,Ff,a,ca,b,cb,hrow,hv,hf,ha,hb,hp,_⟩:=h2.ex;have:=h2.ft px hp;omega
 obtain⟨W,hW⟩: ∃ W,W=w.alloc (.cells (actC a).toArray 156):=⟨_,rfl⟩
 have BW:Below w.heap.size w W:=by rw [hW];exact(Below.refl _ _).alloc (Nat.le_refl _) _
 have zW:W.heap.size=w.heap.size+1:=by rw [hW];simp
 have R0:Row W w.heap.size (actC a):=by rw [hW];exact Row.new w _ _
 have hW':w.alloc (.cells #[.int .i64 a.kind, .int .i64 a.n, .int .i64 a.x, .int .i64 a.y, .int .i64 a.t.v0, .int .i64 a.t.v1, .int .i64 a.t.v2, .int .i64 a.t.x0, .int .i64 a.t.y0, .int .i64 a.t.x1, .int .i64 a.t.y1, .int .i64 a.t.x2, .int .i64 a.t.y2] 156)=W:=hW.symm
 have M1:=HH.out.below h1 BW
 have M2:=h2.below BW
 have am: ¬Fm w.heap.size:=fun f=>by have:=(H.ft h1 _ f).2;omega
 have ax: ¬Fx w.heap.size:=fun f=>by have:=(h2.ft _ f).2;omega
 have fm: ∀ k,Fm k→k<w.heap.size:=fun k f=>(H.ft h1 k f).2
 have fx: ∀ k,Fx k→k<w.heap.size:=fun k f=>(h2.ft k f).2
 have bm: ∀ k,Fm k→base≤k:=fun k f=>(H.ft h1 k f).1
 have bx: ∀ k,Fx k→base≤k:=fun k f=>(h2.ft k f).1
 have c0:=R0.cell 0 _ rfl
 have c1:=R0.cell 1 _ rfl
 have c2:=R0.cell 2 _ rfl
 have c3:=R0.cell 3 _ rfl
 have c4:=R0.cell 4 _ rfl
 have c5:=R0.cell 5 _ rfl
 have c6:=R0.cell 6 _ rfl
 have c7:=R0.cell 7 _ rfl
 have c8:=R0.cell 8 _ rfl
 have c9:=R0.cell 9 _ rfl
 have c10:=R0.cell 10 _ rfl
 have c11:=R0.cell 11 _ rfl
 have c12:=R0.cell 12 _ rfl
 have B0:Below base w W:=BW.mono hbase
 have HM1:Hid _:=M1
 have HM2:Hid _:=M2
 clear hW H h1 h2 hk M1 M2
 have e1:(a.kind==1)=false:=by simpa using n1
 have e2:(a.kind==2)=true:=by simpa using hkd
 clear n1 hkd
 obtain⟨lv,lc,l1,l2,l3,l4⟩:=HK.out.lens
 go_enter Tryz.func78,Tryz.ntmps78
 have hA:w.heap.size<W.drew.heap.size:=by simp;omega
 have BD:Below W.heap.size W W.drew:=(Below.refl _ _).drew
 have HM1d:Hid _:=HH.out.below HM1.out BD
 have HM2d:Hid _:=HM2.out.below BD
 go_wp2
 clear hW'
 refine wp_region_held_drew (S:=fun w'=>w'.cell? ⟨w.heap.size,1,none⟩=some (.int .i64 a.n)) (by kernel_rfl) ?_ (fun hHeld=>?_)
 ·exact c1
 refine tn 0 ?_;refine tn 1 ?_;refine tn 2 ?_;refine tn 4 ?_;refine tn 5 ?_;refine tn 6 ?_
 simp only [Act.put,ps1,ps2,ps3]
 refine tcl 3 fun Kc hK=>?_
 go_simp
 (go_at_call 66;refine(HH.out.dropF0 base pm S m Fm W.drew HM1d.out HK.out hm0 a.n h64.n hf).mono ?_;rintro e w1 ⟨rfl,k1,F1,g1,s1⟩)
 refine hK.out _ _ ?_ (fun hHeld=>?_)
 ·exact keep_cell k1 hA am c1
 clear hK Kc
 have R1:=R0.drew.keep k1 (by omega) am
 have z1:=k1.size
 have hA1:w.heap.size<w1.heap.size:=(by simp at z1;omega)
 have M3:=HM2d.out.keep k1 (fun k f g=>hd k g f)
 have hd1: ∀ k,F1 k→ ¬Fx k:=fun k f g=>(s1 k f).elim (fun f=>hd k f g) (fun e=>by have:=fx k g;simp at e;omega)
 have b1:Below base W.drew w1:=k1.below (by simp;omega) bm
 have HG1:Hid _:=g1
 have HM3:Hid _:=M3
 clear g1 M3
 refine tcl 7 fun Kc hK=>?_
 go_simp
 (go_at_call 145;refine(mrDropF0 px S a.n w1 HM3.out.look (by omega) (by have:=of_decide_eq_false hf;omega)).mono ?_;rintro e w2 ⟨rfl,b2'⟩)
 refine hK.out _ _ ?_ (fun hHeld=>?_)
 ·exact keep_cell (Keep.of (F:=Fx) b2') hA1 ax (keep_cell k1 hA am c1)
 clear hK Kc
 have k2:Keep Fx w1 w2:=Keep.of b2'
 have g2:=HM3.out.below b2'
 obtain⟨F2,hF2⟩: ∃ F2,F2=Fx:=⟨_,rfl⟩
 rw [←hF2]at g2
 have s2: ∀ k,F2 k→Fx k∨w1.heap.size≤k:=fun k f=>Or.inl (by rw [hF2]at f;exact f)
 clear hF2
 refine tn 8 ?_;refine tn 9 ?_
 simp only [Act.put,ps1,ps2,ps3]
 refine wpAnyH_done (by kernel_rfl) ?_ _
 go_wp2
 go_ret
 have Mm:=HH.out.keep HG1.out k2 (fun k f g=>hd1 k f g)
 have hd2: ∀ k,F1 k→ ¬F2 k:=fun k f g=>(s2 k g).elim (fun g=>hd1 k f g) (fun e=>by have:=(HH.out.ft HG1.out k f).2;omega)
 have b2:Below base w1 w2:=k2.below (by omega) bx
 exact⟨rfl,(B0.drew.trans b1).trans b2,⟨⟨F1,F2,Mm,g2,hd2⟩,HK.out.mono (by omega)⟩⟩
theorem does_2y{MP:MeShape}(H:MeSpec MP)(base pm px:Nat)(S:Ms)(m:Nat)(Fm Fx:Nat→Prop)(a:Act)(w:World)(h1:MP base pm S Fm w)(h2:MeR base px S Fx w)(hd: ∀ k,Fm k→ ¬Fx k)(hk:MsOk S m)(hm:m≤999)(h64:Act64 a)(n1:a.kind≠1)(hkd:a.kind=2)(i:Nat)(c:Ce)(hc:S.C[i]? =some c)(hcf:c.no=a.n)(hi:fAt Ce.no a.n S.C 0=(i:Int)):
  Calls Tryz.prog 78 #[ptR pm,ptR px,actV a] w fun e w'=>e= .returned (.bool true)∧Below base w w'∧BothM MP base pm px (S.dropF a.n i) (m+1) w':=by
 have HH:Hid _:=H
 have HK:Hid _:=hk
 have hm0:m≤1000:=by omega
 have hbase:base≤w.heap.size:=by obtain⟨pv,pf,Fv,Ff,a,ca,b,cb,hrow,hv,hf,ha,hb,hp,_⟩:=h2.ex;have:=h2.ft px hp;omega
 obtain⟨W,hW⟩: ∃ W,W=w.alloc (.cells (actC a).toArray 156):=⟨_,rfl⟩
 have BW:Below w.heap.size w W:=by rw [hW];exact(Below.refl _ _).alloc (Nat.le_refl _) _
 have zW:W.heap.size=w.heap.size+1:=by rw [hW];simp
 have R0:Row W w.heap.size (actC a):=by rw [hW];exact Row.new w _ _
 have hW':w.alloc (.cells #[.int .i64 a.kind, .int .i64 a.n, .int .i64 a.x, .int .i64 a.y, .int .i64 a.t.v0, .int .i64 a.t.v1, .int .i64 a.t.v2, .int .i64 a.t.x0, .int .i64 a.t.y0, .int .i64 a.t.x1, .int .i64 a.t.y1, .int .i64 a.t.x2, .int .i64 a.t.y2] 156)=W:=hW.symm
 have M1:=HH.out.below h1 BW
 have M2:=h2.below BW
 have am: ¬Fm w.heap.size:=fun f=>by have:=(H.ft h1 _ f).2;omega
 have ax: ¬Fx w.heap.size:=fun f=>by have:=(h2.ft _ f).2;omega
 have fm: ∀ k,Fm k→k<w.heap.size:=fun k f=>(H.ft h1 k f).2
 have fx: ∀ k,Fx k→k<w.heap.size:=fun k f=>(h2.ft k f).2
 have bm: ∀ k,Fm k→base≤k:=fun k f=>(H.ft h1 k f).1
 have bx: ∀ k,Fx k→base≤k:=fun k f=>(h2.ft k f).1
 have c0:=R0.cell 0 _ rfl
 have c1:=R0.cell 1 _ rfl
 have c2:=R0.cell 2 _ rfl
 have c3:=R0.cell 3 _ rfl
 have c4:=R0.cell 4 _ rfl
 have c5:=R0.cell 5 _ rfl
 have c6:=R0.cell 6 _ rfl
 have c7:=R0.cell 7 _ rfl
 have c8:=R0.cell 8 _ rfl
 have c9:=R0.cell 9 _ rfl
 have c10:=R0.cell 10 _ rfl
 have c11:=R0.cell 11 _ rfl
 have c12:=R0.cell 12 _ rfl
 have B0:Below base w W:=BW.mono hbase
 have HM1:Hid _:=M1
 have HM2:Hid _:=M2
 clear hW H h1 h2 hk M1 M2
 have e1:(a.kind==1)=false:=by simpa using n1
 have e2:(a.kind==2)=true:=by simpa using hkd
 clear n1 hkd
 obtain⟨lv,lc,l1,l2,l3,l4⟩:=HK.out.lens
 go_enter Tryz.func78,Tryz.ntmps78
 have hA:w.heap.size<W.drew.heap.size:=by simp;omega
 have BD:Below W.heap.size W W.drew:=(Below.refl _ _).drew
 have HM1d:Hid _:=HH.out.below HM1.out BD
 have HM2d:Hid _:=HM2.out.below BD
 go_wp2
 clear hW'
 refine wp_region_held_drew (S:=fun w'=>w'.cell? ⟨w.heap.size,1,none⟩=some (.int .i64 a.n)) (by kernel_rfl) ?_ (fun hHeld=>?_)
 ·exact c1
 refine tn 0 ?_;refine tn 1 ?_;refine tn 2 ?_;refine tn 4 ?_;refine tn 5 ?_;refine tn 6 ?_
 simp only [Act.put,ps1,ps2,ps3]
 refine tcl 3 fun Kc hK=>?_
 go_simp
 (go_at_call 66;refine(HH.out.dropF base pm S m Fm W.drew HM1d.out HK.out hm0 a.n i c h64.n hc hcf).mono ?_;rintro e w1 ⟨rfl,k1,F1,g1,s1⟩)
 refine hK.out _ _ ?_ (fun hHeld=>?_)
 ·exact keep_cell k1 hA am c1
 clear hK Kc
 have R1:=R0.drew.keep k1 (by omega) am
 have z1:=k1.size
 have hA1:w.heap.size<w1.heap.size:=(by simp at z1;omega)
 have M3:=HM2d.out.keep k1 (fun k f g=>hd k g f)
 have hd1: ∀ k,F1 k→ ¬Fx k:=fun k f g=>(s1 k f).elim (fun f=>hd k f g) (fun e=>by have:=fx k g;simp at e;omega)
 have b1:Below base W.drew w1:=k1.below (by simp;omega) bm
 have HG1:Hid _:=g1
 have HM3:Hid _:=M3
 clear g1 M3
 refine tcl 7 fun Kc hK=>?_
 go_simp
 (go_at_call 145;refine(mrDropF base px S Fx a.n i w1 HM3.out (by omega) (by omega) (by omega) hi (List.getElem?_eq_some_iff.1 hc).1 (hcf▸(HK.out.fmem (List.mem_of_getElem? hc)).1)).mono ?_;rintro e w2 ⟨rfl,k2,F2,g2,s2⟩)
 refine hK.out _ _ ?_ (fun hHeld=>?_)
 ·exact keep_cell k2 hA1 ax (keep_cell k1 hA am c1)
 clear hK Kc
 refine tn 8 ?_;refine tn 9 ?_
 simp only [Act.put,ps1,ps2,ps3]
 refine wpAnyH_done (by kernel_rfl) ?_ _
 go_wp2
 go_ret
 have Mm:=HH.out.keep HG1.out k2 (fun k f g=>hd1 k f g)
 have hd2: ∀ k,F1 k→ ¬F2 k:=fun k f g=>(s2 k g).elim (fun g=>hd1 k f g) (fun e=>by have:=(HH.out.ft HG1.out k f).2;omega)
 have b2:Below base w1 w2:=k2.below (by omega) bx
 exact⟨rfl,(B0.drew.trans b1).trans b2,⟨⟨F1,F2,Mm,g2,hd2⟩,HK.out.dropF hc hcf⟩⟩
theorem does_3n{MP:MeShape}(H:MeSpec MP)(base pm px:Nat)(S:Ms)(m:Nat)(Fm Fx:Nat→Prop)(a:Act)(w:World)(h1:MP base pm S Fm w)(h2:MeR base px S Fx w)(hd: ∀ k,Fm k→ ¬Fx k)(hk:MsOk S m)(hm:m≤999)(h64:Act64 a)(n1:a.kind≠1)(n2:a.kind≠2)(hkd:a.kind=3)(hf:isV S a.n=false):
  Calls Tryz.prog 78 #[ptR pm,ptR px,actV a] w fun e w'=>e= .returned (.bool true)∧Below base w w'∧BothM MP base pm px (S) (m+1) w':=by
 have HH:Hid _:=H
 have HK:Hid _:=hk
 have hm0:m≤1000:=by omega
 have hbase:base≤w.heap.size:=by obtain⟨pv,pf,Fv,Ff,a,ca,b,cb,hrow,hv,hf,ha,hb,hp,_⟩:=h2.ex;have:=h2.ft px hp;omega
 obtain⟨W,hW⟩: ∃ W,W=w.alloc (.cells (actC a).toArray 156):=⟨_,rfl⟩
 have BW:Below w.heap.size w W:=by rw [hW];exact(Below.refl _ _).alloc (Nat.le_refl _) _
 have zW:W.heap.size=w.heap.size+1:=by rw [hW];simp
 have R0:Row W w.heap.size (actC a):=by rw [hW];exact Row.new w _ _
 have hW':w.alloc (.cells #[.int .i64 a.kind, .int .i64 a.n, .int .i64 a.x, .int .i64 a.y, .int .i64 a.t.v0, .int .i64 a.t.v1, .int .i64 a.t.v2, .int .i64 a.t.x0, .int .i64 a.t.y0, .int .i64 a.t.x1, .int .i64 a.t.y1, .int .i64 a.t.x2, .int .i64 a.t.y2] 156)=W:=hW.symm
 have M1:=HH.out.below h1 BW
 have M2:=h2.below BW
 have am: ¬Fm w.heap.size:=fun f=>by have:=(H.ft h1 _ f).2;omega
 have ax: ¬Fx w.heap.size:=fun f=>by have:=(h2.ft _ f).2;omega
 have fm: ∀ k,Fm k→k<w.heap.size:=fun k f=>(H.ft h1 k f).2
 have fx: ∀ k,Fx k→k<w.heap.size:=fun k f=>(h2.ft k f).2
 have bm: ∀ k,Fm k→base≤k:=fun k f=>(H.ft h1 k f).1
 have bx: ∀ k,Fx k→base≤k:=fun k f=>(h2.ft k f).1
 have c0:=R0.cell 0 _ rfl
 have c1:=R0.cell 1 _ rfl
 have c2:=R0.cell 2 _ rfl
 have c3:=R0.cell 3 _ rfl
 have c4:=R0.cell 4 _ rfl
 have c5:=R0.cell 5 _ rfl
 have c6:=R0.cell 6 _ rfl
 have c7:=R0.cell 7 _ rfl
 have c8:=R0.cell 8 _ rfl
 have c9:=R0.cell 9 _ rfl
 have c10:=R0.cell 10 _ rfl
 have c11:=R0.cell 11 _ rfl
 have c12:=R0.cell 12 _ rfl
 have B0:Below base w W:=BW.mono hbase
 have HM1:Hid _:=M1
 have HM2:Hid _:=M2
 clear hW H h1 h2 hk M1 M2
 have e1:(a.kind==1)=false:=by simpa using n1
 have e2:(a.kind==2)=false:=by simpa using n2
 have e3:(a.kind==3)=true:=by simpa using hkd
 clear n1 n2 hkd
 obtain⟨lv,lc,l1,l2,l3,l4⟩:=HK.out.lens
 go_enter Tryz.func78,Tryz.ntmps78
 have hA:w.heap.size<W.drew.heap.size:=by simp;omega
 have BD:Below W.heap.size W W.drew:=(Below.refl _ _).drew
 have HM1d:Hid _:=HH.out.below HM1.out BD
 have HM2d:Hid _:=HM2.out.below BD
 go_wp2
 clear hW'
 refine wp_region_held_drew (S:=fun w'=>w'.cell? ⟨w.heap.size,1,none⟩=some (.int .i64 a.n)) (by kernel_rfl) ?_ (fun hHeld=>?_)
 ·exact c1
 refine tn 0 ?_;refine tn 1 ?_;refine tn 2 ?_;refine tn 4 ?_;refine tn 5 ?_;refine tn 6 ?_
 simp only [Act.put,ps1,ps2,ps3]
 refine tcl 3 fun Kc hK=>?_
 go_simp
 (go_at_call 146;refine(HH.out.dropV0 base pm S m Fm W.drew HM1d.out HK.out hm0 a.n h64.n (Or.inl hf)).mono ?_;rintro e w1 ⟨rfl,k1,F1,g1,s1⟩)
 refine hK.out _ _ ?_ (fun hHeld=>?_)
 ·exact keep_cell k1 hA am c1
 clear hK Kc
 have R1:=R0.drew.keep k1 (by omega) am
 have z1:=k1.size
 have hA1:w.heap.size<w1.heap.size:=(by simp at z1;omega)
 have M3:=HM2d.out.keep k1 (fun k f g=>hd k g f)
 have hd1: ∀ k,F1 k→ ¬Fx k:=fun k f g=>(s1 k f).elim (fun f=>hd k f g) (fun e=>by have:=fx k g;simp at e;omega)
 have b1:Below base W.drew w1:=k1.below (by simp;omega) bm
 have HG1:Hid _:=g1
 have HM3:Hid _:=M3
 clear g1 M3
 refine tcl 7 fun Kc hK=>?_
 go_simp
 (go_at_call 147;refine(mrDropV0 px S a.n w1 HM3.out.look (by omega) (by omega) (by have:=of_decide_eq_false hf;omega)).mono ?_;rintro e w2 ⟨rfl,b2'⟩)
 refine hK.out _ _ ?_ (fun hHeld=>?_)
 ·exact keep_cell (Keep.of (F:=Fx) b2') hA1 ax (keep_cell k1 hA am c1)
 clear hK Kc
 have k2:Keep Fx w1 w2:=Keep.of b2'
 have g2:=HM3.out.below b2'
 obtain⟨F2,hF2⟩: ∃ F2,F2=Fx:=⟨_,rfl⟩
 rw [←hF2]at g2
 have s2: ∀ k,F2 k→Fx k∨w1.heap.size≤k:=fun k f=>Or.inl (by rw [hF2]at f;exact f)
 clear hF2
 refine tn 8 ?_;refine tn 9 ?_
 simp only [Act.put,ps1,ps2,ps3]
 refine wpAnyH_done (by kernel_rfl) ?_ _
 go_wp2
 go_ret
 have Mm:=HH.out.keep HG1.out k2 (fun k f g=>hd1 k f g)
 have hd2: ∀ k,F1 k→ ¬F2 k:=fun k f g=>(s2 k g).elim (fun g=>hd1 k f g) (fun e=>by have:=(HH.out.ft HG1.out k f).2;omega)
 have b2:Below base w1 w2:=k2.below (by omega) bx
 exact⟨rfl,(B0.drew.trans b1).trans b2,⟨⟨F1,F2,Mm,g2,hd2⟩,HK.out.mono (by omega)⟩⟩
theorem does_3m{MP:MeShape}(H:MeSpec MP)(base pm px:Nat)(S:Ms)(m:Nat)(Fm Fx:Nat→Prop)(a:Act)(w:World)(h1:MP base pm S Fm w)(h2:MeR base px S Fx w)(hd: ∀ k,Fm k→ ¬Fx k)(hk:MsOk S m)(hm:m≤999)(h64:Act64 a)(n1:a.kind≠1)(n2:a.kind≠2)(hkd:a.kind=3)(hf:isV S a.n=true)(hne:around S.C a.n≠ []):
  Calls Tryz.prog 78 #[ptR pm,ptR px,actV a] w fun e w'=>e= .returned (.bool true)∧Below base w w'∧BothM MP base pm px (S) (m+1) w':=by
 have HH:Hid _:=H
 have HK:Hid _:=hk
 have hm0:m≤1000:=by omega
 have hbase:base≤w.heap.size:=by obtain⟨pv,pf,Fv,Ff,a,ca,b,cb,hrow,hv,hf,ha,hb,hp,_⟩:=h2.ex;have:=h2.ft px hp;omega
 obtain⟨W,hW⟩: ∃ W,W=w.alloc (.cells (actC a).toArray 156):=⟨_,rfl⟩
 have BW:Below w.heap.size w W:=by rw [hW];exact(Below.refl _ _).alloc (Nat.le_refl _) _
 have zW:W.heap.size=w.heap.size+1:=by rw [hW];simp
 have R0:Row W w.heap.size (actC a):=by rw [hW];exact Row.new w _ _
 have hW':w.alloc (.cells #[.int .i64 a.kind, .int .i64 a.n, .int .i64 a.x, .int .i64 a.y, .int .i64 a.t.v0, .int .i64 a.t.v1, .int .i64 a.t.v2, .int .i64 a.t.x0, .int .i64 a.t.y0, .int .i64 a.t.x1, .int .i64 a.t.y1, .int .i64 a.t.x2, .int .i64 a.t.y2] 156)=W:=hW.symm
 have M1:=HH.out.below h1 BW
 have M2:=h2.below BW
 have am: ¬Fm w.heap.size:=fun f=>by have:=(H.ft h1 _ f).2;omega
 have ax: ¬Fx w.heap.size:=fun f=>by have:=(h2.ft _ f).2;omega
 have fm: ∀ k,Fm k→k<w.heap.size:=fun k f=>(H.ft h1 k f).2
 have fx: ∀ k,Fx k→k<w.heap.size:=fun k f=>(h2.ft k f).2
 have bm: ∀ k,Fm k→base≤k:=fun k f=>(H.ft h1 k f).1
 have bx: ∀ k,Fx k→base≤k:=fun k f=>(h2.ft k f).1
 have c0:=R0.cell 0 _ rfl
 have c1:=R0.cell 1 _ rfl
 have c2:=R0.cell 2 _ rfl
 have c3:=R0.cell 3 _ rfl
 have c4:=R0.cell 4 _ rfl
 have c5:=R0.cell 5 _ rfl
 have c6:=R0.cell 6 _ rfl
 have c7:=R0.cell 7 _ rfl
 have c8:=R0.cell 8 _ rfl
 have c9:=R0.cell 9 _ rfl
 have c10:=R0.cell 10 _ rfl
 have c11:=R0.cell 11 _ rfl
 have c12:=R0.cell 12 _ rfl
 have B0:Below base w W:=BW.mono hbase
 have HM1:Hid _:=M1
 have HM2:Hid _:=M2
 clear hW H h1 h2 hk M1 M2
 have e1:(a.kind==1)=false:=by simpa using n1
 have e2:(a.kind==2)=false:=by simpa using n2
 have e3:(a.kind==3)=true:=by simpa using hkd
 clear n1 n2 hkd
 obtain⟨lv,lc,l1,l2,l3,l4⟩:=HK.out.lens
 go_enter Tryz.func78,Tryz.ntmps78
 have hA:w.heap.size<W.drew.heap.size:=by simp;omega
 have BD:Below W.heap.size W W.drew:=(Below.refl _ _).drew
 have HM1d:Hid _:=HH.out.below HM1.out BD
 have HM2d:Hid _:=HM2.out.below BD
 go_wp2
 clear hW'
 refine wp_region_held_drew (S:=fun w'=>w'.cell? ⟨w.heap.size,1,none⟩=some (.int .i64 a.n)) (by kernel_rfl) ?_ (fun hHeld=>?_)
 ·exact c1
 refine tn 0 ?_;refine tn 1 ?_;refine tn 2 ?_;refine tn 4 ?_;refine tn 5 ?_;refine tn 6 ?_
 simp only [Act.put,ps1,ps2,ps3]
 refine tcl 3 fun Kc hK=>?_
 go_simp
 (go_at_call 146;refine(HH.out.dropV0 base pm S m Fm W.drew HM1d.out HK.out hm0 a.n h64.n (Or.inr hne)).mono ?_;rintro e w1 ⟨rfl,k1,F1,g1,s1⟩)
 refine hK.out _ _ ?_ (fun hHeld=>?_)
 ·exact keep_cell k1 hA am c1
 clear hK Kc
 have R1:=R0.drew.keep k1 (by omega) am
 have z1:=k1.size
 have hA1:w.heap.size<w1.heap.size:=(by simp at z1;omega)
 have M3:=HM2d.out.keep k1 (fun k f g=>hd k g f)
 have hd1: ∀ k,F1 k→ ¬Fx k:=fun k f g=>(s1 k f).elim (fun f=>hd k f g) (fun e=>by have:=fx k g;simp at e;omega)
 have b1:Below base W.drew w1:=k1.below (by simp;omega) bm
 have HG1:Hid _:=g1
 have HM3:Hid _:=M3
 clear g1 M3
 refine tcl 7 fun Kc hK=>?_
 go_simp
 (go_at_call 147;refine(mrDropV1 px S a.n w1 HM3.out.look (by omega) (by omega) (of_decide_eq_true hf) hne).mono ?_;rintro e w2 ⟨rfl,b2'⟩)
 refine hK.out _ _ ?_ (fun hHeld=>?_)
 ·exact keep_cell (Keep.of (F:=Fx) b2') hA1 ax (keep_cell k1 hA am c1)
 clear hK Kc
 have k2:Keep Fx w1 w2:=Keep.of b2'
 have g2:=HM3.out.below b2'
 obtain⟨F2,hF2⟩: ∃ F2,F2=Fx:=⟨_,rfl⟩
 rw [←hF2]at g2
 have s2: ∀ k,F2 k→Fx k∨w1.heap.size≤k:=fun k f=>Or.inl (by rw [hF2]at f;exact f)
 clear hF2
 refine tn 8 ?_;refine tn 9 ?_
 simp only [Act.put,ps1,ps2,ps3]
 refine wpAnyH_done (by kernel_rfl) ?_ _
 go_wp2
 go_ret
 have Mm:=HH.out.keep HG1.out k2 (fun k f g=>hd1 k f g)
 have hd2: ∀ k,F1 k→ ¬F2 k:=fun k f g=>(s2 k g).elim (fun g=>hd1 k f g) (fun e=>by have:=(HH.out.ft HG1.out k f).2;omega)
 have b2:Below base w1 w2:=k2.below (by omega) bx
 exact⟨rfl,(B0.drew.trans b1).trans b2,⟨⟨F1,F2,Mm,g2,hd2⟩,HK.out.mono (by omega)⟩⟩
theorem does_3y{MP:MeShape}(H:MeSpec MP)(base pm px:Nat)(S:Ms)(m:Nat)(Fm Fx:Nat→Prop)(a:Act)(w:World)(h1:MP base pm S Fm w)(h2:MeR base px S Fx w)(hd: ∀ k,Fm k→ ¬Fx k)(hk:MsOk S m)(hm:m≤999)(h64:Act64 a)(n1:a.kind≠1)(n2:a.kind≠2)(hkd:a.kind=3)(i:Nat)(c:Vt)(hc:S.V[i]? =some c)(hcf:c.no=a.n)(hi:fAt Vt.no a.n S.V 0=(i:Int))(hne:around S.C a.n= []):
  Calls Tryz.prog 78 #[ptR pm,ptR px,actV a] w fun e w'=>e= .returned (.bool true)∧Below base w w'∧BothM MP base pm px (S.dropV a.n i) (m+1) w':=by
 have HH:Hid _:=H
 have HK:Hid _:=hk
 have hm0:m≤1000:=by omega
 have hbase:base≤w.heap.size:=by obtain⟨pv,pf,Fv,Ff,a,ca,b,cb,hrow,hv,hf,ha,hb,hp,_⟩:=h2.ex;have:=h2.ft px hp;omega
 obtain⟨W,hW⟩: ∃ W,W=w.alloc (.cells (actC a).toArray 156):=⟨_,rfl⟩
 have BW:Below w.heap.size w W:=by rw [hW];exact(Below.refl _ _).alloc (Nat.le_refl _) _
 have zW:W.heap.size=w.heap.size+1:=by rw [hW];simp
 have R0:Row W w.heap.size (actC a):=by rw [hW];exact Row.new w _ _
 have hW':w.alloc (.cells #[.int .i64 a.kind, .int .i64 a.n, .int .i64 a.x, .int .i64 a.y, .int .i64 a.t.v0, .int .i64 a.t.v1, .int .i64 a.t.v2, .int .i64 a.t.x0, .int .i64 a.t.y0, .int .i64 a.t.x1, .int .i64 a.t.y1, .int .i64 a.t.x2, .int .i64 a.t.y2] 156)=W:=hW.symm
 have M1:=HH.out.below h1 BW
 have M2:=h2.below BW
 have am: ¬Fm w.heap.size:=fun f=>by have:=(H.ft h1 _ f).2;omega
 have ax: ¬Fx w.heap.size:=fun f=>by have:=(h2.ft _ f).2;omega
 have fm: ∀ k,Fm k→k<w.heap.size:=fun k f=>(H.ft h1 k f).2
 have fx: ∀ k,Fx k→k<w.heap.size:=fun k f=>(h2.ft k f).2
 have bm: ∀ k,Fm k→base≤k:=fun k f=>(H.ft h1 k f).1
 have bx: ∀ k,Fx k→base≤k:=fun k f=>(h2.ft k f).1
 have c0:=R0.cell 0 _ rfl
 have c1:=R0.cell 1 _ rfl
 have c2:=R0.cell 2 _ rfl
 have c3:=R0.cell 3 _ rfl
 have c4:=R0.cell 4 _ rfl
 have c5:=R0.cell 5 _ rfl
 have c6:=R0.cell 6 _ rfl
 have c7:=R0.cell 7 _ rfl
 have c8:=R0.cell 8 _ rfl
 have c9:=R0.cell 9 _ rfl
 have c10:=R0.cell 10 _ rfl
 have c11:=R0.cell 11 _ rfl
 have c12:=R0.cell 12 _ rfl
 have B0:Below base w W:=BW.mono hbase
 have HM1:Hid _:=M1
 have HM2:Hid _:=M2
 clear hW H h1 h2 hk M1 M2
 have e1:(a.kind==1)=false:=by simpa using n1
 have e2:(a.kind==2)=false:=by simpa using n2
 have e3:(a.kind==3)=true:=by simpa using hkd
 clear n1 n2 hkd
 obtain⟨lv,lc,l1,l2,l3,l4⟩:=HK.out.lens
 go_enter Tryz.func78,Tryz.ntmps78
 have hA:w.heap.size<W.drew.heap.size:=by simp;omega
 have BD:Below W.heap.size W W.drew:=(Below.refl _ _).drew
 have HM1d:Hid _:=HH.out.below HM1.out BD
 have HM2d:Hid _:=HM2.out.below BD
 go_wp2
 clear hW'
 refine wp_region_held_drew (S:=fun w'=>w'.cell? ⟨w.heap.size,1,none⟩=some (.int .i64 a.n)) (by kernel_rfl) ?_ (fun hHeld=>?_)
 ·exact c1
 refine tn 0 ?_;refine tn 1 ?_;refine tn 2 ?_;refine tn 4 ?_;refine tn 5 ?_;refine tn 6 ?_
 simp only [Act.put,ps1,ps2,ps3]
 refine tcl 3 fun Kc hK=>?_
 go_simp
 (go_at_call 146;refine(HH.out.dropV base pm S m Fm W.drew HM1d.out HK.out hm0 a.n i c h64.n hc hcf hne).mono ?_;rintro e w1 ⟨rfl,k1,F1,g1,s1⟩)
 refine hK.out _ _ ?_ (fun hHeld=>?_)
 ·exact keep_cell k1 hA am c1
 clear hK Kc
 have R1:=R0.drew.keep k1 (by omega) am
 have z1:=k1.size
 have hA1:w.heap.size<w1.heap.size:=(by simp at z1;omega)
 have M3:=HM2d.out.keep k1 (fun k f g=>hd k g f)
 have hd1: ∀ k,F1 k→ ¬Fx k:=fun k f g=>(s1 k f).elim (fun f=>hd k f g) (fun e=>by have:=fx k g;simp at e;omega)
 have b1:Below base W.drew w1:=k1.below (by simp;omega) bm
 have HG1:Hid _:=g1
 have HM3:Hid _:=M3
 clear g1 M3
 refine tcl 7 fun Kc hK=>?_
 go_simp
 (go_at_call 147;refine(mrDropV base px S Fx a.n i w1 HM3.out (by omega) (by omega) (by omega) (by omega) hi (List.getElem?_eq_some_iff.1 hc).1 (hcf▸(HK.out.vmem (List.mem_of_getElem? hc)).1) hne).mono ?_;rintro e w2 ⟨rfl,k2,F2,g2,s2⟩)
 refine hK.out _ _ ?_ (fun hHeld=>?_)
 ·exact keep_cell k2 hA1 ax (keep_cell k1 hA am c1)
 clear hK Kc
 refine tn 8 ?_;refine tn 9 ?_
 simp only [Act.put,ps1,ps2,ps3]
 refine wpAnyH_done (by kernel_rfl) ?_ _
 go_wp2
 go_ret
 have Mm:=HH.out.keep HG1.out k2 (fun k f g=>hd1 k f g)
 have hd2: ∀ k,F1 k→ ¬F2 k:=fun k f g=>(s2 k g).elim (fun g=>hd1 k f g) (fun e=>by have:=(HH.out.ft HG1.out k f).2;omega)
 have b2:Below base w1 w2:=k2.below (by omega) bx
 exact⟨rfl,(B0.drew.trans b1).trans b2,⟨⟨F1,F2,Mm,g2,hd2⟩,HK.out.dropV hc hcf hne⟩⟩
theorem does_0n{MP:MeShape}(H:MeSpec MP)(base pm px:Nat)(S:Ms)(m:Nat)(Fm Fx:Nat→Prop)(a:Act)(w:World)(h1:MP base pm S Fm w)(h2:MeR base px S Fx w)(hd: ∀ k,Fm k→ ¬Fx k)(hk:MsOk S m)(hm:m≤999)(h64:Act64 a)(n1:a.kind≠1)(n2:a.kind≠2)(n3:a.kind≠3)(hs:inSq S a.x a.y=false):
  Calls Tryz.prog 78 #[ptR pm,ptR px,actV a] w fun e w'=>e= .returned (.bool true)∧Below base w w'∧BothM MP base pm px (S) (m+1) w':=by
 have HH:Hid _:=H
 have HK:Hid _:=hk
 have hm0:m≤1000:=by omega
 have hbase:base≤w.heap.size:=by obtain⟨pv,pf,Fv,Ff,a,ca,b,cb,hrow,hv,hf,ha,hb,hp,_⟩:=h2.ex;have:=h2.ft px hp;omega
 obtain⟨W,hW⟩: ∃ W,W=w.alloc (.cells (actC a).toArray 156):=⟨_,rfl⟩
 have BW:Below w.heap.size w W:=by rw [hW];exact(Below.refl _ _).alloc (Nat.le_refl _) _
 have zW:W.heap.size=w.heap.size+1:=by rw [hW];simp
 have R0:Row W w.heap.size (actC a):=by rw [hW];exact Row.new w _ _
 have hW':w.alloc (.cells #[.int .i64 a.kind, .int .i64 a.n, .int .i64 a.x, .int .i64 a.y, .int .i64 a.t.v0, .int .i64 a.t.v1, .int .i64 a.t.v2, .int .i64 a.t.x0, .int .i64 a.t.y0, .int .i64 a.t.x1, .int .i64 a.t.y1, .int .i64 a.t.x2, .int .i64 a.t.y2] 156)=W:=hW.symm
 have M1:=HH.out.below h1 BW
 have M2:=h2.below BW
 have am: ¬Fm w.heap.size:=fun f=>by have:=(H.ft h1 _ f).2;omega
 have ax: ¬Fx w.heap.size:=fun f=>by have:=(h2.ft _ f).2;omega
 have fm: ∀ k,Fm k→k<w.heap.size:=fun k f=>(H.ft h1 k f).2
 have fx: ∀ k,Fx k→k<w.heap.size:=fun k f=>(h2.ft k f).2
 have bm: ∀ k,Fm k→base≤k:=fun k f=>(H.ft h1 k f).1
 have bx: ∀ k,Fx k→base≤k:=fun k f=>(h2.ft k f).1
 have c0:=R0.cell 0 _ rfl
 have c1:=R0.cell 1 _ rfl
 have c2:=R0.cell 2 _ rfl
 have c3:=R0.cell 3 _ rfl
 have c4:=R0.cell 4 _ rfl
 have c5:=R0.cell 5 _ rfl
 have c6:=R0.cell 6 _ rfl
 have c7:=R0.cell 7 _ rfl
 have c8:=R0.cell 8 _ rfl
 have c9:=R0.cell 9 _ rfl
 have c10:=R0.cell 10 _ rfl
 have c11:=R0.cell 11 _ rfl
 have c12:=R0.cell 12 _ rfl
 have B0:Below base w W:=BW.mono hbase
 have HM1:Hid _:=M1
 have HM2:Hid _:=M2
 clear hW H h1 h2 hk M1 M2
 have e1:(a.kind==1)=false:=by simpa using n1
 have e2:(a.kind==2)=false:=by simpa using n2
 have e3:(a.kind==3)=false:=by simpa using n3
 clear n1 n2 n3
 obtain⟨lv,lc,l1,l2,l3,l4⟩:=HK.out.lens
 go_enter Tryz.func78,Tryz.ntmps78
 have hA:w.heap.size<W.drew.heap.size:=by simp;omega
 have BD:Below W.heap.size W W.drew:=(Below.refl _ _).drew
 have HM1d:Hid _:=HH.out.below HM1.out BD
 have HM2d:Hid _:=HM2.out.below BD
 go_wp2
 clear hW'
 refine wp_region_held_drew (S:=fun w'=>w'.cell? ⟨w.heap.size,1,none⟩=some (.int .i64 a.n)∧w'.cell? ⟨w.heap.size,2,none⟩=some (.int .i64 a.x)∧w'.cell? ⟨w.heap.size,3,none⟩=some (.int .i64 a.y)) (by kernel_rfl) ?_ (fun hHeld=>?_)
 ·exact⟨c1,c2,c3⟩
 refine tn 0 ?_;refine tn 1 ?_;refine tn 2 ?_;refine tn 3 ?_;refine tn 4 ?_;refine tn 6 ?_;refine tn 7 ?_;refine tn 8 ?_;refine tn 9 ?_;refine tn 10 ?_
 simp only [Act.put,ps1,ps2,ps3]
 refine tcl 5 fun Kc hK=>?_
 go_simp
 (go_at_call 46;refine(HH.out.addV0 base pm S m Fm W.drew HM1d.out HK.out hm0 a.x a.y a.n h64.x h64.y h64.n hs).mono ?_;rintro e w1 ⟨rfl,k1,F1,g1,s1⟩)
 refine hK.out _ _ ?_ (fun hHeld=>?_)
 ·exact⟨keep_cell k1 hA am c1,keep_cell k1 hA am c2,keep_cell k1 hA am c3⟩
 clear hK Kc
 have R1:=R0.drew.keep k1 (by omega) am
 have z1:=k1.size
 have hA1:w.heap.size<w1.heap.size:=(by simp at z1;omega)
 have M3:=HM2d.out.keep k1 (fun k f g=>hd k g f)
 have hd1: ∀ k,F1 k→ ¬Fx k:=fun k f g=>(s1 k f).elim (fun f=>hd k f g) (fun e=>by have:=fx k g;simp at e;omega)
 have b1:Below base W.drew w1:=k1.below (by simp;omega) bm
 have HG1:Hid _:=g1
 have HM3:Hid _:=M3
 clear g1 M3
 refine tcl 11 fun Kc hK=>?_
 go_simp
 (go_at_call 148;refine(mrAddV0 px S a.x a.y a.n w1 HM3.out.look hs).mono ?_;rintro e w2 ⟨rfl,b2'⟩)
 refine hK.out _ _ ?_ (fun hHeld=>?_)
 ·exact⟨keep_cell (Keep.of (F:=Fx) b2') hA1 ax (keep_cell k1 hA am c1),keep_cell (Keep.of (F:=Fx) b2') hA1 ax (keep_cell k1 hA am c2),keep_cell (Keep.of (F:=Fx) b2') hA1 ax (keep_cell k1 hA am c3)⟩
 clear hK Kc
 have k2:Keep Fx w1 w2:=Keep.of b2'
 have g2:=HM3.out.below b2'
 obtain⟨F2,hF2⟩: ∃ F2,F2=Fx:=⟨_,rfl⟩
 rw [←hF2]at g2
 have s2: ∀ k,F2 k→Fx k∨w1.heap.size≤k:=fun k f=>Or.inl (by rw [hF2]at f;exact f)
 clear hF2
 refine tn 12 ?_;refine tn 13 ?_
 simp only [Act.put,ps1,ps2,ps3]
 refine wpAnyH_done (by kernel_rfl) ?_ _
 go_wp2
 go_ret
 have Mm:=HH.out.keep HG1.out k2 (fun k f g=>hd1 k f g)
 have hd2: ∀ k,F1 k→ ¬F2 k:=fun k f g=>(s2 k g).elim (fun g=>hd1 k f g) (fun e=>by have:=(HH.out.ft HG1.out k f).2;omega)
 have b2:Below base w1 w2:=k2.below (by omega) bx
 exact⟨rfl,(B0.drew.trans b1).trans b2,⟨⟨F1,F2,Mm,g2,hd2⟩,HK.out.mono (by omega)⟩⟩
theorem does_0y{MP:MeShape}(H:MeSpec MP)(base pm px:Nat)(S:Ms)(m:Nat)(Fm Fx:Nat→Prop)(a:Act)(w:World)(h1:MP base pm S Fm w)(h2:MeR base px S Fx w)(hd: ∀ k,Fm k→ ¬Fx k)(hk:MsOk S m)(hm:m≤999)(h64:Act64 a)(n1:a.kind≠1)(n2:a.kind≠2)(n3:a.kind≠3)(hs:inSq S a.x a.y=true):
  Calls Tryz.prog 78 #[ptR pm,ptR px,actV a] w fun e w'=>e= .returned (.bool true)∧Below base w w'∧BothM MP base pm px (S.addV a.x a.y a.n) (m+1) w':=by
 have HH:Hid _:=H
 have HK:Hid _:=hk
 have hm0:m≤1000:=by omega
 have hbase:base≤w.heap.size:=by obtain⟨pv,pf,Fv,Ff,a,ca,b,cb,hrow,hv,hf,ha,hb,hp,_⟩:=h2.ex;have:=h2.ft px hp;omega
 obtain⟨W,hW⟩: ∃ W,W=w.alloc (.cells (actC a).toArray 156):=⟨_,rfl⟩
 have BW:Below w.heap.size w W:=by rw [hW];exact(Below.refl _ _).alloc (Nat.le_refl _) _
 have zW:W.heap.size=w.heap.size+1:=by rw [hW];simp
 have R0:Row W w.heap.size (actC a):=by rw [hW];exact Row.new w _ _
 have hW':w.alloc (.cells #[.int .i64 a.kind, .int .i64 a.n, .int .i64 a.x, .int .i64 a.y, .int .i64 a.t.v0, .int .i64 a.t.v1, .int .i64 a.t.v2, .int .i64 a.t.x0, .int .i64 a.t.y0, .int .i64 a.t.x1, .int .i64 a.t.y1, .int .i64 a.t.x2, .int .i64 a.t.y2] 156)=W:=hW.symm
 have M1:=HH.out.below h1 BW
 have M2:=h2.below BW
 have am: ¬Fm w.heap.size:=fun f=>by have:=(H.ft h1 _ f).2;omega
 have ax: ¬Fx w.heap.size:=fun f=>by have:=(h2.ft _ f).2;omega
 have fm: ∀ k,Fm k→k<w.heap.size:=fun k f=>(H.ft h1 k f).2
 have fx: ∀ k,Fx k→k<w.heap.size:=fun k f=>(h2.ft k f).2
 have bm: ∀ k,Fm k→base≤k:=fun k f=>(H.ft h1 k f).1
 have bx: ∀ k,Fx k→base≤k:=fun k f=>(h2.ft k f).1
 have c0:=R0.cell 0 _ rfl
 have c1:=R0.cell 1 _ rfl
 have c2:=R0.cell 2 _ rfl
 have c3:=R0.cell 3 _ rfl
 have c4:=R0.cell 4 _ rfl
 have c5:=R0.cell 5 _ rfl
 have c6:=R0.cell 6 _ rfl
 have c7:=R0.cell 7 _ rfl
 have c8:=R0.cell 8 _ rfl
 have c9:=R0.cell 9 _ rfl
 have c10:=R0.cell 10 _ rfl
 have c11:=R0.cell 11 _ rfl
 have c12:=R0.cell 12 _ rfl
 have B0:Below base w W:=BW.mono hbase
 have HM1:Hid _:=M1
 have HM2:Hid _:=M2
 clear hW H h1 h2 hk M1 M2
 have e1:(a.kind==1)=false:=by simpa using n1
 have e2:(a.kind==2)=false:=by simpa using n2
 have e3:(a.kind==3)=false:=by simpa using n3
 clear n1 n2 n3
 obtain⟨lv,lc,l1,l2,l3,l4⟩:=HK.out.lens
 go_enter Tryz.func78,Tryz.ntmps78
 have hA:w.heap.size<W.drew.heap.size:=by simp;omega
 have BD:Below W.heap.size W W.drew:=(Below.refl _ _).drew
 have HM1d:Hid _:=HH.out.below HM1.out BD
 have HM2d:Hid _:=HM2.out.below BD
 go_wp2
 clear hW'
 refine wp_region_held_drew (S:=fun w'=>w'.cell? ⟨w.heap.size,1,none⟩=some (.int .i64 a.n)∧w'.cell? ⟨w.heap.size,2,none⟩=some (.int .i64 a.x)∧w'.cell? ⟨w.heap.size,3,none⟩=some (.int .i64 a.y)) (by kernel_rfl) ?_ (fun hHeld=>?_)
 ·exact⟨c1,c2,c3⟩
 refine tn 0 ?_;refine tn 1 ?_;refine tn 2 ?_;refine tn 3 ?_;refine tn 4 ?_;refine tn 6 ?_;refine tn 7 ?_;refine tn 8 ?_;refine tn 9 ?_;refine tn 10 ?_
 simp only [Act.put,ps1,ps2,ps3]
 refine tcl 5 fun Kc hK=>?_
 go_simp
 (go_at_call 46;refine(HH.out.addV base pm S m Fm W.drew HM1d.out HK.out hm0 a.x a.y a.n h64.x h64.y h64.n hs).mono ?_;rintro e w1 ⟨rfl,k1,F1,g1,s1⟩)
 refine hK.out _ _ ?_ (fun hHeld=>?_)
 ·exact⟨keep_cell k1 hA am c1,keep_cell k1 hA am c2,keep_cell k1 hA am c3⟩
 clear hK Kc
 have R1:=R0.drew.keep k1 (by omega) am
 have z1:=k1.size
 have hA1:w.heap.size<w1.heap.size:=(by simp at z1;omega)
 have M3:=HM2d.out.keep k1 (fun k f g=>hd k g f)
 have hd1: ∀ k,F1 k→ ¬Fx k:=fun k f g=>(s1 k f).elim (fun f=>hd k f g) (fun e=>by have:=fx k g;simp at e;omega)
 have b1:Below base W.drew w1:=k1.below (by simp;omega) bm
 have HG1:Hid _:=g1
 have HM3:Hid _:=M3
 clear g1 M3
 refine tcl 11 fun Kc hK=>?_
 go_simp
 (go_at_call 148;refine(mrAddV base px S Fx a.x a.y a.n w1 HM3.out (by omega) (by omega) (by omega) (by have:=HK.out.vt;omega) hs rfl).mono ?_;rintro e w2 ⟨rfl,k2,F2,g2,s2⟩)
 refine hK.out _ _ ?_ (fun hHeld=>?_)
 ·exact⟨keep_cell k2 hA1 ax (keep_cell k1 hA am c1),keep_cell k2 hA1 ax (keep_cell k1 hA am c2),keep_cell k2 hA1 ax (keep_cell k1 hA am c3)⟩
 clear hK Kc
 refine tn 12 ?_;refine tn 13 ?_
 simp only [Act.put,ps1,ps2,ps3]
 refine wpAnyH_done (by kernel_rfl) ?_ _
 go_wp2
 go_ret
 have Mm:=HH.out.keep HG1.out k2 (fun k f g=>hd1 k f g)
 have hd2: ∀ k,F1 k→ ¬F2 k:=fun k f g=>(s2 k g).elim (fun g=>hd1 k f g) (fun e=>by have:=(HH.out.ft HG1.out k f).2;omega)
 have b2:Below base w1 w2:=k2.below (by omega) bx
 exact⟨rfl,(B0.drew.trans b1).trans b2,⟨⟨F1,F2,Mm,g2,hd2⟩,HK.out.addV hs h64.n⟩⟩
theorem does_all{MP:MeShape}(H:MeSpec MP)(base pm px:Nat)(S:Ms)(m:Nat)(a:Act)(w:World)(hb:BothM MP base pm px S m w)(hm:m≤999)(h64:Act64 a):
  Calls Tryz.prog 78 #[ptR pm,ptR px,actV a] w fun e w'=>e= .returned (.bool true)∧Below base w w'∧ ∃ S',BothM MP base pm px S' (m+1) w'∧S'.n=S.n:=by
 obtain⟨Fm,Fx,h1,h2,hd⟩:=hb.ex
 have hk:=hb.ok
 have hf: ∀ S',S'.n=S.n→ ∀ (e:Ending) (w':World),(e= .returned (.bool true)∧Below base w w'∧BothM MP base pm px S' (m+1) w')→e= .returned (.bool true)∧Below base w w'∧ ∃ S',BothM MP base pm px S' (m+1) w'∧S'.n=S.n:=fun S' hn e w' ⟨x,y,z⟩=>⟨x,y,S',z,hn⟩
 by_cases n1:a.kind=1
 ·by_cases he:fErr S a.t=0
  ·exact(does_1y H base pm px S m Fm Fx a w h1 h2 hd hk hm h64 n1 he).mono (hf (S.addF a.t) rfl)
  ·exact(does_1n H base pm px S m Fm Fx a w h1 h2 hd hk hm h64 n1 he).mono (hf S rfl)
 ·by_cases n2:a.kind=2
  ·rcases fAt_cases Ce.no a.n S.C with⟨e1,_⟩|⟨i,c,e1,e2,e3⟩
   ·exact(does_2n H base pm px S m Fm Fx a w h1 h2 hd hk hm h64 n1 n2 (decide_eq_false (by rw [e1];decide))).mono (hf S rfl)
   ·exact(does_2y H base pm px S m Fm Fx a w h1 h2 hd hk hm h64 n1 n2 i c e2 e3 e1).mono (hf (S.dropF a.n i) rfl)
  ·by_cases n3:a.kind=3
   ·rcases fAt_cases Vt.no a.n S.V with⟨e1,_⟩|⟨i,c,e1,e2,e3⟩
    ·exact(does_3n H base pm px S m Fm Fx a w h1 h2 hd hk hm h64 n1 n2 n3 (decide_eq_false (by rw [e1];decide))).mono (hf S rfl)
    ·by_cases hne:around S.C a.n= []
     ·exact(does_3y H base pm px S m Fm Fx a w h1 h2 hd hk hm h64 n1 n2 n3 i c e2 e3 e1 hne).mono (hf (S.dropV a.n i) rfl)
     ·exact(does_3m H base pm px S m Fm Fx a w h1 h2 hd hk hm h64 n1 n2 n3 (decide_eq_true (by rw [e1];omega)) hne).mono (hf S rfl)
   ·cases hs:inSq S a.x a.y with
    |false=>exact(does_0n H base pm px S m Fm Fx a w h1 h2 hd hk hm h64 n1 n2 n3 hs).mono (hf S rfl)
    |true=>exact(does_0y H base pm px S m Fm Fx a w h1 h2 hd hk hm h64 n1 n2 n3 hs).mono (hf (S.addV a.x a.y a.n) rfl)
structure ActsAt(w:World)(a:Option Addr)(n c:Nat)(L:List Act):Prop where
 len:L.length=n
 room:n≤c∧c≤maxLen
 seg:n=0∨ ∃ b o,a=some ⟨b,o,none⟩∧b<w.heap.size∧Seg w b o (flat actC L)
 l64: ∀ x∈L,Act64 x
theorem plays_of{MP:MeShape}(H:MeSpec MP)(side:Int)(hs:1≤side∧side≤17179869184)(a:Option Addr)(n c:Nat)(L:List Act)(w:World)(hL:ActsAt w a n c L):
  Calls Tryz.prog 30 #[.int .i64 side, .slice a n c] w fun e w'=> ∃ (pm px:Nat) (S:Ms),e= .returned (.tuple #[ptR pm,ptR px, .bool true])∧BothM MP w.heap.size pm px S 40 w'∧S.n=side∧Below w.heap.size w w':=by
 have HH:Hid _:=H
 have HL:Hid _:=hL
 have hroom:=hL.room
 have hmx:maxLen≤9223372036854775807:=by unfold maxLen;omega
 clear H hL
 go_enter Tryz.func30,Tryz.ntmps30
 go_wp2_with (go_at_call 45;fail)
 refine(HH.out.new w.heap.size side w (Nat.le_refl _) hs).mono ?_
 rintro e w1 ⟨pm,Fm,rfl,g1,f1,b1⟩
 have HG1:Hid _:=g1
 go_wp2_with (go_at_call 77;fail)
 refine(mrNew w.heap.size side w1 b1.size).mono ?_
 rintro e w2 ⟨px,Fx,rfl,g2,f2,b2⟩
 have hB:Hid (BothM MP w.heap.size pm px (Ms.new side) 0 w2):=⟨⟨Fm,Fx,HH.out.below HG1.out b2,g2,fun k f g=>by have:=(HH.out.ft HG1.out k f).2;have:=f2 k g;omega⟩,MsOk.new side hs⟩
 have B2:Below w.heap.size w w2:=b1.trans (b2.mono b1.size)
 clear g1 g2
 go_wp2
 go_loopw [9] (fun q wr=> ∃ (k:Nat) (S:Ms),k≤40∧q= .int .i64 (k:Int)∧BothM MP w.heap.size pm px S k wr∧S.n=side∧Below w.heap.size w wr) (fun q _=>40- (intOf q).toNat)
 case atStart=>exact⟨0,Ms.new side,by omega,rfl,hB.out,rfl,B2⟩
 case round=>
  clear hB B2
  obtain⟨k,S,hk,rfl,hbo,hsn,bel⟩:=hrel
  have HBO:Hid _:=hbo
  have HSN:Hid _:=hsn
  clear hbo hsn
  by_cases hlt:k<n
  ·by_cases h40:k<40
   ·have hlen:=HL.out.len
    obtain⟨x,hx⟩: ∃ x,L[k]? =some x:=⟨L[k],List.getElem?_eq_getElem (by omega)⟩
    obtain⟨b,o,rfl,hbl,hseg⟩:=(HL.out.seg).resolve_left (by omega)
    have h64:=HL.out.l64 x (List.mem_of_getElem? hx)
    have C: ∀ j u,(actC x)[j]? =some u→wr.cell? ⟨b,o+k*13+j,none⟩=some u:=fun j u hj=>by
     have:=hseg.cell _ u (flat_at actC_len hx hj)
     rw [←Nat.add_assoc]at this
     exact(bel.cell (p:=⟨b,o+k*13+j,none⟩) hbl).trans this
    have c0:wr.cell? ⟨b,o+k*13,none⟩=some (.int .i64 x.kind):=C 0 _ rfl
    have c1:=C 1 _ rfl
    have c2:=C 2 _ rfl
    have c3:=C 3 _ rfl
    have c4:=C 4 _ rfl
    have c5:=C 5 _ rfl
    have c6:=C 6 _ rfl
    have c7:=C 7 _ rfl
    have c8:=C 8 _ rfl
    have c9:=C 9 _ rfl
    have c10:=C 10 _ rfl
    have c11:=C 11 _ rfl
    have c12:=C 12 _ rfl
    clear C hseg hx hlen
    go_wp2_with (go_at_call 78;fail)
    refine(does_all HH.out w.heap.size pm px S k x wr HBO.out (by omega) h64).mono ?_
    rintro e w5 ⟨rfl,b5,S',hb5,hn5⟩
    go_wp2
    go_roundw
    case rel=>exact⟨k+1,S',by omega,by simp,hb5,hn5.trans HSN.out,bel.trans b5⟩
    case measure=>simp [intOf];omega
   ·obtain rfl:k=40:=by omega
    go_wp2
    exact bodyPost_ret (v:= .tuple #[ptR pm,ptR px, .bool true]) (by simp [results,Tryz.results30,go_sem]) rfl ⟨pm,px,S,rfl,HBO.out,HSN.out,bel⟩
  ·go_wp2
   exact bodyPost_ret (v:= .tuple #[ptR pm,ptR px, .bool true]) (by simp [results,Tryz.results30,go_sem]) rfl ⟨pm,px,S,rfl,⟨HBO.out.ex,HBO.out.ok.mono hk⟩,HSN.out,bel⟩
end Go.Proofs.YtjmhfdimoeaplaaGreat
namespace Go.Proofs.YtjmhfdimoeaplaaGreat
open Go.ChangeShapes Go.WideShapes Go.ChangeAt Go.RowKit
set_option linter.unusedVariables false
set_option linter.constructorNameAsVariable false
theorem bd_act{x:Int}(h:(Lit.int .i64 x).wf=true):In64 x:=by
 have h1:IntKind.i64.min= -9223372036854775808:=rfl
 have h2:IntKind.i64.max=9223372036854775807:=rfl
 simp only [Lit.wf,Bool.and_eq_true,decide_eq_true_eq,h1,h2]at h
 exact h
section
variable {H : Type} {enc : TypeId × Value → H} {W : World} {bs : Nat} {sp : Nat → Bool} {hd : Bool} {fuel : Nat} {cs : List Value} {x : DataW H × List MemPlace}
end
end Go.Proofs.YtjmhfdimoeaplaaGreat
namespace Go.Proofs.YtjmhfdimoeaplaaGreat
open Go.RowKit
set_option linter.unusedVariables false
def oneT:Tr:=⟨0,0,0,0,0,1,0,0,1⟩
def twoT:Tr:=⟨0,0,0,1,0,1,1,0,1⟩
def one1:Ms:=(Ms.new 1).addV 0 0 7
def one2:Ms:=one1.addF oneT
def one3:Ms:=one2.addF twoT
end Go.Proofs.YtjmhfdimoeaplaaGreat
