/-
  Joined texts of this law, part 2.
-/
import Derived.Test.YtjmhfdimoeaplaaGreatQHRings1
namespace Go.Proofs.YtjmhfdimoeaplaaGreat
open Go.RowKit Go.Maps
set_option linter.unusedVariables false
set_option linter.unusedSimpArgs false
def RingRef(B:Nat)(r:Option (List Wg))(e:Ending)(w':World):Prop:=match r with
 |none=> ∃ (ka fa:Option Addr) (kc fc:Nat),e= .returned (.tuple #[.slice ka 0 kc, .slice fa 0 fc, .bool false])∧OwnS w' B 122 3 ka 0 kc []∧OwnS w' B 3 1 fa 0 fc []
 |some W=> ∃ (ka fa:Option Addr) (kc fc:Nat),e= .returned (.tuple #[.slice ka W.length kc, .slice fa W.length fc, .bool true])∧OwnS w' B 122 3 ka W.length kc (flat rkC W)∧OwnS w' B 3 1 fa W.length fc (flat rfC W)
def selA(t:Tr)(v:Int)(q:Nat):Int:=if q≤0∧t.v0=v then 0 else if q≤1∧t.v1=v then 1 else if q≤2∧t.v2=v then 2 else -1
def selF(t:Tr)(v:Int)(k:Int)(q:Nat):Int:=if selA t v q<0 then -1 else k
theorem sel3(t:Tr)(v k:Int):selA t v 3= -1∧selF t v k 3= -1:=by simp[selA,selF]
theorem sel_yes2{t:Tr}{v:Int}(k:Int)(h:t.v2=v):selA t v 2=2∧selF t v k 2=k:=by simp[selA,selF,h]
theorem sel_no2{t:Tr}{v:Int}(k:Int)(h:t.v2≠v):selA t v 2=selA t v 3∧selF t v k 2=selF t v k 3:=by simp[selA,selF,h]
theorem sel_yes1{t:Tr}{v:Int}(k:Int)(h:t.v1=v):selA t v 1=1∧selF t v k 1=k:=by simp[selA,selF,h]
theorem sel_no1{t:Tr}{v:Int}(k:Int)(h:t.v1≠v):selA t v 1=selA t v 2∧selF t v k 1=selF t v k 2:=by simp[selA,selF,h]
theorem sel_yes0{t:Tr}{v:Int}(k:Int)(h:t.v0=v):selA t v 0=0∧selF t v k 0=k:=by simp[selA,selF,h]
theorem sel_no0{t:Tr}{v:Int}(k:Int)(h:t.v0≠v):selA t v 0=selA t v 1∧selF t v k 0=selF t v k 1:=by simp[selA,selF,h]
theorem sel_has{t:Tr}{v:Int}(k:Int)(h:has t v=true):selA t v 0=(cornV t v:Int)∧selF t v k 0=k:=by
 unfold has at h
 rw[decide_eq_true_iff]at h
 by_cases h0:t.v0=v
 ·simp[selA,selF,cornV,h0]
 ·by_cases h1:t.v1=v
  ·simp[selA,selF,cornV,h0,h1]
  ·have h2:t.v2=v:=by rcases h with q|q|q;exact absurd q h0;exact absurd q h1;exact q
   simp[selA,selF,cornV,h0,h1,h2]
theorem sel_hasnt{t:Tr}{v:Int}(k:Int)(h:has t v=false):selA t v 0= -1∧selF t v k 0= -1:=by
 unfold has at h
 rw[decide_eq_false_iff_not]at h
 have h0:t.v0≠v:=fun q=>h (Or.inl q)
 have h1:t.v1≠v:=fun q=>h (Or.inr (Or.inl q))
 have h2:t.v2≠v:=fun q=>h (Or.inr (Or.inr q))
 simp[selA,selF,h0,h1,h2]
theorem eq_knot(a b c a' b' c':Int)(w:World):(Op.equalIn 10000 122 (.agg #[.int .i64 a, .int .i64 b, .int .i64 c]) (.agg #[.int .i64 a', .int .i64 b', .int .i64 c'])).run Tryz.prog w= .ok (a==a' && (b==b' && c==c')) w:=by
 by_cases e0:a=a'<;>by_cases e1:b=b'<;>by_cases e2:c=c'<;>simp[go_sem,Tryz.underlying122,Tryz.underlying28,Tryz.underlying3,e0,e1,e2]
theorem rowNews{w:World}{b:Nat}{xs:List Value}(h:Row w b xs):News w ⟨b,0,none⟩ xs:=by
 intro j u hu
 rw[Addr.add_lit,Nat.zero_add]
 exact h.cell j u hu
structure RrSt(C:List Ce)(v:Int)(f:Wg)(B b13:Nat)(a:Wg)(W:List Wg)(n:Nat)(ka fa:Option Addr)(kc fc:Nat)(w:World):Prop where
 r13:Row w b13 (rkC f)
 ok:OwnS w B 122 3 ka n kc (flat rkC W)
 of:OwnS w B 3 1 fa n fc (flat rfC W)
 ap: ∀ k,Slot ka k→ ¬Slot fa k
 nk: ∀ k,Slot ka k→k≠b13
 nf: ∀ k,Slot fa k→k≠b13
 lo:B≤b13
 hi:b13<w.heap.size
 len:n=W.length
 pa:PathW C v f (W++ [a])
 go:ringQ C v=ringR C f (3*C.length+1- W.length) a W
theorem RrSt.below{C:List Ce}{v:Int}{f:Wg}{B b13:Nat}{a:Wg}{W:List Wg}{n:Nat}{ka fa:Option Addr}{kc fc:Nat}{w w':World}(h:RrSt C v f B b13 a W n ka fa kc fc w)(hb:Below w.heap.size w w'):RrSt C v f B b13 a W n ka fa kc fc w':=
 ⟨h.r13.below hb h.hi,h.ok.below hb,h.of.below hb,h.ap,h.nk,h.nf,h.lo,Nat.lt_of_lt_of_le h.hi hb.size,h.len,h.pa,h.go⟩
theorem first_at{C:List Ce}{v:Int}{k:Nat}{c:Ce}(h:C[k]? =some c)(hh:has c.t v=true)(hn: ∀ j d,j<k→C[j]? =some d→has d.t v=false):firstW C v=some (c,cornV c.t v):=by
 have:C.find? (fun c=>has c.t v)=some c:=by
  rw[List.find?_eq_some_iff_getElem]
  obtain⟨hk,he⟩:=List.getElem?_eq_some_iff.1 h
  refine⟨hh,k,hk,he,fun j hj=>?_⟩
  rw[hn j C[j] hj (List.getElem?_eq_getElem _)]
  rfl
 unfold firstW
 rw[this]
theorem first_non{C:List Ce}{v:Int}(hn: ∀ j d,j<C.length→C[j]? =some d→has d.t v=false):firstW C v=none:=by
 have:C.find? (fun c=>has c.t v)=none:=by
  rw[List.find?_eq_none]
  intro c hc
  obtain⟨j,hj,e⟩:=List.getElem_of_mem hc
  rw[hn j c hj (by rw[←e];exact List.getElem?_eq_getElem hj)]
  simp
 unfold firstW
 rw[this]
set_option maxRecDepth 1000000 in
theorem zzRA{P:Prop}(h:P:=by
 have M1:=(kL.cell (p:=⟨g,j*10+1,none⟩) hgl ng).trans m1
 have M2:=(kL.cell (p:=⟨g,j*10+2,none⟩) hgl ng).trans m2
 have M3:=(kL.cell (p:=⟨g,j*10+3,none⟩) hgl ng).trans m3
 have M4:=(kL.cell (p:=⟨g,j*10+4,none⟩) hgl ng).trans m4
 have M5:=(kL.cell (p:=⟨g,j*10+5,none⟩) hgl ng).trans m5
 have M6:=(kL.cell (p:=⟨g,j*10+6,none⟩) hgl ng).trans m6
 have M7:=(kL.cell (p:=⟨g,j*10+7,none⟩) hgl ng).trans m7
 have M8:=(kL.cell (p:=⟨g,j*10+8,none⟩) hgl ng).trans m8
 have M9:=(kL.cell (p:=⟨g,j*10+9,none⟩) hgl ng).trans m9
 have stL:=hst.out
 have r13L:Hid (Row wL b13 [.int .i64 p0, .int .i64 p1, .int .i64 p2]):=by unfold Hid;rw[←HP.out];exact stL.r13.keep kL stL.hi (by rintro(s|s);exact stL.nk _ s rfl;exact stL.nf _ s rfl)
 have okL:Hid (OwnS wL B 122 3 aK (n1+1) ccK (flat rkC (W1++ [a]))):=by unfold Hid;rw[flat_append];rw[←HK.out]at oK;simpa [flat]using oK
 have ofL:Hid (OwnS wL B 3 1 aF (n1+1) ccF (flat rfC (W1++ [a]))):=by unfold Hid;rw[flat_append];rw[HY0.out]at oF;simpa [flat]using oF
 have nkL:Hid (∀ k,Slot aK k→k≠b13):=fun k s=>(sK1 k s).elim (stL.nk k) (fun h=>by have:=stL.hi;omega)
 have nfL:Hid (∀ k,Slot aF k→k≠b13):=fun k s=>(sF1 k s).elim (stL.nf k) (fun h=>by have:=stL.hi;omega)
 have HAL:Hid _:=apL
 have hBL:B≤wL.heap.size:=by omega
 have BL:Hid (Below w.heap.size w wL):=by
  refine hbb.out.trans (kL.below (by have:=hBw.out;omega) (fun k s=>?_))
  have:=hBw.out
  rcases s with s|s
  ·have:=(OwnS.lt stL.ok s).2;omega
  ·have:=(OwnS.lt stL.of s).2;omega
 have HGO:Hid (ringQ C v=ringR C f (3*C.length- n1+1) a W1):=by
  have:=stL.go
  rw[←stL.len]at this
  have e:3*C.length+1- n1=3*C.length- n1+1:=by have:=HFEW.out;have:=HN.out;omega
  rw[e]at this
  exact this
 have HPA:Hid _:=stL.pa
 have HLEN:Hid _:=stL.len
 have HLO:Hid _:=stL.lo
 have hbL:b13<wL.heap.size:=by have:=stL.hi;omega
 have hgL:g<wL.heap.size:=by omega
 clear stL m0 m1 m2 m3 m4 m5 m6 m7 m8 m9 oK oF sK1 sF1 apL hst HOK HOF HAP HLK HLF CFO one3 one1
 go_wp2_with (go_at_call 83;fail)
 refine Calls.mono (CAH.out wL) ?_
 rintro e w9 ⟨rfl,b9⟩
 have z9:=b9.size
 obtain⟨wA,hwA⟩: ∃ q,q=w9.alloc (.cells #[.int .i64 h0, .int .i64 h1, .int .i64 h2] 122):=⟨_,rfl⟩
 have qA:Below wL.heap.size wL wA:=by rw[hwA];exact b9.alloc z9 _
 have zA:wA.heap.size=w9.heap.size+1:=by rw[hwA];simp
 have RA:Row wA w9.heap.size [.int .i64 h0, .int .i64 h1, .int .i64 h2]:=by rw[hwA];exact Row.new w9 [.int .i64 h0, .int .i64 h1, .int .i64 h2] _
 have R13:=Row.below r13L.out qA hbL
 have u0:=RA.cell 0 _ rfl
 have u1:=RA.cell 1 _ rfl
 have u2:=RA.cell 2 _ rfl
 have u3:=R13.cell 0 _ rfl
 have u4:=R13.cell 1 _ rfl
 have u5:=R13.cell 2 _ rfl
 have HRA:Hid (Row wA w9.heap.size [.int .i64 h0, .int .i64 h1, .int .i64 h2]):=RA
 have HR13:Hid (Row wA b13 [.int .i64 p0, .int .i64 p1, .int .i64 p2]):=R13
 obtain⟨r,hr⟩: ∃ r:Bool,r=(h0==p0 && (h1==p1 && h2==p2)):=⟨_,rfl⟩
 have heq: ∀ w',(Op.equalIn 10000 122 (.agg #[.int .i64 h0, .int .i64 h1, .int .i64 h2]) (.agg #[.int .i64 p0, .int .i64 p1, .int .i64 p2])).run Tryz.prog w'= .ok r w':=fun w'=>by rw[hr];exact eq_knot _ _ _ _ _ _ _
 have HRR:Hid (r=true↔folK f.1.t f.2=ahdK a.1.t a.2):=by
  unfold Hid
  rw[hr,HPK.out,HHK.out]
  simp only[Bool.and_eq_true,beq_iff_eq,Prod.mk.injEq]
  constructor
  ·rintro⟨a,b,c⟩;exact⟨a.symm,b.symm,c.symm⟩
  ·rintro⟨a,b,c⟩;exact⟨a.symm,b.symm,c.symm⟩
 rw[hwA]at u0 u1 u2 u3 u4 u5
 have HWA:Hid _:=hwA.symm
 have BA:Hid (Below w.heap.size w wA):=BL.out.trans (qA.mono (by have:=hBw.out;omega))
 have HQA:Hid _:=qA
 clear M1 M2 M3 M4 M5 M6 M7 M8 M9 RA R13 hr hwA qA r13L
 cases r with
 |true=>
  have hs:=step_is HU.out HA.out HFW.out (HRR.out.1 rfl)
  have HR:Hid (ringQ C v=some (W1++ [a])):=HGO.out.trans (ring_shut hs ⟨rfl,rfl⟩)
  clear hs
  go_wp2
  refine bodyPost_ret (v:= .tuple #[.slice aK (n1+1) ccK, .slice aF (n1+1) ccF, .bool true]) (by simp[results,Tryz.results32,go_sem, *]) rfl ?_
  rw[HWA.out,HR.out]
  have e:(W1++ [a]).length=n1+1:=by rw[List.length_append,←HLEN.out];rfl
  refine⟨⟨aK,aF,ccK,ccF,?_,?_,?_⟩,BA.out⟩
  ·rw[e]
  ·rw[e,←hBw.out];exact OwnS.below okL.out HQA.out
  ·rw[e,←hBw.out];exact OwnS.below ofL.out HQA.out
 |false=>
  have HNE:Hid (folK f.1.t f.2≠ahdK a.1.t a.2):=fun q=>by have:=HRR.out.2 q;cases this
  go_wp2
  rw[HWA.out]
  obtain⟨b15,hb15⟩: ∃ b,b=w9.heap.size:=⟨_,rfl⟩
  rw[←hb15]at HRA ⊢
  have l15A:b15<wA.heap.size:=by omega
  clear u0 u1 u2 u3 u4 u5 HWA hb15 CAH heq
  go_loopw [9,10,16,17] (fun av fv bv iv wr=> ∃ q:Nat,q≤n∧iv= .int .i64 (q:Int)∧Hid (Below wA.heap.size wA wr)∧((bv= .bool false∧av= .int .i64 ai∧fv= .int .i64 (j:Int)∧Hid (∀ (i:Nat) (d:Ce),i<q→C[i]? =some d→ ∀ k,k<3→ ¬(d.t.v k=v∧folK d.t k=ahdK a.1.t a.2)))∨ ∃ (b:Wg) (jb:Nat),bv= .bool true∧av= .int .i64 (b.2:Int)∧fv= .int .i64 (jb:Int)∧Hid (C[jb]? =some b.1∧b.2<3∧b.1.t.v b.2=v∧folK b.1.t b.2=ahdK a.1.t a.2))) (fun _ _ _ iv _=>n- (Go.RowKit.intOf iv).toNat)
  case atStart=>exact⟨0,by omega,rfl,Below.refl _ _,Or.inl ⟨rfl,rfl,rfl,fun i d h=>absurd h (by omega)⟩⟩
  case round=>
   obtain⟨q,hq,rfl,hbq,hcase⟩:=hrel
   obtain⟨wy,rfl⟩: ∃ wy,wy=wr:=⟨_,rfl⟩
   rcases hcase with⟨rfl,rfl,rfl,hno⟩|⟨b,jb,rfl,rfl,rfl,hyes⟩
   ·by_cases hlt:q<n
    ·have hlt':(q:Int)<(n:Int):=by omega
     obtain⟨c,hc⟩: ∃ c,C[q]? =some c:=⟨C[q]'(by rw[←HN.out];exact hlt),List.getElem?_eq_getElem _⟩
     have HCQ:Hid _:=hc
     clear hc
     go_wp2
     go_loopw [9,10,16,18] (fun av fv bv kv wr=> ∃ x:Nat,x≤3∧kv= .int .i64 (x:Int)∧Hid (Below wA.heap.size wA wr)∧((bv= .bool false∧av= .int .i64 ai∧fv= .int .i64 (j:Int)∧Hid (∀ k,k<x→ ¬(c.t.v k=v∧folK c.t k=ahdK a.1.t a.2)))∨ ∃ k:Nat,bv= .bool true∧av= .int .i64 (k:Int)∧fv= .int .i64 (q:Int)∧Hid (k<3∧c.t.v k=v∧folK c.t k=ahdK a.1.t a.2))) (fun _ _ _ kv _=>3- (Go.RowKit.intOf kv).toNat)
     case atStart=>exact⟨0,by omega,rfl,hbq,Or.inl ⟨rfl,rfl,rfl,fun k h=>absurd h (by omega)⟩⟩
     case round=>
      obtain⟨x,hx,rfl,hbx,hcx⟩:=hrel
      obtain⟨wx,rfl⟩: ∃ wx,wx=wr:=⟨_,rfl⟩
      rcases hcx with⟨rfl,rfl,rfl,hnx⟩|⟨k,rfl,rfl,rfl,hyx⟩
      ·obtain⟨g2,hgg2,hg2,hgb2,hgc2,HE2⟩:=OwnS.elH ceC_len (OwnS.below HC.out (BA.out.trans (hbx.out.mono (by have:=hBw.out;omega)))) rfl HCQ.out
       cases hgg2
       rw[←HN.out]at hgc2
       have hbm:=List.mem_of_getElem? HCQ.out
       obtain⟨s,hs⟩: ∃ s,s=c.t:=⟨_,rfl⟩
       have n1:wx.cell? ⟨g,q*10+1,none⟩=some (.int .i64 s.v0):=by rw[hs];exact HE2 1 _ rfl
       have n2:wx.cell? ⟨g,q*10+2,none⟩=some (.int .i64 s.v1):=by rw[hs];exact HE2 2 _ rfl
       have n3:wx.cell? ⟨g,q*10+3,none⟩=some (.int .i64 s.v2):=by rw[hs];exact HE2 3 _ rfl
       have n4:wx.cell? ⟨g,q*10+4,none⟩=some (.int .i64 s.x0):=by rw[hs];exact HE2 4 _ rfl
       have n5:wx.cell? ⟨g,q*10+5,none⟩=some (.int .i64 s.y0):=by rw[hs];exact HE2 5 _ rfl
       have n6:wx.cell? ⟨g,q*10+6,none⟩=some (.int .i64 s.x1):=by rw[hs];exact HE2 6 _ rfl
       have n7:wx.cell? ⟨g,q*10+7,none⟩=some (.int .i64 s.y1):=by rw[hs];exact HE2 7 _ rfl
       have n8:wx.cell? ⟨g,q*10+8,none⟩=some (.int .i64 s.x2):=by rw[hs];exact HE2 8 _ rfl
       have n9:wx.cell? ⟨g,q*10+9,none⟩=some (.int .i64 s.y2):=by rw[hs];exact HE2 9 _ rfl
       have RW:=Row.below HRA.out hbx.out l15A
       have w0:=RW.cell 0 _ rfl
       have w1:=RW.cell 1 _ rfl
       have w2':=RW.cell 2 _ rfl
       have l15:b15<wx.heap.size:=by have:=hbx.out.size;omega
       have HSX:Hid _:=hs
       have HSx:Hid (∀ w',Below (wx.heap.size) wx w'→(fun w'=>w'.cell? ⟨g,q*10+1,none⟩=some (.int .i64 s.v0)∧w'.cell? ⟨g,q*10+2,none⟩=some (.int .i64 s.v1)∧w'.cell? ⟨g,q*10+3,none⟩=some (.int .i64 s.v2)∧w'.cell? ⟨g,q*10+4,none⟩=some (.int .i64 s.x0)∧w'.cell? ⟨g,q*10+5,none⟩=some (.int .i64 s.y0)∧w'.cell? ⟨g,q*10+6,none⟩=some (.int .i64 s.x1)∧w'.cell? ⟨g,q*10+7,none⟩=some (.int .i64 s.y1)∧w'.cell? ⟨g,q*10+8,none⟩=some (.int .i64 s.x2)∧w'.cell? ⟨g,q*10+9,none⟩=some (.int .i64 s.y2)∧w'.cell? ⟨b15,0,none⟩=some (.int .i64 h0)∧w'.cell? ⟨b15,1,none⟩=some (.int .i64 h1)∧w'.cell? ⟨b15,2,none⟩=some (.int .i64 h2)∧Below (wx.heap.size) wx w') w'):=by
        unfold Hid
        intro w' hb
        exact⟨(hb.cell (p:=⟨g,q*10+1,none⟩) hg2).trans n1,(hb.cell (p:=⟨g,q*10+2,none⟩) hg2).trans n2,(hb.cell (p:=⟨g,q*10+3,none⟩) hg2).trans n3,(hb.cell (p:=⟨g,q*10+4,none⟩) hg2).trans n4,(hb.cell (p:=⟨g,q*10+5,none⟩) hg2).trans n5,(hb.cell (p:=⟨g,q*10+6,none⟩) hg2).trans n6,(hb.cell (p:=⟨g,q*10+7,none⟩) hg2).trans n7,(hb.cell (p:=⟨g,q*10+8,none⟩) hg2).trans n8,(hb.cell (p:=⟨g,q*10+9,none⟩) hg2).trans n9,(hb.cell (p:=⟨b15,0,none⟩) l15).trans w0,(hb.cell (p:=⟨b15,1,none⟩) l15).trans w1,(hb.cell (p:=⟨b15,2,none⟩) l15).trans w2',hb⟩
       obtain rfl|rfl|rfl|rfl:x=0∨x=1∨x=2∨x=3:=by omega
       ·by_cases e:s.v0=v
        ·have e':(s.v0==v)=true:=by simpa using e
         obtain⟨o0,ho0⟩: ∃ z,z=(folK c.t 0).1:=⟨_,rfl⟩
         obtain⟨o1,ho1⟩: ∃ z,z=(folK c.t 0).2.1:=⟨_,rfl⟩
         obtain⟨o2,ho2⟩: ∃ z,z=(folK c.t 0).2.2:=⟨_,rfl⟩
         obtain⟨rr,hrr⟩: ∃ r:Bool,r=(o0==h0 && (o1==h1 && o2==h2)):=⟨_,rfl⟩
         have CF2:Hid (∀ w',Calls Tryz.prog 82 #[trV s, .int .i64 0] w' fun e w''=>e= .returned (.agg #[.int .i64 o0, .int .i64 o1, .int .i64 o2])∧Below w'.heap.size w' w''):=by intro w';rw[hs,ho0,ho1,ho2];exact rgFol c.t 0 (by omega) (HO.out c hbm) w'
         have HM:Hid (rr=true↔(c.t.v 0=v∧folK c.t 0=ahdK a.1.t a.2)):=by
          unfold Hid
          have ev:c.t.v 0=v:=by rw[←hs];exact e
          have ef:folK c.t 0=(o0,o1,o2):=by rw[ho0,ho1,ho2]
          rw[hrr,HHK.out,ef]
          simp[ev]
         clear HE2 hs e ho0 ho1 ho2 RW hbm
         go_wp2
         have heq2: ∀ w',(Op.equalIn 10000 122 (.agg #[.int .i64 o0, .int .i64 o1, .int .i64 o2]) (.agg #[.int .i64 h0, .int .i64 h1, .int .i64 h2])).run Tryz.prog w'= .ok rr w':=fun w'=>by rw[hrr];exact eq_knot _ _ _ _ _ _ _
         clear hrr
         refine wp_region_held_drew (S:=fun w'=>w'.cell? ⟨g,q*10+1,none⟩=some (.int .i64 s.v0)∧w'.cell? ⟨g,q*10+2,none⟩=some (.int .i64 s.v1)∧w'.cell? ⟨g,q*10+3,none⟩=some (.int .i64 s.v2)∧w'.cell? ⟨g,q*10+4,none⟩=some (.int .i64 s.x0)∧w'.cell? ⟨g,q*10+5,none⟩=some (.int .i64 s.y0)∧w'.cell? ⟨g,q*10+6,none⟩=some (.int .i64 s.x1)∧w'.cell? ⟨g,q*10+7,none⟩=some (.int .i64 s.y1)∧w'.cell? ⟨g,q*10+8,none⟩=some (.int .i64 s.x2)∧w'.cell? ⟨g,q*10+9,none⟩=some (.int .i64 s.y2)∧w'.cell? ⟨b15,0,none⟩=some (.int .i64 h0)∧w'.cell? ⟨b15,1,none⟩=some (.int .i64 h1)∧w'.cell? ⟨b15,2,none⟩=some (.int .i64 h2)∧Below (wx.heap.size) wx w') (by kernel_rfl) ?_ (fun hHeld=>?_)
         ·exact HSx.out _ ((Below.refl _ _).drew)
         refine tn 0 ?_
         simp only[Act.put,ps1,ps2,ps3]
         refine tn 1 ?_
         simp only[Act.put,ps1,ps2,ps3]
         refine tn 2 ?_
         simp only[Act.put,ps1,ps2,ps3]
         refine tn 3 ?_
         simp only[Act.put,ps1,ps2,ps3]
         refine tn 4 ?_
         simp only[Act.put,ps1,ps2,ps3]
         refine tn 5 ?_
         simp only[Act.put,ps1,ps2,ps3]
         refine tn 6 ?_
         simp only[Act.put,ps1,ps2,ps3]
         refine tn 7 ?_
         simp only[Act.put,ps1,ps2,ps3]
         refine tn 8 ?_
         simp only[Act.put,ps1,ps2,ps3]
         refine tn 9 ?_
         simp only[Act.put,ps1,ps2,ps3]
         refine tn 10 ?_
         simp only[Act.put,ps1,ps2,ps3]
         refine tn 11 ?_
         simp only[Act.put,ps1,ps2,ps3]
         refine tn 12 ?_
         simp only[Act.put,ps1,ps2,ps3]
         refine tn 13 ?_
         simp only[Act.put,ps1,ps2,ps3]
         refine tn 14 ?_
         simp only[Act.put,ps1,ps2,ps3]
         refine tn 15 ?_
         simp only[Act.put,ps1,ps2,ps3]
         refine tn 16 ?_
         simp only[Act.put,ps1,ps2,ps3]
         refine tn 18 ?_
         simp only[Act.put,ps1,ps2,ps3]
         refine tcl 17 fun Kc hK=>?_
         go_simp
         (go_at_call 82;refine Calls.mono (CF2.out _) ?_;rintro e w12 ⟨rfl,b12⟩)
         refine hK.out _ _ ?_ (fun hHeld=>?_)
         ·exact HSx.out _ (hHeld.2.2.2.2.2.2.2.2.2.2.2.2.trans (b12.mono hHeld.2.2.2.2.2.2.2.2.2.2.2.2.size))
         clear hK Kc
         refine tn 19 ?_
         simp only[Act.put,ps1,ps2,ps3]
         refine tn 20 ?_
         simp only[Act.put,ps1,ps2,ps3]
         refine wpAnyH_done (by kernel_rfl) ?_ _
         have bx:=hHeld.2.2.2.2.2.2.2.2.2.2.2.2
         have HBX:Hid (Below wA.heap.size wA _):=hbx.out.trans (bx.mono hbx.out.size)
         clear hHeld bx n1 n2 n3 n4 n5 n6 n7 n8 n9 w0 w1 w2' CF2
         cases rr with
         |true=>
          have HT:Hid (0<3∧c.t.v 0=v∧folK c.t 0=ahdK a.1.t a.2):=⟨by omega,HM.out.1 rfl⟩
          go_wp2
          go_roundw
          case rel=>exact⟨1,by omega,by simp,HBX,Or.inr ⟨0,by first|rfl|trivial,by first|rfl|simp,by first|rfl|trivial,HT⟩⟩
          case measure=>simp[Go.RowKit.intOf]
         |false=>
          have HT:Hid (∀ k,k<1→ ¬(c.t.v k=v∧folK c.t k=ahdK a.1.t a.2)):=by
           intro k hk
           by_cases e:k=0
           ·subst e;exact fun h=>by have:=HM.out.2 h;cases this
           ·exact hnx.out k (by omega)
          go_wp2
          go_roundw
          case rel=>exact⟨1,by omega,by simp,HBX,Or.inl ⟨by first|rfl|trivial,by first|rfl|trivial,by first|rfl|trivial,HT⟩⟩
          case measure=>simp[Go.RowKit.intOf]
        ·have e':(s.v0==v)=false:=by simpa using e
         have HT:Hid (∀ k,k<1→ ¬(c.t.v k=v∧folK c.t k=ahdK a.1.t a.2)):=by
          intro k hk
          by_cases ek:k=0
          ·subst ek;exact fun h=>e (by rw[hs];exact h.1)
          ·exact hnx.out k (by omega)
         clear HE2 hs e RW hbm
         go_wp2
         refine wp_region_held_drew (S:=fun w'=>w'.cell? ⟨g,q*10+1,none⟩=some (.int .i64 s.v0)∧w'.cell? ⟨g,q*10+2,none⟩=some (.int .i64 s.v1)∧w'.cell? ⟨g,q*10+3,none⟩=some (.int .i64 s.v2)∧w'.cell? ⟨g,q*10+4,none⟩=some (.int .i64 s.x0)∧w'.cell? ⟨g,q*10+5,none⟩=some (.int .i64 s.y0)∧w'.cell? ⟨g,q*10+6,none⟩=some (.int .i64 s.x1)∧w'.cell? ⟨g,q*10+7,none⟩=some (.int .i64 s.y1)∧w'.cell? ⟨g,q*10+8,none⟩=some (.int .i64 s.x2)∧w'.cell? ⟨g,q*10+9,none⟩=some (.int .i64 s.y2)∧w'.cell? ⟨b15,0,none⟩=some (.int .i64 h0)∧w'.cell? ⟨b15,1,none⟩=some (.int .i64 h1)∧w'.cell? ⟨b15,2,none⟩=some (.int .i64 h2)∧Below (wx.heap.size) wx w') (by kernel_rfl) ?_ (fun hHeld=>?_)
         ·exact HSx.out _ ((Below.refl _ _).drew)
         refine tn 0 ?_
         simp only[Act.put,ps1,ps2,ps3]
         refine tn 1 ?_
         simp only[Act.put,ps1,ps2,ps3]
         refine tn 2 ?_
         simp only[Act.put,ps1,ps2,ps3]
         refine tn 3 ?_
         simp only[Act.put,ps1,ps2,ps3]
         refine tn 4 ?_
         simp only[Act.put,ps1,ps2,ps3]
         refine tn 5 ?_
         simp only[Act.put,ps1,ps2,ps3]
         refine tn 6 ?_
         simp only[Act.put,ps1,ps2,ps3]
         refine tn 7 ?_
         simp only[Act.put,ps1,ps2,ps3]
         refine tn 8 ?_
         simp only[Act.put,ps1,ps2,ps3]
         refine tn 9 ?_
         simp only[Act.put,ps1,ps2,ps3]
         refine tn 10 ?_
         simp only[Act.put,ps1,ps2,ps3]
         refine tno 11 ?_
         simp only[Act.put,ps1,ps2,ps3]
         refine tno 12 ?_
         simp only[Act.put,ps1,ps2,ps3]
         refine tno 13 ?_
         simp only[Act.put,ps1,ps2,ps3]
         refine tno 14 ?_
         simp only[Act.put,ps1,ps2,ps3]
         refine tno 15 ?_
         simp only[Act.put,ps1,ps2,ps3]
         refine tno 16 ?_
         simp only[Act.put,ps1,ps2,ps3]
         refine tno 17 ?_
         simp only[Act.put,ps1,ps2,ps3]
         refine tno 18 ?_
         simp only[Act.put,ps1,ps2,ps3]
         refine tno 19 ?_
         simp only[Act.put,ps1,ps2,ps3]
         refine tn 20 ?_
         simp only[Act.put,ps1,ps2,ps3]
         refine wpAnyH_done (by kernel_rfl) ?_ _
         have bx:=hHeld.2.2.2.2.2.2.2.2.2.2.2.2
         have HBX:Hid (Below wA.heap.size wA _):=hbx.out.trans (bx.mono hbx.out.size)
         clear hHeld bx n1 n2 n3 n4 n5 n6 n7 n8 n9 w0 w1 w2'
         go_wp2
         go_roundw
         case rel=>exact⟨1,by omega,by simp,HBX,Or.inl ⟨by first|rfl|trivial,by first|rfl|trivial,by first|rfl|trivial,HT⟩⟩
         case measure=>simp[Go.RowKit.intOf]
       ·by_cases e:s.v1=v
        ·have e':(s.v1==v)=true:=by simpa using e
         obtain⟨o0,ho0⟩: ∃ z,z=(folK c.t 1).1:=⟨_,rfl⟩
         obtain⟨o1,ho1⟩: ∃ z,z=(folK c.t 1).2.1:=⟨_,rfl⟩
         obtain⟨o2,ho2⟩: ∃ z,z=(folK c.t 1).2.2:=⟨_,rfl⟩
         obtain⟨rr,hrr⟩: ∃ r:Bool,r=(o0==h0 && (o1==h1 && o2==h2)):=⟨_,rfl⟩
         have CF2:Hid (∀ w',Calls Tryz.prog 82 #[trV s, .int .i64 1] w' fun e w''=>e= .returned (.agg #[.int .i64 o0, .int .i64 o1, .int .i64 o2])∧Below w'.heap.size w' w''):=by intro w';rw[hs,ho0,ho1,ho2];exact rgFol c.t 1 (by omega) (HO.out c hbm) w'
         have HM:Hid (rr=true↔(c.t.v 1=v∧folK c.t 1=ahdK a.1.t a.2)):=by
          unfold Hid
          have ev:c.t.v 1=v:=by rw[←hs];exact e
          have ef:folK c.t 1=(o0,o1,o2):=by rw[ho0,ho1,ho2]
          rw[hrr,HHK.out,ef]
          simp[ev]
         clear HE2 hs e ho0 ho1 ho2 RW hbm
         go_wp2
         have heq2: ∀ w',(Op.equalIn 10000 122 (.agg #[.int .i64 o0, .int .i64 o1, .int .i64 o2]) (.agg #[.int .i64 h0, .int .i64 h1, .int .i64 h2])).run Tryz.prog w'= .ok rr w':=fun w'=>by rw[hrr];exact eq_knot _ _ _ _ _ _ _
         clear hrr
         refine wp_region_held_drew (S:=fun w'=>w'.cell? ⟨g,q*10+1,none⟩=some (.int .i64 s.v0)∧w'.cell? ⟨g,q*10+2,none⟩=some (.int .i64 s.v1)∧w'.cell? ⟨g,q*10+3,none⟩=some (.int .i64 s.v2)∧w'.cell? ⟨g,q*10+4,none⟩=some (.int .i64 s.x0)∧w'.cell? ⟨g,q*10+5,none⟩=some (.int .i64 s.y0)∧w'.cell? ⟨g,q*10+6,none⟩=some (.int .i64 s.x1)∧w'.cell? ⟨g,q*10+7,none⟩=some (.int .i64 s.y1)∧w'.cell? ⟨g,q*10+8,none⟩=some (.int .i64 s.x2)∧w'.cell? ⟨g,q*10+9,none⟩=some (.int .i64 s.y2)∧w'.cell? ⟨b15,0,none⟩=some (.int .i64 h0)∧w'.cell? ⟨b15,1,none⟩=some (.int .i64 h1)∧w'.cell? ⟨b15,2,none⟩=some (.int .i64 h2)∧Below (wx.heap.size) wx w') (by kernel_rfl) ?_ (fun hHeld=>?_)
         ·exact HSx.out _ ((Below.refl _ _).drew)
         refine tn 0 ?_
         simp only[Act.put,ps1,ps2,ps3]
         refine tn 1 ?_
         simp only[Act.put,ps1,ps2,ps3]
         refine tn 2 ?_
         simp only[Act.put,ps1,ps2,ps3]
         refine tn 3 ?_
         simp only[Act.put,ps1,ps2,ps3]
         refine tn 4 ?_
         simp only[Act.put,ps1,ps2,ps3]
         refine tn 5 ?_
         simp only[Act.put,ps1,ps2,ps3]
         refine tn 6 ?_
         simp only[Act.put,ps1,ps2,ps3]
         refine tn 7 ?_
         simp only[Act.put,ps1,ps2,ps3]
         refine tn 8 ?_
         simp only[Act.put,ps1,ps2,ps3]
         refine tn 9 ?_
         simp only[Act.put,ps1,ps2,ps3]
         refine tn 10 ?_
         simp only[Act.put,ps1,ps2,ps3]
         refine tn 11 ?_
         simp only[Act.put,ps1,ps2,ps3]
         refine tn 12 ?_
         simp only[Act.put,ps1,ps2,ps3]
         refine tn 13 ?_
         simp only[Act.put,ps1,ps2,ps3]
         refine tn 14 ?_
         simp only[Act.put,ps1,ps2,ps3]
         refine tn 15 ?_
         simp only[Act.put,ps1,ps2,ps3]
         refine tn 16 ?_
         simp only[Act.put,ps1,ps2,ps3]
         refine tn 18 ?_
         simp only[Act.put,ps1,ps2,ps3]
         refine tcl 17 fun Kc hK=>?_
         go_simp
         (go_at_call 82;refine Calls.mono (CF2.out _) ?_;rintro e w12 ⟨rfl,b12⟩)
         refine hK.out _ _ ?_ (fun hHeld=>?_)
         ·exact HSx.out _ (hHeld.2.2.2.2.2.2.2.2.2.2.2.2.trans (b12.mono hHeld.2.2.2.2.2.2.2.2.2.2.2.2.size))
         clear hK Kc
         refine tn 19 ?_
         simp only[Act.put,ps1,ps2,ps3]
         refine tn 20 ?_
         simp only[Act.put,ps1,ps2,ps3]
         refine wpAnyH_done (by kernel_rfl) ?_ _
         have bx:=hHeld.2.2.2.2.2.2.2.2.2.2.2.2
         have HBX:Hid (Below wA.heap.size wA _):=hbx.out.trans (bx.mono hbx.out.size)
         clear hHeld bx n1 n2 n3 n4 n5 n6 n7 n8 n9 w0 w1 w2' CF2
         cases rr with
         |true=>
          have HT:Hid (1<3∧c.t.v 1=v∧folK c.t 1=ahdK a.1.t a.2):=⟨by omega,HM.out.1 rfl⟩
          go_wp2
          go_roundw
          case rel=>exact⟨2,by omega,by simp,HBX,Or.inr ⟨1,by first|rfl|trivial,by first|rfl|simp,by first|rfl|trivial,HT⟩⟩
          case measure=>simp[Go.RowKit.intOf]
         |false=>
          have HT:Hid (∀ k,k<2→ ¬(c.t.v k=v∧folK c.t k=ahdK a.1.t a.2)):=by
           intro k hk
           by_cases e:k=1
           ·subst e;exact fun h=>by have:=HM.out.2 h;cases this
           ·exact hnx.out k (by omega)
          go_wp2
          go_roundw
          case rel=>exact⟨2,by omega,by simp,HBX,Or.inl ⟨by first|rfl|trivial,by first|rfl|trivial,by first|rfl|trivial,HT⟩⟩
          case measure=>simp[Go.RowKit.intOf]
        ·have e':(s.v1==v)=false:=by simpa using e
         have HT:Hid (∀ k,k<2→ ¬(c.t.v k=v∧folK c.t k=ahdK a.1.t a.2)):=by
          intro k hk
          by_cases ek:k=1
          ·subst ek;exact fun h=>e (by rw[hs];exact h.1)
          ·exact hnx.out k (by omega)
         clear HE2 hs e RW hbm
         go_wp2
         refine wp_region_held_drew (S:=fun w'=>w'.cell? ⟨g,q*10+1,none⟩=some (.int .i64 s.v0)∧w'.cell? ⟨g,q*10+2,none⟩=some (.int .i64 s.v1)∧w'.cell? ⟨g,q*10+3,none⟩=some (.int .i64 s.v2)∧w'.cell? ⟨g,q*10+4,none⟩=some (.int .i64 s.x0)∧w'.cell? ⟨g,q*10+5,none⟩=some (.int .i64 s.y0)∧w'.cell? ⟨g,q*10+6,none⟩=some (.int .i64 s.x1)∧w'.cell? ⟨g,q*10+7,none⟩=some (.int .i64 s.y1)∧w'.cell? ⟨g,q*10+8,none⟩=some (.int .i64 s.x2)∧w'.cell? ⟨g,q*10+9,none⟩=some (.int .i64 s.y2)∧w'.cell? ⟨b15,0,none⟩=some (.int .i64 h0)∧w'.cell? ⟨b15,1,none⟩=some (.int .i64 h1)∧w'.cell? ⟨b15,2,none⟩=some (.int .i64 h2)∧Below (wx.heap.size) wx w') (by kernel_rfl) ?_ (fun hHeld=>?_)
         ·exact HSx.out _ ((Below.refl _ _).drew)
         refine tn 0 ?_
         simp only[Act.put,ps1,ps2,ps3]
         refine tn 1 ?_
         simp only[Act.put,ps1,ps2,ps3]
         refine tn 2 ?_
         simp only[Act.put,ps1,ps2,ps3]
         refine tn 3 ?_
         simp only[Act.put,ps1,ps2,ps3]
         refine tn 4 ?_
         simp only[Act.put,ps1,ps2,ps3]
         refine tn 5 ?_
         simp only[Act.put,ps1,ps2,ps3]
         refine tn 6 ?_
         simp only[Act.put,ps1,ps2,ps3]
         refine tn 7 ?_
         simp only[Act.put,ps1,ps2,ps3]
         refine tn 8 ?_
         simp only[Act.put,ps1,ps2,ps3]
         refine tn 9 ?_
         simp only[Act.put,ps1,ps2,ps3]
         refine tn 10 ?_
         simp only[Act.put,ps1,ps2,ps3]
         refine tno 11 ?_
         simp only[Act.put,ps1,ps2,ps3]
         refine tno 12 ?_
         simp only[Act.put,ps1,ps2,ps3]
         refine tno 13 ?_
         simp only[Act.put,ps1,ps2,ps3]
         refine tno 14 ?_
         simp only[Act.put,ps1,ps2,ps3]
         refine tno 15 ?_
         simp only[Act.put,ps1,ps2,ps3]
         refine tno 16 ?_
         simp only[Act.put,ps1,ps2,ps3]
         refine tno 17 ?_
         simp only[Act.put,ps1,ps2,ps3]
         refine tno 18 ?_
         simp only[Act.put,ps1,ps2,ps3]
         refine tno 19 ?_
         simp only[Act.put,ps1,ps2,ps3]
         refine tn 20 ?_
         simp only[Act.put,ps1,ps2,ps3]
         refine wpAnyH_done (by kernel_rfl) ?_ _
         have bx:=hHeld.2.2.2.2.2.2.2.2.2.2.2.2
         have HBX:Hid (Below wA.heap.size wA _):=hbx.out.trans (bx.mono hbx.out.size)
         clear hHeld bx n1 n2 n3 n4 n5 n6 n7 n8 n9 w0 w1 w2'
         go_wp2
         go_roundw
         case rel=>exact⟨2,by omega,by simp,HBX,Or.inl ⟨by first|rfl|trivial,by first|rfl|trivial,by first|rfl|trivial,HT⟩⟩
         case measure=>simp[Go.RowKit.intOf]
       ·by_cases e:s.v2=v
        ·have e':(s.v2==v)=true:=by simpa using e
         obtain⟨o0,ho0⟩: ∃ z,z=(folK c.t 2).1:=⟨_,rfl⟩
         obtain⟨o1,ho1⟩: ∃ z,z=(folK c.t 2).2.1:=⟨_,rfl⟩
         obtain⟨o2,ho2⟩: ∃ z,z=(folK c.t 2).2.2:=⟨_,rfl⟩
         obtain⟨rr,hrr⟩: ∃ r:Bool,r=(o0==h0 && (o1==h1 && o2==h2)):=⟨_,rfl⟩
         have CF2:Hid (∀ w',Calls Tryz.prog 82 #[trV s, .int .i64 2] w' fun e w''=>e= .returned (.agg #[.int .i64 o0, .int .i64 o1, .int .i64 o2])∧Below w'.heap.size w' w''):=by intro w';rw[hs,ho0,ho1,ho2];exact rgFol c.t 2 (by omega) (HO.out c hbm) w'
         have HM:Hid (rr=true↔(c.t.v 2=v∧folK c.t 2=ahdK a.1.t a.2)):=by
          unfold Hid
          have ev:c.t.v 2=v:=by rw[←hs];exact e
          have ef:folK c.t 2=(o0,o1,o2):=by rw[ho0,ho1,ho2]
          rw[hrr,HHK.out,ef]
          simp[ev]
         clear HE2 hs e ho0 ho1 ho2 RW hbm
         go_wp2
         have heq2: ∀ w',(Op.equalIn 10000 122 (.agg #[.int .i64 o0, .int .i64 o1, .int .i64 o2]) (.agg #[.int .i64 h0, .int .i64 h1, .int .i64 h2])).run Tryz.prog w'= .ok rr w':=fun w'=>by rw[hrr];exact eq_knot _ _ _ _ _ _ _
         clear hrr
         refine wp_region_held_drew (S:=fun w'=>w'.cell? ⟨g,q*10+1,none⟩=some (.int .i64 s.v0)∧w'.cell? ⟨g,q*10+2,none⟩=some (.int .i64 s.v1)∧w'.cell? ⟨g,q*10+3,none⟩=some (.int .i64 s.v2)∧w'.cell? ⟨g,q*10+4,none⟩=some (.int .i64 s.x0)∧w'.cell? ⟨g,q*10+5,none⟩=some (.int .i64 s.y0)∧w'.cell? ⟨g,q*10+6,none⟩=some (.int .i64 s.x1)∧w'.cell? ⟨g,q*10+7,none⟩=some (.int .i64 s.y1)∧w'.cell? ⟨g,q*10+8,none⟩=some (.int .i64 s.x2)∧w'.cell? ⟨g,q*10+9,none⟩=some (.int .i64 s.y2)∧w'.cell? ⟨b15,0,none⟩=some (.int .i64 h0)∧w'.cell? ⟨b15,1,none⟩=some (.int .i64 h1)∧w'.cell? ⟨b15,2,none⟩=some (.int .i64 h2)∧Below (wx.heap.size) wx w') (by kernel_rfl) ?_ (fun hHeld=>?_)
         ·exact HSx.out _ ((Below.refl _ _).drew)
         refine tn 0 ?_
         simp only[Act.put,ps1,ps2,ps3]
         refine tn 1 ?_
         simp only[Act.put,ps1,ps2,ps3]
         refine tn 2 ?_
         simp only[Act.put,ps1,ps2,ps3]
         refine tn 3 ?_
         simp only[Act.put,ps1,ps2,ps3]
         refine tn 4 ?_
         simp only[Act.put,ps1,ps2,ps3]
         refine tn 5 ?_
         simp only[Act.put,ps1,ps2,ps3]
         refine tn 6 ?_
         simp only[Act.put,ps1,ps2,ps3]
         refine tn 7 ?_
         simp only[Act.put,ps1,ps2,ps3]
         refine tn 8 ?_
         simp only[Act.put,ps1,ps2,ps3]
         refine tn 9 ?_
         simp only[Act.put,ps1,ps2,ps3]
         refine tn 10 ?_
         simp only[Act.put,ps1,ps2,ps3]
         refine tn 11 ?_
         simp only[Act.put,ps1,ps2,ps3]
         refine tn 12 ?_
         simp only[Act.put,ps1,ps2,ps3]
         refine tn 13 ?_
         simp only[Act.put,ps1,ps2,ps3]
         refine tn 14 ?_
         simp only[Act.put,ps1,ps2,ps3]
         refine tn 15 ?_
         simp only[Act.put,ps1,ps2,ps3]
         refine tn 16 ?_
         simp only[Act.put,ps1,ps2,ps3]
         refine tn 18 ?_
         simp only[Act.put,ps1,ps2,ps3]
         refine tcl 17 fun Kc hK=>?_
         go_simp
         (go_at_call 82;refine Calls.mono (CF2.out _) ?_;rintro e w12 ⟨rfl,b12⟩)
         refine hK.out _ _ ?_ (fun hHeld=>?_)
         ·exact HSx.out _ (hHeld.2.2.2.2.2.2.2.2.2.2.2.2.trans (b12.mono hHeld.2.2.2.2.2.2.2.2.2.2.2.2.size))
         clear hK Kc
         refine tn 19 ?_
         simp only[Act.put,ps1,ps2,ps3]
         refine tn 20 ?_
         simp only[Act.put,ps1,ps2,ps3]
         refine wpAnyH_done (by kernel_rfl) ?_ _
         have bx:=hHeld.2.2.2.2.2.2.2.2.2.2.2.2
         have HBX:Hid (Below wA.heap.size wA _):=hbx.out.trans (bx.mono hbx.out.size)
         clear hHeld bx n1 n2 n3 n4 n5 n6 n7 n8 n9 w0 w1 w2' CF2
         cases rr with
         |true=>
          have HT:Hid (2<3∧c.t.v 2=v∧folK c.t 2=ahdK a.1.t a.2):=⟨by omega,HM.out.1 rfl⟩
          go_wp2
          go_roundw
          case rel=>exact⟨3,by omega,by simp,HBX,Or.inr ⟨2,by first|rfl|trivial,by first|rfl|simp,by first|rfl|trivial,HT⟩⟩
          case measure=>simp[Go.RowKit.intOf]
         |false=>
          have HT:Hid (∀ k,k<3→ ¬(c.t.v k=v∧folK c.t k=ahdK a.1.t a.2)):=by
           intro k hk
           by_cases e:k=2
           ·subst e;exact fun h=>by have:=HM.out.2 h;cases this
           ·exact hnx.out k (by omega)
          go_wp2
          go_roundw
          case rel=>exact⟨3,by omega,by simp,HBX,Or.inl ⟨by first|rfl|trivial,by first|rfl|trivial,by first|rfl|trivial,HT⟩⟩
          case measure=>simp[Go.RowKit.intOf]
        ·have e':(s.v2==v)=false:=by simpa using e
         have HT:Hid (∀ k,k<3→ ¬(c.t.v k=v∧folK c.t k=ahdK a.1.t a.2)):=by
          intro k hk
          by_cases ek:k=2
          ·subst ek;exact fun h=>e (by rw[hs];exact h.1)
          ·exact hnx.out k (by omega)
         clear HE2 hs e RW hbm
         go_wp2
         refine wp_region_held_drew (S:=fun w'=>w'.cell? ⟨g,q*10+1,none⟩=some (.int .i64 s.v0)∧w'.cell? ⟨g,q*10+2,none⟩=some (.int .i64 s.v1)∧w'.cell? ⟨g,q*10+3,none⟩=some (.int .i64 s.v2)∧w'.cell? ⟨g,q*10+4,none⟩=some (.int .i64 s.x0)∧w'.cell? ⟨g,q*10+5,none⟩=some (.int .i64 s.y0)∧w'.cell? ⟨g,q*10+6,none⟩=some (.int .i64 s.x1)∧w'.cell? ⟨g,q*10+7,none⟩=some (.int .i64 s.y1)∧w'.cell? ⟨g,q*10+8,none⟩=some (.int .i64 s.x2)∧w'.cell? ⟨g,q*10+9,none⟩=some (.int .i64 s.y2)∧w'.cell? ⟨b15,0,none⟩=some (.int .i64 h0)∧w'.cell? ⟨b15,1,none⟩=some (.int .i64 h1)∧w'.cell? ⟨b15,2,none⟩=some (.int .i64 h2)∧Below (wx.heap.size) wx w') (by kernel_rfl) ?_ (fun hHeld=>?_)
         ·exact HSx.out _ ((Below.refl _ _).drew)
         refine tn 0 ?_
         simp only[Act.put,ps1,ps2,ps3]
         refine tn 1 ?_
         simp only[Act.put,ps1,ps2,ps3]
         refine tn 2 ?_
         simp only[Act.put,ps1,ps2,ps3]
         refine tn 3 ?_
         simp only[Act.put,ps1,ps2,ps3]
         refine tn 4 ?_
         simp only[Act.put,ps1,ps2,ps3]
         refine tn 5 ?_
         simp only[Act.put,ps1,ps2,ps3]
         refine tn 6 ?_
         simp only[Act.put,ps1,ps2,ps3]
         refine tn 7 ?_
         simp only[Act.put,ps1,ps2,ps3]
         refine tn 8 ?_
         simp only[Act.put,ps1,ps2,ps3]
         refine tn 9 ?_
         simp only[Act.put,ps1,ps2,ps3]
         refine tn 10 ?_
         simp only[Act.put,ps1,ps2,ps3]
         refine tno 11 ?_
         simp only[Act.put,ps1,ps2,ps3]
         refine tno 12 ?_
         simp only[Act.put,ps1,ps2,ps3]
         refine tno 13 ?_
         simp only[Act.put,ps1,ps2,ps3]
         refine tno 14 ?_
         simp only[Act.put,ps1,ps2,ps3]
         refine tno 15 ?_
         simp only[Act.put,ps1,ps2,ps3]
         refine tno 16 ?_
         simp only[Act.put,ps1,ps2,ps3]
         refine tno 17 ?_
         simp only[Act.put,ps1,ps2,ps3]
         refine tno 18 ?_
         simp only[Act.put,ps1,ps2,ps3]
         refine tno 19 ?_
         simp only[Act.put,ps1,ps2,ps3]
         refine tn 20 ?_
         simp only[Act.put,ps1,ps2,ps3]
         refine wpAnyH_done (by kernel_rfl) ?_ _
         have bx:=hHeld.2.2.2.2.2.2.2.2.2.2.2.2
         have HBX:Hid (Below wA.heap.size wA _):=hbx.out.trans (bx.mono hbx.out.size)
         clear hHeld bx n1 n2 n3 n4 n5 n6 n7 n8 n9 w0 w1 w2'
         go_wp2
         go_roundw
         case rel=>exact⟨3,by omega,by simp,HBX,Or.inl ⟨by first|rfl|trivial,by first|rfl|trivial,by first|rfl|trivial,HT⟩⟩
         case measure=>simp[Go.RowKit.intOf]
       ·have HF:Hid (∀ (i:Nat) (d:Ce),i<q+1→C[i]? =some d→ ∀ k,k<3→ ¬(d.t.v k=v∧folK d.t k=ahdK a.1.t a.2)):=by
         intro i d hi hd
         by_cases e:i=q
         ·subst e;rw[HCQ.out]at hd;cases hd;exact hnx.out
         ·exact hno.out i d (by omega) hd
        go_wp2
        go_roundw
        case rel=>exact⟨q+1,by omega,by simp,hbx,Or.inl ⟨by first|rfl|trivial,by first|rfl|trivial,by first|rfl|trivial,HF⟩⟩
        case measure=>simp[Go.RowKit.intOf];omega
      ·by_cases hx3:(x:Int)<3
       ·go_wp2
        go_roundw
        case rel=>exact⟨q+1,by omega,by simp,hbx,Or.inr ⟨(c,k),q,by first|rfl|trivial,by first|rfl|trivial,by first|rfl|trivial,⟨HCQ.out,hyx.out⟩⟩⟩
        case measure=>simp[Go.RowKit.intOf];omega
       ·go_wp2
        go_roundw
        case rel=>exact⟨q+1,by omega,by simp,hbx,Or.inr ⟨(c,k),q,by first|rfl|trivial,by first|rfl|trivial,by first|rfl|trivial,⟨HCQ.out,hyx.out⟩⟩⟩
        case measure=>simp[Go.RowKit.intOf];omega
    ·have hlt': ¬(q:Int)<(n:Int):=by omega
     have HR:Hid (ringQ C v=none):=by
      refine HGO.out.trans (ring_out ?_)
      cases hs:stepW C a with
      |none=>rfl
      |some b=>
       obtain⟨hb,he⟩:=step_to HA.out hs
       obtain⟨i,hi,e⟩:=List.getElem_of_mem hb.c
       exact absurd ⟨hb.v,he⟩ (hno.out i b.1 (by have:=HN.out;omega) (by rw[←e];exact List.getElem?_eq_getElem hi) b.2 hb.i)
     have zy:=hbq.out.size
     have o1:Hid (OwnS (wy.alloc (.cells #[] 122)) w.heap.size 122 3 (some ⟨wy.heap.size,0,none⟩) 0 0 []):=ownS_new wy w.heap.size 122 3 (by have:=hBw.out;omega)
     have o2:Hid (OwnS ((wy.alloc (.cells #[] 122)).alloc (.cells #[] 3)) w.heap.size 3 1 (some ⟨wy.heap.size+1,0,none⟩) 0 0 []):=by
      have h0:=ownS_new (wy.alloc (.cells #[] 122)) w.heap.size 3 1 (by have:=hBw.out;simp;omega)
      simp only[World.size_alloc]at h0
      exact h0
     have BY:Hid (Below w.heap.size w ((wy.alloc (.cells #[] 122)).alloc (.cells #[] 3))):=((BA.out.trans (hbq.out.mono (by have:=hBw.out;omega))).alloc (by have:=hBw.out;omega) _).alloc (by have:=hBw.out;simp;omega) _
     go_wp2
     exact bodyPost_ret (v:= .tuple #[.slice (some ⟨wy.heap.size,0,none⟩) 0 0, .slice (some ⟨wy.heap.size+1,0,none⟩) 0 0, .bool false]) (by simp[results,Tryz.results32,go_sem, *]) rfl ⟨by rw[HR.out];exact⟨_,_,_,_,rfl,OwnS.below o1.out ((Below.refl _ _).alloc (Nat.le_refl _) _),o2.out⟩,BY.out⟩
   ·have hb:IsWg C v b:=⟨List.mem_of_getElem? hyes.out.1,hyes.out.2.1,hyes.out.2.2.1⟩
    have hs:=step_is HU.out HA.out hb hyes.out.2.2.2
    have hnf:b≠f:=fun e=>HNE.out (by rw[←e];exact hyes.out.2.2.2)
    have HR:Hid (ringQ C v=ringR C f (3*C.length- n1) b (W1++ [a])):=HGO.out.trans (ring_on hs (fun e=>hnf (Prod.ext (HNU.out _ hb.c _ HFW.out.c e.1) e.2)))
    have HPN:Hid (PathW C v f (W1++ [a]++ [b])):=HPA.out.more hs hnf
    have stV:Hid (RrSt C v f B b13 b (W1++ [a]) (n1+1) aK aF ccK ccF wy):=by
     have e:(W1++ [a]).length=n1+1:=by rw[List.length_append,←HLEN.out];rfl
     have zy:=hbq.out.size
     refine⟨by rw[HP.out];exact Row.below HR13.out hbq.out (by omega),OwnS.below (OwnS.below okL.out HQA.out) hbq.out,OwnS.below (OwnS.below ofL.out HQA.out) hbq.out,HAL.out,nkL.out,nfL.out,HLO.out,by omega,e.symm,HPN.out,?_⟩
     rw[e,HR.out]
     congr 1
     omega
    have BYY:Hid (Below w.heap.size w wy):=BA.out.trans (hbq.out.mono (by have:=hBw.out;omega))
    clear hb hs hnf HR HPN
    by_cases hqn:(q:Int)<(n:Int)
    ·go_wp2
     go_roundw
     case rel=>exact⟨W1++ [a],b,jb,n1+1,aK,aF,ccK,ccF,rfl,rfl,rfl,rfl,by simp,hyes.out.1,stV,BYY⟩
     case measure=>have:=HFEW.out;simp[Go.RowKit.intOf];omega
    ·go_wp2
     go_roundw
     case rel=>exact⟨W1++ [a],b,jb,n1+1,aK,aF,ccK,ccF,rfl,rfl,rfl,rfl,by simp,hyes.out.1,stV,BYY⟩
     case measure=>have:=HFEW.out;simp[Go.RowKit.intOf];omega):P:=h
set_option maxRecDepth 100000 in
set_option maxHeartbeats 20000000 in
theorem rgRing(base:Nat)(bl:Option Addr)(cb:Nat)(C:List Ce)(v:Int)(w:World)(hC:OwnS w base 139 10 bl C.length cb (flat ceC C))(hl:C.length≤1000)(U:EdgU C)(ho: ∀ c∈C, ∀ i,(-4611686018427387904<c.t.x i∧c.t.x i<4611686018427387904)∧(-4611686018427387904<c.t.y i∧c.t.y i<4611686018427387904))(nu: ∀ c∈C, ∀ d∈C,c.no=d.no→c=d):
  Calls Tryz.prog 32 #[.slice bl C.length cb, .int .i64 v] w fun e w'=>RingRef w.heap.size (ringQ C v) e w'∧Below w.heap.size w w':=by
 have HC:Hid (OwnS w base 139 10 bl C.length cb (flat ceC C)):=hC
 have HGW:Hid (∀ g,bl=some ⟨g,0,none⟩→g<w.heap.size):=fun g e=>(OwnS.lt hC ⟨_,e⟩).1
 have HU:Hid _:=U
 have HO:Hid _:=ho
 have HNU:Hid _:=nu
 obtain⟨n,hn⟩: ∃ n,n=C.length:=⟨_,rfl⟩
 have HN:Hid _:=hn
 rw[←hn]at hl ⊢
 obtain⟨W,hW⟩: ∃ W,W=(w.alloc (.cells #[] 122)).alloc (.cells #[] 3):=⟨_,rfl⟩
 have bW:Below w.heap.size w W:=by rw[hW];exact((Below.refl _ _).alloc (Nat.le_refl _) _).alloc (by simp) _
 have zW:W.heap.size=w.heap.size+2:=by rw[hW];simp
 have ok0:Hid (OwnS W w.heap.size 122 3 (some ⟨w.heap.size,0,none⟩) 0 0 []):=by unfold Hid;rw[hW];exact(ownS_new w w.heap.size 122 3 (Nat.le_refl _)).below ((Below.refl _ _).alloc (Nat.le_refl _) _)
 have of0:Hid (OwnS W w.heap.size 3 1 (some ⟨w.heap.size+1,0,none⟩) 0 0 []):=by
  have h0:=ownS_new (w.alloc (.cells #[] 122)) w.heap.size 3 1 (by simp)
  simp only[World.size_alloc]at h0
  unfold Hid;rw[hW];exact h0
 have HW:Hid _:=hW.symm
 clear hC U ho nu hn hW
 go_enter Tryz.func32,Tryz.ntmps32
 go_wp2
 rw[HW.out]
 clear HW
 go_loopw [9,10,11] (fun av fv iv wr=> ∃ k:Nat,k≤n∧iv= .int .i64 (k:Int)∧wr=W∧((av= .int .i64 (-1)∧fv= .int .i64 (-1)∧Hid (∀ j d,j<k→C[j]? =some d→has d.t v=false))∨ ∃ (j:Nat) (a:Wg),av= .int .i64 (a.2:Int)∧fv= .int .i64 (j:Int)∧Hid (C[j]? =some a.1∧firstW C v=some a))) (fun _ _ iv _=>n- (Go.RowKit.intOf iv).toNat)
 case atStart=>exact⟨0,by omega,rfl,rfl,Or.inl ⟨rfl,rfl,fun j d h=>absurd h (by omega)⟩⟩
 case round=>
  obtain⟨k,hk,rfl,hwr,hcase⟩:=hrel
  rw[hwr]
  rcases hcase with⟨rfl,rfl,hno⟩|⟨jf,a,rfl,rfl,hfi⟩
  ·by_cases hlt:k<n
   ·have hlt':(k:Int)<(n:Int):=by omega
    obtain⟨c,hc⟩: ∃ c,C[k]? =some c:=⟨C[k]'(by rw[←HN.out];exact hlt),List.getElem?_eq_getElem _⟩
    obtain⟨g,rfl,hgl,hgb,hgc,HE⟩:=OwnS.elH ceC_len (OwnS.below HC.out bW) rfl hc
    rw[←HN.out]at hgc
    obtain⟨t,ht⟩: ∃ t,t=c.t:=⟨_,rfl⟩
    have c0:W.cell? ⟨g,k*10+1,none⟩=some (.int .i64 t.v0):=by rw[ht];exact HE 1 _ rfl
    have c1:W.cell? ⟨g,k*10+2,none⟩=some (.int .i64 t.v1):=by rw[ht];exact HE 2 _ rfl
    have c2:W.cell? ⟨g,k*10+3,none⟩=some (.int .i64 t.v2):=by rw[ht];exact HE 3 _ rfl
    have HT:Hid _:=ht
    have HCK:Hid _:=hc
    clear HE ht hc hwr
    go_wp2
    go_loopw [9,10,12] (fun av fv kv wr=> ∃ q:Nat,q≤3∧kv= .int .i64 ((q:Int)- 1)∧wr=W∧av= .int .i64 (selA t v q)∧fv= .int .i64 (selF t v (k:Int) q)) (fun _ _ kv _=>(Go.RowKit.intOf kv+1).toNat)
    case atStart=>exact⟨3,by omega,rfl,rfl,by rw[(sel3 t v (k:Int)).1],by rw[(sel3 t v (k:Int)).2]⟩
    case round=>
     obtain⟨q,hq,rfl,hwr,rfl,rfl⟩:=hrel
     rw[hwr]
     obtain rfl|rfl|rfl|rfl:q=0∨q=1∨q=2∨q=3:=by omega
     ·cases hh:has t v with
      |true=>
       rw[(sel_has (k:Int) hh).1,(sel_has (k:Int) hh).2]
       have HF:Hid (C[k]? =some c∧firstW C v=some (c,cornV t v)):=⟨HCK.out,by rw[HT.out];exact first_at HCK.out (by rw[←HT.out];exact hh) hno.out⟩
       clear hh
       go_wp2
       go_roundw
       case rel=>exact⟨k+1,by omega,by simp,by first|rfl|trivial,Or.inr ⟨k,(c,cornV t v),by first|rfl|trivial,by first|rfl|trivial,HF⟩⟩
       case measure=>simp[Go.RowKit.intOf];omega
      |false=>
       rw[(sel_hasnt (k:Int) hh).1,(sel_hasnt (k:Int) hh).2]
       have HF:Hid (∀ j d,j<k+1→C[j]? =some d→has d.t v=false):=by
        intro j d hj hd
        by_cases e:j=k
        ·subst e;rw[HCK.out]at hd;cases hd;rw[←HT.out];exact hh
        ·exact hno.out j d (by omega) hd
       clear hh
       go_wp2
       go_roundw
       case rel=>exact⟨k+1,by omega,by simp,by first|rfl|trivial,Or.inl ⟨by first|rfl|trivial,by first|rfl|trivial,HF⟩⟩
       case measure=>simp[Go.RowKit.intOf];omega
     ·by_cases e:t.v0=v
      ·have e':(t.v0==v)=true:=by simpa using e
       have s1:=(sel_yes0 (k:Int) e).1
       have s2:=(sel_yes0 (k:Int) e).2
       have H1:Hid _:=s1
       have H2:Hid _:=s2
       clear e s1 s2
       go_wp2
       go_roundw
       case rel=>exact⟨0,by omega,by simp,by first|rfl|trivial,by(rw[H1.out];try simp),by(rw[H2.out];try simp)⟩
       case measure=>simp[Go.RowKit.intOf]
      ·have e':(t.v0==v)=false:=by simpa using e
       have H1:Hid _:=(sel_no0 (k:Int) e).1
       have H2:Hid _:=(sel_no0 (k:Int) e).2
       clear e
       go_wp2
       go_roundw
       case rel=>exact⟨0,by omega,by simp,by first|rfl|trivial,by(rw[H1.out];try simp),by(rw[H2.out];try simp)⟩
       case measure=>simp[Go.RowKit.intOf]
     ·by_cases e:t.v1=v
      ·have e':(t.v1==v)=true:=by simpa using e
       have s1:=(sel_yes1 (k:Int) e).1
       have s2:=(sel_yes1 (k:Int) e).2
       have H1:Hid _:=s1
       have H2:Hid _:=s2
       clear e s1 s2
       go_wp2
       go_roundw
       case rel=>exact⟨1,by omega,by simp,by first|rfl|trivial,by(rw[H1.out];try simp),by(rw[H2.out];try simp)⟩
       case measure=>simp[Go.RowKit.intOf]
      ·have e':(t.v1==v)=false:=by simpa using e
       have H1:Hid _:=(sel_no1 (k:Int) e).1
       have H2:Hid _:=(sel_no1 (k:Int) e).2
       clear e
       go_wp2
       go_roundw
       case rel=>exact⟨1,by omega,by simp,by first|rfl|trivial,by(rw[H1.out];try simp),by(rw[H2.out];try simp)⟩
       case measure=>simp[Go.RowKit.intOf]
     ·by_cases e:t.v2=v
      ·have e':(t.v2==v)=true:=by simpa using e
       have s1:=(sel_yes2 (k:Int) e).1
       have s2:=(sel_yes2 (k:Int) e).2
       have H1:Hid _:=s1
       have H2:Hid _:=s2
       clear e s1 s2
       go_wp2
       go_roundw
       case rel=>exact⟨2,by omega,by simp,by first|rfl|trivial,by(rw[H1.out];try simp),by(rw[H2.out];try simp)⟩
       case measure=>simp[Go.RowKit.intOf]
      ·have e':(t.v2==v)=false:=by simpa using e
       have H1:Hid _:=(sel_no2 (k:Int) e).1
       have H2:Hid _:=(sel_no2 (k:Int) e).2
       clear e
       go_wp2
       go_roundw
       case rel=>exact⟨2,by omega,by simp,by first|rfl|trivial,by(rw[H1.out];try simp),by(rw[H2.out];try simp)⟩
       case measure=>simp[Go.RowKit.intOf]
   ·have hlt': ¬(k:Int)<(n:Int):=by omega
    have HQ:Hid (ringQ C v=none):=ringQ_no (first_non (fun j d hj hd=>hno.out j d (by have:=HN.out;omega) hd))
    clear hwr
    go_wp2
    exact bodyPost_ret (v:= .tuple #[.slice (some ⟨w.heap.size,0,none⟩) 0 0, .slice (some ⟨w.heap.size+1,0,none⟩) 0 0, .bool false]) (by simp[results,Tryz.results32,go_sem, *]) rfl ⟨by rw[HQ.out];exact⟨_,_,_,_,rfl,ok0.out,of0.out⟩,bW⟩
  ·obtain⟨f,rfl⟩: ∃ f,f=a:=⟨_,rfl⟩
   have hfw:=first_is hfi.out.2
   obtain⟨g,rfl,hgl,hgb,hgc,HE⟩:=OwnS.elH ceC_len (OwnS.below HC.out bW) rfl hfi.out.1
   rw[←HN.out]at hgc
   have hj:jf<n:=by have:=(List.getElem?_eq_some_iff.1 hfi.out.1).1;rw[←HN.out]at this;exact this
   have hj':(jf:Int)<(n:Int):=by omega
   obtain⟨tf,ht⟩: ∃ t,t=f.1.t:=⟨_,rfl⟩
   have m1:W.cell? ⟨g,jf*10+1,none⟩=some (.int .i64 tf.v0):=by rw[ht];exact HE 1 _ rfl
   have m2:W.cell? ⟨g,jf*10+2,none⟩=some (.int .i64 tf.v1):=by rw[ht];exact HE 2 _ rfl
   have m3:W.cell? ⟨g,jf*10+3,none⟩=some (.int .i64 tf.v2):=by rw[ht];exact HE 3 _ rfl
   have m4:W.cell? ⟨g,jf*10+4,none⟩=some (.int .i64 tf.x0):=by rw[ht];exact HE 4 _ rfl
   have m5:W.cell? ⟨g,jf*10+5,none⟩=some (.int .i64 tf.y0):=by rw[ht];exact HE 5 _ rfl
   have m6:W.cell? ⟨g,jf*10+6,none⟩=some (.int .i64 tf.x1):=by rw[ht];exact HE 6 _ rfl
   have m7:W.cell? ⟨g,jf*10+7,none⟩=some (.int .i64 tf.y1):=by rw[ht];exact HE 7 _ rfl
   have m8:W.cell? ⟨g,jf*10+8,none⟩=some (.int .i64 tf.x2):=by rw[ht];exact HE 8 _ rfl
   have m9:W.cell? ⟨g,jf*10+9,none⟩=some (.int .i64 tf.y2):=by rw[ht];exact HE 9 _ rfl
   have CFO:Hid (Calls Tryz.prog 82 #[trV tf, .int .i64 (f.2:Int)] W fun e w'=>e= .returned (.agg #[.int .i64 (folK f.1.t f.2).1, .int .i64 (folK f.1.t f.2).2.1, .int .i64 (folK f.1.t f.2).2.2])∧Below W.heap.size W w'):=by rw[ht];exact rgFol f.1.t f.2 hfw.i (HO.out f.1 hfw.c) W
   obtain⟨p0,hp0⟩: ∃ x,x=(folK f.1.t f.2).1:=⟨_,rfl⟩
   obtain⟨p1,hp1⟩: ∃ x,x=(folK f.1.t f.2).2.1:=⟨_,rfl⟩
   obtain⟨p2,hp2⟩: ∃ x,x=(folK f.1.t f.2).2.2:=⟨_,rfl⟩
   have HP:Hid (rkC f= [.int .i64 p0, .int .i64 p1, .int .i64 p2]):=by unfold Hid;rw[hp0,hp1,hp2]
   have HPK:Hid (folK f.1.t f.2=(p0,p1,p2)):=by unfold Hid;rw[hp0,hp1,hp2]
   rw[←hp0,←hp1,←hp2]at CFO
   obtain⟨fi,hfi2⟩: ∃ x:Int,x=(f.2:Int):=⟨_,rfl⟩
   have HFI:Hid _:=hfi2
   rw[←hfi2]at CFO ⊢
   have HFW:Hid _:=hfw
   have HQ:Hid _:=ringQ_of hfi.out.2
   have hj0: ¬((jf:Int)<0):=by omega
   clear HE ht hp0 hp1 hp2 hwr hfw hfi2
   obtain⟨e24,e25,e26,e27,e28,HE24,HE25,HE26,HE27,HE28,hkn⟩|⟨e24,e25,e26,e27,e28,HE24,HE25,HE26,HE27,HE28,hkn⟩:(∃ e24 e25 e26 e27 e28:Value,Hid (e24= .bool true)∧Hid (e25= .bool true)∧Hid (e26= .int .i64 (jf:Int))∧Hid (e27= .bool false)∧Hid (e28= .bool false)∧(k:Int)<(n:Int))∨(∃ e24 e25 e26 e27 e28:Value,Hid (e24= .bool false)∧Hid (e25= .bool false)∧Hid (e26=undef)∧Hid (e27=undef)∧Hid (e28= .bool false)∧ ¬(k:Int)<(n:Int)):=by
    by_cases h:(k:Int)<(n:Int)
    ·exact Or.inl ⟨_,_,_,_,_,rfl,rfl,rfl,rfl,rfl,h⟩
    ·exact Or.inr ⟨_,_,_,_,_,rfl,rfl,rfl,rfl,rfl,h⟩
   all_goals
    go_wp2_with (go_at_call 82;fail)
    refine Calls.mono CFO.out ?_
    rintro e w2 ⟨rfl,b2⟩
    have z2:=b2.size
    obtain⟨w3,hw3⟩: ∃ w3,w3=w2.alloc (.cells #[.int .i64 p0, .int .i64 p1, .int .i64 p2] 122):=⟨_,rfl⟩
    have q3:Below W.heap.size W w3:=by rw[hw3];exact b2.alloc z2 _
    obtain⟨b13,hb13⟩: ∃ b,b=w2.heap.size:=⟨_,rfl⟩
    have R3:Row w3 b13 [.int .i64 p0, .int .i64 p1, .int .i64 p2]:=by rw[hw3,hb13];exact Row.new w2 [.int .i64 p0, .int .i64 p1, .int .i64 p2] _
    have z3:b13<w3.heap.size:=by rw[hw3,hb13];simp
    have B3:Hid (Below w.heap.size w w3):=bW.trans (q3.mono (by omega))
    obtain⟨B,hB⟩: ∃ B,B=w.heap.size:=⟨_,rfl⟩
    have st0:Hid (RrSt C v f B b13 f [] 0 (some ⟨w.heap.size,0,none⟩) (some ⟨w.heap.size+1,0,none⟩) 0 0 w3):=by
     have s1: ∀ b k,Slot (some ⟨b,0,none⟩) k→k=b:=fun b k s=>Slot.eq s
     refine⟨by rw[HP.out];exact R3,by rw[hB];exact OwnS.below ok0.out q3,by rw[hB];exact OwnS.below of0.out q3,fun k s q=>?_,fun k s=>?_,fun k s=>?_,by omega,z3,rfl,PathW.one HFW.out,HQ.out⟩
     ·have:=s1 _ k s;have:=s1 _ k q;omega
     ·have:=s1 _ k s;omega
     ·have:=s1 _ k s;omega
    have hBw:Hid (B=w.heap.size):=hB
    have H3:Hid _:=hw3.symm
    have HB13:Hid _:=hb13
    clear m1 m2 m3 m4 m5 m6 m7 m8 m9 CFO hw3 R3 q3 hb13
    go_wp2
    rw[H3.out,←HB13.out]
    clear H3 b2
    go_loopw [7,8,9,10,14] (fun kv fv av iv nv wr=> ∃ (W1:List Wg) (a:Wg) (j n1:Nat) (ka fa:Option Addr) (kc fc:Nat),kv= .slice ka n1 kc∧fv= .slice fa n1 fc∧av= .int .i64 (a.2:Int)∧iv= .int .i64 (j:Int)∧nv= .int .i64 (n1:Int)∧Hid (C[j]? =some a.1)∧Hid (RrSt C v f B b13 a W1 n1 ka fa kc fc wr)∧Hid (Below w.heap.size w wr)) (fun _ _ _ _ nv _=>3*n+1- (Go.RowKit.intOf nv).toNat)
    case atStart=>exact⟨[],f,jf,0,_,_,0,0,rfl,rfl,by rw[HFI.out],rfl,rfl,hfi.out.1,st0,B3⟩
    case round=>
     obtain⟨W1,a,j,n1,ka,fa,kc,fc,rfl,rfl,rfl,rfl,rfl,hcj,hst,hbb⟩:=hrel
     obtain⟨wq,rfl⟩: ∃ wq,wq=wr:=⟨_,rfl⟩
     have st:=hst.out
     have few:=st.pa.few HU.out
     rw[List.length_append,←st.len,←HN.out]at few
     simp only[List.length_singleton]at few
     have hle:(n1:Int)≤3*(n:Int):=by omega
     have w3n:wrap64 (3*(n:Int))=3*(n:Int):=wrap_in (by omega) (by omega)
     have ha:=st.pa.wg a (by simp)
     obtain⟨g,hgg,hgl,hgb,hgc,HE⟩:=OwnS.elH ceC_len (OwnS.below HC.out hbb.out) rfl hcj.out
     have hj:j<n:=by have:=(List.getElem?_eq_some_iff.1 hcj.out).1;rw[←HN.out]at this;exact this
     have hj':(j:Int)<(n:Int):=by omega
     obtain⟨t,ht⟩: ∃ t,t=a.1.t:=⟨_,rfl⟩
     obtain⟨y0,hy0⟩: ∃ x,x=a.1.no:=⟨_,rfl⟩
     cases hgg
     rw[←HN.out]at hgc
     have m0:wq.cell? ⟨g,j*10,none⟩=some (.int .i64 y0):=by rw[hy0];exact HE 0 _ rfl
     have m1:wq.cell? ⟨g,j*10+1,none⟩=some (.int .i64 t.v0):=by rw[ht];exact HE 1 _ rfl
     have m2:wq.cell? ⟨g,j*10+2,none⟩=some (.int .i64 t.v1):=by rw[ht];exact HE 2 _ rfl
     have m3:wq.cell? ⟨g,j*10+3,none⟩=some (.int .i64 t.v2):=by rw[ht];exact HE 3 _ rfl
     have m4:wq.cell? ⟨g,j*10+4,none⟩=some (.int .i64 t.x0):=by rw[ht];exact HE 4 _ rfl
     have m5:wq.cell? ⟨g,j*10+5,none⟩=some (.int .i64 t.y0):=by rw[ht];exact HE 5 _ rfl
     have m6:wq.cell? ⟨g,j*10+6,none⟩=some (.int .i64 t.x1):=by rw[ht];exact HE 6 _ rfl
     have m7:wq.cell? ⟨g,j*10+7,none⟩=some (.int .i64 t.y1):=by rw[ht];exact HE 7 _ rfl
     have m8:wq.cell? ⟨g,j*10+8,none⟩=some (.int .i64 t.x2):=by rw[ht];exact HE 8 _ rfl
     have m9:wq.cell? ⟨g,j*10+9,none⟩=some (.int .i64 t.y2):=by rw[ht];exact HE 9 _ rfl
     obtain⟨k0,hk0⟩: ∃ x,x=(folK a.1.t a.2).1:=⟨_,rfl⟩
     obtain⟨k1,hk1⟩: ∃ x,x=(folK a.1.t a.2).2.1:=⟨_,rfl⟩
     obtain⟨k2,hk2⟩: ∃ x,x=(folK a.1.t a.2).2.2:=⟨_,rfl⟩
     obtain⟨h0,hh0⟩: ∃ x,x=(ahdK a.1.t a.2).1:=⟨_,rfl⟩
     obtain⟨h1,hh1⟩: ∃ x,x=(ahdK a.1.t a.2).2.1:=⟨_,rfl⟩
     obtain⟨h2,hh2⟩: ∃ x,x=(ahdK a.1.t a.2).2.2:=⟨_,rfl⟩
     have HK:Hid (rkC a= [.int .i64 k0, .int .i64 k1, .int .i64 k2]):=by unfold Hid;rw[hk0,hk1,hk2]
     have HHK:Hid (ahdK a.1.t a.2=(h0,h1,h2)):=by unfold Hid;rw[hh0,hh1,hh2]
     have CFO:Hid (∀ w',Calls Tryz.prog 82 #[trV t, .int .i64 (a.2:Int)] w' fun e w''=>e= .returned (.agg #[.int .i64 k0, .int .i64 k1, .int .i64 k2])∧Below w'.heap.size w' w''):=by intro w';rw[ht,hk0,hk1,hk2];exact rgFol a.1.t a.2 ha.i (HO.out a.1 ha.c) w'
     have CAH:Hid (∀ w',Calls Tryz.prog 83 #[trV t, .int .i64 (a.2:Int)] w' fun e w''=>e= .returned (.agg #[.int .i64 h0, .int .i64 h1, .int .i64 h2])∧Below w'.heap.size w' w''):=by intro w';rw[ht,hh0,hh1,hh2];exact rgAhd a.1.t a.2 ha.i (HO.out a.1 ha.c) w'
     obtain⟨ai,hai⟩: ∃ x:Int,x=(a.2:Int):=⟨_,rfl⟩
     rw[←hai]at CFO CAH ⊢
     have HAI:Hid _:=hai
     have HY0:Hid _:=hy0
     obtain⟨i0,hi0,hz0,hz1,hz2⟩:=info_of infoKnR
     obtain⟨j0,hj0',hy0',hy1,hy2⟩:=info_of infoIntR
     have hj0:=hj0'
     have one3: ∀ u∈([.int .i64 k0, .int .i64 k1, .int .i64 k2]:List Value),u.oneCell'=true:=by rw[←HK.out];exact rkC_one _
     have one1: ∀ u∈([.int .i64 y0]:List Value),u.oneCell'=true:=by intro u hu;simp at hu;subst hu;rfl
     have hmax:n1+1≤maxLen:=by unfold maxLen;omega
     have HOK:Hid _:=st.ok
     have HOF:Hid _:=st.of
     have HAP:Hid _:=st.ap
     have HLK:Hid (∀ k,Slot ka k→k<wq.heap.size):=fun k s=>(OwnS.lt st.ok s).1
     have HLF:Hid (∀ k,Slot fa k→k<wq.heap.size):=fun k s=>(OwnS.lt st.of s).1
     have hBq:B≤wq.heap.size:=by have:=st.lo;have:=st.hi;omega
     have ng: ¬(Slot ka g∨Slot fa g):=by
      have h1:=hBw.out
      have h2:g<w.heap.size:=HGW.out g rfl
      rintro(s|s)
      ·have:=(OwnS.lt st.ok s).2;omega
      ·have:=(OwnS.lt st.of s).2;omega
     have HA:Hid _:=ha
     have HFEW:Hid _:=few
     clear st ha few HE ht hy0 hk0 hk1 hk2 hh0 hh1 hh2 hai hj0'
     go_wp2
     have HSt:Hid (∀ w',Keep (fun k=>Slot ka k∨Slot fa k) wq w'→(fun w'=>w'.cell? ⟨g,j*10,none⟩=some (.int .i64 y0)∧w'.cell? ⟨g,j*10+1,none⟩=some (.int .i64 t.v0)∧w'.cell? ⟨g,j*10+2,none⟩=some (.int .i64 t.v1)∧w'.cell? ⟨g,j*10+3,none⟩=some (.int .i64 t.v2)∧w'.cell? ⟨g,j*10+4,none⟩=some (.int .i64 t.x0)∧w'.cell? ⟨g,j*10+5,none⟩=some (.int .i64 t.y0)∧w'.cell? ⟨g,j*10+6,none⟩=some (.int .i64 t.x1)∧w'.cell? ⟨g,j*10+7,none⟩=some (.int .i64 t.y1)∧w'.cell? ⟨g,j*10+8,none⟩=some (.int .i64 t.x2)∧w'.cell? ⟨g,j*10+9,none⟩=some (.int .i64 t.y2)∧Keep (fun k=>Slot ka k∨Slot fa k) wq w') w'):=by
      unfold Hid
      intro w' hb
      exact⟨(hb.cell (p:=⟨g,j*10,none⟩) hgl ng).trans m0,(hb.cell (p:=⟨g,j*10+1,none⟩) hgl ng).trans m1,(hb.cell (p:=⟨g,j*10+2,none⟩) hgl ng).trans m2,(hb.cell (p:=⟨g,j*10+3,none⟩) hgl ng).trans m3,(hb.cell (p:=⟨g,j*10+4,none⟩) hgl ng).trans m4,(hb.cell (p:=⟨g,j*10+5,none⟩) hgl ng).trans m5,(hb.cell (p:=⟨g,j*10+6,none⟩) hgl ng).trans m6,(hb.cell (p:=⟨g,j*10+7,none⟩) hgl ng).trans m7,(hb.cell (p:=⟨g,j*10+8,none⟩) hgl ng).trans m8,(hb.cell (p:=⟨g,j*10+9,none⟩) hgl ng).trans m9,hb⟩
     obtain⟨QQ,hQQ⟩: ∃ QQ:Exit→Go.Act→World→Prop,QQ=fun e act wL=>e= .normal∧ ∃ (aK:Option Addr) (ccK:Nat) (aF:Option Addr) (ccF pK pF:Nat),act=⟨#[.slice (some ⟨g,0,none⟩) n cb, .int .i64 v,undef,undef,u4,u5,u6, .slice aK (n1+1) ccK, .slice aF (n1+1) ccF, .int .i64 ai, .int .i64 (j:Int), .int .i64 (k:Int),u12, .pointer (some ⟨b13,0,none⟩), .int .i64 (n1:Int),u15,u16,u17,u18, .slice (some ⟨w.heap.size,0,none⟩) 0 0, .slice (some ⟨w.heap.size+1,0,none⟩) 0 0, .int .i64 (k:Int), .slice (some ⟨g,0,none⟩) n cb, .int .i64 (n:Int),e24,e25,e26,e27,e28,u29,u30,u31,u32,u33,u34,u35,u36,u37,u38,u39,u40,u41,u42,u43,u44,u45,u46, .int .i64 (jf:Int), .bool false,undef,undef, .slice (some ⟨g,0,none⟩) n cb, .int .i64 (jf:Int), .pointer (some ⟨g,jf*10,none⟩), .pointer (some ⟨g,jf*10+1,none⟩), .agg #[.int .i64 tf.v0, .int .i64 tf.v1, .int .i64 tf.v2, .int .i64 tf.x0, .int .i64 tf.y0, .int .i64 tf.x1, .int .i64 tf.y1, .int .i64 tf.x2, .int .i64 tf.y2], .int .i64 fi, .agg #[.int .i64 p0, .int .i64 p1, .int .i64 p2], .int .i64 (n1:Int), .slice (some ⟨g,0,none⟩) n cb, .int .i64 (n:Int), .int .i64 (3*(n:Int)), .bool true,u63,u64, .slice ka n1 kc, .slice (some ⟨g,0,none⟩) n cb, .int .i64 (j:Int), .pointer (some ⟨g,j*10,none⟩), .pointer (some ⟨g,j*10+1,none⟩), .agg #[.int .i64 t.v0, .int .i64 t.v1, .int .i64 t.v2, .int .i64 t.x0, .int .i64 t.y0, .int .i64 t.x1, .int .i64 t.y1, .int .i64 t.x2, .int .i64 t.y2], .int .i64 ai, .agg #[.int .i64 k0, .int .i64 k1, .int .i64 k2], .slice (some ⟨pK,0,none⟩) 1 1, .slice aK (n1+1) ccK, .slice fa n1 fc, .slice (some ⟨g,0,none⟩) n cb, .int .i64 (j:Int), .pointer (some ⟨g,j*10,none⟩), .pointer (some ⟨g,j*10,none⟩), .int .i64 y0, .slice (some ⟨pF,0,none⟩) 1 1, .slice aF (n1+1) ccF,u83,u84,u85,u86,u87,u88,u89,u90,u91,u92,u93,u94,u95,u96,u97,u98,u99,u100,u101,u102,u103,u104,u105,u106,u107,u108,u109,u110,u111,u112,u113,u114,u115,u116,u117,u118,u119,u120,u121,u122,u123,u124,u125,u126,u127,u128,u129,u130,u131,u132,u133,u134,u135,u136,u137,u138,u139,undef,undef], []⟩∧OwnS wL B 122 3 aK (n1+1) ccK (flat rkC W1++ [.int .i64 k0, .int .i64 k1, .int .i64 k2])∧OwnS wL B 3 1 aF (n1+1) ccF (flat rfC W1++ [.int .i64 y0])∧(∀ k,Slot aK k→Slot ka k∨wq.heap.size≤k)∧(∀ k,Slot aF k→Slot fa k∨wq.heap.size≤k)∧(∀ k,Slot aK k→ ¬Slot aF k)∧Keep (fun k=>Slot ka k∨Slot fa k) wq wL:=⟨_,rfl⟩
     have HQQ:Hid _:=hQQ
     clear hQQ
     refine wp_mono (Q:=QQ) ?_ ?_
     ·refine wp_region_held_drew (S:=fun w'=>w'.cell? ⟨g,j*10,none⟩=some (.int .i64 y0)∧w'.cell? ⟨g,j*10+1,none⟩=some (.int .i64 t.v0)∧w'.cell? ⟨g,j*10+2,none⟩=some (.int .i64 t.v1)∧w'.cell? ⟨g,j*10+3,none⟩=some (.int .i64 t.v2)∧w'.cell? ⟨g,j*10+4,none⟩=some (.int .i64 t.x0)∧w'.cell? ⟨g,j*10+5,none⟩=some (.int .i64 t.y0)∧w'.cell? ⟨g,j*10+6,none⟩=some (.int .i64 t.x1)∧w'.cell? ⟨g,j*10+7,none⟩=some (.int .i64 t.y1)∧w'.cell? ⟨g,j*10+8,none⟩=some (.int .i64 t.x2)∧w'.cell? ⟨g,j*10+9,none⟩=some (.int .i64 t.y2)∧Keep (fun k=>Slot ka k∨Slot fa k) wq w') (by kernel_rfl) ?_ (fun hHeld=>?_)
      ·exact HSt.out _ (Keep.refl _ _).drew
      refine tQ 0 ?_
      simp only[Act.put,ps1,ps2,ps3]
      refine tQ 1 ?_
      simp only[Act.put,ps1,ps2,ps3]
      refine tQ 2 ?_
      simp only[Act.put,ps1,ps2,ps3]
      refine tQ 3 ?_
      simp only[Act.put,ps1,ps2,ps3]
      refine tQ 4 ?_
      simp only[Act.put,ps1,ps2,ps3]
      refine tQ 5 ?_
      simp only[Act.put,ps1,ps2,ps3]
      refine tQ 6 ?_
      simp only[Act.put,ps1,ps2,ps3]
      refine tQ 10 ?_
      simp only[Act.put,ps1,ps2,ps3]
      refine tQ 11 ?_
      simp only[Act.put,ps1,ps2,ps3]
      refine tQ 12 ?_
      simp only[Act.put,ps1,ps2,ps3]
      refine tQ 13 ?_
      simp only[Act.put,ps1,ps2,ps3]
      refine tQ 14 ?_
      simp only[Act.put,ps1,ps2,ps3]
      refine tQ 15 ?_
      simp only[Act.put,ps1,ps2,ps3]
      obtain⟨X0,hX0⟩: ∃ q,q=wq.drew:=⟨_,rfl⟩
      rw[←hX0]at hHeld ⊢
      have oK:OwnS X0 B 122 3 ka n1 kc (flat rkC W1):=by rw[hX0];exact OwnS.below HOK.out (Below.refl _ _).drew
      have oF:OwnS X0 B 3 1 fa n1 fc (flat rfC W1):=by rw[hX0];exact OwnS.below HOF.out (Below.refl _ _).drew
      have gzX0:wq.heap.size≤X0.heap.size:=by rw[hX0];exact Nat.le_refl _
      clear hX0
      refine wpAnyH_ready (rs:= [7,16]) (by kernel_rfl) (by simp) (AllReadyH.cons (i:=7) rfl (fun Kc hK=>?_) (AllReadyH.cons (i:=16) rfl (fun Kc hK=>?_) AllReadyH.nil))
      ·skip
       go_simp
       (go_at_call 82;refine Calls.mono (CFO.out X0) ?_;rintro e X1 ⟨rfl,eX1⟩)
       refine hK.out _ _ (HSt.out _ (hHeld.2.2.2.2.2.2.2.2.2.2.to eX1)) (fun hHeld=>?_)
       clear hK Kc
       have zX1:=eX1.size
       have gzX1:wq.heap.size≤X1.heap.size:=by omega
       replace oK:=OwnS.below oK eX1
       replace oF:=OwnS.below oF eX1
       refine wpAnyH_ready (rs:= [8,16]) (by kernel_rfl) (by simp) (AllReadyH.cons (i:=8) rfl (fun Kc hK=>?_) (AllReadyH.cons (i:=16) rfl (fun Kc hK=>?_) AllReadyH.nil))
       ·skip
        go_simp
        refine hK.out _ _ (HSt.out _ (hHeld.2.2.2.2.2.2.2.2.2.2.alloc _)) (fun hHeld=>?_)
        clear hK Kc
        obtain⟨X2,hX2⟩: ∃ q,q=X1.alloc (.cells #[.int .i64 k0, .int .i64 k1, .int .i64 k2] 122):=⟨_,rfl⟩
        rw[←hX2]at hHeld ⊢
        have eX2:Below X1.heap.size X1 X2:=by rw[hX2];exact(Below.refl _ _).alloc (Nat.le_refl _) _
        have zX2:X1.heap.size<X2.heap.size:=by rw[hX2];simp
        have gzX2:wq.heap.size≤X2.heap.size:=by omega
        replace oK:=OwnS.below oK eX2
        replace oF:=OwnS.below oF eX2
        have rK:Row X2 X1.heap.size [.int .i64 k0, .int .i64 k1, .int .i64 k2]:=by rw[hX2];exact Row.new X1 _ _
        have lK:X1.heap.size<X2.heap.size:=by omega
        clear hX2
        refine wpAnyH_ready (rs:= [9,16]) (by kernel_rfl) (by simp) (AllReadyH.cons (i:=9) rfl (fun Kc hK=>?_) (AllReadyH.cons (i:=16) rfl (fun Kc hK=>?_) AllReadyH.nil))
        ·skip
         refine step_append_S rfl (.tmp 65) (.tmp 73) 78 rfl B 122 i0 _ 3 24 Tryz.underlying78 hi0 hz0 hz1 hz2 rfl (by decide) ka n1 kc _ rfl oK ⟨X1.heap.size,0,none⟩ 1 1 [.int .i64 k0, .int .i64 k1, .int .i64 k2] rfl rfl (rowNews rK) one3 hmax (by omega) (by omega) ?_
         intro aK ccK X3 nnK gK sK
         have kK:Keep (Slot ka) X2 X3:=Keep.grown (Keep.refl _ _) gK (fun k e=>Or.inl (OwnS.slot oK e))
         refine hK.out _ _ (HSt.out _ (hHeld.2.2.2.2.2.2.2.2.2.2.trans (kK) (fun k h=>Or.inl (Or.inl h)))) (fun hHeld=>?_)
         clear hK Kc
         simp only[Act.put,ps1,ps2,ps3]
         have zX3:=kK.size
         have gzX3:wq.heap.size≤X3.heap.size:=by omega
         replace oF:=OwnS.keep oF kK (fun k h s=>HAP.out k s h)
         replace oK:=nnK
         have sK1: ∀ k,Slot aK k→Slot ka k∨wq.heap.size≤k:=fun k s=>(sK k s).imp id (fun h=>by omega)
         have dK: ∀ k,Slot aK k→ ¬Slot fa k:=fun k s q=>(sK1 k s).elim (fun h=>HAP.out k h q) (fun h=>by have:=HLF.out k q;omega)
         clear nnK gK sK kK rK lK
         refine tcl 16 fun Kc hK=>?_
         go_simp
         refine hK.out _ _ (HSt.out _ (hHeld.2.2.2.2.2.2.2.2.2.2.alloc _)) (fun hHeld=>?_)
         clear hK Kc
         obtain⟨X4,hX4⟩: ∃ q,q=X3.alloc (.cells #[.int .i64 y0] 3):=⟨_,rfl⟩
         rw[←hX4]at hHeld ⊢
         have eX4:Below X3.heap.size X3 X4:=by rw[hX4];exact(Below.refl _ _).alloc (Nat.le_refl _) _
         have zX4:X3.heap.size<X4.heap.size:=by rw[hX4];simp
         have gzX4:wq.heap.size≤X4.heap.size:=by omega
         replace oK:=OwnS.below oK eX4
         replace oF:=OwnS.below oF eX4
         have rF:Row X4 X3.heap.size [.int .i64 y0]:=by rw[hX4];exact Row.new X3 _ _
         have lF:X3.heap.size<X4.heap.size:=by omega
         clear hX4
         refine tcl 17 fun Kc hK=>?_
         refine step_append_S rfl (.tmp 75) (.tmp 81) 60 rfl B 3 j0 _ 1 8 Tryz.underlying60 hj0 hy0' hy1 hy2 rfl (by decide) fa n1 fc _ rfl oF ⟨X3.heap.size,0,none⟩ 1 1 [.int .i64 y0] rfl rfl (rowNews rF) one1 hmax (by omega) (by omega) ?_
         intro aF ccF wL nnF gF sF
         have kF:Keep (Slot fa) X4 wL:=Keep.grown (Keep.refl _ _) gF (fun k e=>Or.inl (OwnS.slot oF e))
         refine hK.out _ _ (HSt.out _ (hHeld.2.2.2.2.2.2.2.2.2.2.trans (kF) (fun k h=>Or.inl (Or.inr h)))) (fun hHeld=>?_)
         clear hK Kc
         simp only[Act.put,ps1,ps2,ps3]
         have zwL:=kF.size
         have gzwL:wq.heap.size≤wL.heap.size:=by omega
         have lK9: ∀ k,Slot aK k→k<X4.heap.size:=fun k s=>(OwnS.lt oK s).1
         replace oK:=OwnS.keep oK kF dK
         replace oF:=nnF
         have sF1: ∀ k,Slot aF k→Slot fa k∨wq.heap.size≤k:=fun k s=>(sF k s).imp id (fun h=>by omega)
         have apL: ∀ k,Slot aK k→ ¬Slot aF k:=fun k s q=>(sF k q).elim (fun h=>dK k s h) (fun h=>by have:=lK9 k s;omega)
         clear nnF gF sF kF lK9
         refine tQ 18 ?_
         simp only[Act.put,ps1,ps2,ps3]
         refine tQ 19 ?_
         simp only[Act.put,ps1,ps2,ps3]
         refine wpAnyH_done (by kernel_rfl) ?_ _
         rw[HQQ.out]
         exact⟨rfl,aK,ccK,aF,ccF,X1.heap.size,X3.heap.size,by rw[HE24.out,HE25.out,HE26.out,HE27.out,HE28.out],oK,oF,sK1,sF1,apL,hHeld.2.2.2.2.2.2.2.2.2.2⟩
        ·skip
         go_simp
         refine hK.out _ _ (HSt.out _ (hHeld.2.2.2.2.2.2.2.2.2.2.alloc _)) (fun hHeld=>?_)
         clear hK Kc
         obtain⟨X6,hX6⟩: ∃ q,q=X2.alloc (.cells #[.int .i64 y0] 3):=⟨_,rfl⟩
         rw[←hX6]at hHeld ⊢
         have eX6:Below X2.heap.size X2 X6:=by rw[hX6];exact(Below.refl _ _).alloc (Nat.le_refl _) _
         have zX6:X2.heap.size<X6.heap.size:=by rw[hX6];simp
         have gzX6:wq.heap.size≤X6.heap.size:=by omega
         replace oK:=OwnS.below oK eX6
         replace oF:=OwnS.below oF eX6
         replace rK:=rK.below eX6 lK
         replace lK:X1.heap.size<X6.heap.size:=by omega
         have rF:Row X6 X2.heap.size [.int .i64 y0]:=by rw[hX6];exact Row.new X2 _ _
         have lF:X2.heap.size<X6.heap.size:=by omega
         clear hX6
         refine tcl 9 fun Kc hK=>?_
         refine step_append_S rfl (.tmp 65) (.tmp 73) 78 rfl B 122 i0 _ 3 24 Tryz.underlying78 hi0 hz0 hz1 hz2 rfl (by decide) ka n1 kc _ rfl oK ⟨X1.heap.size,0,none⟩ 1 1 [.int .i64 k0, .int .i64 k1, .int .i64 k2] rfl rfl (rowNews rK) one3 hmax (by omega) (by omega) ?_
         intro aK ccK X7 nnK gK sK
         have kK:Keep (Slot ka) X6 X7:=Keep.grown (Keep.refl _ _) gK (fun k e=>Or.inl (OwnS.slot oK e))
         refine hK.out _ _ (HSt.out _ (hHeld.2.2.2.2.2.2.2.2.2.2.trans (kK) (fun k h=>Or.inl (Or.inl h)))) (fun hHeld=>?_)
         clear hK Kc
         simp only[Act.put,ps1,ps2,ps3]
         have zX7:=kK.size
         have gzX7:wq.heap.size≤X7.heap.size:=by omega
         replace oF:=OwnS.keep oF kK (fun k h s=>HAP.out k s h)
         replace rF:=Row.keep rF kK lF (fun s=>by have:=HLK.out _ s;omega)
         replace lF:X2.heap.size<X7.heap.size:=by omega
         replace oK:=nnK
         have sK1: ∀ k,Slot aK k→Slot ka k∨wq.heap.size≤k:=fun k s=>(sK k s).imp id (fun h=>by omega)
         have dK: ∀ k,Slot aK k→ ¬Slot fa k:=fun k s q=>(sK1 k s).elim (fun h=>HAP.out k h q) (fun h=>by have:=HLF.out k q;omega)
         clear nnK gK sK kK rK lK
         refine tcl 17 fun Kc hK=>?_
         refine step_append_S rfl (.tmp 75) (.tmp 81) 60 rfl B 3 j0 _ 1 8 Tryz.underlying60 hj0 hy0' hy1 hy2 rfl (by decide) fa n1 fc _ rfl oF ⟨X2.heap.size,0,none⟩ 1 1 [.int .i64 y0] rfl rfl (rowNews rF) one1 hmax (by omega) (by omega) ?_
         intro aF ccF wL nnF gF sF
         have kF:Keep (Slot fa) X7 wL:=Keep.grown (Keep.refl _ _) gF (fun k e=>Or.inl (OwnS.slot oF e))
         refine hK.out _ _ (HSt.out _ (hHeld.2.2.2.2.2.2.2.2.2.2.trans (kF) (fun k h=>Or.inl (Or.inr h)))) (fun hHeld=>?_)
         clear hK Kc
         simp only[Act.put,ps1,ps2,ps3]
         have zwL:=kF.size
         have gzwL:wq.heap.size≤wL.heap.size:=by omega
         have lK9: ∀ k,Slot aK k→k<X7.heap.size:=fun k s=>(OwnS.lt oK s).1
         replace oK:=OwnS.keep oK kF dK
         replace oF:=nnF
         have sF1: ∀ k,Slot aF k→Slot fa k∨wq.heap.size≤k:=fun k s=>(sF k s).imp id (fun h=>by omega)
         have apL: ∀ k,Slot aK k→ ¬Slot aF k:=fun k s q=>(sF k q).elim (fun h=>dK k s h) (fun h=>by have:=lK9 k s;omega)
         clear nnF gF sF kF lK9
         refine tQ 18 ?_
         simp only[Act.put,ps1,ps2,ps3]
         refine tQ 19 ?_
         simp only[Act.put,ps1,ps2,ps3]
         refine wpAnyH_done (by kernel_rfl) ?_ _
         rw[HQQ.out]
         exact⟨rfl,aK,ccK,aF,ccF,X1.heap.size,X2.heap.size,by rw[HE24.out,HE25.out,HE26.out,HE27.out,HE28.out],oK,oF,sK1,sF1,apL,hHeld.2.2.2.2.2.2.2.2.2.2⟩
       ·skip
        go_simp
        refine hK.out _ _ (HSt.out _ (hHeld.2.2.2.2.2.2.2.2.2.2.alloc _)) (fun hHeld=>?_)
        clear hK Kc
        obtain⟨X9,hX9⟩: ∃ q,q=X1.alloc (.cells #[.int .i64 y0] 3):=⟨_,rfl⟩
        rw[←hX9]at hHeld ⊢
        have eX9:Below X1.heap.size X1 X9:=by rw[hX9];exact(Below.refl _ _).alloc (Nat.le_refl _) _
        have zX9:X1.heap.size<X9.heap.size:=by rw[hX9];simp
        have gzX9:wq.heap.size≤X9.heap.size:=by omega
        replace oK:=OwnS.below oK eX9
        replace oF:=OwnS.below oF eX9
        have rF:Row X9 X1.heap.size [.int .i64 y0]:=by rw[hX9];exact Row.new X1 _ _
        have lF:X1.heap.size<X9.heap.size:=by omega
        clear hX9
        refine tcl 8 fun Kc hK=>?_
        go_simp
        refine hK.out _ _ (HSt.out _ (hHeld.2.2.2.2.2.2.2.2.2.2.alloc _)) (fun hHeld=>?_)
        clear hK Kc
        obtain⟨X10,hX10⟩: ∃ q,q=X9.alloc (.cells #[.int .i64 k0, .int .i64 k1, .int .i64 k2] 122):=⟨_,rfl⟩
        rw[←hX10]at hHeld ⊢
        have eX10:Below X9.heap.size X9 X10:=by rw[hX10];exact(Below.refl _ _).alloc (Nat.le_refl _) _
        have zX10:X9.heap.size<X10.heap.size:=by rw[hX10];simp
        have gzX10:wq.heap.size≤X10.heap.size:=by omega
        replace oK:=OwnS.below oK eX10
        replace oF:=OwnS.below oF eX10
        replace rF:=rF.below eX10 lF
        replace lF:X1.heap.size<X10.heap.size:=by omega
        have rK:Row X10 X9.heap.size [.int .i64 k0, .int .i64 k1, .int .i64 k2]:=by rw[hX10];exact Row.new X9 _ _
        have lK:X9.heap.size<X10.heap.size:=by omega
        clear hX10
        refine tcl 9 fun Kc hK=>?_
        refine step_append_S rfl (.tmp 65) (.tmp 73) 78 rfl B 122 i0 _ 3 24 Tryz.underlying78 hi0 hz0 hz1 hz2 rfl (by decide) ka n1 kc _ rfl oK ⟨X9.heap.size,0,none⟩ 1 1 [.int .i64 k0, .int .i64 k1, .int .i64 k2] rfl rfl (rowNews rK) one3 hmax (by omega) (by omega) ?_
        intro aK ccK X11 nnK gK sK
        have kK:Keep (Slot ka) X10 X11:=Keep.grown (Keep.refl _ _) gK (fun k e=>Or.inl (OwnS.slot oK e))
        refine hK.out _ _ (HSt.out _ (hHeld.2.2.2.2.2.2.2.2.2.2.trans (kK) (fun k h=>Or.inl (Or.inl h)))) (fun hHeld=>?_)
        clear hK Kc
        simp only[Act.put,ps1,ps2,ps3]
        have zX11:=kK.size
        have gzX11:wq.heap.size≤X11.heap.size:=by omega
        replace oF:=OwnS.keep oF kK (fun k h s=>HAP.out k s h)
        replace rF:=Row.keep rF kK lF (fun s=>by have:=HLK.out _ s;omega)
        replace lF:X1.heap.size<X11.heap.size:=by omega
        replace oK:=nnK
        have sK1: ∀ k,Slot aK k→Slot ka k∨wq.heap.size≤k:=fun k s=>(sK k s).imp id (fun h=>by omega)
        have dK: ∀ k,Slot aK k→ ¬Slot fa k:=fun k s q=>(sK1 k s).elim (fun h=>HAP.out k h q) (fun h=>by have:=HLF.out k q;omega)
        clear nnK gK sK kK rK lK
        refine tcl 17 fun Kc hK=>?_
        refine step_append_S rfl (.tmp 75) (.tmp 81) 60 rfl B 3 j0 _ 1 8 Tryz.underlying60 hj0 hy0' hy1 hy2 rfl (by decide) fa n1 fc _ rfl oF ⟨X1.heap.size,0,none⟩ 1 1 [.int .i64 y0] rfl rfl (rowNews rF) one1 hmax (by omega) (by omega) ?_
        intro aF ccF wL nnF gF sF
        have kF:Keep (Slot fa) X11 wL:=Keep.grown (Keep.refl _ _) gF (fun k e=>Or.inl (OwnS.slot oF e))
        refine hK.out _ _ (HSt.out _ (hHeld.2.2.2.2.2.2.2.2.2.2.trans (kF) (fun k h=>Or.inl (Or.inr h)))) (fun hHeld=>?_)
        clear hK Kc
        simp only[Act.put,ps1,ps2,ps3]
        have zwL:=kF.size
        have gzwL:wq.heap.size≤wL.heap.size:=by omega
        have lK9: ∀ k,Slot aK k→k<X11.heap.size:=fun k s=>(OwnS.lt oK s).1
        replace oK:=OwnS.keep oK kF dK
        replace oF:=nnF
        have sF1: ∀ k,Slot aF k→Slot fa k∨wq.heap.size≤k:=fun k s=>(sF k s).imp id (fun h=>by omega)
        have apL: ∀ k,Slot aK k→ ¬Slot aF k:=fun k s q=>(sF k q).elim (fun h=>dK k s h) (fun h=>by have:=lK9 k s;omega)
        clear nnF gF sF kF lK9
        refine tQ 18 ?_
        simp only[Act.put,ps1,ps2,ps3]
        refine tQ 19 ?_
        simp only[Act.put,ps1,ps2,ps3]
        refine wpAnyH_done (by kernel_rfl) ?_ _
        rw[HQQ.out]
        exact⟨rfl,aK,ccK,aF,ccF,X9.heap.size,X1.heap.size,by rw[HE24.out,HE25.out,HE26.out,HE27.out,HE28.out],oK,oF,sK1,sF1,apL,hHeld.2.2.2.2.2.2.2.2.2.2⟩
      ·skip
       go_simp
       refine hK.out _ _ (HSt.out _ (hHeld.2.2.2.2.2.2.2.2.2.2.alloc _)) (fun hHeld=>?_)
       clear hK Kc
       obtain⟨X13,hX13⟩: ∃ q,q=X0.alloc (.cells #[.int .i64 y0] 3):=⟨_,rfl⟩
       rw[←hX13]at hHeld ⊢
       have eX13:Below X0.heap.size X0 X13:=by rw[hX13];exact(Below.refl _ _).alloc (Nat.le_refl _) _
       have zX13:X0.heap.size<X13.heap.size:=by rw[hX13];simp
       have gzX13:wq.heap.size≤X13.heap.size:=by omega
       replace oK:=OwnS.below oK eX13
       replace oF:=OwnS.below oF eX13
       have rF:Row X13 X0.heap.size [.int .i64 y0]:=by rw[hX13];exact Row.new X0 _ _
       have lF:X0.heap.size<X13.heap.size:=by omega
       clear hX13
       refine tcl 7 fun Kc hK=>?_
       go_simp
       (go_at_call 82;refine Calls.mono (CFO.out X13) ?_;rintro e X14 ⟨rfl,eX14⟩)
       refine hK.out _ _ (HSt.out _ (hHeld.2.2.2.2.2.2.2.2.2.2.to eX14)) (fun hHeld=>?_)
       clear hK Kc
       have zX14:=eX14.size
       have gzX14:wq.heap.size≤X14.heap.size:=by omega
       replace oK:=OwnS.below oK eX14
       replace oF:=OwnS.below oF eX14
       replace rF:=rF.below eX14 lF
       replace lF:X0.heap.size<X14.heap.size:=by omega
       refine tcl 8 fun Kc hK=>?_
       go_simp
       refine hK.out _ _ (HSt.out _ (hHeld.2.2.2.2.2.2.2.2.2.2.alloc _)) (fun hHeld=>?_)
       clear hK Kc
       obtain⟨X15,hX15⟩: ∃ q,q=X14.alloc (.cells #[.int .i64 k0, .int .i64 k1, .int .i64 k2] 122):=⟨_,rfl⟩
       rw[←hX15]at hHeld ⊢
       have eX15:Below X14.heap.size X14 X15:=by rw[hX15];exact(Below.refl _ _).alloc (Nat.le_refl _) _
       have zX15:X14.heap.size<X15.heap.size:=by rw[hX15];simp
       have gzX15:wq.heap.size≤X15.heap.size:=by omega
       replace oK:=OwnS.below oK eX15
       replace oF:=OwnS.below oF eX15
       replace rF:=rF.below eX15 lF
       replace lF:X0.heap.size<X15.heap.size:=by omega
       have rK:Row X15 X14.heap.size [.int .i64 k0, .int .i64 k1, .int .i64 k2]:=by rw[hX15];exact Row.new X14 _ _
       have lK:X14.heap.size<X15.heap.size:=by omega
       clear hX15
       refine tcl 9 fun Kc hK=>?_
       refine step_append_S rfl (.tmp 65) (.tmp 73) 78 rfl B 122 i0 _ 3 24 Tryz.underlying78 hi0 hz0 hz1 hz2 rfl (by decide) ka n1 kc _ rfl oK ⟨X14.heap.size,0,none⟩ 1 1 [.int .i64 k0, .int .i64 k1, .int .i64 k2] rfl rfl (rowNews rK) one3 hmax (by omega) (by omega) ?_
       intro aK ccK X16 nnK gK sK
       have kK:Keep (Slot ka) X15 X16:=Keep.grown (Keep.refl _ _) gK (fun k e=>Or.inl (OwnS.slot oK e))
       refine hK.out _ _ (HSt.out _ (hHeld.2.2.2.2.2.2.2.2.2.2.trans (kK) (fun k h=>Or.inl (Or.inl h)))) (fun hHeld=>?_)
       clear hK Kc
       simp only[Act.put,ps1,ps2,ps3]
       have zX16:=kK.size
       have gzX16:wq.heap.size≤X16.heap.size:=by omega
       replace oF:=OwnS.keep oF kK (fun k h s=>HAP.out k s h)
       replace rF:=Row.keep rF kK lF (fun s=>by have:=HLK.out _ s;omega)
       replace lF:X0.heap.size<X16.heap.size:=by omega
       replace oK:=nnK
       have sK1: ∀ k,Slot aK k→Slot ka k∨wq.heap.size≤k:=fun k s=>(sK k s).imp id (fun h=>by omega)
       have dK: ∀ k,Slot aK k→ ¬Slot fa k:=fun k s q=>(sK1 k s).elim (fun h=>HAP.out k h q) (fun h=>by have:=HLF.out k q;omega)
       clear nnK gK sK kK rK lK
       refine tcl 17 fun Kc hK=>?_
       refine step_append_S rfl (.tmp 75) (.tmp 81) 60 rfl B 3 j0 _ 1 8 Tryz.underlying60 hj0 hy0' hy1 hy2 rfl (by decide) fa n1 fc _ rfl oF ⟨X0.heap.size,0,none⟩ 1 1 [.int .i64 y0] rfl rfl (rowNews rF) one1 hmax (by omega) (by omega) ?_
       intro aF ccF wL nnF gF sF
       have kF:Keep (Slot fa) X16 wL:=Keep.grown (Keep.refl _ _) gF (fun k e=>Or.inl (OwnS.slot oF e))
       refine hK.out _ _ (HSt.out _ (hHeld.2.2.2.2.2.2.2.2.2.2.trans (kF) (fun k h=>Or.inl (Or.inr h)))) (fun hHeld=>?_)
       clear hK Kc
       simp only[Act.put,ps1,ps2,ps3]
       have zwL:=kF.size
       have gzwL:wq.heap.size≤wL.heap.size:=by omega
       have lK9: ∀ k,Slot aK k→k<X16.heap.size:=fun k s=>(OwnS.lt oK s).1
       replace oK:=OwnS.keep oK kF dK
       replace oF:=nnF
       have sF1: ∀ k,Slot aF k→Slot fa k∨wq.heap.size≤k:=fun k s=>(sF k s).imp id (fun h=>by omega)
       have apL: ∀ k,Slot aK k→ ¬Slot aF k:=fun k s q=>(sF k q).elim (fun h=>dK k s h) (fun h=>by have:=lK9 k s;omega)
       clear nnF gF sF kF lK9
       refine tQ 18 ?_
       simp only[Act.put,ps1,ps2,ps3]
       refine tQ 19 ?_
       simp only[Act.put,ps1,ps2,ps3]
       refine wpAnyH_done (by kernel_rfl) ?_ _
       rw[HQQ.out]
       exact⟨rfl,aK,ccK,aF,ccF,X14.heap.size,X0.heap.size,by rw[HE24.out,HE25.out,HE26.out,HE27.out,HE28.out],oK,oF,sK1,sF1,apL,hHeld.2.2.2.2.2.2.2.2.2.2⟩
     rw[HQQ.out]
     rintro e act wL ⟨rfl,aK,ccK,aF,ccF,pK,pF,rfl,oK,oF,sK1,sF1,apL,kL⟩
     clear HQQ QQ HSt
     have gzwL:=kL.size
     try dsimp only
     rw[HE24.out,HE25.out,HE26.out,HE27.out,HE28.out]
     as_aux_lemma=>exact zzRA
end Go.Proofs.YtjmhfdimoeaplaaGreat
