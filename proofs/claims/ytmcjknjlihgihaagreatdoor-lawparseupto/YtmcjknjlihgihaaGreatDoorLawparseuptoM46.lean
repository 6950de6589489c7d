/- The plain answer to whether a zone is sound for cells. -/
import Derived.Test.YtmcjknjlihgihaaGreatDoorLawparseuptoM29
set_option linter.unusedVariables false
set_option linter.unusedSimpArgs false
set_option linter.unnecessarySimpa false
set_option maxRecDepth 20000
namespace Go.Proofs.YtmcjknjlihgihaaGreatDoor
open Go.RowKit
set_option maxHeartbeats 2000000 in
theorem Zlo (v:Value) (xs:List Nat) (hs k:Int) (c:C3) (w:World) (hx:Rd w v xs.length 1 (u64s xs)) (hy:∀ x∈xs,x<18446744073709551616) (hl:xs.length≤17592186044416) :
  Calls Tryz.prog 137 #[v,.int .i64 hs,.int .i64 k,c.v] w fun e w'=>e=.returned (.bool (hasR xs hs k c))∧Below w.heap.size w w':=by
 have HX:Hid (Rd w v xs.length 1 (u64s xs)):=hx;have Zh:=hid (fun(i:Nat) (w2:World) (hb:Below w.heap.size w w2) (hi:i≤9223372036854775807)=>Zf4 v xs i w2 (hx.mono hb) hy (by unfold maxLen;omega) hi);have HV:=hid (fun w2:World=>Zfu c k w2);have HP:=hid (fun(hk:k=1∨k=2) (hsz:c.s.size≤maxLen) (q:Nat) (hq:q≤8) (h1:0<xs.length) (h2:xs.length≤64) (w2:World)=>Zrw k c q xs.length w2 hk hsz hq h1 h2);obtain⟨A,ca,rfl,hlc,hcm,hA⟩:=hx.form;clear hx hA HX;obtain⟨R,hR⟩:∃ R,hasR xs hs k c=R:=⟨_,rfl⟩;rw[hR];unfold hasR Zfe at hR;obtain⟨n,hn⟩:∃ n,xs.length=n:=⟨_,rfl⟩;rw[hn]at hlc hl HP hR Zh ⊢;clear hn hcm;have VM:Hid (Zdw k c=true→(k=1∨k=2)∧c.s.size≤1024∧c.n=false):=hid Zu2;generalize hiv:Zdw k c=iv at *;clear hiv;by_cases hf:1≤n∧n≤64∧1≤hs∧hs≤8
 ·have hfi:Zet n hs=true:=by unfold Zet;simp;omega
  rw[hfi,Bool.true_and]at hR;clear hfi;obtain⟨h1,h2,h3,h4⟩:=hf;obtain⟨q,rfl⟩:=Int.eq_ofNat_of_zero_le (show 0≤hs by omega);rw[Int.toNat_natCast]at hR;have hq:q≤8:=by omega
  cases iv
  ·rw[Bool.false_and]at hR;subst hR;clear VM HP Zh;obtain⟨b,i,s⟩:=c;unfold C3.v at *;simp only at *;go_enter Tryz.func137,Tryz.ntmps137;go_wp2_with (go_at_call 167;refine(HV.out _).mono ?_;rintro e w1 ⟨rfl,hb1⟩;have Qa:=hid hb1;clear hb1)
   go_ret;exact⟨rfl,Below.trans ((Zab w).alloc (Nat.le_refl _) _) (Qa.out.mono (by simp))⟩
  ·have hki:=VM.out rfl;have JJ:=hid (HP.out hki.1 (by have:=hki.2.1;unfold maxLen;omega) q hq h1 h2);have Qo:Hid (((Zdg (Zhr k c) q n).all (Zar xs))=R):=hid hR;have Zp:Hid (∀ t,t<q→Zct (Zhr k c) t n<4096):=hid (fun t ht=>by have:=Zlz (Zhr k c) t n h1;omega);clear HP VM hki hR;generalize Zhr k c=h at *;obtain⟨b,i,s⟩:=c;unfold C3.v at *;simp only at *;go_enter Tryz.func137,Tryz.ntmps137;go_wp2_with (first | (go_at_call 167;refine(HV.out _).mono ?_;rintro e w1 ⟨rfl,hb1⟩;have Qa:Hid (Below w.heap.size w w1):=hid (Below.trans ((Zab w).alloc (Nat.le_refl _) _) (hb1.mono (by simp)));obtain⟨k0,k1,k2⟩:=Z2k hb1 (by simp);clear hb1) | (go_at_call 120;refine(JJ.out _).mono ?_;rintro e w2 ⟨r,rfl,ho,hb2⟩;have Qb:Hid (Below w.heap.size w w2):=hid (Below.then' Qa.out hb2 Qa.out.size);obtain⟨A2,ca2,rfl,_,_,hA2⟩:=(Zba ho).form;have Uu:=hid hA2;clear ho hb2 hA2))
   go_loopw [40] (fun i wr=>∃ t:Nat,t≤q∧i=.int .i64 t∧Hid (∀ u,u<t→Zar xs (Zct h u n)=true)∧wr=w2) (fun i _=>q-(intOf i).toNat)
   case atStart=>exact⟨0,by omega,rfl,hid (fun u hu=>absurd hu (Nat.not_lt_zero u)),rfl⟩
   case round =>
    obtain⟨t,ht,rfl,hall,rfl⟩:=hrel;by_cases hlt:t<q
    ·obtain⟨b',o,rfl,hs'⟩:=Uu.out (by omega);have hc:=hs'.int t (by rw[Znj];exact hlt);rw[Zsg h q n t hlt]at hc;have hp:=Zp.out t hlt;have QL:Hid (Zar xs (Zct h t n)=true→∀ u,u<t+1→Zar xs (Zct h u n)=true):=hid (fun hb u hu=>by
      by_cases hut:u=t
      ·subst hut;exact hb
      ·exact hall.out u (by omega))
     have Q8:Hid (Zar xs (Zct h t n)=false→R=false):=hid (fun hb=>by
      rw[← Qo.out,← Bool.not_eq_true];intro hall2;simp only[List.all_eq_true]at hall2;have:=hall2 (Zct h t n) (by simp only[Zdg,List.mem_map,List.mem_range];exact⟨t,hlt,rfl⟩);rw[hb]at this;cases this)
     have YI:=hid (Zh.out (Zct h t n) wr Qb.out (by omega));clear hs';generalize Zct h t n=p at *;generalize Zar xs p=bb at *;cases bb
     ·have ZB:=hid (Q8.out rfl);go_wp2_with (go_at_call 133;refine YI.out.mono ?_;rintro e w4 ⟨rfl,hw⟩;replace hw:=hw.symm;subst hw)
      go_ret;exact⟨Zae ZB.out.symm,Qb.out⟩
     ·have YW:=hid (QL.out rfl);go_wp2_with (go_at_call 133;refine YI.out.mono ?_;rintro e w4 ⟨rfl,hw⟩;replace hw:=hw.symm;subst hw)
      go_roundw
      case rel=>exact⟨t+1,by omega,by go_num,YW,by first | rfl | trivial⟩
      case measure=>simp[intOf];omega
    ·obtain rfl:t=q:=by omega
     have HT:Hid (R=true):=hid (by
      rw[← Qo.out];simp only[List.all_eq_true,Zdg,List.mem_map,List.mem_range];rintro x ⟨u,hu,rfl⟩;exact hall.out u hu)
     go_wp2;go_ret;exact⟨Zae HT.out.symm,Qb.out⟩
 ·have hfi:Zet n hs=false:=by unfold Zet;simp;omega
  rw[hfi,Bool.false_and,Bool.false_and]at hR;subst hR;clear VM HP Zh HV hfi;obtain⟨b,i,s⟩:=c;unfold C3.v at *;simp only at *;by_cases g1:n<1
  ·have g1':(n:Int)<1:=by omega
   go_enter Tryz.func137,Tryz.ntmps137;go_wp2;go_ret;exact⟨rfl,(Zab w).alloc (Nat.le_refl _) _⟩
  have g1':¬ (n:Int)<1:=by omega
  by_cases g2:n > 64
  ·have g2':(n:Int) > 64:=by omega
   go_enter Tryz.func137,Tryz.ntmps137;go_wp2;go_ret;exact⟨rfl,(Zab w).alloc (Nat.le_refl _) _⟩
  have g2':¬ (n:Int) > 64:=by omega
  by_cases g3:hs<1
  ·go_enter Tryz.func137,Tryz.ntmps137;go_wp2;go_ret;exact⟨rfl,(Zab w).alloc (Nat.le_refl _) _⟩
  have g4:hs > 8:=by omega
  go_enter Tryz.func137,Tryz.ntmps137;go_wp2;go_ret;exact⟨rfl,(Zab w).alloc (Nat.le_refl _) _⟩
set_option maxRecDepth 100000
theorem Z03 (a b:C3):decide (0<ordC a b)=Zqf b a:=by
 unfold ordC Zqf;by_cases h1:a.i<b.i
 ·have h2:¬ b.i<a.i:=by omega
  have h3:¬ b.i=a.i:=by omega
  simp[h1,h2,h3]
 ·by_cases h2:b.i<a.i
  ·simp[h1,h2]
  ·have h3:b.i=a.i:=by omega
   simp only[h1,h2,if_false,h3,decide_true,Bool.true_and,decide_false,Bool.false_or];have hg:=gtS a.s b.s;cases h4:ltB a.s b.s
   ·have h5:Op.bytesLess a.s.toList b.s.toList=false:=h4;rw[h5,Bool.not_false,Bool.true_and]at hg;rw[← hg];cases h6:(a.s.toList==b.s.toList)<;>simp
   ·have h5:=Zrj h4;rw[h5];simp
set_option maxHeartbeats 16000000 in
theorem Zwq (z:ZM) (B:Option Addr) (bc:Nat) (k:Int) (u:Value) (n:Nat) (A:Nat→Bool) (D:Nat→Int) (E:Nat→ByteArray) (w:World) (hu:Rd w u n 3 (Za2 A D E n)) (hn:n≤65536)
  (hbl:Rd w (.slice B z.bl.length bc) z.bl.length 1 (u64s z.bl)) (hbv:∀ x∈z.bl,x<18446744073709551616) (hb64:z.bl.length≤17592186044416) :
  Calls Tryz.prog 94 #[z.v (.slice B z.bl.length bc),.int .i64 k,u] w fun e w'=>e=.returned (.bool (sndR z k n A D E))∧Below w.heap.size w w':=by
 obtain⟨R,hR⟩:∃ R,sndR z k n A D E=R:=⟨_,rfl⟩;have HR:=hid hR;rw[hR];clear hR;have HU:=hid hu;have HBH:=hid (fun(c:C3) (w2:World) (hb:Below w.heap.size w w2)=>Zlo (.slice B z.bl.length bc) z.bl z.hs k c w2 (hbl.mono hb) hbv hb64);have Vv:=hid (fun(a b:C3) (w2:World)=>Z0p a b w2);have HNL:=hid (fun t=>Z0v A t);have Zs:=hid (fun t=>Zxs A t);have HSC:=hid (show ∀ t:Nat,sndC z k n ⟨A t,D t,E t⟩=(A t||((!(z.rg&&decide (z.nu≠(n:Int)))||(!Zqf ⟨A t,D t,E t⟩ z.mn&&!Zqf z.mx ⟨A t,D t,E t⟩))&&(decide (z.bl=[])||hasR z.bl z.hs k ⟨A t,D t,E t⟩)))from fun t=>rfl);have QG:Hid (∀ t,t<n→sndC z k n ⟨A t,D t,E t⟩=false→R=false):=hid (fun t ht h=>by
  rw[← HR.out,← Bool.not_eq_true];intro h2;unfold sndR at h2;rw[Bool.and_eq_true,List.all_eq_true]at h2;have:=h2.1 t (List.mem_range.2 ht);rw[h]at this;cases this)
 have Qf:Hid ((∀ t,t<n→sndC z k n ⟨A t,D t,E t⟩=true)→R=(!z.rg||decide ((nulN A n:Int)=z.nu))):=hid (fun h=>by
  rw[← HR.out];unfold sndR;rw[List.all_eq_true.2 (fun t ht=>h t (List.mem_range.1 ht)),Bool.true_and])
 obtain⟨cd,U,rfl,hnc,hcm,_⟩:=hu.form;have hbe:decide (z.bl=[])=decide (z.bl.length=0):=by rw[Bool.eq_iff_iff];simp
 rw[hbe]at HSC;obtain⟨rg,nu,mn,mx,hs,bl⟩:=z;simp only at *;unfold C3.v at Vv;obtain⟨mnn,mni,mns⟩:=mn;obtain⟨mxn,mxi,mxs⟩:=mx;unfold ZM.v;simp only at *;generalize hbn:bl.length=bn at *;clear hu hbl hbv hbe hbn;go_enter Tryz.func94,Tryz.ntmps94;go_upto_region 1 with fail
 have hf:=Zbe (w:=w) (C:=#[.bool rg,.int .i64 nu,.bool mnn,.int .i64 mni,.string mns,.bool mxn,.int .i64 mxi,.string mxs,.int .i64 hs,.slice B bn bc]) (e:=39);have Qg:=hid hf.1;have Qh:=hid hf.2;clear hf;generalize w.alloc (.cells #[.bool rg,.int .i64 nu,.bool mnn,.int .i64 mni,.string mns,.bool mxn,.int .i64 mxi,.string mxs,.int .i64 hs,.slice B bn bc] 39)=wa at *;obtain⟨r0,hr0⟩:∃ r0,w.heap.size=r0:=⟨_,rfl⟩;have HS:=hid hr0;rw[hr0]at Qg ⊢;clear hr0;go_upto_region 3 with fail
 go_loopw [7,12] (fun s i wr=>∃ t:Nat,t≤n∧i=.int .i64 t∧s=.int .i64 (nulN A t:Nat)∧Hid (∀ j,j<t→sndC ⟨rg,nu,⟨mnn,mni,mns⟩,⟨mxn,mxi,mxs⟩,hs,bl⟩ k n ⟨A j,D j,E j⟩=true)∧Hid (Below wa.heap.size wa wr)) (fun _ i _=>n-(intOf i).toNat)
 case atStart=>exact⟨0,by omega,rfl,rfl,hid (fun j h=>absurd h (Nat.not_lt_zero j)),hid (Zab wa)⟩
 case round =>
  obtain⟨t,ht,rfl,rfl,Qs,HB⟩:=hrel;have hnl:=HNL.out t;have Q0:=hid (Qg.out.mono HB.out);have Ql:=hid (Zac Qh.out HB.out);obtain⟨z0,z1,z2,z3,z4,z5,z6,z7,z8,z9⟩:=Za6 Q0.out;by_cases hlt:t<n
  ·obtain⟨b,o,rfl,hcells⟩:=(HU.out.mono Ql.out).atC (by omega);obtain⟨l0,l1,l2⟩:=hcells t hlt;have HBH2:=hid (fun(w2:World) (hb:Below w.heap.size w w2)=>HBH.out ⟨A t,D t,E t⟩ w2 hb);unfold C3.v at HBH2;have QO:=hid (Z0n ⟨A t,D t,E t⟩ ⟨mnn,mni,mns⟩);have QY:=hid (Z03 ⟨A t,D t,E t⟩ ⟨mxn,mxi,mxs⟩);have Vf:=hid (HSC.out t);have Vg:=hid (Zs.out t);have Zo:Hid (sndC ⟨rg,nu,⟨mnn,mni,mns⟩,⟨mxn,mxi,mxs⟩,hs,bl⟩ k n ⟨A t,D t,E t⟩=true→∀ j,j<t+1→sndC ⟨rg,nu,⟨mnn,mni,mns⟩,⟨mxn,mxi,mxs⟩,hs,bl⟩ k n ⟨A j,D j,E j⟩=true):=hid (fun h j hj=>by
    by_cases hjt:j=t
    ·subst hjt;exact h
    ·exact Qs.out j (by omega))
   have Ze:=hid (QG.out t hlt);simp only at QO QY Vf HBH2;generalize sndC ⟨rg,nu,⟨mnn,mni,mns⟩,⟨mxn,mxi,mxs⟩,hs,bl⟩ k n ⟨A t,D t,E t⟩=sc at *;generalize Zqf ⟨A t,D t,E t⟩ ⟨mnn,mni,mns⟩=g1 at *;generalize Zqf ⟨mxn,mxi,mxs⟩ ⟨A t,D t,E t⟩=g2 at *;generalize hasR bl hs k ⟨A t,D t,E t⟩=ha at *;generalize nulN A t=n1 at *;clear hcells Zs HSC;generalize A t=xa at *;generalize D t=xb at *;generalize E t=xc at *;have hf2:=Zbe (w:=wr) (C:=#[.bool xa,.int .i64 xb,.string xc]) (e:=36);have Zx:=hid hf2.1;have QE:=hid hf2.2;clear hf2;cases xa
   ·simp only[Bool.false_eq_true,if_false,Nat.add_zero,Bool.false_or]at Vg Vf;go_upto_region 7 with fail
    have Uh:=hid (Q0.out.mono QE.out);have YB:=hid (Zac Ql.out QE.out);have HBQ2:Hid (Below wa.heap.size wa (wr.alloc (.cells #[.bool false,.int .i64 xb,.string xc] 36))):=hid (Zac HB.out QE.out);generalize wr.alloc (.cells #[.bool false,.int .i64 xb,.string xc] 36)=wq at *;obtain⟨c,hc⟩:∃ c,wr.heap.size=c:=⟨_,rfl⟩;rw[hc]at Zx ⊢;clear z0 z1 z2 z3 z4 z5 z6 z7 z8 z9 hc l0 l1 l2 QE;have JO:=hid (fun(w2:World) (hb:Below wq.heap.size wq w2)=>And.intro (Za6 (Uh.out.mono hb)) (cell3 (Zx.out.mono hb)));go_cut [42]from 20 to 42 (fun s42 wc=>s42=.bool ((rg&&decide (nu≠(n:Int)))&&(g1||g2))∧Hid (Below wq.heap.size wq wc))
    case first =>
     obtain⟨⟨z0,z1,z2,z3,z4,z5,z6,z7,z8,z9⟩,c0,c1,c2⟩:=JO.out wq (Zab wq);cases rg
     ·go_wp2_with fail
      all_goals go_meet
      exact⟨by simp,hid (Zab wq)⟩
     ·by_cases hnu:nu=(n:Int)
      ·subst hnu;go_wp2_with fail
       all_goals go_meet
       exact⟨by simp,hid (Zab wq)⟩
      ·have hne:(nu != (n:Int))=true:=by simpa using hnu
       have h1:=QO.out;have h2:=QY.out;have ZZ:=hid (Zab wq);cases g1
       ·simp only[decide_eq_false_iff_not]at h1;go_wp2_with (go_at_call 119;refine(Vv.out ⟨false,xb,xc⟩ ⟨_,_,_⟩ _).mono ?_;rintro e w5 ⟨rfl,hb5⟩;have ZZ:=hid (Zac ZZ.out hb5);clear hb5 z0 z1 z2 z3 z4 z5 z6 z7 z8 z9 c0 c1 c2;obtain⟨⟨z0,z1,z2,z3,z4,z5,z6,z7,z8,z9⟩,c0,c1,c2⟩:=JO.out w5 ZZ.out)
        all_goals go_meet
        all_goals exact⟨by rw[← h2];simp[hnu];omega,ZZ⟩
       ·simp only[decide_eq_true_eq]at h1;go_wp2_with (go_at_call 119;refine(Vv.out ⟨false,xb,xc⟩ ⟨_,_,_⟩ _).mono ?_;rintro e w5 ⟨rfl,hb5⟩;have ZZ:=hid (Zac ZZ.out hb5);clear hb5 z0 z1 z2 z3 z4 z5 z6 z7 z8 z9 c0 c1 c2;obtain⟨⟨z0,z1,z2,z3,z4,z5,z6,z7,z8,z9⟩,c0,c1,c2⟩:=JO.out w5 ZZ.out)
        all_goals go_meet
        all_goals exact⟨by simp[hnu],ZZ⟩
    case rest =>
    obtain⟨rfl,Vr⟩:=hcut;obtain⟨b1,hb1⟩:∃ b1,((rg&&decide (nu≠(n:Int)))&&(g1||g2))=b1:=⟨_,rfl⟩;rw[hb1];have HSC3:Hid (sc=(!b1&&(decide (bn=0)||ha))):=hid (by
     rw[Vf.out,← hb1];cases rg&&decide (nu≠(n:Int))<;>cases g1<;>cases g2<;>rfl)
    clear hb1 Vf QO QY;cases b1
    ·obtain⟨⟨z0,z1,z2,z3,z4,z5,z6,z7,z8,z9⟩,c0,c1,c2⟩:=JO.out wc Vr.out;have QX:=hid (Zac YB.out Vr.out);by_cases hb0:bn=0
     ·subst hb0;have HT:Hid (sc=true):=hid (by rw[HSC3.out];rfl);have HN3:=hid (Zo.out HT.out);go_wp2_with fail
      go_roundw
      case rel=>exact⟨t+1,by omega,by go_num,by rw[Vg.out],HN3,hid (Zac HBQ2.out Vr.out)⟩
      case measure=>simp[intOf];omega
     ·have hp:(0:Int)<(bn:Int):=by omega
      have HT:Hid (sc=ha):=hid (by rw[HSC3.out,decide_eq_false hb0];simp);have HBH3:=hid (HBH2.out wc QX.out);cases ha
      ·have HF:=hid (Ze.out HT.out);go_wp2_with (go_at_call 137;refine HBH3.out.mono ?_;rintro e w7 ⟨rfl,hb7⟩;have QN:=hid hb7;clear hb7)
       go_ret;exact⟨Zae HF.out.symm,Zac QX.out QN.out⟩
      ·have HN3:=hid (Zo.out HT.out);go_wp2_with (go_at_call 137;refine HBH3.out.mono ?_;rintro e w7 ⟨rfl,hb7⟩;have QN:=hid hb7;clear hb7)
       go_roundw
       case rel=>exact⟨t+1,by omega,by go_num,by rw[Vg.out],HN3,hid (Zac (Zac HBQ2.out Vr.out) QN.out)⟩
       case measure=>simp[intOf];omega
    ·have HF:=hid (Ze.out (by rw[HSC3.out];rfl));have QX:=hid (Zac YB.out Vr.out);go_wp2_with fail
     go_ret;exact⟨Zae HF.out.symm,QX.out⟩
   ·simp only[if_true]at Vg;have HT:Hid (sc=true):=hid (by rw[Vf.out];rfl);have HN3:=hid (Zo.out HT.out);have Vr:=hid (Zac HB.out QE.out);go_wp2_with fail
    go_roundw
    case rel=>exact⟨t+1,by omega,by go_num,by rw[Vg.out];go_num,HN3,Vr⟩
    case measure=>simp[intOf];omega
  ·obtain rfl:t=n:=by omega
   have HG:=hid (Qf.out Qs.out);generalize nulN A t=n1 at *;cases rg
   ·go_wp2_with fail
    go_ret;exact⟨Zae (by rw[HG.out,Bool.eq_iff_iff];simp),Ql.out⟩
   ·go_wp2_with fail
    go_ret;exact⟨Zae (by rw[HG.out,Bool.eq_iff_iff];simp),Ql.out⟩
end Go.Proofs.YtmcjknjlihgihaaGreatDoor
