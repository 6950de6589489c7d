/- One chunk of an image, as the plain answer takes it. -/
import Derived.Test.YtmcjknjlihgihaaGreatDoorLawfreshlistsuptoM31
set_option linter.unusedVariables false
set_option linter.unusedSimpArgs false
set_option linter.unnecessarySimpa false
set_option maxRecDepth 20000
namespace Go.Proofs.YtmcjknjlihgihaaGreatDoor
open Go.RowKit
set_option maxHeartbeats 2000000 in
theorem Zli (v:Value) (xs:List Nat) (hs k:Int) (c:C3) (w:World) (hx:Rd w v xs.length 1 (u64s xs)) (hy:∀ x∈xs,x<18446744073709551616) (hl:xs.length≤17592186044416) :
  Calls Tryz.prog 137 #[v,.int .i64 hs,.int .i64 k,c.v] w fun e w'=>e=.returned (.bool (hasR xs hs k c))∧Below w.heap.size w w':=by
 have HX:Hid (Rd w v xs.length 1 (u64s xs)):=hx;have YS:=hid (fun(i:Nat) (w2:World) (hb:Below w.heap.size w w2) (hi:i≤9223372036854775807)=>Zfy v xs i w2 (hx.mono hb) hy (by unfold maxLen;omega) hi);have HV:=hid (fun w2:World=>Zft c k w2);have HP:=hid (fun(hk:k=1∨k=2) (hsz:c.s.size≤maxLen) (q:Nat) (hq:q≤8) (h1:0<xs.length) (h2:xs.length≤64) (w2:World)=>Zqv k c q xs.length w2 hk hsz hq h1 h2);obtain⟨A,ca,rfl,hlc,hcm,hA⟩:=hx.form;clear hx hA HX;obtain⟨R,hR⟩:∃ R,hasR xs hs k c=R:=⟨_,rfl⟩;rw[hR];unfold hasR Ze8 at hR;obtain⟨n,hn⟩:∃ n,xs.length=n:=⟨_,rfl⟩;rw[hn]at hlc hl HP hR YS ⊢;clear hn hcm;have V3:Hid (Zdx k c=true→(k=1∨k=2)∧c.s.size≤1024∧c.n=false):=hid Zun;generalize hiv:Zdx k c=iv at *;clear hiv;by_cases hf:1≤n∧n≤64∧1≤hs∧hs≤8
 ·have hfi:Zej n hs=true:=by unfold Zej;simp;omega
  rw[hfi,Bool.true_and]at hR;clear hfi;obtain⟨h1,h2,h3,h4⟩:=hf;obtain⟨q,rfl⟩:=Int.eq_ofNat_of_zero_le (show 0≤hs by omega);rw[Int.toNat_natCast]at hR;have hq:q≤8:=by omega
  cases iv
  ·rw[Bool.false_and]at hR;subst hR;clear V3 HP YS;obtain⟨b,i,s⟩:=c;unfold C3.v at *;simp only at *;go_enter Tryz.func137,Tryz.ntmps137;go_wp2_with (go_at_call 167;refine(HV.out _).mono ?_;rintro e w1 ⟨rfl,hb1⟩;have Qa:=hid hb1;clear hb1)
   go_ret;exact⟨rfl,Below.trans ((Zab w).alloc (Nat.le_refl _) _) (Qa.out.mono (by simp))⟩
  ·have hki:=V3.out rfl;have J7:=hid (HP.out hki.1 (by have:=hki.2.1;unfold maxLen;omega) q hq h1 h2);have Qs:Hid (((Zc5 (Zg4 k c) q n).all (Za0 xs))=R):=hid hR;have YP:Hid (∀ t,t<q→Zco (Zg4 k c) t n<4096):=hid (fun t ht=>by have:=Zmb (Zg4 k c) t n h1;omega);clear HP V3 hki hR;generalize Zg4 k c=h at *;obtain⟨b,i,s⟩:=c;unfold C3.v at *;simp only at *;go_enter Tryz.func137,Tryz.ntmps137;go_wp2_with (first | (go_at_call 167;refine(HV.out _).mono ?_;rintro e w1 ⟨rfl,hb1⟩;have Qa:Hid (Below w.heap.size w w1):=hid (Below.trans ((Zab w).alloc (Nat.le_refl _) _) (hb1.mono (by simp)));obtain⟨k0,k1,k2⟩:=Z1q hb1 (by simp);clear hb1) | (go_at_call 120;refine(J7.out _).mono ?_;rintro e w2 ⟨r,rfl,ho,hb2⟩;have Qc:Hid (Below w.heap.size w w2):=hid (Below.then' Qa.out hb2 Qa.out.size);obtain⟨A2,ca2,rfl,_,_,hA2⟩:=(Zba ho).form;have Uk:=hid hA2;clear ho hb2 hA2))
   go_loopw [40] (fun i wr=>∃ t:Nat,t≤q∧i=.int .i64 t∧Hid (∀ u,u<t→Za0 xs (Zco h u n)=true)∧wr=w2) (fun i _=>q-(intOf i).toNat)
   case atStart=>exact⟨0,by omega,rfl,hid (fun u hu=>absurd hu (Nat.not_lt_zero u)),rfl⟩
   case round =>
    obtain⟨t,ht,rfl,hall,rfl⟩:=hrel;by_cases hlt:t<q
    ·obtain⟨b',o,rfl,hs'⟩:=Uk.out (by omega);have hc:=hs'.int t (by rw[Zmr];exact hlt);rw[Zsy h q n t hlt]at hc;have hp:=YP.out t hlt;have QG:Hid (Za0 xs (Zco h t n)=true→∀ u,u<t+1→Za0 xs (Zco h u n)=true):=hid (fun hb u hu=>by
      by_cases hut:u=t
      ·subst hut;exact hb
      ·exact hall.out u (by omega))
     have Q6:Hid (Za0 xs (Zco h t n)=false→R=false):=hid (fun hb=>by
      rw[← Qs.out,← Bool.not_eq_true];intro hall2;simp only[List.all_eq_true]at hall2;have:=hall2 (Zco h t n) (by simp only[Zc5,List.mem_map,List.mem_range];exact⟨t,hlt,rfl⟩);rw[hb]at this;cases this)
     have JD:=hid (YS.out (Zco h t n) wr Qc.out (by omega));clear hs';generalize Zco h t n=p at *;generalize Za0 xs p=bb at *;cases bb
     ·have Zq:=hid (Q6.out rfl);go_wp2_with (go_at_call 133;refine JD.out.mono ?_;rintro e w4 ⟨rfl,hw⟩;replace hw:=hw.symm;subst hw)
      go_ret;exact⟨Zae Zq.out.symm,Qc.out⟩
     ·have YK:=hid (QG.out rfl);go_wp2_with (go_at_call 133;refine JD.out.mono ?_;rintro e w4 ⟨rfl,hw⟩;replace hw:=hw.symm;subst hw)
      go_roundw
      case rel=>exact⟨t+1,by omega,by go_num,YK,by first | rfl | trivial⟩
      case measure=>simp[intOf];omega
    ·obtain rfl:t=q:=by omega
     have HT:Hid (R=true):=hid (by
      rw[← Qs.out];simp only[List.all_eq_true,Zc5,List.mem_map,List.mem_range];rintro x ⟨u,hu,rfl⟩;exact hall.out u hu)
     go_wp2;go_ret;exact⟨Zae HT.out.symm,Qc.out⟩
 ·have hfi:Zej n hs=false:=by unfold Zej;simp;omega
  rw[hfi,Bool.false_and,Bool.false_and]at hR;subst hR;clear V3 HP YS HV hfi;obtain⟨b,i,s⟩:=c;unfold C3.v at *;simp only at *;by_cases g1:n<1
  ·have g1':(n:Int)<1:=by omega
   go_enter Tryz.func137,Tryz.ntmps137;go_wp2;go_ret;exact⟨rfl,(Zab w).alloc (Nat.le_refl _) _⟩
  have g1':¬ (n:Int)<1:=by omega
  by_cases g2:n > 64
  ·have g2':(n:Int) > 64:=by omega
   go_enter Tryz.func137,Tryz.ntmps137;go_wp2;go_ret;exact⟨rfl,(Zab w).alloc (Nat.le_refl _) _⟩
  have g2':¬ (n:Int) > 64:=by omega
  by_cases g3:hs<1
  ·go_enter Tryz.func137,Tryz.ntmps137;go_wp2;go_ret;exact⟨rfl,(Zab w).alloc (Nat.le_refl _) _⟩
  have g4:hs > 8:=by omega
  go_enter Tryz.func137,Tryz.ntmps137;go_wp2;go_ret;exact⟨rfl,(Zab w).alloc (Nat.le_refl _) _⟩
set_option maxRecDepth 100000
theorem Zzt (a b:C3):decide (0<ordC a b)=Zqz b a:=by
 unfold ordC Zqz;by_cases h1:a.i<b.i
 ·have h2:¬ b.i<a.i:=by omega
  have h3:¬ b.i=a.i:=by omega
  simp[h1,h2,h3]
 ·by_cases h2:b.i<a.i
  ·simp[h1,h2]
  ·have h3:b.i=a.i:=by omega
   simp only[h1,h2,if_false,h3,decide_true,Bool.true_and,decide_false,Bool.false_or];have hg:=gtS a.s b.s;cases h4:ltB a.s b.s
   ·have h5:Op.bytesLess a.s.toList b.s.toList=false:=h4;rw[h5,Bool.not_false,Bool.true_and]at hg;rw[← hg];cases h6:(a.s.toList==b.s.toList)<;>simp
   ·have h5:=Zqm h4;rw[h5];simp
set_option maxHeartbeats 16000000 in
theorem Zw9 (z:ZM) (B:Option Addr) (bc:Nat) (k:Int) (u:Value) (n:Nat) (A:Nat→Bool) (D:Nat→Int) (E:Nat→ByteArray) (w:World) (hu:Rd w u n 3 (Zdb A D E n)) (hn:n≤65536)
  (hbl:Rd w (.slice B z.bl.length bc) z.bl.length 1 (u64s z.bl)) (hbv:∀ x∈z.bl,x<18446744073709551616) (hb64:z.bl.length≤17592186044416) :
  Calls Tryz.prog 94 #[z.v (.slice B z.bl.length bc),.int .i64 k,u] w fun e w'=>e=.returned (.bool (sndR z k n A D E))∧Below w.heap.size w w':=by
 obtain⟨R,hR⟩:∃ R,sndR z k n A D E=R:=⟨_,rfl⟩;have HR:=hid hR;rw[hR];clear hR;have HU:=hid hu;have HBH:=hid (fun(c:C3) (w2:World) (hb:Below w.heap.size w w2)=>Zli (.slice B z.bl.length bc) z.bl z.hs k c w2 (hbl.mono hb) hbv hb64);have Vi:=hid (fun(a b:C3) (w2:World)=>Zzs a b w2);have HNL:=hid (fun t=>Zz8 A t);have YZ:=hid (fun t=>Zx1 A t);have HSC:=hid (show ∀ t:Nat,sndC z k n ⟨A t,D t,E t⟩=(A t||((!(z.rg&&decide (z.nu≠(n:Int)))||(!Zqz ⟨A t,D t,E t⟩ z.mn&&!Zqz z.mx ⟨A t,D t,E t⟩))&&(decide (z.bl=[])||hasR z.bl z.hs k ⟨A t,D t,E t⟩)))from fun t=>rfl);have QD:Hid (∀ t,t<n→sndC z k n ⟨A t,D t,E t⟩=false→R=false):=hid (fun t ht h=>by
  rw[← HR.out,← Bool.not_eq_true];intro h2;unfold sndR at h2;rw[Bool.and_eq_true,List.all_eq_true]at h2;have:=h2.1 t (List.mem_range.2 ht);rw[h]at this;cases this)
 have Qn:Hid ((∀ t,t<n→sndC z k n ⟨A t,D t,E t⟩=true)→R=(!z.rg||decide ((nulN A n:Int)=z.nu))):=hid (fun h=>by
  rw[← HR.out];unfold sndR;rw[List.all_eq_true.2 (fun t ht=>h t (List.mem_range.1 ht)),Bool.true_and])
 obtain⟨cd,U,rfl,hnc,hcm,_⟩:=hu.form;have hbe:decide (z.bl=[])=decide (z.bl.length=0):=by rw[Bool.eq_iff_iff];simp
 rw[hbe]at HSC;obtain⟨rg,nu,mn,mx,hs,bl⟩:=z;simp only at *;unfold C3.v at Vi;obtain⟨mnn,mni,mns⟩:=mn;obtain⟨mxn,mxi,mxs⟩:=mx;unfold ZM.v;simp only at *;generalize hbn:bl.length=bn at *;clear hu hbl hbv hbe hbn;go_enter Tryz.func94,Tryz.ntmps94;go_upto_region 1 with fail
 have hf:=Zbs (w:=w) (C:=#[.bool rg,.int .i64 nu,.bool mnn,.int .i64 mni,.string mns,.bool mxn,.int .i64 mxi,.string mxs,.int .i64 hs,.slice B bn bc]) (e:=39);have Qj:=hid hf.1;have Ql:=hid hf.2;clear hf;generalize w.alloc (.cells #[.bool rg,.int .i64 nu,.bool mnn,.int .i64 mni,.string mns,.bool mxn,.int .i64 mxi,.string mxs,.int .i64 hs,.slice B bn bc] 39)=wa at *;obtain⟨r0,hr0⟩:∃ r0,w.heap.size=r0:=⟨_,rfl⟩;have HS:=hid hr0;rw[hr0]at Qj ⊢;clear hr0;go_upto_region 3 with fail
 go_loopw [7,12] (fun s i wr=>∃ t:Nat,t≤n∧i=.int .i64 t∧s=.int .i64 (nulN A t:Nat)∧Hid (∀ j,j<t→sndC ⟨rg,nu,⟨mnn,mni,mns⟩,⟨mxn,mxi,mxs⟩,hs,bl⟩ k n ⟨A j,D j,E j⟩=true)∧Hid (Below wa.heap.size wa wr)) (fun _ i _=>n-(intOf i).toNat)
 case atStart=>exact⟨0,by omega,rfl,rfl,hid (fun j h=>absurd h (Nat.not_lt_zero j)),hid (Zab wa)⟩
 case round =>
  obtain⟨t,ht,rfl,rfl,Qr,HB⟩:=hrel;have hnl:=HNL.out t;have Q4:=hid (Qj.out.mono HB.out);have Qg:=hid (Zad Ql.out HB.out);obtain⟨z0,z1,z2,z3,z4,z5,z6,z7,z8,z9⟩:=Za5 Q4.out;by_cases hlt:t<n
  ·obtain⟨b,o,rfl,hcells⟩:=(HU.out.mono Qg.out).atC (by omega);obtain⟨l0,l1,l2⟩:=hcells t hlt;have XR:=hid (fun(w2:World) (hb:Below w.heap.size w w2)=>HBH.out ⟨A t,D t,E t⟩ w2 hb);unfold C3.v at XR;have Yd:=hid (Zzr ⟨A t,D t,E t⟩ ⟨mnn,mni,mns⟩);have QZ:=hid (Zzt ⟨A t,D t,E t⟩ ⟨mxn,mxi,mxs⟩);have UV:=hid (HSC.out t);have UW:=hid (YZ.out t);have YW:Hid (sndC ⟨rg,nu,⟨mnn,mni,mns⟩,⟨mxn,mxi,mxs⟩,hs,bl⟩ k n ⟨A t,D t,E t⟩=true→∀ j,j<t+1→sndC ⟨rg,nu,⟨mnn,mni,mns⟩,⟨mxn,mxi,mxs⟩,hs,bl⟩ k n ⟨A j,D j,E j⟩=true):=hid (fun h j hj=>by
    by_cases hjt:j=t
    ·subst hjt;exact h
    ·exact Qr.out j (by omega))
   have ZP:=hid (QD.out t hlt);simp only at Yd QZ UV XR;generalize sndC ⟨rg,nu,⟨mnn,mni,mns⟩,⟨mxn,mxi,mxs⟩,hs,bl⟩ k n ⟨A t,D t,E t⟩=sc at *;generalize Zqz ⟨A t,D t,E t⟩ ⟨mnn,mni,mns⟩=g1 at *;generalize Zqz ⟨mxn,mxi,mxs⟩ ⟨A t,D t,E t⟩=g2 at *;generalize hasR bl hs k ⟨A t,D t,E t⟩=ha at *;generalize nulN A t=n1 at *;clear hcells YZ HSC;generalize A t=xa at *;generalize D t=xb at *;generalize E t=xc at *;have hf2:=Zbs (w:=wr) (C:=#[.bool xa,.int .i64 xb,.string xc]) (e:=36);have JT:=hid hf2.1;have QB:=hid hf2.2;clear hf2;cases xa
   ·simp only[Bool.false_eq_true,if_false,Nat.add_zero,Bool.false_or]at UW UV;go_upto_region 7 with fail
    have JW:=hid (Q4.out.mono QB.out);have Y5:=hid (Zad Qg.out QB.out);have HBQ2:Hid (Below wa.heap.size wa (wr.alloc (.cells #[.bool false,.int .i64 xb,.string xc] 36))):=hid (Zad HB.out QB.out);generalize wr.alloc (.cells #[.bool false,.int .i64 xb,.string xc] 36)=wq at *;obtain⟨c,hc⟩:∃ c,wr.heap.size=c:=⟨_,rfl⟩;rw[hc]at JT ⊢;clear z0 z1 z2 z3 z4 z5 z6 z7 z8 z9 hc l0 l1 l2 QB;have JC:=hid (fun(w2:World) (hb:Below wq.heap.size wq w2)=>And.intro (Za5 (JW.out.mono hb)) (Zeq (JT.out.mono hb)));go_cut [42]from 20 to 42 (fun s42 wc=>s42=.bool ((rg&&decide (nu≠(n:Int)))&&(g1||g2))∧Hid (Below wq.heap.size wq wc))
    case first =>
     obtain⟨⟨z0,z1,z2,z3,z4,z5,z6,z7,z8,z9⟩,c0,c1,c2⟩:=JC.out wq (Zab wq);cases rg
     ·go_wp2_with fail
      all_goals go_meet
      exact⟨by simp,hid (Zab wq)⟩
     ·by_cases hnu:nu=(n:Int)
      ·subst hnu;go_wp2_with fail
       all_goals go_meet
       exact⟨by simp,hid (Zab wq)⟩
      ·have hne:(nu != (n:Int))=true:=by simpa using hnu
       have h1:=Yd.out;have h2:=QZ.out;have ZE:=hid (Zab wq);cases g1
       ·simp only[decide_eq_false_iff_not]at h1;go_wp2_with (go_at_call 119;refine(Vi.out ⟨false,xb,xc⟩ ⟨_,_,_⟩ _).mono ?_;rintro e w5 ⟨rfl,hb5⟩;have ZE:=hid (Zad ZE.out hb5);clear hb5 z0 z1 z2 z3 z4 z5 z6 z7 z8 z9 c0 c1 c2;obtain⟨⟨z0,z1,z2,z3,z4,z5,z6,z7,z8,z9⟩,c0,c1,c2⟩:=JC.out w5 ZE.out)
        all_goals go_meet
        all_goals exact⟨by rw[← h2];simp[hnu];omega,ZE⟩
       ·simp only[decide_eq_true_eq]at h1;go_wp2_with (go_at_call 119;refine(Vi.out ⟨false,xb,xc⟩ ⟨_,_,_⟩ _).mono ?_;rintro e w5 ⟨rfl,hb5⟩;have ZE:=hid (Zad ZE.out hb5);clear hb5 z0 z1 z2 z3 z4 z5 z6 z7 z8 z9 c0 c1 c2;obtain⟨⟨z0,z1,z2,z3,z4,z5,z6,z7,z8,z9⟩,c0,c1,c2⟩:=JC.out w5 ZE.out)
        all_goals go_meet
        all_goals exact⟨by simp[hnu],ZE⟩
    case rest =>
    obtain⟨rfl,Ve⟩:=hcut;obtain⟨b1,hb1⟩:∃ b1,((rg&&decide (nu≠(n:Int)))&&(g1||g2))=b1:=⟨_,rfl⟩;rw[hb1];have XS:Hid (sc=(!b1&&(decide (bn=0)||ha))):=hid (by
     rw[UV.out,← hb1];cases rg&&decide (nu≠(n:Int))<;>cases g1<;>cases g2<;>rfl)
    clear hb1 UV Yd QZ;cases b1
    ·obtain⟨⟨z0,z1,z2,z3,z4,z5,z6,z7,z8,z9⟩,c0,c1,c2⟩:=JC.out wc Ve.out;have Zw:=hid (Zad Y5.out Ve.out);by_cases hb0:bn=0
     ·subst hb0;have HT:Hid (sc=true):=hid (by rw[XS.out];rfl);have HN3:=hid (YW.out HT.out);go_wp2_with fail
      go_roundw
      case rel=>exact⟨t+1,by omega,by go_num,by rw[UW.out],HN3,hid (Zad HBQ2.out Ve.out)⟩
      case measure=>simp[intOf];omega
     ·have hp:(0:Int)<(bn:Int):=by omega
      have HT:Hid (sc=ha):=hid (by rw[XS.out,decide_eq_false hb0];simp);have HBH3:=hid (XR.out wc Zw.out);cases ha
      ·have HF:=hid (ZP.out HT.out);go_wp2_with (go_at_call 137;refine HBH3.out.mono ?_;rintro e w7 ⟨rfl,hb7⟩;have QM:=hid hb7;clear hb7)
       go_ret;exact⟨Zae HF.out.symm,Zad Zw.out QM.out⟩
      ·have HN3:=hid (YW.out HT.out);go_wp2_with (go_at_call 137;refine HBH3.out.mono ?_;rintro e w7 ⟨rfl,hb7⟩;have QM:=hid hb7;clear hb7)
       go_roundw
       case rel=>exact⟨t+1,by omega,by go_num,by rw[UW.out],HN3,hid (Zad (Zad HBQ2.out Ve.out) QM.out)⟩
       case measure=>simp[intOf];omega
    ·have HF:=hid (ZP.out (by rw[XS.out];rfl));have Zw:=hid (Zad Y5.out Ve.out);go_wp2_with fail
     go_ret;exact⟨Zae HF.out.symm,Zw.out⟩
   ·simp only[if_true]at UW;have HT:Hid (sc=true):=hid (by rw[UV.out];rfl);have HN3:=hid (YW.out HT.out);have Ve:=hid (Zad HB.out QB.out);go_wp2_with fail
    go_roundw
    case rel=>exact⟨t+1,by omega,by go_num,by rw[UW.out];go_num,HN3,Ve⟩
    case measure=>simp[intOf];omega
  ·obtain rfl:t=n:=by omega
   have HG:=hid (Qn.out Qr.out);generalize nulN A t=n1 at *;cases rg
   ·go_wp2_with fail
    go_ret;exact⟨Zae (by rw[HG.out,Bool.eq_iff_iff];simp),Qg.out⟩
   ·go_wp2_with fail
    go_ret;exact⟨Zae (by rw[HG.out,Bool.eq_iff_iff];simp),Qg.out⟩
def Zxj (kd rows:Nat) (xs:List Nat) (en:En) (w:World) (e:Ending) (w':World):Prop:=Below w.heap.size w w' ∧
 ((Zhp kd rows xs en=true∧∃ B c u,e=.returned (.tuple #[.agg (ckVE kd rows xs en++[Value.slice B (zE kd rows xs en).bl.length c]).toArray,u,.bool true])∧w'.ownsRow w.heap.size 73 1 (.slice B (zE kd rows xs en).bl.length c) (zE kd rows xs en).bl.length (u64s (zE kd rows xs en).bl) ∧
   w'.ownsRow w.heap.size 36 3 u rows (Zhs kd rows (Zam xs en))) ∨
 (Zhp kd rows xs en=false∧e=.returned (.tuple #[Zgj,.slice none 0 0,.bool false])))
set_option maxHeartbeats 16000000 in
theorem Zss (v:Value) (xs:List Nat) (C G i:Nat) (w:World) (hv:Rd w v xs.length 1 (u8s xs)) (hb:∀ x∈xs,x<256) (hl:xs.length≤16777216) (hC:1≤C∧C≤16) (hG:G≤256) (hi:i<G*C) (hD:iD C G≤xs.length)
  (kd rows:Nat) (en:En) (hkd:kdX xs (i%C)=kd) (hk:kd=1∨kd=2) (hrw:Za4 C xs (i/C)=rows) (hrr:rows≤65536) (hen:eI C xs i=en) (hfit:en.off+en.len+en.zl≤xs.length) :
  Calls Tryz.prog 51 #[v,.int .i64 C,.int .i64 i] w (Zxj kd rows xs en w):=by
 obtain⟨ANS,hANS⟩:∃ ANS,Zxj kd rows xs en w=ANS:=⟨_,rfl⟩;have Qm:=hid hANS;rw[hANS];clear hANS;have Ym:=hid (fun(w2:World) (h:Below w.heap.size w w2)=>Zp7 v xs C i w2 (hv.mono h) hb hl hC G hG hi hD);rw[hen]at Ym;have hq:i/C<G:=Nat.div_lt_of_lt_mul (by rw[Nat.mul_comm];exact hi);have hr:i%C<C:=Nat.mod_lt _ (by omega);have Zy:=hid (fun(w2:World) (h:Below w.heap.size w w2)=>Zgg v xs C (i/C) w2 (hv.mono h) hb hl hC.2 (by omega));rw[hrw]at Zy;have hi1:i≤4096:=by have:=Nat.mul_le_mul hG hC.2;omega
 have hdiv:Int.tdiv (i:Int) (C:Int)=((i/C:Nat):Int):=by rw[Int.tdiv_eq_ediv_of_nonneg (by omega)];simp
 have hmod:Int.tmod (i:Int) (C:Int)=((i%C:Nat):Int):=by rw[Int.tmod_eq_emod_of_nonneg (by omega)];simp
 have hc0:((C:Int)==0)=false:=by simp;omega
 have Q9:=hid (Zwh (xs:=xs) (en:=en) (by omega));have YH:Hid (∀ x∈Zam xs en,x<256):=hid (Zfv hb en.off en.len);have UN:Hid (∀ x∈recE xs en,x<256):=hid (Zfv hb (en.off+en.len) en.zl);have HB:=hid hb;have hkk:=Zwe hk;have HDE:=hid (fun(u:Value) (w2:World) (h:Rd w2 u (Zam xs en).length 1 (u8s (Zam xs en)))=>Zn2 kd rows u (Zam xs en) w2 h YH.out (by rw[Q9.out];omega));have HCD:=hid (Zw3 hk hrr (Zam xs en));have JT:Hid (rOk kd rows (Zam xs en)=true→Zd4 kd rows (Zam xs en)=Zhs kd rows (Zam xs en)∧Zgz kd rows (Zam xs en)=rows):=hid (fun h=>by
  have h2:=HCD.out;rw[if_pos h]at h2;exact⟨by unfold Zd4;rw[if_pos h2,Int.toNat_natCast,Int.toNat_natCast],by unfold Zgz;rw[if_pos h2,Int.toNat_natCast]⟩)
 have hrl:(recE xs en).length≤16777216:=by unfold recE;rw[List.length_take];omega
 have Ze:=hid (fun(u:Value) (w2:World) (h:Rd w2 u (recE xs en).length 1 (u8s (recE xs en)))=>(Zux w2 kd rows u (recE xs en) hkk ⟨by omega,by omega⟩ h UN.out hrl).mono (fun e w' hh=>Zyp hkk ⟨by omega,by omega⟩ UN.out hh));have VP:=hid (fun(u:Value) (w2:World) (h:Rd w2 u (Zam xs en).length 1 (u8s (Zam xs en)))=>Zla u (Zam xs en) w2 h YH.out);have Va:Hid (∀ x∈(zE kd rows xs en).bl,x<18446744073709551616):=hid (Zor kd rows UN.out).2.2;have ZT:=hid (fun(B:Option Addr) (bc:Nat) (u:Value) (w2:World) (hu:Rd w2 u rows 3 (Zhs kd rows (Zam xs en))) (hbl:Rd w2 (.slice B (zE kd rows xs en).bl.length bc) (zE kd rows xs en).bl.length 1 (u64s (zE kd rows xs en).bl)) (h3:(zE kd rows xs en).bl.length≤17592186044416) =>
  Zw9 (zE kd rows xs en) B bc kd u rows _ _ _ w2 hu hrr hbl Va.out h3)
 have HF:Hid (Zhp kd rows xs en=(zOkZ kd rows (recE xs en)&&(decide (crc (Zam xs en)=en.sum)&&(rOk kd rows (Zam xs en)&&sndR (zE kd rows xs en) kd rows (cA (rWs rows (Zam xs en))) (cB (rWs rows (Zam xs en)) (rPay kd rows (Zam xs en)).2) (cC (rWs rows (Zam xs en)) (rPay kd rows (Zam xs en)).2))))):=hid rfl;have Yw:Hid (zOkZ kd rows (recE xs en)=true→(zE kd rows xs en).bl.length≤64):=hid (fun h=>by
  unfold zOkZ at h;rw[decide_eq_true_eq]at h;rcases Zfq h.1 with ⟨h1,_⟩ | ⟨_,h2,_⟩
  ·have h3:(zE kd rows xs en).bl=[]:=h1;rw[h3];simp
  ·exact h2)
 have HTW:Hid (rOk kd rows (Zam xs en)=true→2≤(Zam xs en).length):=hid Zz1;have HRP1:=hid (fun(A:Option Addr) (ca:Nat) (w2:World) (h:Rd w2 (.slice A xs.length ca) xs.length 1 (u8s xs)) (hca:ca≠en.off)=>(show Rd w2 (.slice (A.map fun x=>x.add en.off) en.len (ca-en.off)) (Zam xs en).length 1 (u8s (Zam xs en))from Zji h en.off en.len (by omega) hca));have XT:=hid (fun(A:Option Addr) (w2:World) (hca:xs.length≤en.off)=>(show Rd w2 (.slice A 0 0) (Zam xs en).length 1 (u8s (Zam xs en))from Zgp (by omega) hca));have YM:=hid (fun(A:Option Addr) (ca:Nat) (w2:World) (h:Rd w2 (.slice A xs.length ca) xs.length 1 (u8s xs)) (hca:ca≠en.off+en.len)=>(show Rd w2 (.slice (A.map fun x=>x.add (en.off+en.len)) en.zl (ca-(en.off+en.len))) (recE xs en).length 1 (u8s (recE xs en))from Zji h (en.off+en.len) en.zl (by omega) hca));have Yk:=hid (fun(A:Option Addr) (w2:World) (hca:xs.length≤en.off+en.len)=>(show Rd w2 (.slice A 0 0) (recE xs en).length 1 (u8s (recE xs en))from Zgp (by omega) hca));have hkc:16+i%C<xs.length:=by unfold iD at hD;omega
 have hkv:xs.getD (16+i%C) 0=kd:=hkd;have hlt2:en.off<4294967296∧en.len<4294967296∧en.sum<4294967296∧en.zl<4294967296:=by rw[← hen];exact Zvz hb _ _
 have HHV:=hid hv;obtain⟨A,ca,rfl,hlc,hcm,hA⟩:=hv.form;obtain⟨b,o,hAe,hseg⟩:=hA (by omega);have UT:Hid (w.cell? ⟨b,o+(16+i%C),none⟩=some (.int .u8 (kd:Nat))):=hid (by
  have:=hseg.byte (16+i%C) hkc;rw[hkv]at this;exact this)
 have hwk:wrap64 ((kd:Nat):Int)=(kd:Int):=by unfold wrap64;omega
 have ez:Zfs kd rows (recE xs en)=zE kd rows xs en:=rfl;unfold ZGot at Ze;rw[ez]at Ze;unfold ZM.v at Ze ZT;have Q5:=hid (fun(u:Value) (h:(0:Nat)<2)=>trivial);unfold Zxj ckVE at Qm;rw[HF.out]at Qm;have Ya:Hid (∀ w2 u,Rd w2 u (Zam xs en).length 1 (u8s (Zam xs en))→2≤(Zam xs en).length→∃ A2 c2 b2 o2,u=.slice A2 (Zam xs en).length c2∧A2=some ⟨b2,o2,none⟩∧w2.cell? ⟨b2,o2,none⟩=some (.int .u8 ((Zam xs en).getD 0 0:Nat))∧w2.cell? ⟨b2,o2+1,none⟩=some (.int .u8 ((Zam xs en).getD 1 0:Nat))):=hid (fun w2 u h h2=>by
  obtain⟨A2,c2,hu,_,_,hs⟩:=h.form;obtain⟨b2,o2,he2,hseg2⟩:=hs (by omega);exact⟨A2,c2,b2,o2,hu,he2,hseg2.byte 0 (by omega),hseg2.byte 1 (by omega)⟩)
 have Yd:Hid ((Zam xs en).getD 0 0<256∧(Zam xs en).getD 1 0<256):=hid (by
  have h:∀ j,(Zam xs en).getD j 0<256:=fun j=>by
   by_cases hj:j<(Zam xs en).length
   ·have:=YH.out (Zam xs en)[j] (List.getElem_mem hj);simpa [List.getD,List.getElem?_eq_getElem hj]using this
   ·simp[List.getD,List.getElem?_eq_none (l:=Zam xs en) (i:=j) (by omega)]
  exact⟨h 0,h 1⟩)
 generalize zE kd rows xs en=z at *;generalize zOkZ kd rows (recE xs en)=zk at *;generalize Zhs kd rows (Zam xs en)=cl at *;generalize sndR z kd rows (cA (rWs rows (Zam xs en))) (cB (rWs rows (Zam xs en)) (rPay kd rows (Zam xs en)).2) (cC (rWs rows (Zam xs en)) (rPay kd rows (Zam xs en)).2)=sk at *;generalize rOk kd rows (Zam xs en)=dk at *;generalize crc (Zam xs en)=cr at *;generalize recE xs en=rc at *;generalize Zd4 kd rows (Zam xs en)=rcl at *;generalize Zgz kd rows (Zam xs en)=rln at *;generalize Zdv kd rows (Zam xs en)=rcd at *;generalize (Zam xs en).getD 0 0=y0 at *;generalize (Zam xs en).getD 1 0=y1 at *;generalize Zam xs en=bx at *;obtain⟨eo,el,es,el2⟩:=en;simp only at *;obtain⟨qd,hqd⟩:∃ qd,i/C=qd:=⟨_,rfl⟩;obtain⟨qm,hqm⟩:∃ qm,i%C=qm:=⟨_,rfl⟩;rw[hqd]at hdiv Zy hq;rw[hqm]at hmod hr hkc UT;have HAE:=hid hAe;have HBLT:Hid (b<w.heap.size):=hid (World.block_lt_of_cell? w _ UT.out);obtain⟨xn,hxn⟩:∃ xn,xs.length=xn:=⟨_,rfl⟩;have Uz:=hid hxn;rw[hxn]at hkc hfit hl hlc XT Yk Ym Zy ⊢;have XU:=hid (fun(w2:World) (h:Below w.heap.size w w2)=>HHV.out.mono h);obtain⟨l0,l1,l2,l3⟩:=hlt2;clear hv hqd hqm hkd hkv hA hseg hAe hb hen hi hxn HB HHV ez hk hkk hD hrl Q5;obtain⟨p0,hp0⟩:∃ p0,w.heap.size=p0:=⟨_,rfl⟩;have Ye:=hid hp0;go_enter Tryz.func51,Tryz.ntmps51;go_upto_region 1 with fail
 have hf:=Zbs (w:=w) (C:=#[.int .i64 0,.int .i64 0,.int .u32 0,.int .i64 0,.int .i64 0,.bool false,.int .i64 0,.bool false,.int .i64 0,.string ⟨#[]⟩,.bool false,.int .i64 0,.string ⟨#[]⟩,.int .i64 0,.slice none 0 0]) (e:=41);have Qj:=hid hf.1;have Qa:=hid hf.2;clear hf;generalize w.alloc (.cells #[.int .i64 0,.int .i64 0,.int .u32 0,.int .i64 0,.int .i64 0,.bool false,.int .i64 0,.bool false,.int .i64 0,.string ⟨#[]⟩,.bool false,.int .i64 0,.string ⟨#[]⟩,.int .i64 0,.slice none 0 0] 41)=w1 at *;rw[hp0]at Qj;clear hp0;go_upto_region 2 with (go_at_call 90;refine(Ym.out w1 Qa.out).mono ?_;rintro e w2 ⟨rfl,hb2⟩;have Qc:=hid (Zad Qa.out hb2);have Qq:=hid (Qj.out.mono hb2);clear hb2)
 have hkcell:w2.cell? ⟨b,o+(16+qm),none⟩=some (.int .u8 (kd:Nat)):=(Qc.out.cell (p:=⟨b,_,none⟩) (World.block_lt_of_cell? w _ UT.out)).trans UT.out;have hae:=HAE.out;subst hae;obtain⟨q,hq⟩:∃ q,eo+el=q:=⟨_,rfl⟩;obtain⟨q2,hq2⟩:∃ q2,q+el2=q2:=⟨_,rfl⟩;rw[hq]at hfit YM Yk;rw[hq2]at hfit;have hqi:(eo:Int)+(el:Int)=(q:Int):=by omega
 have hqi2:(q:Int)+(el2:Int)=(q2:Int):=by omega
 have hqe:q-eo=el:=by omega
 have hqe2:q2-q=el2:=by omega
 have hle1:eo≤q:=by omega
 have hle2:q≤q2:=by omega
 have ZP:=hid (And.intro Ye.out (And.intro hq hq2));clear hq hq2 UT;go_upto_region 3 with fail
 go_upto_region 4 with (go_at_call 50;refine(Zy.out w2 Qc.out).mono ?_;rintro e w3 ⟨rfl,hw⟩;replace hw:=hw.symm;subst hw)
 clear hkcell hdiv hmod;go_cut [15]from 43 to 48 (fun s15 wc=>∃ D dc,s15=.slice D el dc∧Hid (Rd wc (.slice D el dc) bx.length 1 (u8s bx))∧Hid (∀ a,D=some a→a.block=b)∧wc=w2)
 case first =>
  have hce:ca=eo∨ca≠eo:=by omega
  rcases hce with hce | hce
  ·have hx:xn≤eo:=by omega
   have HP:=hid (XT.out (some ⟨b,o,none⟩) w2 hx);have h0:el=0:=by omega
   subst hce h0;go_wp2_with fail
   all_goals go_meet
   exact⟨_,_,rfl,HP,hid (fun a h=>by injection h with h;rw[← h]),rfl⟩
  ·have HP:Hid (Rd w2 (.slice (some ⟨b,o+eo,none⟩) el (ca-eo)) bx.length 1 (u8s bx)):=hid (by
    have h:=HRP1.out _ _ w2 (XU.out w2 Qc.out) hce;rw[Option.map_some,Zdn]at h;exact h)
   go_wp2_with fail
   all_goals go_meet
   exact⟨_,_,rfl,HP,hid (fun a h=>by injection h with h;rw[← h]),rfl⟩
 case rest =>
 obtain⟨D,dc,rfl,Ve,HDB,hw⟩:=hcut;replace hw:=hw.symm;subst hw;clear HRP1 XT hqe;go_upto_region 6 with (go_at_call 92;refine(HDE.out _ w2 Ve.out).mono ?_;rintro e w3 ⟨u,rfl,hou,hb3⟩;have HOU:=hid hou;have Qk:=hid hb3;clear hou hb3)
 obtain⟨U,cu,rfl⟩:=Zah HOU.out;have Q0:=hid (Zad Qc.out Qk.out);have Xr:=hid (Qq.out.mono Qk.out);have HR4S:=hid Xr.out.lt;have HR2S:=hid Qq.out.lt;have HBX4:=hid (Ve.out.mono Qk.out);clear HDE Qj Qq Zy Ym;have Ua:=hid (XU.out w3 Q0.out);clear XU;go_cut [18,19]from 57 to 71 (fun s18 s19 wc=>∃(zb:Nat) (z9:ZM) (B9:Option Addr) (c9:Nat),s18=.pointer (some ⟨zb,0,none⟩)∧s19=.bool zk∧Hid (w3.heap.size≤zb)∧Hid (Row wc zb 39 (z9.vs (.slice B9 z9.bl.length c9)))∧Hid (wc.ownsRow w3.heap.size 73 1 (.slice B9 z9.bl.length c9) z9.bl.length (u64s z9.bl))∧Hid (zk=true→z9=z)∧Hid (Below w3.heap.size w3 wc))
 case first =>
  have hce:ca=q∨ca≠q:=by omega
  rcases hce with hce | hce
  ·have hx:xn≤q:=by omega
   have HP:=hid (Yk.out (some ⟨b,o,none⟩) w3 hx);have h0:el2=0:=by omega
   subst h0;obtain rfl:q=q2:=by omega
   subst hce;go_wp2_with (go_at_call 93;refine(Ze.out _ w3 HP.out).mono ?_;rintro e w4 ⟨hb4,z9,B9,c9,rfl,ho9,heq9⟩;have Q2:=hid hb4;have Zm:=hid ho9;have UP:=hid heq9;clear hb4 ho9 heq9)
   all_goals go_meet
   have hf:=Zbs (w:=w4) (C:=#[.bool z9.rg,.int .i64 z9.nu,.bool z9.mn.n,.int .i64 z9.mn.i,.string z9.mn.s,.bool z9.mx.n,.int .i64 z9.mx.i,.string z9.mx.s,.int .i64 z9.hs,.slice B9 z9.bl.length c9]) (e:=39);exact⟨_,z9,B9,c9,rfl,rfl,hid Q2.out.size,hid hf.1,hid (Zai Zm.out hf.2),UP,hid (Zad Q2.out hf.2)⟩
  ·have HP:Hid (Rd w3 (.slice (some ⟨b,o+q,none⟩) el2 (ca-q)) rc.length 1 (u8s rc)):=hid (by
    have h:=YM.out _ _ w3 Ua.out hce;rw[Option.map_some,Zdn]at h;exact h)
   go_wp2_with (go_at_call 93;refine(Ze.out _ w3 HP.out).mono ?_;rintro e w4 ⟨hb4,z9,B9,c9,rfl,ho9,heq9⟩;have Q2:=hid hb4;have Zm:=hid ho9;have UP:=hid heq9;clear hb4 ho9 heq9)
   all_goals go_meet
   have hf:=Zbs (w:=w4) (C:=#[.bool z9.rg,.int .i64 z9.nu,.bool z9.mn.n,.int .i64 z9.mn.i,.string z9.mn.s,.bool z9.mx.n,.int .i64 z9.mx.i,.string z9.mx.s,.int .i64 z9.hs,.slice B9 z9.bl.length c9]) (e:=39);exact⟨_,z9,B9,c9,rfl,rfl,hid Q2.out.size,hid hf.1,hid (Zai Zm.out hf.2),UP,hid (Zad Q2.out hf.2)⟩
 case rest =>
 obtain⟨zb,z9,B9,c9,rfl,rfl,XI,Qt,HZW,HZE,Q2⟩:=hcut;have XV:=hid (HBX4.out.mono Q2.out);have HOU5:=hid (Zai HOU.out Q2.out);have JZ:=hid (Xr.out.mono Q2.out);have QT:=hid (Zad Q0.out Q2.out);have US:=hid (Zb5 HZW.out);have HURd:=hid (Zb5 HOU5.out);clear YM Yk Ze Ua HBX4 HOU Xr Q0;go_upto_region 7 with fail
 go_cut [90]from 72 to 90 (fun s90 wd=>s90=.bool (!(zk&&(decide (cr=es)&&(dk&&sk))))∧Hid (Below wc.heap.size wc wd))
 case first =>
  have hcd:=HCD.out;cases dk
  ·obtain rfl:rcd=1:=hcd;go_wp2_with fail
   all_goals go_meet
   exact⟨by simp,hid (Zab _)⟩
  ·obtain rfl:rcd=0:=hcd;cases zk
   ·go_wp2_with fail
    all_goals go_meet
    exact⟨by simp,hid (Zab _)⟩
   ·have hz9:=HZE.out rfl;subst hz9;obtain⟨rfl,rfl⟩:=JT.out rfl;obtain⟨z0,z1,z2,z3,z4,z5,z6,z7,z8,z9⟩:=Za5 Qt.out;by_cases hcr:cr=es
    ·have hne:((cr:Int) != (es:Int))=false:=by simp[hcr]
     have Jt:=hid (ZT.out _ _ _ wc HURd.out US.out (by have:=Yw.out rfl;omega));go_wp2_with (first
      | (go_at_call 17;refine(VP.out _ wc XV.out).mono ?_;rintro e w7 ⟨rfl,hw⟩;replace hw:=hw.symm;subst hw)
      | (go_at_call 94;refine Jt.out.mono ?_;rintro e w8 ⟨rfl,hb8⟩;have HB8:=hid hb8;clear hb8))
     all_goals go_meet
     exact⟨by simp[hcr],HB8⟩
    ·have hne:((cr:Int) != (es:Int))=true:=by simp;omega
     go_wp2_with (go_at_call 17;refine(VP.out _ wc XV.out).mono ?_;rintro e w7 ⟨rfl,hw⟩;replace hw:=hw.symm;subst hw)
     all_goals go_meet
     exact⟨by simp[hcr],hid (Zab _)⟩
 case rest =>
 obtain⟨rfl,QM⟩:=hcut;have Jl:=hid (JZ.out.mono QM.out);have HB8:=hid (Zad QT.out QM.out);have hp0:=Ye.out;have hpl:w.heap.size≤p0:=by omega
 have YP:=hid hpl;clear hp0;obtain⟨ok,hok⟩:∃ ok,(zk&&(decide (cr=es)&&(dk&&sk)))=ok:=⟨_,rfl⟩;have Q7:=hid hok;rw[hok]at Qm ⊢;clear hok hpl;obtain⟨f_0,f_1,f_2,f_3,f_4,f_5,f_6,f_7,f_8,f_9,f_10,f_11,f_12,f_13,f_14⟩:=Zf4 Jl.out;cases ok
 ·obtain⟨y_0,y_1,y_2,y_3,y_4,y_5,y_6,y_7,y_8,y_9,y_10,y_11,y_12,y_13,y_14⟩:=Zch Jl.out;go_wp2_with fail
  change bodyPost _ _ _ _ _ (Zar wc p0 (.int .i64 0) (.int .i64 0) (.int .u32 0) (.int .i64 0) (.int .i64 0) (.bool false) (.int .i64 0) (.bool false) (.int .i64 0) (.string ⟨#[]⟩) (.bool false) (.int .i64 0) (.string ⟨#[]⟩) (.int .i64 0) (.slice none 0 0))
  have R9:=Zci Jl.out (.int .i64 0) (.int .i64 0) (.int .u32 0) (.int .i64 0) (.int .i64 0) (.bool false) (.int .i64 0) (.bool false) (.int .i64 0) (.string ⟨#[]⟩) (.bool false) (.int .i64 0) (.string ⟨#[]⟩) (.int .i64 0) (.slice none 0 0);have hbl:=Zbr HB8.out YP.out (.int .i64 0) (.int .i64 0) (.int .u32 0) (.int .i64 0) (.int .i64 0) (.bool false) (.int .i64 0) (.bool false) (.int .i64 0) (.string ⟨#[]⟩) (.bool false) (.int .i64 0) (.string ⟨#[]⟩) (.int .i64 0) (.slice none 0 0);clear y_0 y_1 y_2 y_3 y_4 y_5 y_6 y_7 y_8 y_9 y_10 y_11 y_12 y_13 y_14 f_0 f_1 f_2 f_3 f_4 f_5 f_6 f_7 f_8 f_9 f_10 f_11 f_12 f_13 f_14;generalize Zar wc p0 (.int .i64 0) (.int .i64 0) (.int .u32 0) (.int .i64 0) (.int .i64 0) (.bool false) (.int .i64 0) (.bool false) (.int .i64 0) (.string ⟨#[]⟩) (.bool false) (.int .i64 0) (.string ⟨#[]⟩) (.int .i64 0) (.slice none 0 0)=wz at *;obtain⟨q_0,q_1,q_2,q_3,q_4,q_5,q_6,q_7,q_8,q_9,q_10,q_11,q_12,q_13,q_14⟩:=Zch R9;refine bodyPost_ret (v:=.tuple #[Zgj,.slice none 0 0,.bool false]) ?_ rfl ?_
  ·simp[results,Tryz.results51,go_sem,q_0,q_1,q_2,q_3,q_4,q_5,q_6,q_7,q_8,q_9,q_10,q_11,q_12,q_13,q_14]
  ·rw[← Qm.out];exact⟨hbl,.inr ⟨by first | rfl | trivial,rfl⟩⟩
 ·have hb4:=Q7.out;simp only[Bool.and_eq_true,decide_eq_true_eq]at hb4;obtain⟨rfl,rfl,rfl,rfl⟩:=hb4;have hz9:z=z9:=(HZE.out rfl).symm;subst hz9;obtain⟨rfl,rfl⟩:=JT.out rfl;have h2:=HTW.out rfl;obtain⟨A2,c2,b2,o2,hue,rfl,k0,k1⟩:=Ya.out wc _ (XV.out.mono QM.out) h2;have hbl2:=Q9.out;injection hue with e1 e2 e3
  subst e1 e3;have hel:2≤el:=by omega
  have hel0:0<el:=by omega
  have hel1:(1:Int)<(el:Int):=by omega
  have hel2:1<el:=by omega
  obtain⟨g0,g1⟩:=Yd.out;have hw0:wrap64 ((y0:Nat):Int)=(y0:Int):=by unfold wrap64;omega
  have hw1:wrap64 ((y1:Nat):Int)=(y1:Int):=by unfold wrap64;omega
  clear f_0 f_1 f_2 f_3 f_4 f_5 f_6 f_7 f_8 f_9 f_10 f_11 f_12 f_13 f_14;go_upto_region 9 with fail
  have hdw:Below wc.heap.size wc wc.drew:=Zag (Zab wc) 1;obtain⟨z0,z1,z2,z3,z4,z5,z6,z7,z8,z9⟩:=Za5 (Qt.out.mono (Zad QM.out hdw));have Zm:=hid (Zai HZW.out (Zad QM.out hdw));have HU9:=hid (Zai HOU5.out (Zad QM.out hdw));have HSZ4:=hid Qk.out.size;have Qu:=hid (Jl.out.mono hdw);have HBD2:Hid (Below w.heap.size w wc.drew):=hid (Zag HB8.out 1);have kd0:=(hdw.cell (p:=⟨b2,o2,none⟩) (World.block_lt_of_cell? wc _ k0)).trans k0;have kd1:=(hdw.cell (p:=⟨b2,o2+1,none⟩) (World.block_lt_of_cell? wc _ k1)).trans k1;have hne1:b2≠p0:=by
   have h1:=HDB.out _ rfl;simp only at h1;have h3:=HBLT.out;have h4:=Ye.out;omega
  have hzb:w3.heap.size≤zb:=XI.out;have hne2:zb≠p0:=by
   have h1:=HR4S.out;omega
  have hck:wc.drew.cell? ⟨b2,o2,none⟩=some (.int .u8 (y0:Nat))∧wc.drew.cell? ⟨b2,o2+1,none⟩=some (.int .u8 (y1:Nat))∧wc.drew.cell? ⟨zb,0,none⟩=some (.bool z.rg)∧wc.drew.cell? ⟨zb,1,none⟩=some (.int .i64 z.nu)∧wc.drew.cell? ⟨zb,2,none⟩=some (.bool z.mn.n)∧wc.drew.cell? ⟨zb,3,none⟩=some (.int .i64 z.mn.i)∧wc.drew.cell? ⟨zb,4,none⟩=some (.string z.mn.s)∧wc.drew.cell? ⟨zb,5,none⟩=some (.bool z.mx.n)∧wc.drew.cell? ⟨zb,6,none⟩=some (.int .i64 z.mx.i)∧wc.drew.cell? ⟨zb,7,none⟩=some (.string z.mx.s)∧wc.drew.cell? ⟨zb,8,none⟩=some (.int .i64 z.hs)∧wc.drew.cell? ⟨zb,9,none⟩=some (.slice B9 z.bl.length c9):=⟨kd0,kd1,z0,z1,z2,z3,z4,z5,z6,z7,z8,z9⟩;have hwi0:=Zjr y0 g0;have hwi1:=Zjr y1 g1;clear e2 hbl2 hzb hdw kd0 kd1 k0 k1 z0 z1 z2 z3 z4 z5 z6 z7 z8 z9;obtain⟨f_0,f_1,f_2,f_3,f_4,f_5,f_6,f_7,f_8,f_9,f_10,f_11,f_12,f_13,f_14⟩:=Zf4 Qu.out;obtain⟨y_0,y_1,y_2,y_3,y_4,y_5,y_6,y_7,y_8,y_9,y_10,y_11,y_12,y_13,y_14⟩:=Zch Qu.out;refine wp_region_held_drew (S:=fun w'=>w'.cell? ⟨b2,o2,none⟩=some (.int .u8 (y0:Nat))∧w'.cell? ⟨b2,o2+1,none⟩=some (.int .u8 (y1:Nat))∧w'.cell? ⟨zb,0,none⟩=some (.bool z.rg)∧w'.cell? ⟨zb,1,none⟩=some (.int .i64 z.nu)∧w'.cell? ⟨zb,2,none⟩=some (.bool z.mn.n)∧w'.cell? ⟨zb,3,none⟩=some (.int .i64 z.mn.i)∧w'.cell? ⟨zb,4,none⟩=some (.string z.mn.s)∧w'.cell? ⟨zb,5,none⟩=some (.bool z.mx.n)∧w'.cell? ⟨zb,6,none⟩=some (.int .i64 z.mx.i)∧w'.cell? ⟨zb,7,none⟩=some (.string z.mx.s)∧w'.cell? ⟨zb,8,none⟩=some (.int .i64 z.hs)∧w'.cell? ⟨zb,9,none⟩=some (.slice B9 z.bl.length c9)) (by kernel_rfl) (by(try dsimp only);first | assumption | first | exact hSET14 _ rfl | with_reducible exact hck | with_reducible exact hHeld) (fun hHeld=>?_);generalize wc.drew=wd at *;refine tkA (v:=?_) 0 ?_ ?_;rotate_left
  ·(intro wS hSw;(try dsimp only at hSw);go_simp;try with_reducible rfl)
  try simp only[Act.put,tk1,tk2,tk3]
  refine tkA (v:=?_) 1 ?_ ?_;rotate_left
  ·(intro wS hSw;(try dsimp only at hSw);go_simp;try with_reducible rfl)
  try simp only[Act.put,tk1,tk2,tk3]
  refine tkA (v:=?_) 2 ?_ ?_;rotate_left
  ·(intro wS hSw;(try dsimp only at hSw);go_simp;try with_reducible rfl)
  try simp only[Act.put,tk1,tk2,tk3]
  refine tkA (v:=?_) 3 ?_ ?_;rotate_left
  ·(intro wS hSw;(try dsimp only at hSw);go_simp;try with_reducible rfl)
  try simp only[Act.put,tk1,tk2,tk3]
  refine tkA (v:=?_) 4 ?_ ?_;rotate_left
  ·(intro wS hSw;(try dsimp only at hSw);go_simp;try with_reducible rfl)
  try simp only[Act.put,tk1,tk2,tk3]
  refine tkA (v:=?_) 5 ?_ ?_;rotate_left
  ·(intro wS hSw;(try dsimp only at hSw);go_simp;try with_reducible rfl)
  try simp only[Act.put,tk1,tk2,tk3]
  refine tkA (v:=?_) 6 ?_ ?_;rotate_left
  ·(intro wS hSw;(try dsimp only at hSw);go_simp;try with_reducible rfl)
  try simp only[Act.put,tk1,tk2,tk3]
  refine tkA (v:=?_) 7 ?_ ?_;rotate_left
  ·(intro wS hSw;(try dsimp only at hSw);go_simp;try with_reducible rfl)
  try simp only[Act.put,tk1,tk2,tk3]
  refine tkA (v:=?_) 8 ?_ ?_;rotate_left
  ·(intro wS hSw;(try dsimp only at hSw);go_simp;try with_reducible rfl)
  try simp only[Act.put,tk1,tk2,tk3]
  refine tkA (v:=?_) 9 ?_ ?_;rotate_left
  ·(intro wS hSw;(try dsimp only at hSw);go_simp;try with_reducible rfl)
  try simp only[Act.put,tk1,tk2,tk3]
  refine tkA (v:=?_) 10 ?_ ?_;rotate_left
  ·(intro wS hSw;(try dsimp only at hSw);go_simp;try with_reducible rfl)
  try simp only[Act.put,tk1,tk2,tk3]
  refine tkA (v:=?_) 11 ?_ ?_;rotate_left
  ·(intro wS hSw;(try dsimp only at hSw);go_simp;try with_reducible rfl)
  try simp only[Act.put,tk1,tk2,tk3]
  refine tkA (v:=?_) 12 ?_ ?_;rotate_left
  ·(intro wS hSw;(try dsimp only at hSw);go_simp;try with_reducible rfl)
  try simp only[Act.put,tk1,tk2,tk3]
  refine tkA (v:=?_) 13 ?_ ?_;rotate_left
  ·(intro wS hSw;(try dsimp only at hSw);go_simp;try with_reducible rfl)
  try simp only[Act.put,tk1,tk2,tk3]
  refine wpAnyH_ready (rs:=[14]) (by kernel_rfl) (by simp) ?_;refine AllReadyH.cons (Zck rfl) (fun K hK=>?_) AllReadyH.nil;go_simp;have P0:=fun i=>Zaf wd p0 b2 i (.int .i64 (eo:Nat)) (.int .i64 (el:Nat)) (.int .u32 (cr:Nat)) (.int .i64 (y0:Nat)) (.int .i64 (y1:Nat)) (.bool z.rg) (.int .i64 z.nu) (.bool z.mn.n) (.int .i64 z.mn.i) (.string z.mn.s) (.bool z.mx.n) (.int .i64 z.mx.i) (.string z.mx.s) (.int .i64 z.hs) (.slice B9 z.bl.length c9) hne1
  have P1:=fun i=>Zaf wd p0 zb i (.int .i64 (eo:Nat)) (.int .i64 (el:Nat)) (.int .u32 (cr:Nat)) (.int .i64 (y0:Nat)) (.int .i64 (y1:Nat)) (.bool z.rg) (.int .i64 z.nu) (.bool z.mn.n) (.int .i64 z.mn.i) (.string z.mn.s) (.bool z.mx.n) (.int .i64 z.mx.i) (.string z.mx.s) (.int .i64 z.hs) (.slice B9 z.bl.length c9) hne2
  have hSET14:∀ ws:World,ws=Zar wd p0 (.int .i64 (eo:Nat)) (.int .i64 (el:Nat)) (.int .u32 (cr:Nat)) (.int .i64 (y0:Nat)) (.int .i64 (y1:Nat)) (.bool z.rg) (.int .i64 z.nu) (.bool z.mn.n) (.int .i64 z.mn.i) (.string z.mn.s) (.bool z.mx.n) (.int .i64 z.mx.i) (.string z.mx.s) (.int .i64 z.hs) (.slice B9 z.bl.length c9)→(ws.cell? ⟨b2,o2,none⟩=some (.int .u8 (y0:Nat))∧ws.cell? ⟨b2,o2+1,none⟩=some (.int .u8 (y1:Nat))∧ws.cell? ⟨zb,0,none⟩=some (.bool z.rg)∧ws.cell? ⟨zb,1,none⟩=some (.int .i64 z.nu)∧ws.cell? ⟨zb,2,none⟩=some (.bool z.mn.n)∧ws.cell? ⟨zb,3,none⟩=some (.int .i64 z.mn.i)∧ws.cell? ⟨zb,4,none⟩=some (.string z.mn.s)∧ws.cell? ⟨zb,5,none⟩=some (.bool z.mx.n)∧ws.cell? ⟨zb,6,none⟩=some (.int .i64 z.mx.i)∧ws.cell? ⟨zb,7,none⟩=some (.string z.mx.s)∧ws.cell? ⟨zb,8,none⟩=some (.int .i64 z.hs)∧ws.cell? ⟨zb,9,none⟩=some (.slice B9 z.bl.length c9)):=by
   rintro ws rfl;exact⟨(P0 o2).trans hHeld.1,(P0 (o2+1)).trans hHeld.2.1,(P1 0).trans hHeld.2.2.1,(P1 1).trans hHeld.2.2.2.1,(P1 2).trans hHeld.2.2.2.2.1,(P1 3).trans hHeld.2.2.2.2.2.1,(P1 4).trans hHeld.2.2.2.2.2.2.1,(P1 5).trans hHeld.2.2.2.2.2.2.2.1,(P1 6).trans hHeld.2.2.2.2.2.2.2.2.1,(P1 7).trans hHeld.2.2.2.2.2.2.2.2.2.1,(P1 8).trans hHeld.2.2.2.2.2.2.2.2.2.2.1,(P1 9).trans hHeld.2.2.2.2.2.2.2.2.2.2.2⟩
  clear P0 P1;refine hK.out _ _ ?_ (fun hHeld2=>?_)
  ·(try dsimp only)
   first | with_reducible assumption | (first | exact hSET14 _ rfl | with_reducible exact hck | with_reducible exact hHeld)
  clear hK hHeld;clear K;have hHeld:=hHeld2;clear hHeld2
  try simp only[Act.put,tk1,tk2,tk3]
  refine tkA (v:=?_) 15 ?_ ?_;rotate_left
  ·(intro wS hSw;(try dsimp only at hSw);go_simp;try with_reducible rfl)
  try simp only[Act.put,tk1,tk2,tk3]
  refine tkA (v:=?_) 16 ?_ ?_;rotate_left
  ·(intro wS hSw;(try dsimp only at hSw);go_simp;try with_reducible rfl)
  try simp only[Act.put,tk1,tk2,tk3]
  refine wpAnyH_done (by kernel_rfl) ?_ _;clear hHeld;go_wp2_with fail
  change bodyPost _ _ _ _ _ (Zar wd p0 (.int .i64 (eo:Nat)) (.int .i64 (el:Nat)) (.int .u32 (cr:Nat)) (.int .i64 (y0:Nat)) (.int .i64 (y1:Nat)) (.bool z.rg) (.int .i64 z.nu) (.bool z.mn.n) (.int .i64 z.mn.i) (.string z.mn.s) (.bool z.mx.n) (.int .i64 z.mx.i) (.string z.mx.s) (.int .i64 z.hs) (.slice B9 z.bl.length c9))
  have R9:=Zci Qu.out (.int .i64 (eo:Nat)) (.int .i64 (el:Nat)) (.int .u32 (cr:Nat)) (.int .i64 (y0:Nat)) (.int .i64 (y1:Nat)) (.bool z.rg) (.int .i64 z.nu) (.bool z.mn.n) (.int .i64 z.mn.i) (.string z.mn.s) (.bool z.mx.n) (.int .i64 z.mx.i) (.string z.mx.s) (.int .i64 z.hs) (.slice B9 z.bl.length c9);have hbl:=Zbr HBD2.out YP.out (.int .i64 (eo:Nat)) (.int .i64 (el:Nat)) (.int .u32 (cr:Nat)) (.int .i64 (y0:Nat)) (.int .i64 (y1:Nat)) (.bool z.rg) (.int .i64 z.nu) (.bool z.mn.n) (.int .i64 z.mn.i) (.string z.mn.s) (.bool z.mx.n) (.int .i64 z.mx.i) (.string z.mx.s) (.int .i64 z.hs) (.slice B9 z.bl.length c9);have hch:=Zln wd p0 (.int .i64 (eo:Nat)) (.int .i64 (el:Nat)) (.int .u32 (cr:Nat)) (.int .i64 (y0:Nat)) (.int .i64 (y1:Nat)) (.bool z.rg) (.int .i64 z.nu) (.bool z.mn.n) (.int .i64 z.mn.i) (.string z.mn.s) (.bool z.mx.n) (.int .i64 z.mx.i) (.string z.mx.s) (.int .i64 z.hs) (.slice B9 z.bl.length c9);have HO9b:=hid (Zcl Zm.out hch (fun k hk=>by have h1:=(Zm.out.lt k hk).1;have h2:=HR4S.out;omega));have HU9b:=hid (Zcl HU9.out hch (fun k hk=>by have h1:=(HU9.out.lt k hk).1;have h2:=HR2S.out;omega));clear hck f_0 f_1 f_2 f_3 f_4 f_5 f_6 f_7 f_8 f_9 f_10 f_11 f_12 f_13 f_14 y_0 y_1 y_2 y_3 y_4 y_5 y_6 y_7 y_8 y_9 y_10 y_11 y_12 y_13 y_14 hch;generalize Zar wd p0 (.int .i64 (eo:Nat)) (.int .i64 (el:Nat)) (.int .u32 (cr:Nat)) (.int .i64 (y0:Nat)) (.int .i64 (y1:Nat)) (.bool z.rg) (.int .i64 z.nu) (.bool z.mn.n) (.int .i64 z.mn.i) (.string z.mn.s) (.bool z.mx.n) (.int .i64 z.mx.i) (.string z.mx.s) (.int .i64 z.hs) (.slice B9 z.bl.length c9)=wz at *;obtain⟨q_0,q_1,q_2,q_3,q_4,q_5,q_6,q_7,q_8,q_9,q_10,q_11,q_12,q_13,q_14⟩:=Zch R9;refine bodyPost_ret (v:=.tuple #[.agg (ckVs eo el cr y0 y1 z++[Value.slice B9 z.bl.length c9]).toArray,.slice U rln cu,.bool true]) ?_ rfl ?_
  ·simp[results,Tryz.results51,go_sem,q_0,q_1,q_2,q_3,q_4,q_5,q_6,q_7,q_8,q_9,q_10,q_11,q_12,q_13,q_14];rfl
  ·rw[← Qm.out];exact⟨hbl,.inl ⟨by first | rfl | trivial,B9,c9,_,rfl,Za7 HO9b.out (by have:=HSZ4.out;have:=Qc.out.size;omega),Za7 HU9b.out Qc.out.size⟩⟩
end Go.Proofs.YtmcjknjlihgihaaGreatDoor
