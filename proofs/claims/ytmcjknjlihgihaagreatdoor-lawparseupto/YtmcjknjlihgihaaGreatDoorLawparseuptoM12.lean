/- The plain answer's Rank; bitvec's setPlaces and Indexes. -/
import Derived.Test.YtmcjknjlihgihaaGreatDoorLawparseuptoM11
set_option linter.unusedVariables false
set_option linter.unusedSimpArgs false
set_option linter.unnecessarySimpa false
set_option maxRecDepth 100000
namespace Go.Proofs.YtmcjknjlihgihaaGreatDoor
open Go.RowKit
def lenV:Value→Nat
 | .slice _ n _=>n
 | _=>0
theorem Zoe (m p:Nat) (xs:List Nat) (h:Zav 4 m p xs.length=true):(numL 4 (tk (4*m) (xs.drop p))).length=m:=by
 unfold Zav at h;simp only[decide_eq_true_eq]at h;rw[Zan];unfold tk;rw[if_pos (by rw[List.length_drop];exact h.2),List.length_take,List.length_drop,Nat.min_eq_left (by omega)];omega
theorem Zic {α : Type} (n:Nat) (x : α):List.replicate (n+1) x=List.replicate n x++[x]:=by
 rw[List.replicate_succ']
set_option maxHeartbeats 16000000 in
theorem Zvb (kd:Nat) (hkd:kd=1∨kd=2) (v:Value) (xs:List Nat) (p k:Nat) (w:World) (hx:Rd w v xs.length 1 (u8s xs)) (hb:∀ x∈xs,x<256) (hl:xs.length≤16777216) (hp:p≤16777216) (hk:k≤65536) :
  Calls Tryz.prog 164 #[v,.int .i64 p,.int .i64 kd,.int .i64 k] w fun e w'=>PAns w w' e (Zd5 kd k p xs):=by
 have QV:=hid (Zcz v xs p 4 w hx hb hl (by omega) (by omega));have Zs:=hid (fun(d:Nat) (hd:d≤65536)=>by
  have h:=Zcn v xs (p+4) 4 d w hx hb hl (.inl rfl) (by omega) (by omega);rw[show ((p+4:Nat):Int)=(p:Int)+4 by omega]at h;exact h)
 have V1:=hid (fun(d nx:Nat) (hd:d≤65536) (hn:nx≤33554432) (w2:World) (hbl:Below w.heap.size w w2)=>Zkj kd hkd v xs nx d w2 (hx.mono hbl) hb hl (by omega) (by omega));have YG:=hid (fun m nx=>Zeo kd m nx xs);obtain⟨A,ca,rfl,_,_,_⟩:=hx.form;clear hx;obtain⟨R,hR⟩:∃ R,Zd5 kd k p xs=R:=⟨_,rfl⟩;rw[hR];unfold Zd5 dN at hR;obtain⟨ok,hok⟩:∃ ok,Zb8 4 p xs.length=ok:=⟨_,rfl⟩;rw[hok]at hR QV;have hwl:L.wordOf 8 ((xs.drop p).take 4)<4294967296:=Zb0 _ (fun x hx=>hb x (List.mem_of_mem_drop (List.mem_of_mem_take hx))) (by rw[List.length_take];omega);generalize L.wordOf 8 ((xs.drop p).take 4)=d0 at *;have HR:=hid hR;clear hR hok;cases ok
 ·have Q5:=hid (show R=(false,[]) by rw[← HR.out];simp);clear HR;simp only[Bool.false_eq_true,if_false]at QV;go_enter Tryz.func164,Tryz.ntmps164;go_wp2_with (go_at_call 91;refine QV.out.mono ?_;rintro e w1 ⟨rfl,hw⟩;replace hw:=hw.symm;subst hw)
  go_ret2
  exact Zc4 Q5.out (Zab w)
 simp only[if_true]at QV HR;by_cases hdk:k<d0
 ·have Q5:=hid (show R=(false,[]) by rw[← HR.out,if_pos (.inr hdk)]);clear HR;have hdi:(d0:Int) > (k:Int):=by omega
  go_enter Tryz.func164,Tryz.ntmps164;go_wp2_with (go_at_call 91;refine QV.out.mono ?_;rintro e w1 ⟨rfl,hw⟩;replace hw:=hw.symm;subst hw)
  go_ret2
  exact Zc4 Q5.out (Zab w)
 have hd0:d0≤65536:=by omega
 have hdi:¬ (d0:Int) > (k:Int):=by omega
 rw[if_neg (by simp;omega)]at HR;have Z0:=hid (Zs.out d0 hd0);have HEL:=hid (Zoe d0 (p+4) xs);have hev:∀ x∈numL 4 (tk (4*d0) (xs.drop (p+4))),x<4294967296:=Zod (Zdh (fun x h=>hb x (List.mem_of_mem_drop h)));have HEV:=hid hev;obtain⟨nx,hnx⟩:∃ nx,p+4+4*d0=nx:=⟨_,rfl⟩;have hnl:nx≤33554432:=by omega
 rw[hnx]at HR Z0;have YN:=hid (V1.out d0 nx hd0 hnl);have Jp:=hid (YG.out d0 nx);obtain⟨no,hno⟩:∃ no,Zav 4 d0 (p+4) xs.length=no:=⟨_,rfl⟩;rw[hno]at HR Z0 HEL;obtain⟨lo,hlo⟩:∃ lo,Zbw kd d0 nx xs=lo:=⟨_,rfl⟩;rw[hlo]at HR YN Jp;clear Zs V1 YG hno hlo hnx hev;generalize numL 4 (tk (4*d0) (xs.drop (p+4)))=ends at *;generalize Zdo kd d0 nx xs=heads at *;generalize Zbz kd d0 nx xs=nx2 at *;go_enter Tryz.func164,Tryz.ntmps164;cases no
 ·have Q5:=hid (show R=(false,[]) by rw[← HR.out];simp);clear HR;simp only[Bool.false_eq_true,if_false]at Z0;go_wp2_with (first
   | (go_at_call 91;refine QV.out.mono ?_;rintro e w1 ⟨rfl,hw⟩;replace hw:=hw.symm;subst hw)
   | (go_at_call 89;refine Z0.out.mono ?_;rintro e w1 ⟨u,rfl,ho1,hb1⟩;have Qa:=hid hb1;clear ho1 hb1))
  go_ret2
  exact Zc4 Q5.out Qa.out
 simp only[Bool.true_eq_false,if_false,if_true]at Z0 HR;have hel:=HEL.out rfl;cases lo
 ·have Q5:=hid (show R=(false,[]) by rw[← HR.out];simp);clear HR;go_wp2_with (first
   | (go_at_call 91;refine QV.out.mono ?_;rintro e w1 ⟨rfl,hw⟩;replace hw:=hw.symm;subst hw)
   | (go_at_call 89;refine Z0.out.mono ?_;rintro e w1 ⟨u,rfl,ho1,hb1⟩;have Qa:=hid hb1;clear ho1 hb1)
   | (go_at_call 166;refine(YN.out w1 Qa.out).mono ?_;rintro e w2 ⟨u2,rfl,ho2,hb2⟩;have Qb:=hid (Zac Qa.out hb2);clear ho2 hb2))
  go_ret2
  exact Zc4 Q5.out Qb.out
 by_cases hn2:nx2=xs.length
 rotate_left
 ·have Q5:=hid (show R=(false,[]) by rw[← HR.out,if_pos (.inr hn2)]);clear HR;have hne:((nx2:Int) != (xs.length:Int))=true:=by simp;omega
  go_wp2_with (first
   | (go_at_call 91;refine QV.out.mono ?_;rintro e w1 ⟨rfl,hw⟩;replace hw:=hw.symm;subst hw)
   | (go_at_call 89;refine Z0.out.mono ?_;rintro e w1 ⟨u,rfl,ho1,hb1⟩;have Qa:=hid hb1;clear ho1 hb1)
   | (go_at_call 166;refine(YN.out w1 Qa.out).mono ?_;rintro e w2 ⟨u2,rfl,ho2,hb2⟩;have Qb:=hid (Zac Qa.out hb2);clear ho2 hb2))
  go_ret2
  exact Zc4 Q5.out Qb.out
 rw[if_neg (by simp;exact hn2)]at HR;have hne:((nx2:Int) != (xs.length:Int))=false:=by simp;omega
 have hdl:heads.length=d0:=Jp.out rfl hkd;clear hn2 HEL Jp;go_upto_region 10 with (first
   | (go_at_call 91;refine QV.out.mono ?_;rintro e w1 ⟨rfl,hw⟩;replace hw:=hw.symm;subst hw)
   | (go_at_call 89;refine Z0.out.mono ?_;rintro e w1 ⟨u1,rfl,ho1,hb1⟩;have Qa:=hid hb1;have Y7:=hid (Zba ho1);obtain⟨E,ce,rfl,hce1,hce2,_,_⟩:=Zao ho1;clear ho1 hb1)
   | (go_at_call 166;refine(YN.out w1 Qa.out).mono ?_;rintro e w2 ⟨u2,rfl,ho2,hb2⟩;have Qb:=hid (Zac Qa.out hb2);have HRE:=hid (Y7.out.mono hb2);have Qx:=hid (Zon ho2);obtain⟨D,cd,rfl⟩:=Zb1 ho2;clear ho2 hb2))
 rw[hel]at HRE;rw[hdl]at Qx;have JG:=hid hdl;have Yr:=hid hel;have hsz2:=Qb.out.size;clear QV Z0 YN Y7 Qa hdl hel hce2 hne;go_wp2_with fail
 go_loopw [16,65] (fun s i wz=>∃ t l:Nat,t≤d0∧i=.int .i64 t∧l≤k∧Hid (Za4 0 (nI (ends.take t))=some (l:Int))∧Hid (∀ u,u+1<t→eqP (heads.getD u dfP) (heads.getD (u+1) dfP)=false)∧Hid (wz.ownsRow w2.heap.size 36 3 s l (Zdm (Zgy heads ends t)))∧Hid (Below w2.heap.size w2 wz)) (fun _ i _=>d0-(intOf i).toNat)
 case atStart=>exact⟨0,0,by omega,rfl,by omega,hid rfl,hid (fun u h=>absurd h (by omega)),hid ⟨by simp[Zdm,Zgy],.inl ⟨rfl,rfl⟩⟩,hid (Zab w2)⟩
 case round =>
  obtain⟨t,l,ht,rfl,hlk,Xm,Qs,Qi,Ql⟩:=hrel;obtain⟨A2,c2,rfl⟩:=Zb1 Qi.out;have hszw:=Ql.out.size;have Zz:=hid (Below.then' Qb.out Ql.out hsz2);by_cases hlt:t<d0
  ·obtain⟨eb,eo,rfl,hs⟩:=(HRE.out.mono Ql.out).atW (by omega);have e1:=hs t (by rw[Yr.out];exact hlt);have hx32:=HEV.out (ends.getD t 0) (by simp[List.getD,List.getElem?_eq_getElem (show t<ends.length by rw[Yr.out];exact hlt)]);have QC:=hid (Ziv ends t l (by rw[Yr.out];exact hlt) Xm.out);have JD:=hid (Zf1 heads ends t l (by rw[Yr.out];omega) Xm.out);have U2:Hid (Zgy heads ends (t+1)=Zgy heads ends t++List.replicate (ends.getD t 0-(Zgy heads ends t).length) (heads.getD t dfP)):=hid rfl;rw[JD.out]at U2;have HN1:=hid (Zsl ends (t+1) (k:Int));have Zo:=hid (Zs4 ends (t+1) (k:Int));clear hs;generalize ends.getD t 0=en at *;by_cases hb1:en≤l
   ·have Q5:=hid (show R=(false,[]) by rw[← HR.out,if_pos (.inr (HN1.out (by rw[QC.out,if_pos hb1])))]);have i1:(en:Int)≤(l:Int):=by omega
    clear QC HN1 Zo U2 JD;go_upto_region 14 with fail
    go_quiet (fail)
    go_wp2_with fail
    go_ret2
    exact Zc4 Q5.out (Zaf Zz.out _)
   have i1:¬ (en:Int)≤(l:Int):=by omega
   have i1d:decide ((en:Int)≤(l:Int))=false:=decide_eq_false i1;rw[if_neg hb1]at QC;by_cases hb2:k<en
   ·have Q5:=hid (show R=(false,[]) by rw[← HR.out,if_pos (.inr (Zo.out _ QC.out (by omega)))]);have i2:(en:Int) > (k:Int):=by omega
    clear QC HN1 Zo U2 JD;go_upto_region 14 with fail
    go_quiet (fail)
    go_wp2_with fail
    go_ret2
    exact Zc4 Q5.out (Zaf Zz.out _)
   have i2:¬ (en:Int) > (k:Int):=by omega
   have i2d:decide ((en:Int) > (k:Int))=false:=decide_eq_false i2;clear HN1 Zo;have Zt:Hid (t=0∨eqP (heads.getD (t-1) dfP) (heads.getD t dfP)=false→∀ u,u+1<t+1→eqP (heads.getD u dfP) (heads.getD (u+1) dfP)=false):=hid (fun h u hu=>by
    by_cases hut:u+1=t
    ·have h:=h.resolve_left (by omega);rw[show t-1=u by omega]at h;rw[hut];exact h
    ·exact Qs.out u (by omega))
   have ZP:Hid (0<t→eqP (heads.getD (t-1) dfP) (heads.getD t dfP)=true→R=(false,[])):=hid (fun h0 h=>by
    have hnp:Zbd eqP heads=false:=by
     rw[← Bool.not_eq_true,Zca eqP dfP];intro h2;have:=h2 (t-1) (by rw[JG.out];omega);rw[show t-1+1=t by omega,h]at this;cases this
    rw[← HR.out,if_pos (.inl hnp)])
   have HXO:=hid (fun(w2:World)=>fun a b=>Zlx a b w2);obtain⟨X,hX⟩:∃ X,heads.getD t dfP=X:=⟨_,rfl⟩;have HX:=hid hX;rw[hX]at U2 Zt ZP;obtain⟨xi,xs'⟩:=X;clear hX;rcases Nat.eq_zero_or_pos t with ht0 | ht0
   ·subst ht0;have Xv:=hid (Zt.out (.inl rfl));clear Zt ZP HXO JD;obtain⟨b,o,hDD,hcells⟩:=(Qx.out.mono Ql.out).atP (by omega);subst hDD;clear hcells;have i3d:decide ((0:Int) > 0)=false:=by decide
    rw[Nat.add_zero]at e1;go_upto_region 14 with fail
    go_quiet (fail)
    have YB:Hid (Below wr.heap.size wr (wr.drewN nq)):=hid (Zaf (Zab wr) nq);generalize wr.drewN nq=wq at *;go_wp2_with fail
    have Xw:=hid (Zmy Qi.out YB.out);have Xx:=hid (Below.then' Ql.out YB.out Ql.out.size);go_loopw [16] (fun s wz=>∃ c:Nat,l≤c∧c≤en∧Hid (wz.ownsRow w2.heap.size 36 3 s c (Zdm (Zgy heads ends 0++List.replicate (c-l) (xi,xs'))))∧Hid (Below w2.heap.size w2 wz)) (fun s _=>en-lenV s)
    case atStart=>exact⟨l,Nat.le_refl _,by omega,hid (by simpa using Xw.out),Xx⟩
    case round =>
     obtain⟨c,hc1,hc2,Xy,QE⟩:=hrel;obtain⟨A3,c3,rfl⟩:=Zb1 Xy.out;have hszc:=QE.out.size;by_cases hce:c<en
     ·obtain⟨b',o',he,hcells2⟩:=(Qx.out.mono QE.out).atP (by omega);cases he;obtain⟨l0',l1',l2'⟩:=hcells2 0 (by rw[JG.out];omega);rw[HX.out]at l1' l2';clear hcells2;simp only[Nat.zero_mul,Nat.add_zero]at l0' l1' l2';have i5:(c:Int)<(en:Int):=by omega
      go_wp2_with (at_builtin;refine Zb4 rfl (.tmp 103) (.tmp 108) rfl 36 [.bool false,.int .i64 0,.string ByteArray.empty] 32 Tryz.underlying78 Tryz.infoCell rfl rfl rfl Xy.out hszc (by intro u hu;simp at hu;rcases hu with rfl | rfl | rfl<;>rfl) (by unfold maxLen;omega) (by omega) ?_;intro v' w' ho hb3)
      go_roundw
      case rel =>
       have Yz:=hid ho;rw[← Zi3 _ (xi,xs'),List.append_assoc,← Zic,show c-l+1=c+1-l by omega]at Yz;have h1:l≤c+1:=by omega
       have h2:c+1≤en:=by omega
       first | exact⟨c+1,h1,h2,Yz,hid (Below.trans QE.out hb3)⟩ | ((repeat apply Exists.intro);exact⟨⟨c+1,h1,h2,Yz,hid (Below.trans QE.out hb3)⟩,rfl⟩)
      case measure =>
       obtain⟨A4,c4,rfl⟩:=Zb1 ho;simp[lenV];omega
     ·obtain rfl:c=en:=by omega
      have i5:¬ (c:Int)<(c:Int):=by omega
      go_wp2_with fail
      go_roundw
      case rel=>exact⟨0+1,c,by omega,by go_num,by omega,QC,Xv,hid (by rw[U2.out];exact Xy.out),QE⟩
      case measure=>simp[intOf];omega
   ·obtain⟨u,hu⟩:∃ u,t=u+1:=⟨t-1,by omega⟩;have hu1:t-1=u:=by omega
    rw[hu1]at Zt ZP;obtain⟨b,o,hDD,hcells⟩:=(Qx.out.mono Ql.out).atP (by omega);subst hDD;obtain⟨m0,m1,m2⟩:=hcells u (by rw[JG.out];omega);obtain⟨l0,l1,l2⟩:=hcells t (by rw[JG.out];omega);rw[HX.out]at l1 l2;have U1:=hid (fun(w2:World)=>Zlx (heads.getD u dfP) (xi,xs') w2);have HG:Hid (eqP (heads.getD u dfP) (xi,xs')=decide (ordP (heads.getD u dfP) (xi,xs')=0)):=hid rfl;clear hcells hu1 HXO JD;generalize heads.getD u dfP=Y at *;obtain⟨yi,ys'⟩:=Y;simp only at m1 m2 l1 l2 U1;generalize ordP (yi,ys') (xi,xs')=od at *;generalize eqP (yi,ys') (xi,xs')=ge at *;have i0:(0:Int)≤(u:Int):=by omega
    have i1':(u:Int)<(d0:Int):=by omega
    have i2':(t:Int)<(d0:Int):=by omega
    have i3:(t:Int) > 0:=by omega
    have ia:(t:Int)-1=(u:Int):=by omega
    have iw:IntKind.i64.wrap ((t:Int)-1)=(u:Int):=by rw[ia,IntKind.wrap_i64];omega
    have iw2:IntKind.i64.wrap (u:Int)=(u:Int):=by rw[IntKind.wrap_i64];omega
    have iwe:IntKind.i64.wrap (en:Int)=(en:Int):=by rw[IntKind.wrap_i64];omega
    have hbl:b<wr.heap.size:=World.block_lt_of_cell? wr _ m0;clear hu;go_upto_region 14 with fail
    go_region_held3 (fun w'=>w'.cell? ⟨b,o+u*3,none⟩=some (.bool false)∧w'.cell? ⟨b,o+u*3+1,none⟩=some (.int .i64 yi)∧w'.cell? ⟨b,o+u*3+2,none⟩=some (.string ys')∧w'.cell? ⟨b,o+t*3,none⟩=some (.bool false)∧w'.cell? ⟨b,o+t*3+1,none⟩=some (.int .i64 xi)∧w'.cell? ⟨b,o+t*3+2,none⟩=some (.string xs')) (go_keep)
     (first | (go_at_call 119;refine(U1.out _).mono ?_;rintro e w3 ⟨rfl,hb3⟩;have YB:=hid ((Zaf (Zab wr) 1).trans hb3);have q0:=(hb3.cell (p:=⟨b,o+u*3,none⟩) hbl).trans m0;have q1:=(hb3.cell (p:=⟨b,o+u*3+1,none⟩) hbl).trans m1;have q2:=(hb3.cell (p:=⟨b,o+u*3+2,none⟩) hbl).trans m2;have q3:=(hb3.cell (p:=⟨b,o+t*3,none⟩) hbl).trans l0;have q4:=(hb3.cell (p:=⟨b,o+t*3+1,none⟩) hbl).trans l1;have q5:=(hb3.cell (p:=⟨b,o+t*3+2,none⟩) hbl).trans l2;clear hb3))
    by_cases hod:od=0
    ·have Q5:=hid (ZP.out ht0 (by rw[HG.out];simp[hod]));have ho2:(od==0)=true:=by simp[hod]
     go_wp2_with fail
     go_ret2
     exact Zc4 Q5.out (Below.then' Qb.out (Below.then' Ql.out YB.out Ql.out.size) hsz2)
    have ho2:(od==0)=false:=by simp[hod]
    have Xv:=hid (Zt.out (.inr (by rw[HG.out];simp[hod])));clear m0 m1 m2 l0 l1 l2 q0 q1 q2 q3 q4 q5 Zt ZP;generalize w3=wq at *;rw[ho2];go_wp2_with fail
    have Xw:=hid (Zmy Qi.out YB.out);have Xx:=hid (Below.then' Ql.out YB.out Ql.out.size);go_loopw [16] (fun s wz=>∃ c:Nat,l≤c∧c≤en∧Hid (wz.ownsRow w2.heap.size 36 3 s c (Zdm (Zgy heads ends t++List.replicate (c-l) (xi,xs'))))∧Hid (Below w2.heap.size w2 wz)) (fun s _=>en-lenV s)
    case atStart=>exact⟨l,Nat.le_refl _,by omega,hid (by simpa using Xw.out),Xx⟩
    case round =>
     obtain⟨c,hc1,hc2,Xy,QE⟩:=hrel;obtain⟨A3,c3,rfl⟩:=Zb1 Xy.out;have hszc:=QE.out.size;by_cases hce:c<en
     ·obtain⟨b',o',he,hcells2⟩:=(Qx.out.mono QE.out).atP (by omega);cases he;obtain⟨l0',l1',l2'⟩:=hcells2 t (by rw[JG.out];omega);rw[HX.out]at l1' l2';clear hcells2;simp only at l1' l2';have i5:(c:Int)<(en:Int):=by omega
      go_wp2_with (at_builtin;refine Zb4 rfl (.tmp 103) (.tmp 108) rfl 36 [.bool false,.int .i64 0,.string ByteArray.empty] 32 Tryz.underlying78 Tryz.infoCell rfl rfl rfl Xy.out hszc (by intro u hu;simp at hu;rcases hu with rfl | rfl | rfl<;>rfl) (by unfold maxLen;omega) (by omega) ?_;intro v' w' ho hb3)
      go_roundw
      case rel =>
       have Yz:=hid ho;rw[← Zi3 _ (xi,xs'),List.append_assoc,← Zic,show c-l+1=c+1-l by omega]at Yz;have h1:l≤c+1:=by omega
       have h2:c+1≤en:=by omega
       first | exact⟨c+1,h1,h2,Yz,hid (Below.trans QE.out hb3)⟩ | ((repeat apply Exists.intro);exact⟨⟨c+1,h1,h2,Yz,hid (Below.trans QE.out hb3)⟩,rfl⟩)
      case measure =>
       obtain⟨A4,c4,rfl⟩:=Zb1 ho;simp[lenV];omega
     ·obtain rfl:c=en:=by omega
      have i5:¬ (c:Int)<(c:Int):=by omega
      go_wp2_with fail
      go_roundw
      case rel=>exact⟨t+1,c,by omega,by go_num,by omega,QC,Xv,hid (by rw[U2.out];exact Xy.out),QE⟩
      case measure=>simp[intOf];omega
  ·obtain rfl:t=d0:=by omega
   have hup:=Xm.out;rw[show ends.take t=ends by rw[← Yr.out,List.take_length]]at hup;have hnp:Zbd eqP heads=true:=(Zca eqP dfP heads).2 (fun z hz=>Qs.out z (by rw[← JG.out];exact hz));have Qo:=hid (show R=if l=k then (true,Zgy heads ends t)else (false,[]) by
    rw[← HR.out,hnp];unfold Za1;rw[hup];by_cases hlk2:l=k
    ·subst hlk2;simp
    ·rw[if_neg hlk2,if_pos];simp;omega)
   have JD:=hid (Zf1 heads ends t l (by rw[Yr.out];exact Nat.le_refl _) Xm.out);clear hup hnp HR;by_cases hlk2:l=k
   ·subst hlk2;rw[if_pos rfl]at Qo;have he:((l:Int)==(l:Int))=true:=by simp
    go_wp2_with fail
    go_ret2
    rw[Qo.out];refine⟨_,rfl,⟨_,_,_,rfl⟩,fun _=>?_,Zz.out⟩;simp only;rw[JD.out];exact Ze2 Qi.out hsz2
   ·rw[if_neg hlk2]at Qo;have he:((l:Int)==(k:Int))=false:=by simp;omega
    go_wp2_with fail
    go_ret2
    rw[Qo.out];exact⟨_,rfl,⟨_,_,_,rfl⟩,fun h=>by simp at h,Zz.out⟩
def payR (kd cd wd k p:Nat) (xs:List Nat):Bool×List PV :=
 if cd=2 then Zev kd wd k p xs
 else if cd=3 then ((Zd5 kd k p xs).1&&decide (wd=0),(Zd5 kd k p xs).2)
 else if cd=4 then (if Zb8 8 p xs.length=false∨64<wd∨¬ kd=1 then (false,[])else
  (fits (Zcf (L.wordOf 8 ((xs.drop p).take 8))) (Zbm wd k (p+8) xs)&&Zbx wd k (p+8) xs,(Zi9 (Zcf (L.wordOf 8 ((xs.drop p).take 8))) (Zbm wd k (p+8) xs)).map pI))
 else if cd=5 then (if 64<wd∨¬ kd=1 then (false,[])else (fits 0 (Zbm wd k p xs)&&Zbx wd k p xs,(Zi9 0 (Zbm wd k p xs)).map pI))
 else (Zbw kd k p xs&&decide (Zbz kd k p xs=xs.length)&&decide (cd=1)&&decide (wd=0),Zdo kd k p xs)
set_option maxHeartbeats 8000000 in
theorem Zo4 (kd:Nat) (hkd:kd=1∨kd=2) (v:Value) (xs:List Nat) (p cd wd k:Nat) (w:World) (hx:Rd w v xs.length 1 (u8s xs)) (hb:∀ x∈xs,x<256) (hl:xs.length≤16777216) (hp:p≤16777216) (hk:k≤65536) (hcd:cd<256) (hwd:wd<256) :
  Calls Tryz.prog 132 #[v,.int .i64 p,.int .i64 kd,.int .i64 cd,.int .i64 wd,.int .i64 k] w fun e w'=>PAns w w' e (payR kd cd wd k p xs):=by
 have JH:=hid (Zvg kd hkd v xs p wd k w hx hb hl hp hk);have QH:=hid (Zvb kd hkd v xs p k w hx hb hl hp hk);have V1:=hid (Zkj kd hkd v xs p k w hx hb hl (by omega) (by omega));have QV:=hid (Zcz v xs p 8 w hx hb hl (by omega) (by omega));have Jq:=hid (Zn9 v xs p wd k 0 w hx hb hl (by omega) (by omega) (by omega));have ZQ:=hid (by
  have h:=Zn9 v xs (p+8) wd k (Zcf (L.wordOf 8 ((xs.drop p).take 8))) w hx hb hl (by omega) (Zjp _).1 (Zjp _).2;rw[show ((p+8:Nat):Int)=(p:Int)+8 by omega]at h;exact h)
 obtain⟨A,ca,rfl,_,_,_⟩:=hx.form;clear hx;obtain⟨R,hR⟩:∃ R,payR kd cd wd k p xs=R:=⟨_,rfl⟩;rw[hR];unfold payR at hR;have HR:=hid hR;clear hR;by_cases h2:cd=2
 ·subst h2;rw[if_pos rfl]at HR;rw[HR.out]at JH;go_enter Tryz.func132,Tryz.ntmps132;go_wp2_with (go_at_call 163;refine JH.out.mono ?_;rintro e w1 ⟨u,rfl,⟨U,n,c,rfl⟩,h3,h4⟩;have H3:=hid h3;have H4:=hid h4;clear h3 h4)
  go_ret2
  exact⟨_,rfl,⟨_,_,_,rfl⟩,H3.out,H4.out⟩
 rw[if_neg h2]at HR;have e2:((cd:Int)==2)=false:=by simp;omega
 by_cases h3:cd=3
 ·subst h3;rw[if_pos rfl]at HR;obtain⟨R3,hR3⟩:∃ R3,Zd5 kd k p xs=R3:=⟨_,rfl⟩;rw[hR3]at HR QH;obtain⟨rb,rv⟩:=R3;simp only at HR;have ew:((wd:Int)==0)=decide (wd=0):=by by_cases h:wd=0<;>simp[h]
  have Qm:=hid (show R=(rb&&decide (wd=0),rv)from HR.out.symm);clear HR hR3;go_enter Tryz.func132,Tryz.ntmps132;cases rb
  ·go_wp2_with (go_at_call 164;refine QH.out.mono ?_;rintro e w1 ⟨u,rfl,⟨U,n,c,rfl⟩,h3,h4⟩;have H3:=hid h3;have H4:=hid h4;clear h3 h4)
   go_ret2
   rw[Qm.out];exact⟨_,rfl,⟨_,_,_,rfl⟩,(fun h=>by simp at h),H4.out⟩
  ·go_wp2_with (go_at_call 164;refine QH.out.mono ?_;rintro e w1 ⟨u,rfl,⟨U,n,c,rfl⟩,h3,h4⟩;have H3:=hid h3;have H4:=hid h4;clear h3 h4)
   go_ret2
   rw[Qm.out];exact⟨.slice U n c,by simp,⟨U,n,c,rfl⟩,(fun _=>by first | exact H3.out rfl | exact H3.out trivial | exact H3.out),H4.out⟩
 rw[if_neg h3]at HR;have e3:((cd:Int)==3)=false:=by simp;omega
 have e1k:((kd:Int) != 1)=!decide (kd=1):=by rcases hkd with h | h<;>subst h<;>rfl
 by_cases h4:cd=4
 ·subst h4;rw[if_pos rfl]at HR;have hX:L.wordOf 8 ((xs.drop p).take 8)<18446744073709551616:=Zgc _ (fun x hx=>hb x (List.mem_of_mem_drop (List.mem_of_mem_take hx))) (by rw[List.length_take];omega);unfold Zcf at ZQ HR;obtain⟨ok,hok⟩:∃ ok,Zb8 8 p xs.length=ok:=⟨_,rfl⟩;rw[hok]at QV HR;generalize L.wordOf 8 ((xs.drop p).take 8)=X at *;clear JH QH V1 Jq hok e2;cases ok
  ·have Q5:=hid (show R=(false,[]) by rw[← HR.out,if_pos (.inl rfl)]);clear HR ZQ;simp only[Bool.false_eq_true,if_false]at QV;go_enter Tryz.func132,Tryz.ntmps132;go_wp2_with (go_at_call 91;refine QV.out.mono ?_;rintro e w1 ⟨rfl,hw⟩;replace hw:=hw.symm;subst hw)
   go_ret2
   exact Zc4 Q5.out (Zab w)
  simp only[if_true]at QV;by_cases h64:64<wd
  ·have Q5:=hid (show R=(false,[]) by rw[← HR.out,if_pos (.inr (.inl h64))]);have i1:(wd:Int) > 64:=by omega
   clear HR ZQ;go_enter Tryz.func132,Tryz.ntmps132;go_wp2_with (go_at_call 91;refine QV.out.mono ?_;rintro e w1 ⟨rfl,hw⟩;replace hw:=hw.symm;subst hw)
   go_ret2
   exact Zc4 Q5.out (Zab w)
  have i1:¬ (wd:Int) > 64:=by omega
  rcases hkd with hkd | hkd
  rotate_left
  ·have Q5:=hid (show R=(false,[]) by rw[← HR.out,if_pos (.inr (.inr (by omega)))]);clear HR ZQ;subst hkd;go_enter Tryz.func132,Tryz.ntmps132;go_wp2_with (go_at_call 91;refine QV.out.mono ?_;rintro e w1 ⟨rfl,hw⟩;replace hw:=hw.symm;subst hw)
   go_ret2
   exact Zc4 Q5.out (Zab w)
  rw[if_neg (by simp;omega)]at HR;subst hkd;generalize (fits (wrap64 (X:Int)) (Zbm wd k (p+8) xs)&&Zbx wd k (p+8) xs)=F at *;generalize Zi9 (wrap64 (X:Int)) (Zbm wd k (p+8) xs)=SL at *;go_enter Tryz.func132,Tryz.ntmps132;go_wp2_with (first
   | (go_at_call 91;refine QV.out.mono ?_;rintro e w1 ⟨rfl,hw⟩;replace hw:=hw.symm;subst hw)
   | (go_at_call 165;refine ZQ.out.mono ?_;rintro e w1 ⟨u,rfl,ho1,hb1⟩;have Y7:=hid ho1;have Qa:=hid hb1;obtain⟨D,cd,rfl⟩:=Zb1 ho1;clear ho1 hb1))
  go_ret2
  rw[← HR.out];exact⟨_,rfl,⟨_,_,_,rfl⟩,fun _=>by rw[List.length_map,← Zop];exact Y7.out,Qa.out⟩
 rw[if_neg h4]at HR;have e4:((cd:Int)==4)=false:=by simp;omega
 by_cases h5:cd=5
 ·subst h5;rw[if_pos rfl]at HR;clear JH QH V1 ZQ QV e2 e3 e4;by_cases h64:64<wd
  ·have Q5:=hid (show R=(false,[]) by rw[← HR.out,if_pos (.inl h64)]);have i1:(wd:Int) > 64:=by omega
   clear HR Jq;go_enter Tryz.func132,Tryz.ntmps132;go_wp2;go_ret2
   exact Zc4 Q5.out (Zab w)
  have i1:¬ (wd:Int) > 64:=by omega
  rcases hkd with hkd | hkd
  rotate_left
  ·have Q5:=hid (show R=(false,[]) by rw[← HR.out,if_pos (.inr (by omega))]);clear HR Jq;subst hkd;go_enter Tryz.func132,Tryz.ntmps132;go_wp2;go_ret2
   exact Zc4 Q5.out (Zab w)
  rw[if_neg (by omega)]at HR;subst hkd;generalize (fits 0 (Zbm wd k p xs)&&Zbx wd k p xs)=F at *;generalize Zi9 0 (Zbm wd k p xs)=SL at *;go_enter Tryz.func132,Tryz.ntmps132;go_wp2_with (go_at_call 165;refine Jq.out.mono ?_;rintro e w1 ⟨u,rfl,ho1,hb1⟩;have Y7:=hid ho1;have Qa:=hid hb1;obtain⟨D,cd,rfl⟩:=Zb1 ho1;clear ho1 hb1)
  go_ret2
  rw[← HR.out];exact⟨_,rfl,⟨_,_,_,rfl⟩,fun _=>by rw[List.length_map,← Zop];exact Y7.out,Qa.out⟩
 rw[if_neg h5]at HR;have e5:((cd:Int)==5)=false:=by simp;omega
 clear JH QH ZQ Jq QV;generalize Zdo kd k p xs=LP at *;generalize Zbz kd k p xs=nx at *;generalize Zbw kd k p xs=lo at *;have en:((nx:Int)==(xs.length:Int))=decide (nx=xs.length):=by by_cases h:nx=xs.length<;>simp[h];omega
 have e1:((cd:Int)==1)=decide (cd=1):=by by_cases h:cd=1<;>simp[h];omega
 have ew:((wd:Int)==0)=decide (wd=0):=by by_cases h:wd=0<;>simp[h]
 generalize decide (nx=xs.length)=bn at *;generalize decide (cd=1)=b1 at *;generalize decide (wd=0)=bw at *;go_enter Tryz.func132,Tryz.ntmps132;cases lo<;>cases bn<;>cases b1<;>cases bw
 all_goals
  go_wp2_with (go_at_call 166;refine V1.out.mono ?_;rintro e w1 ⟨u,rfl,ho1,hb1⟩;have Y7:=hid ho1;have Qa:=hid hb1;obtain⟨D,cD,rfl⟩:=Zb1 ho1;clear ho1 hb1)
  go_ret2
  rw[← HR.out];exact⟨_,rfl,⟨_,_,_,rfl⟩,fun _=>Y7.out,Qa.out⟩
set_option maxRecDepth 20000
def Zf8 (fl:List Bool):List Value:=fl.map Value.bool
theorem Tryz.infoBool:(Tryz.prog.info? 4).map (fun i=>(i.zero,i.size,i.bytes))=some (some (.bool false),1,1):=by kernel_rfl
theorem Znf {n:Nat} {ws:List Nat} (hl:ws.length=L.nWords 1 n) (hv:∀ x∈ws,x<18446744073709551616) (h:∀ i,n≤i→i<64*ws.length→Zar ws i=false):L.IsPack 1 n ws:=by
 refine⟨hl,fun k hk=>?_⟩;have hx:ws.getD k 0<2^64:=by apply hv;simp[List.getD,List.getElem?_eq_getElem hk]
 have he:L.inWord 1 n k*1=min 64 (n-k*64):=by simp[L.inWord]
 rw[he];by_cases h64:64≤n-k*64
 ·rw[Nat.min_eq_left h64];exact hx
 ·rw[Nat.min_eq_right (by omega)];apply Nat.lt_pow_two_of_testBit;intro i hi;by_cases hi64:i<64
  ·have h1:=h (64*k+i) (by omega) (by omega);unfold Zar at h1
   rwa [show (64*k+i)/64=k from by omega,show (64*k+i)%64=i from by omega]at h1
  ·exact Nat.testBit_lt_two_pow (Nat.lt_of_lt_of_le hx (Nat.pow_le_pow_right (by omega) (by omega)))
theorem Zkk {m:Nat} {xs:List Nat} (h:xs.length≠(m+63)/64):Za9 1 (m:Int) xs=false:=by
 by_cases hm:m≤65536
 ·cases hc:Za9 1 (m:Int) xs
  ·rfl
  ·exact absurd (((Zbl (wd:=1) (n:=m) xs (by decide) hm).1 hc).1.trans (Zj6 m)) h
 ·exact Zda _ (by omega)
theorem Zj7 {m k:Nat} {xs:List Nat} (hk:m≤k) (h:Zar xs k=true):Za9 1 (m:Int) xs=false:=by
 by_cases hm:m≤65536
 ·cases hc:Za9 1 (m:Int) xs
  ·rfl
  ·rw[Zjx ((Zbl (wd:=1) (n:=m) xs (by decide) hm).1 hc) k hk]at h;cases h
 ·exact Zda _ (by omega)
set_option maxHeartbeats 1000000 in
theorem Zg7 (v:Value) (xs:List Nat) (n:Int) (w:World) (hx:Rd w v xs.length 1 (u64s xs)) (hv:∀ x∈xs,x<18446744073709551616) (hl:xs.length≤maxLen) :
  Calls Tryz.prog 130 #[v,.int .i64 n] w fun e w'=>e=.returned (.bool (Za9 1 n xs))∧w'=w:=by
 have HX:=hid hx;have HV:=hid hv;have HL:=hid hl;unfold maxLen at hl;obtain⟨A,ca,rfl,hlc,hcm,hA⟩:=hx.form;clear hx hv hA hlc hcm;obtain⟨ok,hok⟩:∃ ok,Za9 1 n xs=ok:=⟨_,rfl⟩;rw[hok];have Q3:=hid hok;clear hok;go_enter Tryz.func130,Tryz.ntmps130;by_cases h0:n<0
 ·go_wp2;go_ret;exact⟨Zae (by rw[← Q3.out,Zda _ (by omega)]),rfl⟩
 by_cases h1:65536<n
 ·go_wp2;go_ret;exact⟨Zae (by rw[← Q3.out,Zda _ (by omega)]),rfl⟩
 obtain⟨m,rfl⟩:=Int.eq_ofNat_of_zero_le (show 0≤n by omega);obtain⟨q,hq⟩:∃ q,(m+63)/64=q:=⟨_,rfl⟩;have hq':((m:Int)+63)/64=(q:Int):=by omega
 have hm64:m≤64*q:=by omega
 have hq2:q≤1024:=by omega
 have HQ:=hid hq;clear hq;by_cases hlq:xs.length=q
 ·have HLQ:=hid hlq;rw[hlq];clear hlq;go_wp2;go_loop [5] (fun i=>∃ j:Nat,m≤j∧j≤64*q∧i=.int .i64 j∧Hid (∀ k,m≤k→k<j→Zar xs k=false)) (fun i=>64*q-(intOf i).toNat)
  case atStart=>exact⟨m,by omega,by omega,rfl,hid (by intro k h1 h2;omega)⟩
  case round =>
   obtain⟨j,hj1,hj2,rfl,HB⟩:=hrel;by_cases hlt:j<64*q
   ·have HC:=hid (Zf4 (.slice A q ca) xs j w (by rw[← HLQ.out];exact HX.out) HV.out HL.out (by omega));obtain⟨bb,hbb⟩:∃ bb,Zar xs j=bb:=⟨_,rfl⟩;rw[hbb]at HC;have Ys:=hid hbb;clear hbb;cases bb
    ·go_wp2_with (go_at_call 133;refine HC.out.mono ?_;rintro e w' ⟨rfl,rfl⟩)
     go_round
     case rel =>
      refine⟨j+1,by omega,by omega,by go_num,hid ?_⟩;intro k hk1 hk2;rcases Nat.lt_succ_iff_lt_or_eq.1 hk2 with h | h
      ·exact HB.out k hk1 h
      ·rw[h];exact Ys.out
     case measure=>simp[intOf];omega
    ·go_wp2_with (go_at_call 133;refine HC.out.mono ?_;rintro e w' ⟨rfl,rfl⟩)
     go_ret;exact⟨Zae (by rw[← Q3.out,Zj7 hj1 Ys.out]),rfl⟩
   ·go_wp2;go_ret;refine⟨Zae ?_,rfl⟩;rw[← Q3.out];exact Eq.symm ((Zbl (wd:=1) (n:=m) xs (by decide) (by omega)).2 (Znf (by rw[Zj6,HLQ.out,HQ.out]) HV.out (fun i h1 h2=>HB.out i h1 (by rw[HLQ.out]at h2;omega))))
 ·have HLQ:=hid hlq;go_wp2;go_ret;exact⟨Zae (by rw[← Q3.out,Zkk (by rw[HQ.out];exact HLQ.out)]),rfl⟩
def idxN (ws:List Nat) (n:Nat):List Nat:=(List.range n).filter (Zar ws)
def ints (l:List Nat):List Value:=l.map fun n:Nat=>Value.int .i64 (n:Int)
theorem Zs3 (ws:List Nat) (n:Nat):(idxN ws n).length=Zaw ws n:=rfl
theorem Z0u (ws:List Nat) (n:Nat):(idxN ws n).length≤n:=by
 have:=List.length_filter_le (Zar ws) (List.range n)
 rwa [List.length_range]at this
set_option maxHeartbeats 1000000 in
theorem Ztc (v:Value) (xs:List Nat) (n i:Int) (w:World) (hx:Rd w v xs.length 1 (u64s xs)) (hv:∀ x∈xs,x<18446744073709551616) (hl:xs.length≤maxLen) :
  Calls Tryz.prog 131 #[v,.int .i64 n,.int .i64 i] w fun e w'=>e=.returned (.int .i64 (Zee n i xs))∧w'=w:=by
 have H:=hid (Zg7 _ xs n w hx hv hl);have HX:=hid hx;have HV:=hid hv;have HL:=hid hl;clear hx hv hl;obtain⟨R,hR⟩:∃ R,Zee n i xs=R:=⟨_,rfl⟩;rw[hR];have HR:=hid hR;clear hR;generalize hok:Za9 1 n xs=ok at *;have Q3:=hid hok;clear hok;go_enter Tryz.func131,Tryz.ntmps131;cases ok
 ·go_wp2_with (go_at_call 130;refine H.out.mono ?_;rintro e w' ⟨rfl,rfl⟩)
  go_ret;exact⟨Zc0 (by rw[← HR.out,Zee,if_neg (by rw[Q3.out];simp)]),rfl⟩
 ·by_cases h0:i<0
  ·go_wp2_with (go_at_call 130;refine H.out.mono ?_;rintro e w' ⟨rfl,rfl⟩)
   go_ret;exact⟨Zc0 (by rw[← HR.out,Zee,if_neg (by omega)]),rfl⟩
  ·by_cases h1:n<i
   ·go_wp2_with (go_at_call 130;refine H.out.mono ?_;rintro e w' ⟨rfl,rfl⟩)
    go_ret;exact⟨Zc0 (by rw[← HR.out,Zee,if_neg (by omega)]),rfl⟩
   ·obtain⟨k,rfl⟩:=Int.eq_ofNat_of_zero_le (show 0≤i by omega);have hn:n≤65536:=by
     refine Decidable.byContradiction fun hc=>?_
     have:=Q3.out;rw[Zda _ (by omega)]at this;cases this
    have HQ:Hid (R=((Zaw xs k:Nat):Int)):=by
     refine hid ?_;rw[← HR.out,Zee,if_pos ⟨Q3.out,by omega,by omega⟩];simp
    have hk:k≤65536:=by omega
    go_wp2_with (go_at_call 130;refine H.out.mono ?_;rintro e w' ⟨rfl,hw⟩;replace hw:=hw.symm;subst hw)
    go_loop [7,8] (fun c p=>∃ j:Nat,j≤k∧p=.int .i64 j∧c=.int .i64 (Zaw xs j:Nat)) (fun _ p=>k-(intOf p).toNat)
    case atStart=>exact⟨0,by omega,rfl,by simp[Zaw]⟩
    case round =>
     obtain⟨j,hj,rfl,rfl⟩:=hrel;by_cases hlt:j<k
     ·have HC:=hid (Zf4 v xs j w HX.out HV.out HL.out (by omega));have hle:=Z0u xs j;rw[Zs3]at hle;have HS:=hid (Zc9 xs j);generalize Zar xs j=bb at *;generalize Zaw xs j=a at *;cases bb
      ·go_wp2_with (go_at_call 133;refine HC.out.mono ?_;rintro e w' ⟨rfl,hw⟩;replace hw:=hw.symm;subst hw)
       go_round
       case rel=>exact⟨j+1,by omega,by go_num,by rw[HS.out];simp⟩
       case measure=>simp[intOf];omega
      ·go_wp2_with (go_at_call 133;refine HC.out.mono ?_;rintro e w' ⟨rfl,hw⟩;replace hw:=hw.symm;subst hw)
       go_round
       case rel=>exact⟨j+1,by omega,by go_num,by rw[HS.out];simp⟩
       case measure=>simp[intOf];omega
     ·go_wp2;go_ret;exact⟨Zc0 (by rw[HQ.out,show j=k from by omega]),rfl⟩
end Go.Proofs.YtmcjknjlihgihaaGreatDoor
