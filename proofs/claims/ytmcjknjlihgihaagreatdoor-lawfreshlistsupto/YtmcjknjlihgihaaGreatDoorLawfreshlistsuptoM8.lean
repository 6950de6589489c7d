/- A chunk in memory, and its lane. -/
import Derived.Test.YtmcjknjlihgihaaGreatDoorLawfreshlistsuptoM7
set_option linter.unusedVariables false
set_option linter.unusedSimpArgs false
set_option linter.unnecessarySimpa false
set_option maxRecDepth 100000
namespace Go.Proofs.YtmcjknjlihgihaaGreatDoor
open Go.RowKit
def lenV:Value→Nat
 | .slice _ n _=>n
 | _=>0
theorem Zos (m p:Nat) (xs:List Nat) (h:Zau 4 m p xs.length=true):(numL 4 (tk (4*m) (xs.drop p))).length=m:=by
 unfold Zau at h;simp only[decide_eq_true_eq]at h;rw[Zal];unfold tk;rw[if_pos (by rw[List.length_drop];exact h.2),List.length_take,List.length_drop,Nat.min_eq_left (by omega)];omega
theorem Zh0 {α : Type} (n:Nat) (x : α):List.replicate (n+1) x=List.replicate n x++[x]:=by
 rw[List.replicate_succ']
set_option maxHeartbeats 16000000 in
theorem Zuv (kd:Nat) (hkd:kd=1∨kd=2) (v:Value) (xs:List Nat) (p k:Nat) (w:World) (hx:Rd w v xs.length 1 (u8s xs)) (hb:∀ x∈xs,x<256) (hl:xs.length≤16777216) (hp:p≤16777216) (hk:k≤65536) :
  Calls Tryz.prog 164 #[v,.int .i64 p,.int .i64 kd,.int .i64 k] w fun e w'=>PAns w w' e (Zd7 kd k p xs):=by
 have QS:=hid (Zct v xs p 4 w hx hb hl (by omega) (by omega));have YZ:=hid (fun(d:Nat) (hd:d≤65536)=>by
  have h:=Zcm v xs (p+4) 4 d w hx hb hl (.inl rfl) (by omega) (by omega);rw[show ((p+4:Nat):Int)=(p:Int)+4 by omega]at h;exact h)
 have Vo:=hid (fun(d nx:Nat) (hd:d≤65536) (hn:nx≤33554432) (w2:World) (hbl:Below w.heap.size w w2)=>Zj4 kd hkd v xs nx d w2 (hx.mono hbl) hb hl (by omega) (by omega));have Y9:=hid (fun m nx=>Zek kd m nx xs);obtain⟨A,ca,rfl,_,_,_⟩:=hx.form;clear hx;obtain⟨R,hR⟩:∃ R,Zd7 kd k p xs=R:=⟨_,rfl⟩;rw[hR];unfold Zd7 dN at hR;obtain⟨ok,hok⟩:∃ ok,Zb9 4 p xs.length=ok:=⟨_,rfl⟩;rw[hok]at hR QS;have hwl:L.wordOf 8 ((xs.drop p).take 4)<4294967296:=Zb2 _ (fun x hx=>hb x (List.mem_of_mem_drop (List.mem_of_mem_take hx))) (by rw[List.length_take];omega);generalize L.wordOf 8 ((xs.drop p).take 4)=d0 at *;have HR:=hid hR;clear hR hok;cases ok
 ·have Q1:=hid (show R=(false,[]) by rw[← HR.out];simp);clear HR;simp only[Bool.false_eq_true,if_false]at QS;go_enter Tryz.func164,Tryz.ntmps164;go_wp2_with (go_at_call 91;refine QS.out.mono ?_;rintro e w1 ⟨rfl,hw⟩;replace hw:=hw.symm;subst hw)
  go_ret2
  exact Zcu Q1.out (Zab w)
 simp only[if_true]at QS HR;by_cases hdk:k<d0
 ·have Q1:=hid (show R=(false,[]) by rw[← HR.out,if_pos (.inr hdk)]);clear HR;have hdi:(d0:Int) > (k:Int):=by omega
  go_enter Tryz.func164,Tryz.ntmps164;go_wp2_with (go_at_call 91;refine QS.out.mono ?_;rintro e w1 ⟨rfl,hw⟩;replace hw:=hw.symm;subst hw)
  go_ret2
  exact Zcu Q1.out (Zab w)
 have hd0:d0≤65536:=by omega
 have hdi:¬ (d0:Int) > (k:Int):=by omega
 rw[if_neg (by simp;omega)]at HR;have Zi:=hid (YZ.out d0 hd0);have J3:=hid (Zos d0 (p+4) xs);have hev:∀ x∈numL 4 (tk (4*d0) (xs.drop (p+4))),x<4294967296:=Znw (Zc8 (fun x h=>hb x (List.mem_of_mem_drop h)));have HEV:=hid hev;obtain⟨nx,hnx⟩:∃ nx,p+4+4*d0=nx:=⟨_,rfl⟩;have hnl:nx≤33554432:=by omega
 rw[hnx]at HR Zi;have YC:=hid (Vo.out d0 nx hd0 hnl);have Jc:=hid (Y9.out d0 nx);obtain⟨no,hno⟩:∃ no,Zau 4 d0 (p+4) xs.length=no:=⟨_,rfl⟩;rw[hno]at HR Zi J3;obtain⟨lo,hlo⟩:∃ lo,Zbx kd d0 nx xs=lo:=⟨_,rfl⟩;rw[hlo]at HR YC Jc;clear YZ Vo Y9 hno hlo hnx hev;generalize numL 4 (tk (4*d0) (xs.drop (p+4)))=ends at *;generalize Zdi kd d0 nx xs=heads at *;generalize Zb0 kd d0 nx xs=nx2 at *;go_enter Tryz.func164,Tryz.ntmps164;cases no
 ·have Q1:=hid (show R=(false,[]) by rw[← HR.out];simp);clear HR;simp only[Bool.false_eq_true,if_false]at Zi;go_wp2_with (first
   | (go_at_call 91;refine QS.out.mono ?_;rintro e w1 ⟨rfl,hw⟩;replace hw:=hw.symm;subst hw)
   | (go_at_call 89;refine Zi.out.mono ?_;rintro e w1 ⟨u,rfl,ho1,hb1⟩;have Qa:=hid hb1;clear ho1 hb1))
  go_ret2
  exact Zcu Q1.out Qa.out
 simp only[Bool.true_eq_false,if_false,if_true]at Zi HR;have hel:=J3.out rfl;cases lo
 ·have Q1:=hid (show R=(false,[]) by rw[← HR.out];simp);clear HR;go_wp2_with (first
   | (go_at_call 91;refine QS.out.mono ?_;rintro e w1 ⟨rfl,hw⟩;replace hw:=hw.symm;subst hw)
   | (go_at_call 89;refine Zi.out.mono ?_;rintro e w1 ⟨u,rfl,ho1,hb1⟩;have Qa:=hid hb1;clear ho1 hb1)
   | (go_at_call 166;refine(YC.out w1 Qa.out).mono ?_;rintro e w2 ⟨u2,rfl,ho2,hb2⟩;have Qc:=hid (Zad Qa.out hb2);clear ho2 hb2))
  go_ret2
  exact Zcu Q1.out Qc.out
 by_cases hn2:nx2=xs.length
 rotate_left
 ·have Q1:=hid (show R=(false,[]) by rw[← HR.out,if_pos (.inr hn2)]);clear HR;have hne:((nx2:Int) != (xs.length:Int))=true:=by simp;omega
  go_wp2_with (first
   | (go_at_call 91;refine QS.out.mono ?_;rintro e w1 ⟨rfl,hw⟩;replace hw:=hw.symm;subst hw)
   | (go_at_call 89;refine Zi.out.mono ?_;rintro e w1 ⟨u,rfl,ho1,hb1⟩;have Qa:=hid hb1;clear ho1 hb1)
   | (go_at_call 166;refine(YC.out w1 Qa.out).mono ?_;rintro e w2 ⟨u2,rfl,ho2,hb2⟩;have Qc:=hid (Zad Qa.out hb2);clear ho2 hb2))
  go_ret2
  exact Zcu Q1.out Qc.out
 rw[if_neg (by simp;exact hn2)]at HR;have hne:((nx2:Int) != (xs.length:Int))=false:=by simp;omega
 have hdl:heads.length=d0:=Jc.out rfl hkd;clear hn2 J3 Jc;go_upto_region 10 with (first
   | (go_at_call 91;refine QS.out.mono ?_;rintro e w1 ⟨rfl,hw⟩;replace hw:=hw.symm;subst hw)
   | (go_at_call 89;refine Zi.out.mono ?_;rintro e w1 ⟨u1,rfl,ho1,hb1⟩;have Qa:=hid hb1;have Y1:=hid (Zba ho1);obtain⟨E,ce,rfl,hce1,hce2,_,_⟩:=Zaj ho1;clear ho1 hb1)
   | (go_at_call 166;refine(YC.out w1 Qa.out).mono ?_;rintro e w2 ⟨u2,rfl,ho2,hb2⟩;have Qc:=hid (Zad Qa.out hb2);have HRE:=hid (Y1.out.mono hb2);have Qu:=hid (Zob ho2);obtain⟨D,cd,rfl⟩:=Zb1 ho2;clear ho2 hb2))
 rw[hel]at HRE;rw[hdl]at Qu;have Zt:=hid hdl;have Ym:=hid hel;have hsz2:=Qc.out.size;clear QS Zi YC Y1 Qa hdl hel hce2 hne;go_wp2_with fail
 go_loopw [16,65] (fun s i wz=>∃ t l:Nat,t≤d0∧i=.int .i64 t∧l≤k∧Hid (Za2 0 (nI (ends.take t))=some (l:Int))∧Hid (∀ u,u+1<t→eqP (heads.getD u dfP) (heads.getD (u+1) dfP)=false)∧Hid (wz.ownsRow w2.heap.size 36 3 s l (Zdh (Zgo heads ends t)))∧Hid (Below w2.heap.size w2 wz)) (fun _ i _=>d0-(intOf i).toNat)
 case atStart=>exact⟨0,0,by omega,rfl,by omega,hid rfl,hid (fun u h=>absurd h (by omega)),hid ⟨by simp[Zdh,Zgo],.inl ⟨rfl,rfl⟩⟩,hid (Zab w2)⟩
 case round =>
  obtain⟨t,l,ht,rfl,hlk,VX,Qr,Qd,Qg⟩:=hrel;obtain⟨A2,c2,rfl⟩:=Zb1 Qd.out;have hszw:=Qg.out.size;have Zh:=hid (Below.then' Qc.out Qg.out hsz2);by_cases hlt:t<d0
  ·obtain⟨eb,eo,rfl,hs⟩:=(HRE.out.mono Qg.out).atW (by omega);have e1:=hs t (by rw[Ym.out];exact hlt);have hx32:=HEV.out (ends.getD t 0) (by simp[List.getD,List.getElem?_eq_getElem (show t<ends.length by rw[Ym.out];exact hlt)]);have QE:=hid (Zh6 ends t l (by rw[Ym.out];exact hlt) VX.out);have J0:=hid (Zf2 heads ends t l (by rw[Ym.out];omega) VX.out);have Us:Hid (Zgo heads ends (t+1)=Zgo heads ends t++List.replicate (ends.getD t 0-(Zgo heads ends t).length) (heads.getD t dfP)):=hid rfl;rw[J0.out]at Us;have HN1:=hid (Zr8 ends (t+1) (k:Int));have YW:=hid (Zq4 ends (t+1) (k:Int));clear hs;generalize ends.getD t 0=en at *;by_cases hb1:en≤l
   ·have Q1:=hid (show R=(false,[]) by rw[← HR.out,if_pos (.inr (HN1.out (by rw[QE.out,if_pos hb1])))]);have i1:(en:Int)≤(l:Int):=by omega
    clear QE HN1 YW Us J0;go_upto_region 14 with fail
    go_quiet (fail)
    go_wp2_with fail
    go_ret2
    exact Zcu Q1.out (Zag Zh.out _)
   have i1:¬ (en:Int)≤(l:Int):=by omega
   have i1d:decide ((en:Int)≤(l:Int))=false:=decide_eq_false i1;rw[if_neg hb1]at QE;by_cases hb2:k<en
   ·have Q1:=hid (show R=(false,[]) by rw[← HR.out,if_pos (.inr (YW.out _ QE.out (by omega)))]);have i2:(en:Int) > (k:Int):=by omega
    clear QE HN1 YW Us J0;go_upto_region 14 with fail
    go_quiet (fail)
    go_wp2_with fail
    go_ret2
    exact Zcu Q1.out (Zag Zh.out _)
   have i2:¬ (en:Int) > (k:Int):=by omega
   have i2d:decide ((en:Int) > (k:Int))=false:=decide_eq_false i2;clear HN1 YW;have Za:Hid (t=0∨eqP (heads.getD (t-1) dfP) (heads.getD t dfP)=false→∀ u,u+1<t+1→eqP (heads.getD u dfP) (heads.getD (u+1) dfP)=false):=hid (fun h u hu=>by
    by_cases hut:u+1=t
    ·have h:=h.resolve_left (by omega);rw[show t-1=u by omega]at h;rw[hut];exact h
    ·exact Qr.out u (by omega))
   have Z5:Hid (0<t→eqP (heads.getD (t-1) dfP) (heads.getD t dfP)=true→R=(false,[])):=hid (fun h0 h=>by
    have hnp:Zbb eqP heads=false:=by
     rw[← Bool.not_eq_true,Zcb eqP dfP];intro h2;have:=h2 (t-1) (by rw[Zt.out];omega);rw[show t-1+1=t by omega,h]at this;cases this
    rw[← HR.out,if_pos (.inl hnp)])
   have HXO:=hid (fun(w2:World)=>fun a b=>Zl5 a b w2);obtain⟨X,hX⟩:∃ X,heads.getD t dfP=X:=⟨_,rfl⟩;have HX:=hid hX;rw[hX]at Us Za Z5;obtain⟨xi,xs'⟩:=X;clear hX;rcases Nat.eq_zero_or_pos t with ht0 | ht0
   ·subst ht0;have Xg:=hid (Za.out (.inl rfl));clear Za Z5 HXO J0;obtain⟨b,o,hDD,hcells⟩:=(Qu.out.mono Qg.out).atP (by omega);subst hDD;clear hcells;have i3d:decide ((0:Int) > 0)=false:=by decide
    rw[Nat.add_zero]at e1;go_upto_region 14 with fail
    go_quiet (fail)
    have Y5:Hid (Below wr.heap.size wr (wr.drewN nq)):=hid (Zag (Zab wr) nq);generalize wr.drewN nq=wq at *;go_wp2_with fail
    have Xh:=hid (Zl0 Qd.out Y5.out);have Xi:=hid (Below.then' Qg.out Y5.out Qg.out.size);go_loopw [16] (fun s wz=>∃ c:Nat,l≤c∧c≤en∧Hid (wz.ownsRow w2.heap.size 36 3 s c (Zdh (Zgo heads ends 0++List.replicate (c-l) (xi,xs'))))∧Hid (Below w2.heap.size w2 wz)) (fun s _=>en-lenV s)
    case atStart=>exact⟨l,Nat.le_refl _,by omega,hid (by simpa using Xh.out),Xi⟩
    case round =>
     obtain⟨c,hc1,hc2,Xj,QB⟩:=hrel;obtain⟨A3,c3,rfl⟩:=Zb1 Xj.out;have hszc:=QB.out.size;by_cases hce:c<en
     ·obtain⟨b',o',he,hcells2⟩:=(Qu.out.mono QB.out).atP (by omega);cases he;obtain⟨l0',l1',l2'⟩:=hcells2 0 (by rw[Zt.out];omega);rw[HX.out]at l1' l2';clear hcells2;simp only[Nat.zero_mul,Nat.add_zero]at l0' l1' l2';have i5:(c:Int)<(en:Int):=by omega
      go_wp2_with (at_builtin;refine Zb6 rfl (.tmp 103) (.tmp 108) rfl 36 [.bool false,.int .i64 0,.string ByteArray.empty] 32 Tryz.underlying78 Tryz.infoCell rfl rfl rfl Xj.out hszc (by intro u hu;simp at hu;rcases hu with rfl | rfl | rfl<;>rfl) (by unfold maxLen;omega) (by omega) ?_;intro v' w' ho hb3)
      go_roundw
      case rel =>
       have Yv:=hid ho;rw[← Zif _ (xi,xs'),List.append_assoc,← Zh0,show c-l+1=c+1-l by omega]at Yv;have h1:l≤c+1:=by omega
       have h2:c+1≤en:=by omega
       first | exact⟨c+1,h1,h2,Yv,hid (Below.trans QB.out hb3)⟩ | ((repeat apply Exists.intro);exact⟨⟨c+1,h1,h2,Yv,hid (Below.trans QB.out hb3)⟩,rfl⟩)
      case measure =>
       obtain⟨A4,c4,rfl⟩:=Zb1 ho;simp[lenV];omega
     ·obtain rfl:c=en:=by omega
      have i5:¬ (c:Int)<(c:Int):=by omega
      go_wp2_with fail
      go_roundw
      case rel=>exact⟨0+1,c,by omega,by go_num,by omega,QE,Xg,hid (by rw[Us.out];exact Xj.out),QB⟩
      case measure=>simp[intOf];omega
   ·obtain⟨u,hu⟩:∃ u,t=u+1:=⟨t-1,by omega⟩;have hu1:t-1=u:=by omega
    rw[hu1]at Za Z5;obtain⟨b,o,hDD,hcells⟩:=(Qu.out.mono Qg.out).atP (by omega);subst hDD;obtain⟨m0,m1,m2⟩:=hcells u (by rw[Zt.out];omega);obtain⟨l0,l1,l2⟩:=hcells t (by rw[Zt.out];omega);rw[HX.out]at l1 l2;have Ur:=hid (fun(w2:World)=>Zl5 (heads.getD u dfP) (xi,xs') w2);have HG:Hid (eqP (heads.getD u dfP) (xi,xs')=decide (ordP (heads.getD u dfP) (xi,xs')=0)):=hid rfl;clear hcells hu1 HXO J0;generalize heads.getD u dfP=Y at *;obtain⟨yi,ys'⟩:=Y;simp only at m1 m2 l1 l2 Ur;generalize ordP (yi,ys') (xi,xs')=od at *;generalize eqP (yi,ys') (xi,xs')=ge at *;have i0:(0:Int)≤(u:Int):=by omega
    have i1':(u:Int)<(d0:Int):=by omega
    have i2':(t:Int)<(d0:Int):=by omega
    have i3:(t:Int) > 0:=by omega
    have ia:(t:Int)-1=(u:Int):=by omega
    have iw:IntKind.i64.wrap ((t:Int)-1)=(u:Int):=by rw[ia,IntKind.wrap_i64];omega
    have iw2:IntKind.i64.wrap (u:Int)=(u:Int):=by rw[IntKind.wrap_i64];omega
    have iwe:IntKind.i64.wrap (en:Int)=(en:Int):=by rw[IntKind.wrap_i64];omega
    have hbl:b<wr.heap.size:=World.block_lt_of_cell? wr _ m0;clear hu;go_upto_region 14 with fail
    go_region_held3 (fun w'=>w'.cell? ⟨b,o+u*3,none⟩=some (.bool false)∧w'.cell? ⟨b,o+u*3+1,none⟩=some (.int .i64 yi)∧w'.cell? ⟨b,o+u*3+2,none⟩=some (.string ys')∧w'.cell? ⟨b,o+t*3,none⟩=some (.bool false)∧w'.cell? ⟨b,o+t*3+1,none⟩=some (.int .i64 xi)∧w'.cell? ⟨b,o+t*3+2,none⟩=some (.string xs')) (go_keep)
     (first | (go_at_call 119;refine(Ur.out _).mono ?_;rintro e w3 ⟨rfl,hb3⟩;have Y5:=hid ((Zag (Zab wr) 1).trans hb3);have q0:=(hb3.cell (p:=⟨b,o+u*3,none⟩) hbl).trans m0;have q1:=(hb3.cell (p:=⟨b,o+u*3+1,none⟩) hbl).trans m1;have q2:=(hb3.cell (p:=⟨b,o+u*3+2,none⟩) hbl).trans m2;have q3:=(hb3.cell (p:=⟨b,o+t*3,none⟩) hbl).trans l0;have q4:=(hb3.cell (p:=⟨b,o+t*3+1,none⟩) hbl).trans l1;have q5:=(hb3.cell (p:=⟨b,o+t*3+2,none⟩) hbl).trans l2;clear hb3))
    by_cases hod:od=0
    ·have Q1:=hid (Z5.out ht0 (by rw[HG.out];simp[hod]));have ho2:(od==0)=true:=by simp[hod]
     go_wp2_with fail
     go_ret2
     exact Zcu Q1.out (Below.then' Qc.out (Below.then' Qg.out Y5.out Qg.out.size) hsz2)
    have ho2:(od==0)=false:=by simp[hod]
    have Xg:=hid (Za.out (.inr (by rw[HG.out];simp[hod])));clear m0 m1 m2 l0 l1 l2 q0 q1 q2 q3 q4 q5 Za Z5;generalize w3=wq at *;rw[ho2];go_wp2_with fail
    have Xh:=hid (Zl0 Qd.out Y5.out);have Xi:=hid (Below.then' Qg.out Y5.out Qg.out.size);go_loopw [16] (fun s wz=>∃ c:Nat,l≤c∧c≤en∧Hid (wz.ownsRow w2.heap.size 36 3 s c (Zdh (Zgo heads ends t++List.replicate (c-l) (xi,xs'))))∧Hid (Below w2.heap.size w2 wz)) (fun s _=>en-lenV s)
    case atStart=>exact⟨l,Nat.le_refl _,by omega,hid (by simpa using Xh.out),Xi⟩
    case round =>
     obtain⟨c,hc1,hc2,Xj,QB⟩:=hrel;obtain⟨A3,c3,rfl⟩:=Zb1 Xj.out;have hszc:=QB.out.size;by_cases hce:c<en
     ·obtain⟨b',o',he,hcells2⟩:=(Qu.out.mono QB.out).atP (by omega);cases he;obtain⟨l0',l1',l2'⟩:=hcells2 t (by rw[Zt.out];omega);rw[HX.out]at l1' l2';clear hcells2;simp only at l1' l2';have i5:(c:Int)<(en:Int):=by omega
      go_wp2_with (at_builtin;refine Zb6 rfl (.tmp 103) (.tmp 108) rfl 36 [.bool false,.int .i64 0,.string ByteArray.empty] 32 Tryz.underlying78 Tryz.infoCell rfl rfl rfl Xj.out hszc (by intro u hu;simp at hu;rcases hu with rfl | rfl | rfl<;>rfl) (by unfold maxLen;omega) (by omega) ?_;intro v' w' ho hb3)
      go_roundw
      case rel =>
       have Yv:=hid ho;rw[← Zif _ (xi,xs'),List.append_assoc,← Zh0,show c-l+1=c+1-l by omega]at Yv;have h1:l≤c+1:=by omega
       have h2:c+1≤en:=by omega
       first | exact⟨c+1,h1,h2,Yv,hid (Below.trans QB.out hb3)⟩ | ((repeat apply Exists.intro);exact⟨⟨c+1,h1,h2,Yv,hid (Below.trans QB.out hb3)⟩,rfl⟩)
      case measure =>
       obtain⟨A4,c4,rfl⟩:=Zb1 ho;simp[lenV];omega
     ·obtain rfl:c=en:=by omega
      have i5:¬ (c:Int)<(c:Int):=by omega
      go_wp2_with fail
      go_roundw
      case rel=>exact⟨t+1,c,by omega,by go_num,by omega,QE,Xg,hid (by rw[Us.out];exact Xj.out),QB⟩
      case measure=>simp[intOf];omega
  ·obtain rfl:t=d0:=by omega
   have hup:=VX.out;rw[show ends.take t=ends by rw[← Ym.out,List.take_length]]at hup;have hnp:Zbb eqP heads=true:=(Zcb eqP dfP heads).2 (fun z hz=>Qr.out z (by rw[← Zt.out];exact hz));have Qs:=hid (show R=if l=k then (true,Zgo heads ends t)else (false,[]) by
    rw[← HR.out,hnp];unfold Zax;rw[hup];by_cases hlk2:l=k
    ·subst hlk2;simp
    ·rw[if_neg hlk2,if_pos];simp;omega)
   have J0:=hid (Zf2 heads ends t l (by rw[Ym.out];exact Nat.le_refl _) VX.out);clear hup hnp HR;by_cases hlk2:l=k
   ·subst hlk2;rw[if_pos rfl]at Qs;have he:((l:Int)==(l:Int))=true:=by simp
    go_wp2_with fail
    go_ret2
    rw[Qs.out];refine⟨_,rfl,⟨_,_,_,rfl⟩,fun _=>?_,Zh.out⟩;simp only;rw[J0.out];exact Ze0 Qd.out hsz2
   ·rw[if_neg hlk2]at Qs;have he:((l:Int)==(k:Int))=false:=by simp;omega
    go_wp2_with fail
    go_ret2
    rw[Qs.out];exact⟨_,rfl,⟨_,_,_,rfl⟩,fun h=>by simp at h,Zh.out⟩
def payR (kd cd wd k p:Nat) (xs:List Nat):Bool×List PV :=
 if cd=2 then Zex kd wd k p xs
 else if cd=3 then ((Zd7 kd k p xs).1&&decide (wd=0),(Zd7 kd k p xs).2)
 else if cd=4 then (if Zb9 8 p xs.length=false∨64<wd∨¬ kd=1 then (false,[])else
  (fits (Zcf (L.wordOf 8 ((xs.drop p).take 8))) (Zbo wd k (p+8) xs)&&Zby wd k (p+8) xs,(Zi8 (Zcf (L.wordOf 8 ((xs.drop p).take 8))) (Zbo wd k (p+8) xs)).map pI))
 else if cd=5 then (if 64<wd∨¬ kd=1 then (false,[])else (fits 0 (Zbo wd k p xs)&&Zby wd k p xs,(Zi8 0 (Zbo wd k p xs)).map pI))
 else (Zbx kd k p xs&&decide (Zb0 kd k p xs=xs.length)&&decide (cd=1)&&decide (wd=0),Zdi kd k p xs)
set_option maxHeartbeats 8000000 in
theorem Zo3 (kd:Nat) (hkd:kd=1∨kd=2) (v:Value) (xs:List Nat) (p cd wd k:Nat) (w:World) (hx:Rd w v xs.length 1 (u8s xs)) (hb:∀ x∈xs,x<256) (hl:xs.length≤16777216) (hp:p≤16777216) (hk:k≤65536) (hcd:cd<256) (hwd:wd<256) :
  Calls Tryz.prog 132 #[v,.int .i64 p,.int .i64 kd,.int .i64 cd,.int .i64 wd,.int .i64 k] w fun e w'=>PAns w w' e (payR kd cd wd k p xs):=by
 have J5:=hid (Zut kd hkd v xs p wd k w hx hb hl hp hk);have QK:=hid (Zuv kd hkd v xs p k w hx hb hl hp hk);have Vo:=hid (Zj4 kd hkd v xs p k w hx hb hl (by omega) (by omega));have QS:=hid (Zct v xs p 8 w hx hb hl (by omega) (by omega));have Jd:=hid (Zm1 v xs p wd k 0 w hx hb hl (by omega) (by omega) (by omega));have Z6:=hid (by
  have h:=Zm1 v xs (p+8) wd k (Zcf (L.wordOf 8 ((xs.drop p).take 8))) w hx hb hl (by omega) (Zjb _).1 (Zjb _).2;rw[show ((p+8:Nat):Int)=(p:Int)+8 by omega]at h;exact h)
 obtain⟨A,ca,rfl,_,_,_⟩:=hx.form;clear hx;obtain⟨R,hR⟩:∃ R,payR kd cd wd k p xs=R:=⟨_,rfl⟩;rw[hR];unfold payR at hR;have HR:=hid hR;clear hR;by_cases h2:cd=2
 ·subst h2;rw[if_pos rfl]at HR;rw[HR.out]at J5;go_enter Tryz.func132,Tryz.ntmps132;go_wp2_with (go_at_call 163;refine J5.out.mono ?_;rintro e w1 ⟨u,rfl,⟨U,n,c,rfl⟩,h3,h4⟩;have H3:=hid h3;have H4:=hid h4;clear h3 h4)
  go_ret2
  exact⟨_,rfl,⟨_,_,_,rfl⟩,H3.out,H4.out⟩
 rw[if_neg h2]at HR;have e2:((cd:Int)==2)=false:=by simp;omega
 by_cases h3:cd=3
 ·subst h3;rw[if_pos rfl]at HR;obtain⟨R3,hR3⟩:∃ R3,Zd7 kd k p xs=R3:=⟨_,rfl⟩;rw[hR3]at HR QK;obtain⟨rb,rv⟩:=R3;simp only at HR;have ew:((wd:Int)==0)=decide (wd=0):=by by_cases h:wd=0<;>simp[h]
  have Qq:=hid (show R=(rb&&decide (wd=0),rv)from HR.out.symm);clear HR hR3;go_enter Tryz.func132,Tryz.ntmps132;cases rb
  ·go_wp2_with (go_at_call 164;refine QK.out.mono ?_;rintro e w1 ⟨u,rfl,⟨U,n,c,rfl⟩,h3,h4⟩;have H3:=hid h3;have H4:=hid h4;clear h3 h4)
   go_ret2
   rw[Qq.out];exact⟨_,rfl,⟨_,_,_,rfl⟩,(fun h=>by simp at h),H4.out⟩
  ·go_wp2_with (go_at_call 164;refine QK.out.mono ?_;rintro e w1 ⟨u,rfl,⟨U,n,c,rfl⟩,h3,h4⟩;have H3:=hid h3;have H4:=hid h4;clear h3 h4)
   go_ret2
   rw[Qq.out];exact⟨.slice U n c,by simp,⟨U,n,c,rfl⟩,(fun _=>by first | exact H3.out rfl | exact H3.out trivial | exact H3.out),H4.out⟩
 rw[if_neg h3]at HR;have e3:((cd:Int)==3)=false:=by simp;omega
 have e1k:((kd:Int) != 1)=!decide (kd=1):=by rcases hkd with h | h<;>subst h<;>rfl
 by_cases h4:cd=4
 ·subst h4;rw[if_pos rfl]at HR;have hX:L.wordOf 8 ((xs.drop p).take 8)<18446744073709551616:=Zfz _ (fun x hx=>hb x (List.mem_of_mem_drop (List.mem_of_mem_take hx))) (by rw[List.length_take];omega);unfold Zcf at Z6 HR;obtain⟨ok,hok⟩:∃ ok,Zb9 8 p xs.length=ok:=⟨_,rfl⟩;rw[hok]at QS HR;generalize L.wordOf 8 ((xs.drop p).take 8)=X at *;clear J5 QK Vo Jd hok e2;cases ok
  ·have Q1:=hid (show R=(false,[]) by rw[← HR.out,if_pos (.inl rfl)]);clear HR Z6;simp only[Bool.false_eq_true,if_false]at QS;go_enter Tryz.func132,Tryz.ntmps132;go_wp2_with (go_at_call 91;refine QS.out.mono ?_;rintro e w1 ⟨rfl,hw⟩;replace hw:=hw.symm;subst hw)
   go_ret2
   exact Zcu Q1.out (Zab w)
  simp only[if_true]at QS;by_cases h64:64<wd
  ·have Q1:=hid (show R=(false,[]) by rw[← HR.out,if_pos (.inr (.inl h64))]);have i1:(wd:Int) > 64:=by omega
   clear HR Z6;go_enter Tryz.func132,Tryz.ntmps132;go_wp2_with (go_at_call 91;refine QS.out.mono ?_;rintro e w1 ⟨rfl,hw⟩;replace hw:=hw.symm;subst hw)
   go_ret2
   exact Zcu Q1.out (Zab w)
  have i1:¬ (wd:Int) > 64:=by omega
  rcases hkd with hkd | hkd
  rotate_left
  ·have Q1:=hid (show R=(false,[]) by rw[← HR.out,if_pos (.inr (.inr (by omega)))]);clear HR Z6;subst hkd;go_enter Tryz.func132,Tryz.ntmps132;go_wp2_with (go_at_call 91;refine QS.out.mono ?_;rintro e w1 ⟨rfl,hw⟩;replace hw:=hw.symm;subst hw)
   go_ret2
   exact Zcu Q1.out (Zab w)
  rw[if_neg (by simp;omega)]at HR;subst hkd;generalize (fits (wrap64 (X:Int)) (Zbo wd k (p+8) xs)&&Zby wd k (p+8) xs)=F at *;generalize Zi8 (wrap64 (X:Int)) (Zbo wd k (p+8) xs)=SL at *;go_enter Tryz.func132,Tryz.ntmps132;go_wp2_with (first
   | (go_at_call 91;refine QS.out.mono ?_;rintro e w1 ⟨rfl,hw⟩;replace hw:=hw.symm;subst hw)
   | (go_at_call 165;refine Z6.out.mono ?_;rintro e w1 ⟨u,rfl,ho1,hb1⟩;have Y1:=hid ho1;have Qa:=hid hb1;obtain⟨D,cd,rfl⟩:=Zb1 ho1;clear ho1 hb1))
  go_ret2
  rw[← HR.out];exact⟨_,rfl,⟨_,_,_,rfl⟩,fun _=>by rw[List.length_map,← Zn9];exact Y1.out,Qa.out⟩
 rw[if_neg h4]at HR;have e4:((cd:Int)==4)=false:=by simp;omega
 by_cases h5:cd=5
 ·subst h5;rw[if_pos rfl]at HR;clear J5 QK Vo Z6 QS e2 e3 e4;by_cases h64:64<wd
  ·have Q1:=hid (show R=(false,[]) by rw[← HR.out,if_pos (.inl h64)]);have i1:(wd:Int) > 64:=by omega
   clear HR Jd;go_enter Tryz.func132,Tryz.ntmps132;go_wp2;go_ret2
   exact Zcu Q1.out (Zab w)
  have i1:¬ (wd:Int) > 64:=by omega
  rcases hkd with hkd | hkd
  rotate_left
  ·have Q1:=hid (show R=(false,[]) by rw[← HR.out,if_pos (.inr (by omega))]);clear HR Jd;subst hkd;go_enter Tryz.func132,Tryz.ntmps132;go_wp2;go_ret2
   exact Zcu Q1.out (Zab w)
  rw[if_neg (by omega)]at HR;subst hkd;generalize (fits 0 (Zbo wd k p xs)&&Zby wd k p xs)=F at *;generalize Zi8 0 (Zbo wd k p xs)=SL at *;go_enter Tryz.func132,Tryz.ntmps132;go_wp2_with (go_at_call 165;refine Jd.out.mono ?_;rintro e w1 ⟨u,rfl,ho1,hb1⟩;have Y1:=hid ho1;have Qa:=hid hb1;obtain⟨D,cd,rfl⟩:=Zb1 ho1;clear ho1 hb1)
  go_ret2
  rw[← HR.out];exact⟨_,rfl,⟨_,_,_,rfl⟩,fun _=>by rw[List.length_map,← Zn9];exact Y1.out,Qa.out⟩
 rw[if_neg h5]at HR;have e5:((cd:Int)==5)=false:=by simp;omega
 clear J5 QK Z6 Jd QS;generalize Zdi kd k p xs=LP at *;generalize Zb0 kd k p xs=nx at *;generalize Zbx kd k p xs=lo at *;have en:((nx:Int)==(xs.length:Int))=decide (nx=xs.length):=by by_cases h:nx=xs.length<;>simp[h];omega
 have e1:((cd:Int)==1)=decide (cd=1):=by by_cases h:cd=1<;>simp[h];omega
 have ew:((wd:Int)==0)=decide (wd=0):=by by_cases h:wd=0<;>simp[h]
 generalize decide (nx=xs.length)=bn at *;generalize decide (cd=1)=b1 at *;generalize decide (wd=0)=bw at *;go_enter Tryz.func132,Tryz.ntmps132;cases lo<;>cases bn<;>cases b1<;>cases bw
 all_goals
  go_wp2_with (go_at_call 166;refine Vo.out.mono ?_;rintro e w1 ⟨u,rfl,ho1,hb1⟩;have Y1:=hid ho1;have Qa:=hid hb1;obtain⟨D,cD,rfl⟩:=Zb1 ho1;clear ho1 hb1)
  go_ret2
  rw[← HR.out];exact⟨_,rfl,⟨_,_,_,rfl⟩,fun _=>Y1.out,Qa.out⟩
set_option maxRecDepth 20000
def Zf5 (fl:List Bool):List Value:=fl.map Value.bool
theorem Tryz.infoBool:(Tryz.prog.info? 4).map (fun i=>(i.zero,i.size,i.bytes))=some (some (.bool false),1,1):=by kernel_rfl
theorem Zml {n:Nat} {ws:List Nat} (hl:ws.length=L.nWords 1 n) (hv:∀ x∈ws,x<18446744073709551616) (h:∀ i,n≤i→i<64*ws.length→Za0 ws i=false):L.IsPack 1 n ws:=by
 refine⟨hl,fun k hk=>?_⟩;have hx:ws.getD k 0<2^64:=by apply hv;simp[List.getD,List.getElem?_eq_getElem hk]
 have he:L.inWord 1 n k*1=min 64 (n-k*64):=by simp[L.inWord]
 rw[he];by_cases h64:64≤n-k*64
 ·rw[Nat.min_eq_left h64];exact hx
 ·rw[Nat.min_eq_right (by omega)];apply Nat.lt_pow_two_of_testBit;intro i hi;by_cases hi64:i<64
  ·have h1:=h (64*k+i) (by omega) (by omega);unfold Za0 at h1
   rwa [show (64*k+i)/64=k from by omega,show (64*k+i)%64=i from by omega]at h1
  ·exact Nat.testBit_lt_two_pow (Nat.lt_of_lt_of_le hx (Nat.pow_le_pow_right (by omega) (by omega)))
theorem Zjx {m:Nat} {xs:List Nat} (h:xs.length≠(m+63)/64):Za8 1 (m:Int) xs=false:=by
 by_cases hm:m≤65536
 ·cases hc:Za8 1 (m:Int) xs
  ·rfl
  ·exact absurd (((Zbl (wd:=1) (n:=m) xs (by decide) hm).1 hc).1.trans (Zjp m)) h
 ·exact Zcz _ (by omega)
theorem Zj5 {m k:Nat} {xs:List Nat} (hk:m≤k) (h:Za0 xs k=true):Za8 1 (m:Int) xs=false:=by
 by_cases hm:m≤65536
 ·cases hc:Za8 1 (m:Int) xs
  ·rfl
  ·rw[Zit ((Zbl (wd:=1) (n:=m) xs (by decide) hm).1 hc) k hk]at h;cases h
 ·exact Zcz _ (by omega)
set_option maxHeartbeats 1000000 in
theorem Zgv (v:Value) (xs:List Nat) (n:Int) (w:World) (hx:Rd w v xs.length 1 (u64s xs)) (hv:∀ x∈xs,x<18446744073709551616) (hl:xs.length≤maxLen) :
  Calls Tryz.prog 130 #[v,.int .i64 n] w fun e w'=>e=.returned (.bool (Za8 1 n xs))∧w'=w:=by
 have HX:=hid hx;have HV:=hid hv;have HL:=hid hl;unfold maxLen at hl;obtain⟨A,ca,rfl,hlc,hcm,hA⟩:=hx.form;clear hx hv hA hlc hcm;obtain⟨ok,hok⟩:∃ ok,Za8 1 n xs=ok:=⟨_,rfl⟩;rw[hok];have Q7:=hid hok;clear hok;go_enter Tryz.func130,Tryz.ntmps130;by_cases h0:n<0
 ·go_wp2;go_ret;exact⟨Zae (by rw[← Q7.out,Zcz _ (by omega)]),rfl⟩
 by_cases h1:65536<n
 ·go_wp2;go_ret;exact⟨Zae (by rw[← Q7.out,Zcz _ (by omega)]),rfl⟩
 obtain⟨m,rfl⟩:=Int.eq_ofNat_of_zero_le (show 0≤n by omega);obtain⟨q,hq⟩:∃ q,(m+63)/64=q:=⟨_,rfl⟩;have hq':((m:Int)+63)/64=(q:Int):=by omega
 have hm64:m≤64*q:=by omega
 have hq2:q≤1024:=by omega
 have HQ:=hid hq;clear hq;by_cases hlq:xs.length=q
 ·have HLQ:=hid hlq;rw[hlq];clear hlq;go_wp2;go_loop [5] (fun i=>∃ j:Nat,m≤j∧j≤64*q∧i=.int .i64 j∧Hid (∀ k,m≤k→k<j→Za0 xs k=false)) (fun i=>64*q-(intOf i).toNat)
  case atStart=>exact⟨m,by omega,by omega,rfl,hid (by intro k h1 h2;omega)⟩
  case round =>
   obtain⟨j,hj1,hj2,rfl,HB⟩:=hrel;by_cases hlt:j<64*q
   ·have HC:=hid (Zfy (.slice A q ca) xs j w (by rw[← HLQ.out];exact HX.out) HV.out HL.out (by omega));obtain⟨bb,hbb⟩:∃ bb,Za0 xs j=bb:=⟨_,rfl⟩;rw[hbb]at HC;have Zu:=hid hbb;clear hbb;cases bb
    ·go_wp2_with (go_at_call 133;refine HC.out.mono ?_;rintro e w' ⟨rfl,rfl⟩)
     go_round
     case rel =>
      refine⟨j+1,by omega,by omega,by go_num,hid ?_⟩;intro k hk1 hk2;rcases Nat.lt_succ_iff_lt_or_eq.1 hk2 with h | h
      ·exact HB.out k hk1 h
      ·rw[h];exact Zu.out
     case measure=>simp[intOf];omega
    ·go_wp2_with (go_at_call 133;refine HC.out.mono ?_;rintro e w' ⟨rfl,rfl⟩)
     go_ret;exact⟨Zae (by rw[← Q7.out,Zj5 hj1 Zu.out]),rfl⟩
   ·go_wp2;go_ret;refine⟨Zae ?_,rfl⟩;rw[← Q7.out];exact Eq.symm ((Zbl (wd:=1) (n:=m) xs (by decide) (by omega)).2 (Zml (by rw[Zjp,HLQ.out,HQ.out]) HV.out (fun i h1 h2=>HB.out i h1 (by rw[HLQ.out]at h2;omega))))
 ·have HLQ:=hid hlq;go_wp2;go_ret;exact⟨Zae (by rw[← Q7.out,Zjx (by rw[HQ.out];exact HLQ.out)]),rfl⟩
def idxN (ws:List Nat) (n:Nat):List Nat:=(List.range n).filter (Za0 ws)
def ints (l:List Nat):List Value:=l.map fun n:Nat=>Value.int .i64 (n:Int)
theorem Zq6 (ws:List Nat) (n:Nat):(idxN ws n).length=Zbe ws n:=rfl
theorem Z0q (ws:List Nat) (n:Nat):(idxN ws n).length≤n:=by
 have:=List.length_filter_le (Za0 ws) (List.range n)
 rwa [List.length_range]at this
set_option maxHeartbeats 1000000 in
theorem Zrg (v:Value) (xs:List Nat) (n i:Int) (w:World) (hx:Rd w v xs.length 1 (u64s xs)) (hv:∀ x∈xs,x<18446744073709551616) (hl:xs.length≤maxLen) :
  Calls Tryz.prog 131 #[v,.int .i64 n,.int .i64 i] w fun e w'=>e=.returned (.int .i64 (Zeg n i xs))∧w'=w:=by
 have H:=hid (Zgv _ xs n w hx hv hl);have HX:=hid hx;have HV:=hid hv;have HL:=hid hl;clear hx hv hl;obtain⟨R,hR⟩:∃ R,Zeg n i xs=R:=⟨_,rfl⟩;rw[hR];have HR:=hid hR;clear hR;generalize hok:Za8 1 n xs=ok at *;have Q7:=hid hok;clear hok;go_enter Tryz.func131,Tryz.ntmps131;cases ok
 ·go_wp2_with (go_at_call 130;refine H.out.mono ?_;rintro e w' ⟨rfl,rfl⟩)
  go_ret;exact⟨Zc9 (by rw[← HR.out,Zeg,if_neg (by rw[Q7.out];simp)]),rfl⟩
 ·by_cases h0:i<0
  ·go_wp2_with (go_at_call 130;refine H.out.mono ?_;rintro e w' ⟨rfl,rfl⟩)
   go_ret;exact⟨Zc9 (by rw[← HR.out,Zeg,if_neg (by omega)]),rfl⟩
  ·by_cases h1:n<i
   ·go_wp2_with (go_at_call 130;refine H.out.mono ?_;rintro e w' ⟨rfl,rfl⟩)
    go_ret;exact⟨Zc9 (by rw[← HR.out,Zeg,if_neg (by omega)]),rfl⟩
   ·obtain⟨k,rfl⟩:=Int.eq_ofNat_of_zero_le (show 0≤i by omega);have hn:n≤65536:=by
     refine Decidable.byContradiction fun hc=>?_
     have:=Q7.out;rw[Zcz _ (by omega)]at this;cases this
    have HQ:Hid (R=((Zbe xs k:Nat):Int)):=by
     refine hid ?_;rw[← HR.out,Zeg,if_pos ⟨Q7.out,by omega,by omega⟩];simp
    have hk:k≤65536:=by omega
    go_wp2_with (go_at_call 130;refine H.out.mono ?_;rintro e w' ⟨rfl,hw⟩;replace hw:=hw.symm;subst hw)
    go_loop [7,8] (fun c p=>∃ j:Nat,j≤k∧p=.int .i64 j∧c=.int .i64 (Zbe xs j:Nat)) (fun _ p=>k-(intOf p).toNat)
    case atStart=>exact⟨0,by omega,rfl,by simp[Zbe]⟩
    case round =>
     obtain⟨j,hj,rfl,rfl⟩:=hrel;by_cases hlt:j<k
     ·have HC:=hid (Zfy v xs j w HX.out HV.out HL.out (by omega));have hle:=Z0q xs j;rw[Zq6]at hle;have HS:=hid (Ze3 xs j);generalize Za0 xs j=bb at *;generalize Zbe xs j=a at *;cases bb
      ·go_wp2_with (go_at_call 133;refine HC.out.mono ?_;rintro e w' ⟨rfl,hw⟩;replace hw:=hw.symm;subst hw)
       go_round
       case rel=>exact⟨j+1,by omega,by go_num,by rw[HS.out];simp⟩
       case measure=>simp[intOf];omega
      ·go_wp2_with (go_at_call 133;refine HC.out.mono ?_;rintro e w' ⟨rfl,hw⟩;replace hw:=hw.symm;subst hw)
       go_round
       case rel=>exact⟨j+1,by omega,by go_num,by rw[HS.out];simp⟩
       case measure=>simp[intOf];omega
     ·go_wp2;go_ret;exact⟨Zc9 (by rw[HQ.out,show j=k from by omega]),rfl⟩
set_option maxRecDepth 100000
structure Ck_I (w:World) (g:Nat) (rows:Int) (codec wd:Nat) (nulls:List Nat) (count:Int) (list:List Int) (ends:List Nat) (base:Int) (lanes:List Nat):Prop where
 ex:∃ nu lv ev nv bef,Row w g 207 (ck_I rows codec wd nu count lv ev base nv (.iface 159 (.agg #[])) bef)∧Rd w nu nulls.length 1 (u64s nulls)∧Rd w lv list.length 1 (lstI list) ∧
  Rd w ev ends.length 1 (nIs ends)∧Rd w nv lanes.length 1 (u64s lanes)∧Rd w bef nulls.length 1 (i64s (befL nulls))
theorem Ck_I.mono {w w':World} {g:Nat} {rows:Int} {codec wd:Nat} {nulls:List Nat} {count:Int} {list:List Int} {ends:List Nat} {base:Int} {lanes:List Nat} (h:Ck_I w g rows codec wd nulls count list ends base lanes) (hb:Below w.heap.size w w') :
  Ck_I w' g rows codec wd nulls count list ends base lanes:=by
 obtain⟨nu,lv,ev,nv,bef,h1,h2,h3,h4,h5,h6⟩:=h.ex;exact⟨nu,lv,ev,nv,bef,h1.mono hb,h2.mono hb,h3.mono hb,h4.mono hb,h5.mono hb,h6.mono hb⟩
def Zi2 (codec wd:Nat) (list:List Int) (ends:List Nat) (lanes:List Nat) (j:Nat):Int :=
 if codec=1 then list.getD j dfI else if codec=2 then list.getD (L.laneOf wd lanes j) dfI else list.getD (Zb8 (nI ends) ((j:Int)+1)) dfI
def ok_I (codec wd:Nat) (list:List Int) (ends:List Nat) (lanes:List Nat) (j:Nat):Prop :=
 (codec=1∧j<list.length)∨(codec=2∧L.laneOf wd lanes j<list.length∧wd≤64∧(0<wd→j/(64/wd)<lanes.length)) ∨
  (codec=3∧Zb8 (nI ends) ((j:Int)+1)<list.length∧∀ a b,a<b→b<(nI ends).length→(nI ends).getD a 0<(nI ends).getD b 0)
set_option maxHeartbeats 2000000 in
theorem Z1l (w:World) (g:Nat) (rows:Int) (codec wd:Nat) (nulls:List Nat) (count:Int) (list:List Int) (ends:List Nat) (base:Int) (lanes:List Nat) (j:Nat)
  (h:Ck_I w g rows codec wd nulls count list ends base lanes) (hel:ends.length≤16777216) (hj:j≤65536) (hup:∀ a b,a<b→b<(nI ends).length→(nI ends).getD a 0<(nI ends).getD b 0) :
  Calls Tryz.prog 238 #[.pointer (some ⟨g,0,none⟩),.int .i64 j] w fun e w'=>e=.returned (.int .i64 (Zb8 (nI ends) ((j:Int)+1):Nat))∧∃ n,w'=w.drewN n:=by
 obtain⟨nu,lv,ev,nv,bef,h1,h2,h3,h4,h5,h6⟩:=h.ex;have HB:=hid (Zgm ev (nI ends) ((j:Int)+1) w (by rw[Zaq];exact h4) (by rw[Zaq];exact hel) hup);obtain⟨A,c,rfl,_,_,_⟩:=h4.form;have c6:w.cell? ⟨g,0+6,none⟩=some (.slice A ends.length c):=by rw[h1.cell];rfl
 clear h1 h2 h3 h4 h5 h6 h hup;generalize Zb8 (nI ends) ((j:Int)+1)=r at *;go_enter Tryz.func238,Tryz.ntmps238;go_wp2_with fail
 refine HB.out.mono ?_;rintro e w1 ⟨⟨b,rfl⟩,n,rfl⟩;go_wp2_with fail
 go_ret;exact⟨rfl,n,rfl⟩
set_option maxHeartbeats 4000000 in
theorem Zu2 (w:World) (g:Nat) (rows:Int) (codec wd:Nat) (nulls:List Nat) (count:Int) (list:List Int) (ends:List Nat) (base:Int) (lanes:List Nat) (j:Nat)
  (h:Ck_I w g rows codec wd nulls count list ends base lanes) (hel:ends.length≤16777216) (hll:list.length≤16777216) (hnv:∀ x∈lanes,x<18446744073709551616) (hj:j≤65536) (hok:ok_I codec wd list ends lanes j) :
  Calls Tryz.prog 205 #[.pointer (some ⟨g,0,none⟩),.int .i64 j] w fun e w'=>e=.returned (vI (Zi2 codec wd list ends lanes j))∧Below w.heap.size w w':=by
 obtain⟨nu,lv,ev,nv,bef,h1,h2,h3,h4,h5,h6⟩:=h.ex;obtain⟨A,c,rfl,hlc,hcm,hA⟩:=h3.form;have c1:w.cell? ⟨g,0+1,none⟩=some (.int .i64 codec):=by rw[h1.cell];rfl
 have c5:w.cell? ⟨g,0+5,none⟩=some (.slice A list.length c):=by rw[h1.cell];rfl
 have c5':w.cell? ⟨g,5,none⟩=some (.slice A list.length c):=by rw[h1.cell];rfl
 rcases hok with ⟨rfl,hlt⟩ | ⟨rfl,hlt,hw,hin⟩ | ⟨rfl,hlt,hup⟩
 ·obtain⟨b,o,rfl,hs⟩:=hA (by omega);have d1:w.cell? ⟨b,o+j,none⟩=some (vI (list.getD j dfI)):=hs _ _ (Zi7 list j hlt);have hv:Zi2 1 wd list ends lanes j=list.getD j dfI:=by unfold Zi2;rw[if_pos rfl]
  rw[hv];unfold vI at d1 ⊢;clear h1 h2 h3 h4 h5 h6 h hs hA c5' hv;generalize list.getD j dfI=x at *;go_enter Tryz.func205,Tryz.ntmps205;go_wp2;go_ret;exact⟨rfl,Zab w⟩
 ·have hv:Zi2 2 wd list ends lanes j=list.getD (L.laneOf wd lanes j) dfI:=by unfold Zi2;rw[if_neg (by omega),if_pos rfl]
  rw[hv];have Yr:=hid (fun n:Nat=>Zxm (w.drewN n) g rows (2:Nat) wd nu count (.slice A list.length c) ev base nv _ bef lanes j (h1.drewN n) (h5.mono (Zag (Zab w) n)) hnv hw hj hin);generalize L.laneOf wd lanes j=r at *;obtain⟨b,o,rfl,hs⟩:=hA (Nat.lt_of_le_of_lt (Nat.zero_le _) hlt);have d1:w.cell? ⟨b,o+r,none⟩=some (vI (list.getD r dfI)):=hs _ _ (Zi7 list r hlt);unfold vI at d1 ⊢;have hri:(r:Int)<(list.length:Int):=by omega
  clear h1 h2 h3 h4 h5 h6 h hs hA hv hin c5;generalize list.getD r dfI=x at *;go_enter Tryz.func205,Tryz.ntmps205;go_wp2_with fail
  go_quiet (first | (go_at_call 237;refine Calls.quiet_of (Yr.out _)))
  go_wp2_with fail
  go_ret;exact⟨rfl,Zag (Zab w) _⟩
 ·have hv:Zi2 3 wd list ends lanes j=list.getD (Zb8 (nI ends) ((j:Int)+1)) dfI:=by unfold Zi2;rw[if_neg (by omega),if_neg (by omega)]
  rw[hv];have Q1:=hid (fun n:Nat=>Z1l (w.drewN n) g rows 3 wd nulls count list ends base lanes j (h.mono (Zag (Zab w) n)) hel hj hup);generalize Zb8 (nI ends) ((j:Int)+1)=r at *;obtain⟨b,o,rfl,hs⟩:=hA (Nat.lt_of_le_of_lt (Nat.zero_le _) hlt);have d1:w.cell? ⟨b,o+r,none⟩=some (vI (list.getD r dfI)):=hs _ _ (Zi7 list r hlt);unfold vI at d1 ⊢;have hri:(r:Int)<(list.length:Int):=by omega
  clear h1 h2 h3 h4 h5 h6 h hs hA hv hup c5;generalize list.getD r dfI=x at *;go_enter Tryz.func205,Tryz.ntmps205;go_wp2_with fail
  go_quiet (first | (go_at_call 238;refine Calls.quiet_of (Q1.out _)))
  go_wp2_with fail
  go_ret;exact⟨rfl,Zag (Zab w) _⟩
def Zuq (base:Int) (lane:Nat):Int:=IntKind.i64.wrap (base+IntKind.i64.wrap (lane:Int))
theorem Zqp (x:Int) (w:World):Calls Tryz.prog 320 #[.agg #[],.agg #[.bool false,.int .i64 x,.string ByteArray.empty]] w fun e w'=>e=.returned (.int .i64 x)∧Below w.heap.size w w':=Znz x w
set_option maxHeartbeats 4000000 in
theorem Zst (w:World) (g:Nat) (rows:Int) (codec wd:Nat) (nulls:List Nat) (count:Int) (list:List Int) (ends:List Nat) (base:Int) (lanes:List Nat) (j:Nat)
  (h:Ck_I w g rows codec wd nulls count list ends base lanes) (hnv:∀ x∈lanes,x<18446744073709551616) (hj:j≤65536) (hcd:codec=4∨codec=5) (hw:wd≤64) (hin:0<wd→j/(64/wd)<lanes.length) :
  Calls Tryz.prog 205 #[.pointer (some ⟨g,0,none⟩),.int .i64 j] w fun e w'=>e=.returned (.int .i64 (Zuq base (L.laneOf wd lanes j)))∧Below w.heap.size w w':=by
 obtain⟨nu,lv,ev,nv,bef,h1,h2,h3,h4,h5,h6⟩:=h.ex;have c1:w.cell? ⟨g,0+1,none⟩=some (.int .i64 codec):=by rw[h1.cell];rfl
 have c9:w.cell? ⟨g,9,none⟩=some (.iface 159 (.agg #[])):=by rw[h1.cell];rfl
 have c7:w.cell? ⟨g,7,none⟩=some (.int .i64 base):=by rw[h1.cell];rfl
 have Yr:=hid (fun n:Nat=>Zxm (w.drewN n) g rows codec wd nu count lv ev base nv _ bef lanes j (h1.drewN n) (h5.mono (Zag (Zab w) n)) hnv hw hj hin);have hgw:g<w.heap.size:=h1.lt;have e1:¬ codec=1:=by omega
 have e2:¬ codec=2:=by omega
 have e3:¬ codec=3:=by omega
 have ei1:((codec:Int)==1)=false:=by simp;omega
 have ei2:((codec:Int)==2)=false:=by simp;omega
 have ei3:((codec:Int)==3)=false:=by simp;omega
 have hmv:=Zx2;unfold Zuq;generalize L.laneOf wd lanes j=l at *;clear h1 h2 h3 h4 h5 h6 h hin hnv;go_enter Tryz.func205,Tryz.ntmps205;go_wp2_with fail
 go_region_held3 (fun w'=>w'.cell? ⟨g,9,none⟩=some (.iface 159 (.agg #[]))∧w'.cell? ⟨g,7,none⟩=some (.int .i64 base)) (go_keep)
  (first
   | (go_at_call 237;refine(Yr.out 1).mono ?_;rintro e w3 ⟨rfl,n3,rfl⟩;have Qk:=hid (Zag (Zag (Zab w) 1) n3);have k9:((w.drewN 1).drewN n3).cell? ⟨g,9,none⟩=some (.iface 159 (.agg #[])):=c9;have k7:((w.drewN 1).drewN n3).cell? ⟨g,7,none⟩=some (.int .i64 base):=c7;have hz3:w.heap.size≤((w.drewN 1).drewN n3).heap.size:=Qk.out.size;generalize (w.drewN 1).drewN n3=w3 at *)
   | (go_at_call 320;refine(Zqp _ _).mono ?_;rintro e w4 ⟨rfl,hb4⟩;have Q0:=hid (Qk.out.trans (hb4.mono hz3));have m9:=(hb4.cell (p:=⟨g,9,none⟩) (Nat.lt_of_lt_of_le hgw hz3)).trans k9;have m7:=(hb4.cell (p:=⟨g,7,none⟩) (Nat.lt_of_lt_of_le hgw hz3)).trans k7;clear hb4))
 all_goals go_wp2_with fail
 all_goals go_ret
 all_goals exact⟨rfl,Q0.out⟩
set_option maxRecDepth 20000
def ck_S (rows codec width:Int) (nulls:Value) (count:Int) (list ends:Value) (base:Int) (lanes kind bef:Value):List Value :=
 [i64 rows,i64 codec,i64 width,nulls,i64 count,list,ends,i64 base,lanes,kind,bef]
set_option maxHeartbeats 1000000 in
theorem Zzh (w:World) (g:Nat) (rows codec:Int) (wd:Nat) (nulls:Value) (count:Int) (list ends:Value) (base:Int) (lanes kind bef:Value) (ws:List Nat) (j:Nat)
  (h:Row w g 198 (ck_S rows codec wd nulls count list ends base lanes kind bef)) (hx:Rd w lanes ws.length 1 (u64s ws)) (hv:∀ x∈ws,x<18446744073709551616)
  (hw:wd≤64) (hj:j≤65536) (hin:0<wd→j/(64/wd)<ws.length) :
  Calls Tryz.prog 231 #[.pointer (some ⟨g,0,none⟩),.int .i64 j] w fun e w'=>e=.returned (.int .u64 (L.laneOf wd ws j:Nat))∧∃ n,w'=w.drewN n:=by
 have c2:w.cell? ⟨g,0+2,none⟩=some (.int .i64 wd):=by rw[h.cell];rfl
 by_cases h0:wd=0
 ·subst h0;go_enter Tryz.func231,Tryz.ntmps231;go_wp2;go_ret;exact⟨by simp[L.laneOf],0,rfl⟩
 ·obtain⟨A,ca,rfl,hlc,hcm,hA⟩:=hx.form;have hlt:=hin (by omega);obtain⟨b,o,rfl,hs⟩:=hA (Nat.lt_of_le_of_lt (Nat.zero_le _) hlt);have c8:w.cell? ⟨g,0+8,none⟩=some (.slice (some ⟨b,o,none⟩) ws.length ca):=by rw[h.cell];rfl
  have c1:=hs.word _ hlt;have hvj:ws.getD (j/(64/wd)) 0<18446744073709551616:=hv _ (by simp[List.getD,List.getElem?_eq_getElem hlt]);have hp:=L.per_pos (by omega) hw;have hp2:64/wd≤64:=Nat.div_le_self 64 wd;obtain⟨p,hP⟩:∃ p,64/wd=p:=⟨_,rfl⟩;have hPi:(64:Int)/(wd:Int)=(p:Int):=by rw[← hP];simp
  rw[hP]at c1 hvj hp hp2 hlt;have hmul:j%p*wd≤64:=by
   have h1:=L.per_mul wd;rw[hP]at h1;exact Nat.le_trans (Nat.mul_le_mul_right wd (Nat.le_of_lt (Nat.mod_lt _ hp))) h1
  obtain⟨q,hq⟩:∃ q,j%p*wd=q:=⟨_,rfl⟩;have hq':((j:Int)%(p:Int))*(wd:Int)=(q:Int):=by rw[← hq];simp
  rw[hq]at hmul;obtain⟨d,hd⟩:∃ d,j/p=d:=⟨_,rfl⟩;have hd':(j:Int)/(p:Int)=(d:Int):=by rw[← hd];simp
  have hdj:d≤65536:=by rw[← hd];exact Nat.le_trans (Nat.div_le_self _ _) hj
  rw[hd]at c1 hvj hlt;have HL:Hid (L.laneOf wd ws j=ws.getD d 0/2^q%2^wd):=hid (by unfold L.laneOf;rw[if_neg h0,hP,hd,hq]);have hne:¬ (wd:Int)=0:=by omega
  have hpe:¬ (p:Int)=0:=by omega
  clear hA hs hx hv hin hP hq hd h;generalize ws.getD d 0=x at *;have Z0:=hid (Zte x q wd hvj hw);generalize hz:2^wd-1=z at *;have HZ:=hid hz;clear hz;have hw1:(wd:Int)≤64:=by omega
  have ZH:Hid (IntKind.u64.wrap (IntKind.u64.wrap (2^wd)-1)=(z:Int)):=hid (by rw[← HZ.out];exact Zo6 wd hw);go_enter Tryz.func231,Tryz.ntmps231;go_wp2;rw[hPi,ZH.out];go_quiet (fail)
  go_wp2;go_ret;exact⟨Zer (by rw[Z0.out,HL.out]),_,rfl⟩
end Go.Proofs.YtmcjknjlihgihaaGreatDoor
