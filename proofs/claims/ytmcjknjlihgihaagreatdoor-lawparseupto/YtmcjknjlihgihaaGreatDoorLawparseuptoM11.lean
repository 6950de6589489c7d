/- The plain answer: runs. -/
import Derived.Test.YtmcjknjlihgihaaGreatDoorLawparseuptoM10
set_option linter.unusedVariables false
set_option linter.unusedSimpArgs false
set_option linter.unnecessarySimpa false
set_option maxRecDepth 100000
namespace Go.Proofs.YtmcjknjlihgihaaGreatDoor
open Go.RowKit
abbrev PV:=Int×ByteArray
def PAns (w w':World) (e:Ending) (r:Bool×List PV):Prop :=
 ∃ u,e=.returned (.tuple #[u,.bool r.1])∧(∃ A n c,u=Value.slice A n c)∧(r.1=true→w'.ownsRow w.heap.size 36 3 u r.2.length (Zdm r.2))∧Below w.heap.size w w'
def geP (a b:PV):Bool:=decide (0≤ordP a b)
def eqP (a b:PV):Bool:=decide (ordP a b=0)
def dN (p:Nat) (xs:List Nat):Nat:=if Zb8 4 p xs.length=true then L.wordOf 8 ((xs.drop p).take 4)else 0
def Zev (kd wd k p:Nat) (xs:List Nat):Bool×List PV :=
 if Zb8 4 p xs.length=false∨256<dN p xs∨wd≠Zgl (dN p xs)then (false,[])
 else if Zbw kd (dN p xs) (p+4) xs=false∨Zbd geP (Zdo kd (dN p xs) (p+4) xs)=false then (false,[])
 else if ((Zbm wd k (Zbz kd (dN p xs) (p+4) xs) xs).all fun c=>decide (c<dN p xs))=false then (false,[])
 else (Zbx wd k (Zbz kd (dN p xs) (p+4) xs) xs,(Zbm wd k (Zbz kd (dN p xs) (p+4) xs) xs).map fun c=>(Zdo kd (dN p xs) (p+4) xs).getD c dfP)
theorem Zc4 {w w':World} {r:Bool×List PV} (h:r=(false,[])) (hb:Below w.heap.size w w'):PAns w w' (.returned (.tuple #[.slice none 0 0,.bool false])) r:=by
 subst h;exact⟨_,rfl,⟨_,_,_,rfl⟩,(fun h=>by simp at h),hb⟩
theorem Zeo (kd m p:Nat) (xs:List Nat) (h:Zbw kd m p xs=true) (hkd:kd=1∨kd=2):(Zdo kd m p xs).length=m:=by
 rcases hkd with rfl | rfl
 ·unfold Zbw at h;rw[if_pos rfl]at h;unfold Zav at h;simp only[decide_eq_true_eq]at h;unfold Zdo;rw[if_pos rfl,List.length_map,List.length_map,Zan];unfold tk;rw[if_pos (by rw[List.length_drop];exact h.2),List.length_take,List.length_drop,Nat.min_eq_left (by omega)];omega
 ·unfold Zbw at h;rw[if_neg (by decide)]at h;unfold Zdo;rw[if_neg (by decide),List.length_map];have h2:=h;unfold Ze6 at h2;simp only[Bool.and_eq_true]at h2;unfold Zav at h2;simp only[decide_eq_true_eq]at h2;unfold Zng;rw[if_pos h,Zd0,Zas,Zan];unfold tk;rw[if_pos (by rw[List.length_drop];exact h2.1.2),List.length_take,List.length_drop,Nat.min_eq_left (by omega)];omega
theorem Zyg (kd m p:Nat) (xs:List Nat) (hl:xs.length≤16777216):Zbz kd m p xs≤16777216:=by
 unfold Zbz
 split
 ·split
  ·rename_i h
   unfold Zav at h;simp only[decide_eq_true_eq]at h;omega
  ·omega
 ·unfold Zju
  split
  ·rename_i h
   unfold Ze6 at h;simp only[Bool.and_eq_true]at h;obtain⟨h1,h2⟩:=h;unfold Zav at h1;simp only[decide_eq_true_eq]at h1;unfold tsz
   split at h2
   ·cases h2
   ·rename_i sz hsz
    simp only[decide_eq_true_eq]at h2;rw[hsz];simp only[Option.getD_some];omega
  ·omega
theorem Rd.atP {w:World} {D:Option Addr} {n m cd:Nat} {vs:List PV} (h:Rd w (.slice D n cd) m 3 (Zdm vs)) (h0:0<m):∃ b o,D=some ⟨b,o,none⟩ ∧
  ∀ k,k<vs.length→w.cell? ⟨b,o+k*3,none⟩=some (.bool false)∧w.cell? ⟨b,o+k*3+1,none⟩=some (.int .i64 (vs.getD k dfP).1)∧w.cell? ⟨b,o+k*3+2,none⟩=some (.string (vs.getD k dfP).2):=by
 rcases h.2 with ⟨_,rfl⟩ | ⟨b,o,cap',he,_,_,hs⟩
 ·exact absurd h0 (Nat.lt_irrefl 0)
 ·injection he with e1 e2 e3
  refine⟨b,o,e1,fun k hk=>?_⟩;obtain⟨g0,g1,g2⟩:=Zvd vs k hk;exact⟨hs _ _ g0,hs _ _ g1,hs _ _ g2⟩
theorem Rd.atW {w:World} {D:Option Addr} {n m cd:Nat} {xs:List Nat} (h:Rd w (.slice D n cd) m 1 (u64s xs)) (h0:0<m):∃ b o,D=some ⟨b,o,none⟩ ∧
  ∀ k,k<xs.length→w.cell? ⟨b,o+k,none⟩=some (.int .u64 ((xs.getD k 0:Nat):Int)):=by
 rcases h.2 with ⟨_,rfl⟩ | ⟨b,o,cap',he,_,_,hs⟩
 ·exact absurd h0 (Nat.lt_irrefl 0)
 ·injection he with e1 e2 e3
  exact⟨b,o,e1,fun k hk=>hs.word k hk⟩
set_option maxHeartbeats 8000000 in
theorem Zvg (kd:Nat) (hkd:kd=1∨kd=2) (v:Value) (xs:List Nat) (p wd k:Nat) (w:World) (hx:Rd w v xs.length 1 (u8s xs)) (hb:∀ x∈xs,x<256) (hl:xs.length≤16777216) (hp:p≤16777216) (hk:k≤65536) :
  Calls Tryz.prog 163 #[v,.int .i64 p,.int .i64 kd,.int .i64 wd,.int .i64 k] w fun e w'=>PAns w w' e (Zev kd wd k p xs):=by
 have QV:=hid (Zcz v xs p 4 w hx hb hl (by omega) (by omega));have JT:=hid (fun(d:Nat) (hd:d≤256) (w2:World)=>Zzq d w2 hd);have V1:=hid (fun(d:Nat) (hd:d≤256)=>by
  have h:=Zkj kd hkd v xs (p+4) d w hx hb hl (by omega) (by omega);rw[show ((p+4:Nat):Int)=(p:Int)+4 by omega]at h;exact h)
 have QP:=hid (fun(nx:Nat) (hn:nx≤16777216) (w2:World) (hbl:Below w.heap.size w w2)=>Zl2 v xs nx wd k w2 (hx.mono hbl) hb hl (by omega));have YG:=hid (fun m=>Zeo kd m (p+4) xs);have YH:=hid (fun m=>Zyg kd m (p+4) xs hl);obtain⟨A,ca,rfl,_,_,_⟩:=hx.form;clear hx;obtain⟨R,hR⟩:∃ R,Zev kd wd k p xs=R:=⟨_,rfl⟩;rw[hR];unfold Zev dN at hR;obtain⟨ok,hok⟩:∃ ok,Zb8 4 p xs.length=ok:=⟨_,rfl⟩;rw[hok]at hR QV;have hwl:L.wordOf 8 ((xs.drop p).take 4)<4294967296:=Zb0 _ (fun x hx=>hb x (List.mem_of_mem_drop (List.mem_of_mem_take hx))) (by rw[List.length_take];omega);generalize L.wordOf 8 ((xs.drop p).take 4)=d0 at *;have HR:=hid hR;clear hR hok;cases ok
 ·have Q5:=hid (show R=(false,[]) by rw[← HR.out];simp);clear HR;simp only[Bool.false_eq_true,if_false]at QV;go_enter Tryz.func163,Tryz.ntmps163;go_wp2_with (go_at_call 91;refine QV.out.mono ?_;rintro e w1 ⟨rfl,hw⟩;replace hw:=hw.symm;subst hw)
  go_ret2
  exact Zc4 Q5.out (Zab w)
 simp only[if_true]at QV HR;by_cases h256:256<d0
 ·have Q5:=hid (show R=(false,[]) by rw[← HR.out,if_pos (.inr (.inl h256))]);clear HR;have h256i:(d0:Int) > 256:=by omega
  go_enter Tryz.func163,Tryz.ntmps163;go_wp2_with (go_at_call 91;refine QV.out.mono ?_;rintro e w1 ⟨rfl,hw⟩;replace hw:=hw.symm;subst hw)
  go_ret2
  exact Zc4 Q5.out (Zab w)
 have hd256:d0≤256:=by omega
 have h256i:¬ (d0:Int) > 256:=by omega
 have U0:=hid (JT.out d0 hd256);have YN:=hid (V1.out d0 hd256);by_cases hwd:wd=Zgl d0
 rotate_left
 ·have Q5:=hid (show R=(false,[]) by rw[← HR.out,if_pos (.inr (.inr hwd))]);clear HR YN;generalize Zgl d0=nd at *;have hne:((wd:Int) != (nd:Int))=true:=by simp;omega
  go_enter Tryz.func163,Tryz.ntmps163;go_wp2_with (first
   | (go_at_call 91;refine QV.out.mono ?_;rintro e w1 ⟨rfl,hw⟩;replace hw:=hw.symm;subst hw)
   | (go_at_call 117;refine(U0.out _).mono ?_;rintro e w1 ⟨rfl,hw⟩;replace hw:=hw.symm;subst hw))
  go_ret2
  exact Zc4 Q5.out (Zab w)
 rw[if_neg (by simp;omega)]at HR;rw[← hwd]at U0;have Jp:=hid (YG.out d0);have HNXd:=hid (YH.out d0);have hne:((wd:Int) != (wd:Int))=false:=by simp
 clear JT V1 YG YH hwd;obtain⟨lo,hlo⟩:∃ lo,Zbw kd d0 (p+4) xs=lo:=⟨_,rfl⟩;rw[hlo]at HR YN Jp;generalize Zdo kd d0 (p+4) xs=dict at *;generalize Zbz kd d0 (p+4) xs=nx at *;go_enter Tryz.func163,Tryz.ntmps163;cases lo
 ·have Q5:=hid (show R=(false,[]) by rw[← HR.out];simp);clear HR;go_wp2_with (first
   | (go_at_call 91;refine QV.out.mono ?_;rintro e w1 ⟨rfl,hw⟩;replace hw:=hw.symm;subst hw)
   | (go_at_call 117;refine(U0.out _).mono ?_;rintro e w1 ⟨rfl,hw⟩;replace hw:=hw.symm;subst hw)
   | (go_at_call 166;refine YN.out.mono ?_;rintro e w2 ⟨u,rfl,ho2,hb2⟩;have Qb:=hid hb2;clear ho2 hb2))
  go_ret2
  exact Zc4 Q5.out Qb.out
 have hdl:dict.length=d0:=Jp.out rfl hkd;go_upto_region 7 with (first
   | (go_at_call 91;refine QV.out.mono ?_;rintro e w1 ⟨rfl,hw⟩;replace hw:=hw.symm;subst hw)
   | (go_at_call 117;refine(U0.out _).mono ?_;rintro e w1 ⟨rfl,hw⟩;replace hw:=hw.symm;subst hw)
   | (go_at_call 166;refine YN.out.mono ?_;rintro e w2 ⟨u,rfl,ho2,hb2⟩;have Yk:=hid ho2;have Qb:=hid hb2;obtain⟨D,cd,rfl⟩:=Zb1 ho2;clear ho2 hb2))
 rw[hdl]at Yk;have Ye:=hid (Zon Yk.out);have hsz2:=Qb.out.size;have JG:=hid hdl;clear Yk QV U0 YN Jp hdl;go_wp2_with fail
 go_loopw [55] (fun i wr=>∃ t:Nat,t≤d0∧i=.int .i64 t∧Hid (∀ u,u+1<t→geP (dict.getD u dfP) (dict.getD (u+1) dfP)=false)∧Hid (Below w2.heap.size w2 wr)) (fun i _=>d0-(intOf i).toNat)
 case atStart=>exact⟨0,by omega,rfl,hid (fun u h=>absurd h (by omega)),hid (Zab w2)⟩
 case round =>
  obtain⟨t,ht,rfl,Qs,Ql⟩:=hrel;by_cases hlt:t<d0
  ·rcases Nat.eq_zero_or_pos t with rfl | ht0
   ·go_upto_region 10 with fail
    go_quiet (fail)
    go_wp2_with fail
    go_roundw
    case rel=>exact⟨1,by omega,by go_num,hid (fun u h=>absurd h (by omega)),hid (Zaf Ql.out _)⟩
    case measure=>simp[intOf];omega
   ·obtain⟨u,hu⟩:∃ u,t=u+1:=⟨t-1,by omega⟩;obtain⟨b,o,rfl,hcells⟩:=(Ye.out.mono Ql.out).atP (by omega);obtain⟨m0,m1,m2⟩:=hcells u (by rw[JG.out];omega);obtain⟨l0,l1,l2⟩:=hcells t (by rw[JG.out];omega);have HG:Hid (geP (dict.getD u dfP) (dict.getD t dfP)=decide (0≤ordP (dict.getD u dfP) (dict.getD t dfP))):=hid rfl;have U1:=hid (fun(w2:World)=>Zlx (dict.getD u dfP) (dict.getD t dfP) w2);have QG:Hid (geP (dict.getD u dfP) (dict.getD t dfP)=true→Zbd geP dict=false):=hid (fun h=>by
     rw[← Bool.not_eq_true,Zca geP dfP];intro h2;have:=h2 u (by rw[JG.out];omega);rw[← hu,h]at this;cases this)
    have HNEXT:Hid (geP (dict.getD u dfP) (dict.getD t dfP)=false→∀ z,z+1<t+1→geP (dict.getD z dfP) (dict.getD (z+1) dfP)=false):=hid (fun h z hz=>by
     by_cases hzu:z=u
     ·subst hzu;rw[← hu];exact h
     ·exact Qs.out z (by omega))
    clear hcells;generalize dict.getD u dfP=X at *;generalize dict.getD t dfP=Y at *;obtain⟨xi,xs'⟩:=X;obtain⟨yi,ys'⟩:=Y;simp only at m1 m2 l1 l2 U1;generalize ordP (xi,xs') (yi,ys')=od at *;generalize geP (xi,xs') (yi,ys')=ge at *;have i0:(0:Int)≤(u:Int):=by omega
    have i1:(u:Int)<(d0:Int):=by omega
    have i2:(t:Int)<(d0:Int):=by omega
    have i3:(t:Int) > 0:=by omega
    have ia:(t:Int)-1=(u:Int):=by omega
    have iw:IntKind.i64.wrap ((t:Int)-1)=(u:Int):=by rw[ia,IntKind.wrap_i64];omega
    have iw2:IntKind.i64.wrap (u:Int)=(u:Int):=by rw[IntKind.wrap_i64];omega
    have hbl:b<wr.heap.size:=World.block_lt_of_cell? wr _ m0;clear hu;go_upto_region 10 with fail
    go_region_held3 (fun w'=>w'.cell? ⟨b,o+u*3,none⟩=some (.bool false)∧w'.cell? ⟨b,o+u*3+1,none⟩=some (.int .i64 xi)∧w'.cell? ⟨b,o+u*3+2,none⟩=some (.string xs')∧w'.cell? ⟨b,o+t*3,none⟩=some (.bool false)∧w'.cell? ⟨b,o+t*3+1,none⟩=some (.int .i64 yi)∧w'.cell? ⟨b,o+t*3+2,none⟩=some (.string ys')) (go_keep)
     (first | (go_at_call 119;refine(U1.out _).mono ?_;rintro e w3 ⟨rfl,hb3⟩;have Qe:=hid ((Zaf (Zab wr) 1).trans hb3);have q0:=(hb3.cell (p:=⟨b,o+u*3,none⟩) hbl).trans m0;have q1:=(hb3.cell (p:=⟨b,o+u*3+1,none⟩) hbl).trans m1;have q2:=(hb3.cell (p:=⟨b,o+u*3+2,none⟩) hbl).trans m2;have q3:=(hb3.cell (p:=⟨b,o+t*3,none⟩) hbl).trans l0;have q4:=(hb3.cell (p:=⟨b,o+t*3+1,none⟩) hbl).trans l1;have q5:=(hb3.cell (p:=⟨b,o+t*3+2,none⟩) hbl).trans l2;clear hb3))
    by_cases hod:0≤od
    ·have Q5:=hid (show R=(false,[]) by rw[← HR.out,if_pos (.inr (QG.out (by rw[HG.out];simp[hod])))]);go_wp2_with fail
     go_ret2
     exact Zc4 Q5.out (Below.then' Qb.out (Below.then' Ql.out Qe.out Ql.out.size) hsz2)
    ·have Zo:=hid (HNEXT.out (by rw[HG.out];simp;omega));go_wp2_with fail
     go_roundw
     case rel=>exact⟨t+1,by omega,by go_num,Zo,hid (Below.then' Ql.out Qe.out Ql.out.size)⟩
     case measure=>simp[intOf];omega
  ·obtain rfl:t=d0:=by omega
   have hnp:Zbd geP dict=true:=(Zca geP dfP dict).2 (fun z hz=>Qs.out z (by rw[← JG.out];exact hz));rw[if_neg (by rw[hnp];simp)]at HR;have Zz:=hid (Below.then' Qb.out Ql.out hsz2);have HLNw:=hid (QP.out nx HNXd wr Zz.out);have hcl:=Zn8 wd k nx xs;have hcv:=Zqi wd k nx xs;have HDR:=hid (Ye.out.mono Ql.out);generalize Zbm wd k nx xs=CV at *;generalize Zbx wd k nx xs=lk at *;clear Ye hnp Qs QP Qb Ql;go_upto_region 15 with (go_at_call 206;refine HLNw.out.mono ?_;rintro e w3 ⟨cu,rfl,ho3,hb3⟩;have Y6:=hid (Zba ho3);have Qe:=hid hb3;obtain⟨E,ce,rfl,hce1,hce2,_,_⟩:=Zao ho3;clear ho3 hb3)
   have HDR3:=hid (HDR.out.mono Qe.out);have V2:=hid (Below.then' Zz.out Qe.out Zz.out.size);obtain⟨cn,hcn⟩:∃ cn,CV.length=cn:=⟨_,rfl⟩;have Ui:=hid hcn;rw[hcn]at Y6 hcl hce1 ⊢;clear HDR Zz HLNw hcn;unfold maxLen at hce2;go_wp2_with fail
   go_loopw [18,84] (fun s i wz=>∃ z:Nat,z≤cn∧i=.int .i64 z∧Hid (∀ y,y<z→CV.getD y 0<t)∧Hid (wz.ownsRow w3.heap.size 36 3 s z (Zdm ((CV.take z).map fun c=>dict.getD c dfP)))∧Hid (Below w3.heap.size w3 wz)) (fun _ i _=>cn-(intOf i).toNat)
   case atStart=>exact⟨0,by omega,rfl,hid (fun y h=>absurd h (Nat.not_lt_zero y)),hid ⟨by simp[Zdm],.inl ⟨rfl,rfl⟩⟩,hid (Zab w3)⟩
   case round =>
    obtain⟨z,hz,rfl,Qs,Qi,QQ⟩:=hrel;have hszz:=QQ.out.size;obtain⟨A2,c2,rfl⟩:=Zb1 Qi.out;have hBz:w.heap.size≤wr.heap.size:=Nat.le_trans V2.out.size hszz;have HBWZ:=hid (Below.then' V2.out QQ.out V2.out.size);by_cases hlt2:z<cn
    ·obtain⟨b,o,rfl,hs⟩:=(Y6.out.mono QQ.out).atW (by omega);have e1:=hs z (by rw[Ui.out];exact hlt2);have hx64:=hcv (CV.getD z 0) (by simp[List.getD,List.getElem?_eq_getElem (show z<CV.length by rw[Ui.out];exact hlt2)]);have QJ:=hid (Zgk (fun c=>dict.getD c dfP) 0 CV z (by rw[Ui.out];exact hlt2));have QG:Hid (¬ CV.getD z 0<t→(CV.all fun c=>decide (c<t))=false):=hid (fun h=>by
      rw[← Bool.not_eq_true];intro h2;simp only[List.all_eq_true,decide_eq_true_eq]at h2;exact h (h2 _ (by simp[List.getD,List.getElem?_eq_getElem (show z<CV.length by rw[Ui.out];exact hlt2)])))
     clear hs;by_cases hbig:CV.getD z 0<t
     ·obtain⟨b',o',rfl,hcells⟩:=(HDR3.out.mono QQ.out).atP (by omega);obtain⟨l0,l1,l2⟩:=hcells (CV.getD z 0) (by rw[JG.out];exact hbig);have HNX2:Hid (∀ y,y<z+1→CV.getD y 0<t):=hid (fun y hy=>by
       by_cases hyz:y=z
       ·subst hyz;exact hbig
       ·exact Qs.out y (by omega))
      clear hcells QG;generalize dict.getD (CV.getD z 0) dfP=X at *;generalize CV.getD z 0=x at *;obtain⟨xi,xs'⟩:=X;simp only at l1 l2;have i1:¬ (x:Int) ≥ (t:Int):=by omega
      go_wp2_with (at_builtin;refine Zb4 rfl (.tmp 91) (.tmp 96) rfl 36 [.bool false,.int .i64 0,.string ByteArray.empty] 32 Tryz.underlying78 Tryz.infoCell rfl rfl rfl Qi.out hszz (by intro u hu;simp at hu;rcases hu with rfl | rfl | rfl<;>rfl) (by unfold maxLen;omega) (by omega) ?_;intro v' w' ho hb3)
      go_roundw
      case rel =>
       refine⟨z+1,by omega,by go_num,HNX2,hid ?_,hid (Below.trans QQ.out hb3)⟩;rw[QJ.out,Zi3];exact ho
      case measure=>simp[intOf];omega
     ·have Q5:=hid (show R=(false,[]) by rw[← HR.out,if_pos (QG.out hbig)]);generalize CV.getD z 0=x at *;have i1:(x:Int) ≥ (t:Int):=by omega
      go_wp2_with fail
      go_ret2
      exact Zc4 Q5.out HBWZ.out
    ·obtain rfl:z=cn:=by omega
     have hall:(CV.all fun c=>decide (c<t))=true:=by
      simp only[List.all_eq_true,decide_eq_true_eq];intro x hx;obtain⟨y,hy,rfl⟩:=List.getElem_of_mem hx;have:=Qs.out y (by rw[← Ui.out];exact hy);simpa [List.getD,List.getElem?_eq_getElem hy]using this
     have Yg:=hid (show R=(lk,CV.map fun c=>dict.getD c dfP) by rw[← HR.out,if_neg (by rw[hall];simp)]);have JE:Hid (wr.ownsRow w.heap.size 36 3 (.slice A2 z c2) (CV.map fun c=>dict.getD c dfP).length (Zdm (CV.map fun c=>dict.getD c dfP))):=hid (by
      have h:=Ze2 Qi.out V2.out.size;rw[← Ui.out,List.take_length]at h;rw[List.length_map];rw[← Ui.out];exact h)
     go_wp2_with fail
     go_ret2
     rw[Yg.out];exact⟨_,rfl,⟨_,_,_,rfl⟩,fun _=>JE.out,HBWZ.out⟩
def Zgy (heads:List PV) (ends:List Nat):Nat→List PV
 | 0=>[]
 | i+1=>Zgy heads ends i++List.replicate (ends.getD i 0-(Zgy heads ends i).length) (heads.getD i dfP)
theorem Zvf (es fs:List Int):∀(l m:Int),Za4 l es=some m→Za4 l (es++fs)=Za4 m fs:=by
 induction es with
 | nil=>intro l m h;simp[Za4]at h;subst h;rfl
 | cons a r ih =>
  intro l m h;simp only[List.cons_append,Za4]at h ⊢
  split at h
  ·cases h
  ·rename_i hc;rw[if_neg hc];exact ih a m h
theorem Zi5 (es:List Int):∀(l m:Int),Za4 l es=some m→l≤m:=by
 induction es with
 | nil=>intro l m h;simp[Za4]at h;omega
 | cons a r ih =>
  intro l m h;simp only[Za4]at h
  split at h
  ·cases h
  ·have:=ih a m h;omega
theorem Zok (xs:List Nat) (i:Nat) (h:i<xs.length):(nI xs).getD i 0=((xs.getD i 0:Nat):Int):=by
 simp[nI,List.getD,List.getElem?_eq_getElem h]
theorem Ziv (ends:List Nat) (i l:Nat) (hi:i<ends.length) (h:Za4 0 (nI (ends.take i))=some (l:Int)) :
  Za4 0 (nI (ends.take (i+1)))=if ends.getD i 0≤l then none else some ((ends.getD i 0:Nat):Int):=by
 have e:ends.take (i+1)=ends.take i++[ends.getD i 0]:=by
  rw[List.take_succ_eq_append_getElem hi];simp[List.getD,List.getElem?_eq_getElem hi]
 rw[e,Zek,show nI [ends.getD i 0]=[((ends.getD i 0:Nat):Int)]from rfl,Zmc,h];simp only[Option.bind_some];by_cases hc:ends.getD i 0≤l
 ·rw[if_pos hc,if_pos (by omega)]
 ·rw[if_neg hc,if_neg (by omega)]
theorem Zsl (ends:List Nat) (i:Nat) (k:Int) (h:Za4 0 (nI (ends.take i))=none):Za1 (nI ends) k=false:=by
 have:=Zgm (nI (ends.take i)) (nI (ends.drop i)) 0 h;rw[← Zek,List.take_append_drop]at this;simp[Za1,this]
theorem Zs4 (ends:List Nat) (i:Nat) (k m:Int) (h:Za4 0 (nI (ends.take i))=some m) (hm:k<m):Za1 (nI ends) k=false:=by
 have h2:=Zvf (nI (ends.take i)) (nI (ends.drop i)) 0 m h;rw[← Zek,List.take_append_drop]at h2;unfold Za1;rw[h2];cases he:Za4 m (nI (ends.drop i))with
 | none=>rfl
 | some x =>
  have:=Zi5 _ _ _ he;simp;omega
theorem Zf1 (heads:List PV) (ends:List Nat):∀(i l:Nat),i≤ends.length→Za4 0 (nI (ends.take i))=some (l:Int)→(Zgy heads ends i).length=l
 | 0,l,_,h=>by simp[nI,Za4]at h;simp[Zgy];omega
 | i+1,l,hi,h=>by
  cases h0:Za4 0 (nI (ends.take i))with
  | none =>
   have e:ends.take (i+1)=ends.take i++[ends.getD i 0]:=by
    rw[List.take_succ_eq_append_getElem (by omega)];simp[List.getD,List.getElem?_eq_getElem (show i<ends.length by omega)]
   rw[e,Zek,Zgm _ _ _ h0]at h;cases h
  | some m =>
   have hm:=Zi5 _ _ _ h0;obtain⟨m,rfl⟩:=Int.eq_ofNat_of_zero_le hm;have ih:=Zf1 heads ends i m (by omega) h0;rw[Ziv ends i m (by omega) h0]at h
   split at h
   ·cases h
   ·injection h with h
    simp only[Zgy,List.length_append,List.length_replicate,ih];omega
def Zd5 (kd k p:Nat) (xs:List Nat):Bool×List PV :=
 if Zb8 4 p xs.length=false∨k<dN p xs then (false,[])
 else if Zav 4 (dN p xs) (p+4) xs.length=false then (false,[])
 else if Zbw kd (dN p xs) (p+4+4*dN p xs) xs=false∨¬ Zbz kd (dN p xs) (p+4+4*dN p xs) xs=xs.length then (false,[])
 else if Zbd eqP (Zdo kd (dN p xs) (p+4+4*dN p xs) xs)=false∨Za1 (nI (numL 4 (tk (4*dN p xs) (xs.drop (p+4))))) k=false then (false,[])
 else (true,Zgy (Zdo kd (dN p xs) (p+4+4*dN p xs) xs) (numL 4 (tk (4*dN p xs) (xs.drop (p+4)))) (dN p xs))
end Go.Proofs.YtmcjknjlihgihaaGreatDoor
