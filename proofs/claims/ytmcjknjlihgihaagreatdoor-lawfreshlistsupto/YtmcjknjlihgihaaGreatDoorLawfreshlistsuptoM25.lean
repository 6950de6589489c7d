/- The directory, read by the code: a group's entry. -/
import Derived.Test.YtmcjknjlihgihaaGreatDoorLawfreshlistsuptoM24
set_option linter.unusedVariables false
set_option linter.unusedSimpArgs false
set_option linter.unnecessarySimpa false
set_option maxRecDepth 20000
namespace Go.Proofs.YtmcjknjlihgihaaGreatDoor
open Go.RowKit
set_option maxHeartbeats 1000000 in
theorem Zgg (v:Value) (xs:List Nat) (C g:Nat) (w:World) (hv:Rd w v xs.length 1 (u8s xs)) (hb:∀ x∈xs,x<256) (hl:xs.length≤16777216) (hC:C≤16) (hg:g≤256) :
  Calls Tryz.prog 50 #[v,.int .i64 C,.int .i64 g] w fun e w'=>e=.returned (.int .i64 (Za4 C xs g:Nat))∧w'=w:=by
 have h1:g*(4+16*C)≤256*260:=Nat.mul_le_mul hg (by omega);have HN:=hid (Zct v xs (gP C g) 4 w hv hb hl (by omega) (by unfold gP;omega));have HE:Hid ((if Zb9 4 (gP C g) xs.length=true then L.wordOf 8 ((xs.drop (gP C g)).take 4)else 0)=Za4 C xs g):=hid rfl;rw[HE.out]at HN;have hlt:Za4 C xs g<4294967296:=Zdt hb;obtain⟨m,hm⟩:∃ m,g*(4+16*C)=m:=⟨_,rfl⟩;have hmi:(g:Int)*(4+16*(C:Int))=(m:Int):=by rw[← hm];simp
 have hd:((gP C g:Nat):Int)=16+(C:Int)+(m:Int):=by unfold gP;rw[hm];simp
 rw[hm]at h1;generalize gP C g=p at *;generalize Za4 C xs g=r at *;obtain⟨A,ca,rfl,_,_,_⟩:=hv.form;clear hm hv HE;go_enter Tryz.func50,Tryz.ntmps50;have hpe:16+(C:Int)+(m:Int)=(p:Int):=hd.symm;clear hd;go_wp2_with (go_at_call 91;refine HN.out.mono ?_;rintro e w1 ⟨rfl,hw⟩;replace hw:=hw.symm;subst hw)
 go_ret;exact⟨by go_num,rfl⟩
theorem Zpx {xs:List Nat} {p:Nat} (h:p+16≤xs.length):numL 4 (tk (4*4) (xs.drop p))=[nAt 4 p xs,nAt 4 (p+4) xs,nAt 4 (p+8) xs,nAt 4 (p+12) xs]:=by
 have h2:p≤xs.length∧4*4≤xs.length-p:=⟨by omega,by omega⟩;have hlen:(numL 4 (tk (4*4) (xs.drop p))).length=4:=by
  rw[Zal];unfold tk;rw[if_pos (by rw[List.length_drop];omega),List.length_take,List.length_drop];omega
 have key:∀ i,i<4→(numL 4 (tk (4*4) (xs.drop p)))[i]? = some (nAt 4 (p+4*i) xs):=by
  intro i hi;have hn:nAt 4 (p+4*i) xs=L.wordOf 8 ((xs.drop (p+4*i)).take 4):=by
   unfold nAt Zb9;rw[if_pos (decide_eq_true ⟨by omega,by omega⟩)]
  unfold numL;rw[List.getElem?_map,List.getElem?_range (by unfold tk;rw[if_pos (by rw[List.length_drop];omega),List.length_take,List.length_drop];omega),Option.map_some,Zqw 4 4 p xs h2 i hi,hn]
 apply List.ext_getElem?;intro i;by_cases hi:i<4
 ·rw[key i hi]
  match i,hi with
  | 0,_=>rfl
  | 1,_=>rfl
  | 2,_=>rfl
  | 3,_=>rfl
 ·rw[List.getElem?_eq_none (by omega),List.getElem?_eq_none (by simp;omega)]
set_option maxHeartbeats 2000000 in
theorem Zp7 (v:Value) (xs:List Nat) (C i:Nat) (w:World) (hv:Rd w v xs.length 1 (u8s xs)) (hb:∀ x∈xs,x<256) (hl:xs.length≤16777216) (hC:1≤C∧C≤16) (G:Nat) (hG:G≤256) (hi:i<G*C) (hD:iD C G≤xs.length) :
  Calls Tryz.prog 90 #[v,.int .i64 C,.int .i64 i] w fun e w'=>e=.returned (.tuple #[.int .i64 ((eI C xs i).off:Nat),.int .i64 ((eI C xs i).len:Nat),.int .u32 ((eI C xs i).sum:Nat),.int .i64 ((eI C xs i).zl:Nat)])∧Below w.heap.size w w':=by
 have hq:i/C<G:=Nat.div_lt_of_lt_mul (by rw[Nat.mul_comm];exact hi);have hr:i%C<C:=Nat.mod_lt _ (by omega);have hpl:=Z07 (C:=C) hq;have hp:eP C (i/C) (i%C)+16≤xs.length:=by unfold eP;omega
 have HN:=hid (fun(w2:World) (h:Below w.heap.size w w2)=>Zcm v xs (eP C (i/C) (i%C)) 4 4 w2 (hv.mono h) hb hl (.inl rfl) (by omega) (by omega));have hno:Zau 4 4 (eP C (i/C) (i%C)) xs.length=true:=by unfold Zau;exact decide_eq_true ⟨by omega,by omega⟩
 rw[Zpx hp,hno]at HN;have hen:=Zvz (C:=C) hb (i/C) (i%C);have e0:nAt 4 (eP C (i/C) (i%C)) xs=(eI C xs i).off:=rfl;have e1:nAt 4 (eP C (i/C) (i%C)+4) xs=(eI C xs i).len:=rfl;have e2:nAt 4 (eP C (i/C) (i%C)+8) xs=(eI C xs i).sum:=rfl;have e3:nAt 4 (eP C (i/C) (i%C)+12) xs=(eI C xs i).zl:=rfl;rw[e0,e1,e2,e3]at HN;have hen2:(eI C xs i).off<4294967296∧(eI C xs i).len<4294967296∧(eI C xs i).sum<4294967296∧(eI C xs i).zl<4294967296:=hen;clear e0 e1 e2 e3 hen;have hpe:((eP C (i/C) (i%C):Nat):Int)=16+(C:Int)+((i/C:Nat):Int)*(4+16*(C:Int))+4+((i%C:Nat):Int)*16:=by unfold eP gP;simp;omega
 have hP16:eP C (i/C) (i%C)≤16777216:=by omega
 generalize eP C (i/C) (i%C)=p at *;generalize eI C xs i=en at *;obtain⟨eo,el,es,ez⟩:=en;simp only at HN hen2 ⊢;obtain⟨h0,h1,h2,h3⟩:=hen2;obtain⟨A,ca,rfl,_,_,_⟩:=hv.form;have hi1:i≤4096:=by have:=Nat.mul_le_mul hG hC.2;omega
 have hdiv:Int.tdiv (i:Int) (C:Int)=((i/C:Nat):Int):=by rw[Int.tdiv_eq_ediv_of_nonneg (by omega)];simp
 have hmod:Int.tmod (i:Int) (C:Int)=((i%C:Nat):Int):=by rw[Int.tmod_eq_emod_of_nonneg (by omega)];simp
 obtain⟨qd,hqd⟩:∃ qd,i/C=qd:=⟨_,rfl⟩;obtain⟨qm,hqm⟩:∃ qm,i%C=qm:=⟨_,rfl⟩;rw[hqd]at hdiv hpe hq;rw[hqm]at hmod hpe hr;have hm9:qd*(4+16*C)≤256*260:=Nat.mul_le_mul (by omega) (by omega);obtain⟨m,hm⟩:∃ m,qd*(4+16*C)=m:=⟨_,rfl⟩;have hmi:(qd:Int)*(4+16*(C:Int))=(m:Int):=by rw[← hm];simp
 rw[hm]at hm9;rw[hmi]at hpe;have hc0:((C:Int)==0)=false:=by simp;omega
 clear hv hqd hqm hpl hD hi hno hp hm hb;have hpe2:16+(C:Int)+(m:Int)+4+(qm:Int)*16=(p:Int):=hpe.symm;clear hpe;go_enter Tryz.func90,Tryz.ntmps90;go_upto_region 1 with fail
 have hwi:IntKind.i64.wrap ((i:Int).tdiv (C:Int))=(qd:Int):=by rw[hdiv,IntKind.wrap_i64];omega
 go_quiet (fail)
 have Qa:Hid (Below w.heap.size w (w.drewN nq)):=hid (Zag (Zab w) nq);generalize w.drewN nq=w1 at *;clear hdiv hmod hwi hpe2 hmi;go_upto_region 3 with (go_at_call 89;refine(HN.out w1 Qa.out).mono ?_;rintro e w2 ⟨u,rfl,hou,hb2⟩;have HO:=hid hou;have Qc:=hid (Zad Qa.out hb2);obtain⟨U,cu,rfl,huc,hum,_,hform⟩:=Zaj hou;clear hou hb2)
 obtain⟨gu,rfl,_,_,hcell,_⟩:=hform (by simp);have c0:w2.cell? ⟨gu,0,none⟩=some (.int .u64 (eo:Nat)):=hcell 0 (by simp);have c1:w2.cell? ⟨gu,0+1,none⟩=some (.int .u64 (el:Nat)):=hcell 1 (by simp);have c2:w2.cell? ⟨gu,0+2,none⟩=some (.int .u64 (es:Nat)):=hcell 2 (by simp);have c3:w2.cell? ⟨gu,0+3,none⟩=some (.int .u64 (ez:Nat)):=hcell 3 (by simp);have d1:w2.cell? ⟨gu,1,none⟩=some (.int .u64 (el:Nat)):=hcell 1 (by simp);have d2:w2.cell? ⟨gu,2,none⟩=some (.int .u64 (es:Nat)):=hcell 2 (by simp);have d3:w2.cell? ⟨gu,3,none⟩=some (.int .u64 (ez:Nat)):=hcell 3 (by simp);clear hform hcell HN;go_upto_region 5 with fail
 go_quiet (fail)
 have Qk:=hid (fun n=>Zag Qc.out n);go_wp2_with fail
 refine bodyPost_ret (v:=.tuple #[.int .i64 (eo:Nat),.int .i64 (el:Nat),.int .u32 (es:Nat),.int .i64 (ez:Nat)]) ?_ rfl ⟨rfl,Qk.out _⟩;simp[results,Tryz.results90,go_sem]
theorem Zrz {xs:List Nat} {C c:Nat} (hc:c<C) (h:16+C≤xs.length):(iKs C xs).length=C∧(iKs C xs).getD c 0=xs.getD (16+c) 0:=by
 unfold iKs;refine⟨by rw[List.length_take,List.length_drop];omega,?_⟩;simp[List.getD,List.getElem?_take,hc]
theorem Zv7 {xs:List Nat} {C:Nat} (h:16+C≤xs.length):(iKs C xs).length=C:=by unfold iKs;rw[List.length_take,List.length_drop];omega
theorem Zrk (ks:List Nat) (k:Nat) (hk:k<ks.length):(ks.take (k+1)).all (fun k=>Za3 (k:Int))=((ks.take k).all (fun k=>Za3 (k:Int))&&Za3 ((ks.getD k 0:Nat):Int)):=by
 rw[List.take_succ_eq_append_getElem hk,List.all_append];simp[List.getD,List.getElem?_eq_getElem hk]
theorem Zv5 (ks:List Nat) (k:Nat) (hk:k<ks.length) (h:Za3 ((ks.getD k 0:Nat):Int)=false):ks.all (fun k=>Za3 (k:Int))=false:=by
 rw[← Bool.not_eq_true];intro h2;rw[List.all_eq_true]at h2;have:=h2 (ks.getD k 0) (by simp[List.getD,List.getElem?_eq_getElem hk]);rw[h]at this;cases this
def hdOk (xs:List Nat):Bool:=Zf6 xs&&Zgr (iC xs) xs
def hdV (xs:List Nat):Value:=if hdOk xs=true then .tuple #[.int .i64 (iC xs:Nat),.int .i64 (iG xs:Nat),.int .i64 (iR xs:Nat),.bool true]else .tuple #[.int .i64 0,.int .i64 0,.int .i64 0,.bool false]
set_option maxHeartbeats 4000000 in
theorem Zvl (v:Value) (xs:List Nat) (w:World) (hv:Rd w v xs.length 1 (u8s xs)) (hb:∀ x∈xs,x<256) (hl:xs.length≤16777216) :
  Calls Tryz.prog 48 #[v] w fun e w'=>e=.returned (hdV xs)∧Below w.heap.size w w':=by
 have HN:=hid (Zcm v xs 0 4 4 w hv hb hl (.inl rfl) (by omega) (by omega));obtain⟨R,hR⟩:∃ R,hdV xs=R:=⟨_,rfl⟩;have HR:=hid hR;rw[hR];clear hR;have HV:=hid hv;have YH:=hid hb;have hlt:nAt 4 0 xs<4294967296∧iC xs<4294967296∧iG xs<4294967296∧iR xs<4294967296:=⟨Zdt hb,Zdt hb,Zdt hb,Zdt hb⟩;obtain⟨A,ca,rfl,hlc,hcm,hA⟩:=hv.form;clear hv hb;by_cases h16:16≤xs.length
 rotate_left
 ·have hno:Zau 4 4 0 xs.length=false:=by unfold Zau;exact decide_eq_false (by omega)
  rw[hno]at HN;have Qq:Hid (R=.tuple #[.int .i64 0,.int .i64 0,.int .i64 0,.bool false]):=hid (by
   rw[← HR.out];unfold hdV hdOk Zf6;rw[decide_eq_false h16];rfl)
  clear HR;go_enter Tryz.func48,Tryz.ntmps48;go_wp2_with (go_at_call 89;refine HN.out.mono ?_;rintro e w1 ⟨u,rfl,hou,hb1⟩;obtain⟨U,cu,rfl,_⟩:=Zaj hou;have Qa:=hid hb1;clear hou hb1)
  refine bodyPost_ret (v:=.tuple #[.int .i64 0,.int .i64 0,.int .i64 0,.bool false]) ?_ rfl ⟨by rw[Qq.out],Qa.out⟩;simp[results,Tryz.results48,go_sem]
 have hno:Zau 4 4 0 xs.length=true:=by unfold Zau;exact decide_eq_true (by omega)
 have hn4:=Zpx (xs:=xs) (p:=0) (by omega);rw[hno,hn4]at HN;have YU:Hid (Zf6 xs=(decide (nAt 4 0 xs=826889027)&&(decide (1≤iC xs∧iC xs≤16)&&(decide (iG xs≤256)&&(decide (iR xs≤65536)&&decide (iD (iC xs) (iG xs)≤xs.length)))))):=hid (by unfold Zf6;rw[decide_eq_true h16];rfl);have e1:nAt 4 (0+4) xs=iC xs:=rfl;have e2:nAt 4 (0+8) xs=iG xs:=rfl;have e3:nAt 4 (0+12) xs=iR xs:=rfl;rw[e1,e2,e3]at HN;clear e1 e2 e3 hno hn4;have XB:=hid (fun(C c:Nat) (hc:c<C) (h:16+C≤xs.length)=>(Zrz hc h).2);have HKL:=hid (fun(C:Nat) (h:16+C≤xs.length)=>Zv7 (C:=C) h);have HDV:Hid (hdOk xs=(Zf6 xs&&Zgr (iC xs) xs)):=hid rfl;unfold hdV at HR;have V3:Hid (Zgr (iC xs) xs=(iKs (iC xs) xs).all fun k=>Za3 (k:Int)):=hid rfl;generalize nAt 4 0 xs=mg at *;generalize iC xs=C at *;generalize iG xs=G at *;generalize iR xs=RR at *;obtain⟨l0,l1,l2,l3⟩:=hlt;go_enter Tryz.func48,Tryz.ntmps48;go_upto_region 2 with (go_at_call 89;refine HN.out.mono ?_;rintro e w2 ⟨u,rfl,hou,hb2⟩;have Qc:=hid hb2;obtain⟨U,cu,rfl,huc,hum,_,hform⟩:=Zaj hou;clear hou hb2)
 obtain⟨gu,rfl,_,_,hcell,_⟩:=hform (by simp);have c0:w2.cell? ⟨gu,0,none⟩=some (.int .u64 (mg:Nat)):=hcell 0 (by simp);have d1:w2.cell? ⟨gu,1,none⟩=some (.int .u64 (C:Nat)):=hcell 1 (by simp);have d2:w2.cell? ⟨gu,2,none⟩=some (.int .u64 (G:Nat)):=hcell 2 (by simp);have d3:w2.cell? ⟨gu,3,none⟩=some (.int .u64 (RR:Nat)):=hcell 3 (by simp);clear hform hcell HN;obtain⟨hin,hhin⟩:∃ hin,(decide (mg=826889027)&&(decide (1≤C∧C≤16)&&(decide (G≤256)&&decide (RR≤65536))))=hin:=⟨_,rfl⟩;have V4:=hid hhin;clear hhin;go_cut [50]from 19 to 50 (fun s50 wc=>s50=.bool (!hin)∧wc=w2)
 case first =>
  have hh:=V4.out;subst hh;have k0:mg=826889027∨mg≠826889027:=by omega
  go_wp2_with fail
  all_goals go_meet
  all_goals refine⟨?_,rfl⟩
  all_goals (congr 1)
  all_goals first
   | (rw[Bool.eq_iff_iff];simp only[Bool.or_eq_true,Bool.not_eq_true',← Bool.not_eq_true,Bool.and_eq_true,decide_eq_true_eq,true_iff,iff_true,Bool.false_eq_true,false_iff];omega)
   | (simp[*];done)
   | trace_state
 case rest =>
 obtain⟨rfl,hw⟩:=hcut;replace hw:=hw.symm;subst hw;cases hin
 ·have Qq:Hid (R=.tuple #[.int .i64 0,.int .i64 0,.int .i64 0,.bool false]):=hid (by
   rw[← HR.out,HDV.out,YU.out];have h:=V4.out;rw[if_neg];intro h2;simp only[Bool.and_eq_true,decide_eq_true_eq]at h2;have h3:(decide (mg=826889027)&&(decide (1≤C∧C≤16)&&(decide (G≤256)&&decide (RR≤65536))))=true:=by
    simp only[Bool.and_eq_true,decide_eq_true_eq];exact⟨h2.1.1,h2.1.2.1,h2.1.2.2.1,h2.1.2.2.2.1⟩
   rw[h]at h3;cases h3)
  clear c0 d1 d2 d3;go_wp2_with fail
  refine bodyPost_ret (v:=.tuple #[.int .i64 0,.int .i64 0,.int .i64 0,.bool false]) ?_ rfl ⟨by rw[Qq.out],Qc.out⟩;simp[results,Tryz.results48,go_sem]
 ·have h:=V4.out;simp only[Bool.and_eq_true,decide_eq_true_eq]at h;obtain⟨h1,⟨h2a,h2b⟩,h3,h4⟩:=h;have hm9:G*(4+16*C)≤256*260:=Nat.mul_le_mul h3 (by omega);obtain⟨m,hm⟩:∃ m,G*(4+16*C)=m:=⟨_,rfl⟩;have hmi:(G:Int)*(4+16*(C:Int))=(m:Int):=by rw[← hm];simp
  have hid2:iD C G=16+C+m:=by unfold iD;rw[hm]
  rw[hm]at hm9;rw[hid2]at YU;clear hm hid2;by_cases hlen:16+C+m≤xs.length
  rotate_left
  ·have Qq:Hid (R=.tuple #[.int .i64 0,.int .i64 0,.int .i64 0,.bool false]):=hid (by
    rw[← HR.out,HDV.out,YU.out,decide_eq_false hlen];simp)
   have hlti:(xs.length:Int)<16+(C:Int)+(m:Int):=by omega
   go_wp2_with fail
   refine bodyPost_ret (v:=.tuple #[.int .i64 0,.int .i64 0,.int .i64 0,.bool false]) ?_ rfl ⟨by rw[Qq.out],Qc.out⟩;simp[results,Tryz.results48,go_sem]
  ·have HHT:Hid (Zf6 xs=true):=hid (by rw[YU.out];simp only[Bool.and_eq_true,decide_eq_true_eq];exact⟨h1,⟨h2a,h2b⟩,h3,h4,hlen⟩);have HRT:Hid (R=if Zgr C xs=true then .tuple #[.int .i64 (C:Nat),.int .i64 (G:Nat),.int .i64 (RR:Nat),.bool true]else .tuple #[.int .i64 0,.int .i64 0,.int .i64 0,.bool false]):=hid (by
    rw[← HR.out,HDV.out,HHT.out,Bool.true_and])
   have hnlt:¬ (xs.length:Int)<16+(C:Int)+(m:Int):=by omega
   clear HR HDV YU HHT c0;go_upto_region 8 with fail
   obtain⟨b,o,rfl,hseg⟩:=hA (by omega);have UA:=hid (hseg.mono Qc.out);have hca:ca≠16:=by omega
   have hca2:16+C≤ca:=by omega
   unfold maxLen at hcm;have HK:=hid (V3.out);have HL:=HKL.out C (by omega);have QZ:=hid (fun(c:Nat) (hc:c<C)=>XB.out C c hc (by omega));have Qr:=hid (fun(t:Nat) (ht:t<C)=>Zrk (iKs C xs) t (by rw[HL];exact ht));have Q6:=hid (fun(t:Nat) (ht:t<C)=>Zv5 (iKs C xs) t (by rw[HL];exact ht));have Z1:=hid HL;have HKO:=hid (fun(k:Int) (w2:World)=>Zjm k w2);clear hA hseg XB HKL HL V4;go_upto_region 9 with fail
   go_loopw [75] (fun i wr=>∃ k:Nat,k≤C∧i=.int .i64 k∧Hid (((iKs C xs).take k).all (fun k=>Za3 (k:Int))=true)∧wr=w2) (fun i _=>C-(intOf i).toNat)
   case atStart=>exact⟨0,by omega,rfl,hid (by simp),rfl⟩
   case round =>
    obtain⟨k,hk,rfl,hall,rfl⟩:=hrel;by_cases hlt:k<C
    ·have cb:=UA.out.byte (16+k) (by omega);rw[← QZ.out k hlt,← Nat.add_assoc]at cb;have Uk:=hid (Qr.out k hlt);have YW:=hid (Q6.out k hlt);have Z7:=hid (HKO.out (((iKs C xs).getD k 0:Nat):Int) wr);have hkd:(iKs C xs).getD k 0<256:=by
      rw[QZ.out k hlt];exact YH.out _ (by simp[List.getD,List.getElem?_eq_getElem (show 16+k<xs.length by omega)])
     generalize (iKs C xs).getD k 0=kd at *;generalize Za3 (kd:Int)=kk at *;cases kk
     ·have Qf:Hid (R=.tuple #[.int .i64 0,.int .i64 0,.int .i64 0,.bool false]):=hid (by
       rw[HRT.out,HK.out,YW.out rfl];rfl)
      go_wp2_with (go_at_call 69;refine Z7.out.mono ?_;rintro e w5 ⟨rfl,hw⟩;replace hw:=hw.symm;subst hw)
      refine bodyPost_ret (v:=.tuple #[.int .i64 0,.int .i64 0,.int .i64 0,.bool false]) ?_ rfl ⟨by rw[Qf.out],Qc.out⟩;simp[results,Tryz.results48,go_sem]
     ·go_wp2_with (go_at_call 69;refine Z7.out.mono ?_;rintro e w5 ⟨rfl,hw⟩;replace hw:=hw.symm;subst hw)
      go_roundw
      case rel=>exact⟨k+1,by omega,by go_num,hid (by rw[Uk.out,hall.out];rfl),by first | rfl | trivial⟩
      case measure=>simp[intOf];omega
    ·obtain rfl:k=C:=by omega
     have Qf:Hid (R=.tuple #[.int .i64 (k:Nat),.int .i64 (G:Nat),.int .i64 (RR:Nat),.bool true]):=hid (by
      have h:=hall.out;rw[List.take_of_length_le (by rw[Z1.out];exact Nat.le_refl _)]at h;rw[HRT.out,HK.out,h];rfl)
     go_upto_region 14 with fail
     go_quiet (fail)
     have Qk:=hid (fun n=>Zag Qc.out n);go_wp2_with fail
     refine bodyPost_ret (v:=.tuple #[.int .i64 (k:Nat),.int .i64 (G:Nat),.int .i64 (RR:Nat),.bool true]) ?_ rfl ⟨by rw[Qf.out],Qk.out _⟩;simp[results,Tryz.results48,go_sem]
theorem Zk4 (xs:List Nat):Zf3 xs=(hdOk xs&&Zde (iC xs) (iG xs) (iR xs) xs):=by unfold Zf3 hdOk;rw[Bool.and_assoc]
theorem Zd6 {xs:List Nat} (h:hdOk xs=true):(1≤iC xs∧iC xs≤16)∧iG xs≤256∧iR xs≤65536∧iD (iC xs) (iG xs)≤xs.length∧∀ c,c<iC xs→kdX xs c=1∨kdX xs c=2:=by
 unfold hdOk at h;rw[Bool.and_eq_true]at h;obtain⟨h1,h2⟩:=h;obtain⟨_,_,hC,hG,hR,hD⟩:=Zxh h1;refine⟨hC,hG,hR,hD,fun c hc=>?_⟩;have hl:16+iC xs≤xs.length:=by unfold iD at hD;omega
 obtain⟨h3,h4⟩:=Zrz hc hl;unfold Zgr at h2;rw[List.all_eq_true]at h2;have h5:=h2 ((iKs (iC xs) xs).getD c 0) (by simp[List.getD,List.getElem?_eq_getElem (show c<(iKs (iC xs) xs).length by omega)]);rw[h4]at h5;unfold Za3 at h5;unfold kdX;simp only[Bool.or_eq_true,beq_iff_eq,decide_eq_true_eq]at h5;omega
theorem Zpw {xs:List Nat} (h:hdOk xs=true) (hp:Zde (iC xs) (iG xs) (iR xs) xs=true) (g c:Nat) (hg:g<iG xs) (hc:c<iC xs) :
  Za4 (iC xs) xs g≤65536∧(eN (iC xs) xs g c).off+(eN (iC xs) xs g c).len+(eN (iC xs) xs g c).zl≤xs.length:=by
 obtain⟨_,_,hR,_,_⟩:=Zd6 h;unfold Zde at hp;simp only[Bool.and_eq_true,decide_eq_true_eq]at hp;obtain⟨h1,h2,h3⟩:=hp;have hi:g*iC xs+c<iG xs*iC xs:=by
  have:(g+1)*iC xs≤iG xs*iC xs:=Nat.mul_le_mul_right _ hg;rw[Nat.add_mul,Nat.one_mul]at this;omega
 constructor
 ·have h4:=Zqu (iC xs) xs (g+1) (iG xs-(g+1));rw[show g+1+(iG xs-(g+1))=iG xs by omega,h2]at h4;have h5:sumR (iC xs) xs (g+1)=sumR (iC xs) xs g+Za4 (iC xs) xs g:=rfl;omega
 ·have h4:=Ztc (iC xs) (iD (iC xs) (iG xs)) xs (g*iC xs+c+1) (iG xs*iC xs-(g*iC xs+c+1));rw[show g*iC xs+c+1+(iG xs*iC xs-(g*iC xs+c+1))=iG xs*iC xs by omega,h3]at h4;have h5:eAt (iC xs) (iD (iC xs) (iG xs)) xs (g*iC xs+c+1)=eAt (iC xs) (iD (iC xs) (iG xs)) xs (g*iC xs+c)+((eI (iC xs) xs (g*iC xs+c)).len+(eI (iC xs) xs (g*iC xs+c)).zl):=rfl;have h6:(eI (iC xs) xs (g*iC xs+c)).off=eAt (iC xs) (iD (iC xs) (iG xs)) xs (g*iC xs+c):=by
   unfold laid at h1;rw[List.all_eq_true]at h1;have:=h1 (g*iC xs+c) (List.mem_range.2 hi);simpa using this
  rw[Zvt hc]at h5 h6;omega
theorem Ztl {xs:List Nat} {g c:Nat} (hg:g<iG xs) (hc:c<iC xs) (h:Zeu (iC xs) xs g c=false):Zd2 xs=false:=by
 rw[← Bool.not_eq_true];intro h2;unfold Zd2 at h2;rw[Bool.and_eq_true,List.all_eq_true]at h2;have h3:=h2.2 g (List.mem_range.2 hg);rw[List.all_eq_true]at h3;have h4:=h3 c (List.mem_range.2 hc);rw[h]at h4;cases h4
theorem Zl4 {xs:List Nat} (h:Zf3 xs=false):Zd2 xs=false:=by unfold Zd2;rw[h];rfl
theorem Zqq {xs:List Nat} (h:Zf3 xs=true) (h2:∀ g,g<iG xs→∀ c,c<iC xs→Zeu (iC xs) xs g c=true):Zd2 xs=true:=by
 unfold Zd2;rw[h,Bool.true_and,List.all_eq_true];intro g hg;rw[List.all_eq_true];intro c hc;exact h2 g (List.mem_range.1 hg) c (List.mem_range.1 hc)
theorem Zq3 (k:Nat) (h:k≤1000):IntKind.i64.wrap (16+(k:Int))=16+(k:Int):=by rw[IntKind.wrap_i64];omega
theorem Zo7 {xs:List Nat} (h:Zd2 xs=true):Zf3 xs=true∧∀ g,g<iG xs→∀ c,c<iC xs→Zeu (iC xs) xs g c=true:=by
 unfold Zd2 at h;rw[Bool.and_eq_true]at h;refine⟨h.1,fun g hg c hc=>?_⟩;have h2:=List.all_eq_true.1 h.2 g (List.mem_range.2 hg);exact List.all_eq_true.1 h2 c (List.mem_range.2 hc)
def Els (w0:World) (C G:Nat) (ces:Nat→List Ent) (w w':World):Prop:=∀ k,k<w.heap.size→(∀ j,j<G*C→(blAt ces C j).ownBlock≠some k)→w'.heap[k]? = w.heap[k]?
theorem Els.own {w0 w w':World} {B B2 C n sz:Nat} {e:TypeId} {v gv:Value} {cs:List Value} {es:List Ent} {ces:Nat→List Ent} {lo:Nat→Nat} {xs:List Nat} (h:Els w0 C es.length ces w w') (hg:Gr w B gv es ces lo C xs) (ho:w.ownsRow B2 e sz v n cs) (hne:e≠73):w'.ownsRow B2 e sz v n cs :=
 Zav ho fun k hk=>h k (ho.lt k hk).2 fun j hj=>Zcd ho (hg.bloom_own j hj) hne k hk
theorem Els.row {w0 w w':World} {B C p:Nat} {e:TypeId} {gv:Value} {cs:List Value} {es:List Ent} {ces:Nat→List Ent} {lo:Nat→Nat} {xs:List Nat} (h:Els w0 C es.length ces w w') (hg:Gr w B gv es ces lo C xs) (ho:Row w p e cs) (hne:73≠e):Row w' p e cs:=by
 have h1:=h p ho.lt fun j hj hk=>Zdj (hg.bloom_own j hj) ho hne p hk rfl
 unfold Row at ho ⊢;rw[h1];exact ho
theorem Zwc {w0 w:World} {B C:Nat} {gv bv:Value} {es:List Ent} {ces:Nat→List Ent} {lo:Nat→Nat} {xs:List Nat} {L:List Value} (h0:Gr w0 B gv es ces lo C xs) (hs:BlS w0 C ces bv L w) (hl:L.length=es.length*C) (hok:∀ g,g<es.length→∀ c,c<C→Zeu C xs g c=true) (hB:B≤w0.heap.size) (hG:es.length≤256) (hC:C≤16) (r:Int) :
  Calls Tryz.prog 9 #[bv,.int .i64 r] w fun e w'=>e=.returned (.bool true)∧Below B w w'∧Els w0 C es.length ces w w' :=
 (Zw5 (G:=0) h0 hs hl hok hB hG hC r).mono fun e w' h=>⟨h.1,h.2.1,fun k hk hj=>h.2.2.2 k hk fun j hjl=>by rw[hs.ent j hjl];exact hj j (by rw[← hl];exact hjl)⟩
theorem Zuu {w0 w w9:World} {B C:Nat} {gv:Value} {es:List Ent} {ces:Nat→List Ent} {lo:Nat→Nat} {xs:List Nat} (hm:Gr w B gv es ces lo C xs) (h:Els w0 C es.length ces w w9) (hB:B≤w9.heap.size) (hG:es.length≤256) (hC:C≤16) (r:Int) :
  Calls Tryz.prog 10 #[gv,.int .i64 r] w9 fun e w'=>e=.returned (.bool true)∧Below B w9 w' :=
 Zi5 B gv es.length (entV es) (fun j=>(es.getD j Ent.df).2) (fun _=>C) (fun j=>entV (ces j)) r w9 (Zb5 (h.own hm hm.own (by decide))) hB (by omega) (fun j=>by omega) (fun j hj=>hm.list_cell j hj)
  (fun j hj=>h.own hm (hm.list_own j hj) (by decide)) (fun i j hij hj k hk=>hm.list_sep i j hij hj k hk) (fun k hk j hj=>Zcd hm.own (hm.list_own j hj) (by decide) k hk)
theorem Zvm (w:World) (r:Int):Calls Tryz.prog 9 #[.slice none 0 0,.int .i64 r] w fun e w'=>e=.returned (.bool true)∧Below w.heap.size w w' :=
 Zpa w.heap.size (.slice none 0 0) [] (fun _=>0) (fun _=>[]) r w ⟨rfl,.inl ⟨⟨_,rfl⟩,rfl⟩⟩ (Nat.le_refl _) (by simp) (fun _=>by omega) (fun j h=>by cases h) (fun i j _ h=>by cases h) (fun k h=>by simp[Value.ownBlock]at h)
theorem Zq9 (w:World) (r:Int):Calls Tryz.prog 10 #[.slice none 0 0,.int .i64 r] w fun e w'=>e=.returned (.bool true)∧Below w.heap.size w w' :=
 Zi5 w.heap.size (.slice none 0 0) 0 [] (fun _=>undef) (fun _=>0) (fun _=>[]) r w ⟨rfl,.inl ⟨⟨_,rfl⟩,rfl⟩⟩ (Nat.le_refl _) (by simp) (fun _=>by omega) (fun j h=>by cases h) (fun j h=>by cases h) (fun i j _ h=>by cases h) (fun k h=>by simp[Value.ownBlock]at h)
theorem Zap.low {w0 w w':World} {g B:Nat} {xs:List Nat} {s:Bool} (h:Zap w0 w g xs s) (hb:Below B w w') (hg:g<B):Zap w0 w' g xs s:=by
 obtain⟨h1,h2,v,hr,hv⟩:=h;exact⟨h1,h2.trans (hb.mono (by omega)),v,hr.below hb hg,hv⟩
theorem Z0s (w0 w:World) (g p:Nat) (xs:List Nat) (h:Zap w0 w g (xs.drop p) false) (hp:p+4≤xs.length) (hv:∀ x∈xs,x<256) (hl:xs.length≤16777216) :
  Calls Tryz.prog 81 #[.pointer (some ⟨g,0,none⟩)] w fun e w'=>e=.returned (.int .i64 (nAt 4 p xs:Nat))∧Zap w0 w' g (xs.drop (p+4)) false∧Chg g g w w':=by
 have:=Zfa w0 w g (xs.drop p) false h (fun x hx=>hv x (List.mem_of_mem_drop hx)) (by rw[List.length_drop];omega);rw[(Zes hp).1,(Zes hp).2,Zqa hp]at this;exact this
theorem Z0d (w0 w:World) (g p:Nat) (xs:List Nat) (h:Zap w0 w g (xs.drop p) false) (hp:p+1≤xs.length) (hv:∀ x∈xs,x<256) (hl:xs.length≤16777216) :
  Calls Tryz.prog 82 #[.pointer (some ⟨g,0,none⟩)] w fun e w'=>e=.returned (.int .i64 (xs.getD p 0:Nat))∧Zap w0 w' g (xs.drop (p+1)) false∧Chg g g w w':=by
 have:=Zgd w0 w g (xs.drop p) false h (fun x hx=>hv x (List.mem_of_mem_drop hx)) (by rw[List.length_drop];omega);rw[(Zes hp).1,(Zes hp).2,Zqa hp,Z0f (by omega)]at this;exact this
def En.vs (e:En):List Value:=[.int .i64 (e.off:Nat),.int .i64 (e.len:Nat),.int .u32 (e.sum:Nat),.int .i64 (e.zl:Nat)]
def ensL (xs:List Nat) (q n:Nat):List En:=(List.range n).map fun c=>enAt xs (q+16*c)
def ensV (xs:List Nat) (q n:Nat):List Value:=(ensL xs q n).flatMap En.vs
theorem Zl1 (xs:List Nat) (q n:Nat):ensV xs q (n+1)=ensV xs q n++(enAt xs (q+16*n)).vs:=by
 unfold ensV ensL;rw[List.range_succ];simp
theorem Zri (xs:List Nat) (q n:Nat):(ensV xs q n).length=n*4:=by
 induction n with
 | zero=>rfl
 | succ n ih=>rw[Zl1,List.length_append,ih];show n*4+4=_;omega
theorem Tryz.infoCE:(Tryz.prog.info? 108).map (fun i=>(i.zero,i.size,i.bytes))=some (some (.agg [.int .i64 0,.int .i64 0,.int .u32 0,.int .i64 0].toArray),4,32):=by kernel_rfl
theorem Tryz.infoGE:(Tryz.prog.info? 106).map (fun i=>(i.zero,i.size,i.bytes))=some (some (.agg [.int .i64 0,.slice none 0 0].toArray),2,32):=by kernel_rfl
structure GEs (w0 w:World) (g r0 s1:Nat) (xs:List Nat) (p j:Nat) (v:Value) (wr:World):Prop where
 rd:Zap w0 wr g (xs.drop (p+4+16*j)) false
 r:Row wr r0 106 [.int .i64 0,.slice none 0 0]
 s:Row wr s1 106 [.int .i64 (nAt 4 p xs:Nat),v]
 own:wr.ownsRow (s1+1) 108 4 v j (ensV xs (p+4) j)
 chg:Chg g g w wr
 h1:w.heap.size≤r0
 h2:r0<s1
 h3:g<w.heap.size
 h4:s1<wr.heap.size
set_option maxHeartbeats 4000000 in
theorem Zje (w0 w:World) (g p C:Nat) (xs:List Nat) (h:Zap w0 w g (xs.drop p) false) (hg:g<w.heap.size) (hp:p+4+16*C≤xs.length) (hv:∀ x∈xs,x<256) (hl:xs.length≤16777216) :
  Calls Tryz.prog 83 #[.pointer (some ⟨g,0,none⟩),.int .i64 C] w fun e w'=>∃ v,e=.returned (.agg #[.int .i64 (nAt 4 p xs:Nat),v])∧w'.ownsRow w.heap.size 108 4 v C (ensV xs (p+4) C) ∧
   Zap w0 w' g (xs.drop (p+4+16*C)) false∧Chg g g w w':=by
 have HU:=hid (fun(q:Nat) (w2:World) (h2:Zap w0 w2 g (xs.drop q) false) (hq:q+4≤xs.length)=>Z0s w0 w2 g q xs h2 hq hv hl);have HP:=hid hp;have HH:=hid h;have HV:=hid hv;clear h hv;go_enter Tryz.func83,Tryz.ntmps83;go_upto_region 1 with fail
 have hr0:=Zbs (w:=w) (C:=#[.int .i64 0,.slice none 0 0]) (e:=106);have Qj:=hid hr0.1;have HRD0:=hid (HH.out.mono hr0.2);have Ql:=hid hr0.2;have hz0:(w.alloc (.cells #[.int .i64 0,.slice none 0 0] 106)).heap.size=w.heap.size+1:=by simp
 have HZ0:=hid hz0;clear hr0 hz0;generalize w.alloc (.cells #[.int .i64 0,.slice none 0 0] 106)=wa at *;go_upto_region 2 with (go_at_call 81;refine(HU.out p wa HRD0.out (by have:=HP.out;omega)).mono ?_;rintro e w1 ⟨rfl,hrd,hch⟩;have UH:=hid hrd;have V5:=hid hch;clear hrd hch)
 have hr1:=Zbs (w:=w1) (C:=#[.int .i64 (nAt 4 p xs:Nat),.slice none 0 0]) (e:=106);have QE:Hid (GEs w0 w g w.heap.size w1.heap.size xs p 0 (.slice none 0 0) (w1.alloc (.cells #[.int .i64 (nAt 4 p xs:Nat),.slice none 0 0] 106))):=hid (by
  have h0:=HZ0.out;have h1:=V5.out.size;refine⟨UH.out.mono hr1.2,(V5.out.row Qj.out (by omega) (by omega)).mono hr1.2,hr1.1,by simpa [ensV,ensL]using World.ownsRow_nil _ _ _ _,((Chg.of_below Ql.out).trans V5.out).trans (Chg.of_below hr1.2),Nat.le_refl _,by omega,hg,by simp⟩)
 clear hr1 Qj HRD0 Ql HZ0 UH V5 HH;generalize w1.alloc (.cells #[.int .i64 (nAt 4 p xs:Nat),.slice none 0 0] 106)=w2 at *;obtain⟨s1,hs1⟩:∃ s1,w1.heap.size=s1:=⟨_,rfl⟩;obtain⟨r0,hr0⟩:∃ r0,w.heap.size=r0:=⟨_,rfl⟩;obtain⟨n4,hn4⟩:∃ n4,nAt 4 p xs=n4:=⟨_,rfl⟩;have HR0E:=hid hr0;rw[hs1,hr0]at QE;rw[hs1,hr0,hn4];have X2:=hid hn4;clear hs1 hr0 hn4 hp;go_upto_region 3 with fail
 go_loopw [11] (fun i wr=>∃(j:Nat) (v:Value),j≤C∧i=.int .i64 j∧Hid (GEs w0 w g r0 s1 xs p j v wr)) (fun i _=>C-(intOf i).toNat)
 case atStart=>exact⟨0,_,by omega,rfl,QE⟩
 case round =>
  obtain⟨j,v,hj,rfl,hst⟩:=hrel;by_cases hlt:j<C
  ·obtain⟨q,hq⟩:∃ q,p+4+16*j=q:=⟨_,rfl⟩;have hql:q+16≤xs.length:=by have:=HP.out;omega
   have HQL:=hid hql;have Qu:=hid hst.out.rd;rw[hq]at Qu;have HE:Hid (ensV xs (p+4) (j+1)=ensV xs (p+4) j++[.int .i64 (nAt 4 q xs:Nat),.int .i64 (nAt 4 (q+4) xs:Nat),.int .u32 (nAt 4 (q+8) xs:Nat),.int .i64 (nAt 4 (q+12) xs:Nat)]):=hid (by
    rw[Zl1,hq];rfl)
   have hq4:p+4+16*(j+1)=q+16:=by omega
   have XC:=hid hq4;have H0:=hid (fun(w2:World) (h:Zap w0 w2 g (xs.drop q) false)=>HU.out q w2 h (by omega));have H1:=hid (fun(w2:World) (h:Zap w0 w2 g (xs.drop (q+4)) false)=>HU.out (q+4) w2 h (by omega));have H2:=hid (fun(w2:World) (h:Zap w0 w2 g (xs.drop (q+8)) false)=>HU.out (q+8) w2 h (by omega));have H3:=hid (fun(w2:World) (h:Zap w0 w2 g (xs.drop (q+12)) false)=>HU.out (q+12) w2 h (by omega));have hm2:nAt 4 (q+8) xs<4294967296:=Zdt HV.out;generalize nAt 4 q xs=e0 at *;generalize nAt 4 (q+4) xs=e1 at *;generalize nAt 4 (q+8) xs=e2 at *;generalize nAt 4 (q+12) xs=e3 at *;clear hq hql hq4 HU;go_upto_region 5 with (first
    | (go_at_call 81;refine(H0.out wr Qu.out).mono ?_;rintro e wb ⟨rfl,hrd,hch⟩;have HRDb:=hid hrd;have HCHb:=hid hch;clear hrd hch)
    | (go_at_call 81;refine(H1.out wb HRDb.out).mono ?_;rintro e wc ⟨rfl,hrd,hch⟩;have XD:=hid hrd;have XE:=hid (HCHb.out.trans hch);clear hrd hch))
   have hrn:=Zbs (w:=wc) (C:=#[.int .i64 (e0:Nat),.int .i64 (e1:Nat),.int .u32 0,.int .i64 0]) (e:=108);have Q1:=hid hrn.1;have HRDn:=hid (XD.out.mono hrn.2);have HCHn:=hid (XE.out.trans (Chg.of_below hrn.2));have Yl:=hid XD.out.lt;have hn:=hrn.2.size;have QY:Hid (wc.heap.size<(wc.alloc (.cells #[.int .i64 (e0:Nat),.int .i64 (e1:Nat),.int .u32 0,.int .i64 0] 108)).heap.size):=hid (by simp);clear hrn hn;generalize wc.alloc (.cells #[.int .i64 (e0:Nat),.int .i64 (e1:Nat),.int .u32 0,.int .i64 0] 108)=wd at *;obtain⟨t,ht⟩:∃ t,wc.heap.size=t:=⟨_,rfl⟩;have HTW:Hid (wr.heap.size≤t):=hid (by rw[← ht];exact XE.out.size);rw[ht]at Q1 Yl QY;rw[ht];have HRN2:Hid (Row wd t 108 [.int .i64 (e0:Nat),.int .i64 (e1:Nat),.int .u32 0,.int .i64 0]):=Q1;clear HRDb HCHb XD XE ht Q1;have hgt:t≠g:=by have:=Yl.out;omega
   go_upto_region 6 with (go_at_call 81;refine(H2.out wd HRDn.out).mono ?_;rintro e we ⟨rfl,hrd,hch⟩;have XF:=hid hrd;have HCHe:=hid (HCHn.out.trans hch);have V6:=hid (hch.row HRN2.out hgt hgt);have fz:=V6.out.frozen 2;have cz:=V6.out.cell 2;clear hrd hch)
   have HRNf:Hid (Row (we.setCell ⟨t,2,none⟩ (.int .u32 (e2:Nat))) t 108 [.int .i64 (e0:Nat),.int .i64 (e1:Nat),.int .u32 (e2:Nat),.int .i64 0]):=hid (V6.out.set 2 _);have hcf:=(Chg.refl t t we).setCell t 2 (.int .u32 (e2:Nat)) (.inl rfl);have HRDf:=hid (XF.out.chg hcf hgt.symm hgt.symm (by have:=XF.out.1;have:=QE.out.h3;have:=hst.out.rd.lt;have:=HTW.out;have:=hst.out.rd.2.1.size;omega) (by have:=HTW.out;have:=hst.out.rd.2.1.size;omega));have HCHf:=hid ((HCHe.out.wide (b:=t)).trans hcf.wide');clear hcf fz cz XF HCHe V6 HRN2 HRDn HCHn;generalize we.setCell ⟨t,2,none⟩ (.int .u32 (e2:Nat))=wf at *;go_upto_region 7 with (go_at_call 81;refine(H3.out wf HRDf.out).mono ?_;rintro e wg ⟨rfl,hrd,hch⟩;have HRDg:=hid hrd;have HCHg:=hid (HCHf.out.trans hch.wide);have V7:=hid (hch.row HRNf.out hgt hgt);have fz:=V7.out.frozen 3;have cz:=V7.out.cell 3;clear hrd hch)
   have UI:Hid (Row (wg.setCell ⟨t,3,none⟩ (.int .i64 (e3:Nat))) t 108 [.int .i64 (e0:Nat),.int .i64 (e1:Nat),.int .u32 (e2:Nat),.int .i64 (e3:Nat)]):=hid (V7.out.set 3 _);have hch2:=(Chg.refl t t wg).setCell t 3 (.int .i64 (e3:Nat)) (.inl rfl);have h30:w0.heap.size≤t:=by have:=HTW.out;have:=hst.out.rd.2.1.size;omega
   have VA:=hid (HRDg.out.chg hch2 hgt.symm hgt.symm h30 h30);have hchh:=HCHg.out.trans (hch2.wide' (a:=g));have hcg:Chg g g wr (wg.setCell ⟨t,3,none⟩ (.int .i64 (e3:Nat))):=⟨hchh.os,hchh.tape,hchh.output,hchh.size,fun k hk h1 _=>hchh.block k hk h1 (by have:=HTW.out;omega)⟩;have UJ:=hid hcg;clear hch2 hchh hcg fz cz HRDg HCHg V7 HCHf HRDf HRNf H0 H1 H2 H3;generalize wg.setCell ⟨t,3,none⟩ (.int .i64 (e3:Nat))=wh at *;have hgs:g<s1+1:=by have:=hst.out.h1;have:=hst.out.h2;have:=hst.out.h3;omega
   have h2:=hst.out.h2;have h1:=hst.out.h1;have h3:=hst.out.h3;have Qd:=hid (Zcl hst.out.own UJ.out (fun k hk=>by have:=(hst.out.own.lt k hk).1;omega));have Uv:=hid (UJ.out.row hst.out.s (by omega) (by omega));have Qs:=hid (UJ.out.row hst.out.r (by omega) (by omega));have HC9:=hid (hst.out.chg.trans UJ.out);have hBs:s1+1≤wh.heap.size:=by have:=Uv.out.lt;omega
   have ht0:=UI.out.cell 0;have ht1:=UI.out.cell 1;have ht2:=UI.out.cell 2;have ht3:=UI.out.cell 3;have hs1:=Uv.out.cell 1;have hC8:C≤16777216:=by have:=HP.out;omega
   rw[X2.out]at Uv;clear h1 h2 h3;go_wp2_with (at_builtin;refine Zcn [.int .i64 (e0:Nat),.int .i64 (e1:Nat),.int .u32 (e2:Nat),.int .i64 (e3:Nat)] 4 rfl (.tmp 26) (.tmp 28) rfl 108 (.agg [.int .i64 0,.int .i64 0,.int .u32 0,.int .i64 0].toArray) 32 Tryz.underlying104 Tryz.infoCE rfl (by decide) rfl rfl rfl Qd.out hBs (by simp[Value.oneCell']) (by unfold maxLen;omega) (by omega) ?_;intro v' w' ho hb hz hk;obtain⟨A9,c9,rfl⟩:=Zah ho;have HO:=hid ho;have HB:=hid hb;have HZ:=hid hz;have VB:=hid (Uv.out.below hb (by omega));have fs:=VB.out.frozen 1;have cs1:=VB.out.cell 1;clear ho hb hz hk)
   have hcs:=(Chg.refl s1 s1 w').setCell s1 1 (.slice A9 (j+1) c9) (.inl rfl);have Qw:Hid (Row (w'.setCell ⟨s1,1,none⟩ (.slice A9 (j+1) c9)) s1 106 [.int .i64 (n4:Nat),.slice A9 (j+1) c9]):=hid (VB.out.set 1 _);have hr0s:r0<s1:=hst.out.h2;have hw0:w.heap.size≤r0:=hst.out.h1;have hgw:g<w.heap.size:=hst.out.h3;have Qy:Hid (GEs w0 w g r0 s1 xs p (j+1) (.slice A9 (j+1) c9) (w'.setCell ⟨s1,1,none⟩ (.slice A9 (j+1) c9))):=hid (by
    refine⟨?_,hcs.row (Qs.out.below HB.out (by omega)) (by omega) (by omega),by rw[X2.out];exact Qw.out,?_,?_,hw0,hr0s,hgw,Qw.out.lt⟩
    ·rw[XC.out];exact(VA.out.low HB.out hgs).chg hcs (by omega) (by omega) (by have:=VA.out.1;omega) (by have:=VA.out.1;omega)
    ·rw[HE.out];exact Zcl HO.out hcs (fun k hk=>by have:=(HO.out.lt k hk).1;omega)
    ·have h5:=HC9.out.then_below HB.out (by omega);have h6:Below (s1+1-1) w' (w'.setCell ⟨s1,1,none⟩ (.slice A9 (j+1) c9)):=Zac (Below.refl _ _) _ _ _ (by omega);exact h5.then_below h6 (by omega))
   clear Qw hcs VB HO HB HZ fs cs1 VA UI Qd Uv Qs HC9 UJ hst;generalize w'.setCell ⟨s1,1,none⟩ (.slice A9 (j+1) c9)=wz at *;go_wp2_with fail
   go_roundw
   case rel=>exact⟨j+1,_,by omega,by go_num,Qy⟩
   case measure=>simp[intOf];omega
  ·obtain rfl:j=C:=by omega
   have hrs:=hst.out.s;have hrr:=hst.out.r;rw[X2.out]at hrs;obtain⟨A9,c9,rfl⟩:=Zah hst.out.own;have q0:=hrs.cell 0;have q1:=hrs.cell 1;have z0:=hrr.cell 0;have z1:=hrr.cell 1;have f0:=hrr.frozen 0;have f1:=hrr.frozen 1;have Qs:=hid hrr;clear hrs hrr;go_wp2_with fail
   have hcr:=((Chg.refl r0 r0 wr).setCell r0 0 (.int .i64 (n4:Nat)) (.inl rfl)).setCell r0 1 (.slice A9 j c9) (.inl rfl);have Q4:=hid ((Qs.out.set 0 (.int .i64 (n4:Nat))).set 1 (.slice A9 j c9));have h1:=hst.out.h1;have h2:=hst.out.h2;have h3:=hst.out.h3;have h4:=hst.out.rd.1;have Ys:Hid (Below r0 wr ((wr.setCell ⟨r0,0,none⟩ (.int .i64 (n4:Nat))).setCell ⟨r0,1,none⟩ (.slice A9 j c9))):=hid (Zac (Zac (Below.refl _ _) _ _ _ (Nat.le_refl _)) _ _ _ (Nat.le_refl _));clear q0 q1 z0 z1 f0 f1 Qs;generalize (wr.setCell ⟨r0,0,none⟩ (.int .i64 (n4:Nat))).setCell ⟨r0,1,none⟩ (.slice A9 j c9)=wz at *;have y0:=Q4.out.cell 0;have y1:=Q4.out.cell 1;simp at y0 y1;refine bodyPost_ret (v:=.agg #[.int .i64 (n4:Nat),.slice A9 j c9]) ?_ rfl ⟨_,by rw[X2.out],?_,?_,?_⟩
   ·simp[results,Tryz.results83,go_sem,y0,y1]
   ·exact Za7 (Zcl hst.out.own hcr (fun k hk=>by have:=(hst.out.own.lt k hk).1;omega)) (by omega)
   ·exact hst.out.rd.chg hcr (by omega) (by omega) (by omega) (by omega)
   ·exact hst.out.chg.then_below Ys.out (by omega)
end Go.Proofs.YtmcjknjlihgihaaGreatDoor
