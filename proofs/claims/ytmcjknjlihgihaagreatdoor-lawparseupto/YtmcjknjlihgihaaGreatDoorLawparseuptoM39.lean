/- What a directory in order gives for each chunk; when an image is in order. -/
import Derived.Test.YtmcjknjlihgihaaGreatDoorLawparseuptoM37
set_option linter.unusedVariables false
set_option linter.unusedSimpArgs false
set_option linter.unnecessarySimpa false
set_option maxRecDepth 20000
namespace Go.Proofs.YtmcjknjlihgihaaGreatDoor
open Go.RowKit
set_option maxHeartbeats 1000000 in
theorem Zgn (v:Value) (xs:List Nat) (C g:Nat) (w:World) (hv:Rd w v xs.length 1 (u8s xs)) (hb:∀ x∈xs,x<256) (hl:xs.length≤16777216) (hC:C≤16) (hg:g≤256) :
  Calls Tryz.prog 50 #[v,.int .i64 C,.int .i64 g] w fun e w'=>e=.returned (.int .i64 (Zap C xs g:Nat))∧w'=w:=by
 have h1:g*(4+16*C)≤256*260:=Nat.mul_le_mul hg (by omega);have HN:=hid (Zcz v xs (gP C g) 4 w hv hb hl (by omega) (by unfold gP;omega));have HE:Hid ((if Zb8 4 (gP C g) xs.length=true then L.wordOf 8 ((xs.drop (gP C g)).take 4)else 0)=Zap C xs g):=hid rfl;rw[HE.out]at HN;have hlt:Zap C xs g<4294967296:=Zdx hb;obtain⟨m,hm⟩:∃ m,g*(4+16*C)=m:=⟨_,rfl⟩;have hmi:(g:Int)*(4+16*(C:Int))=(m:Int):=by rw[← hm];simp
 have hd:((gP C g:Nat):Int)=16+(C:Int)+(m:Int):=by unfold gP;rw[hm];simp
 rw[hm]at h1;generalize gP C g=p at *;generalize Zap C xs g=r at *;obtain⟨A,ca,rfl,_,_,_⟩:=hv.form;clear hm hv HE;go_enter Tryz.func50,Tryz.ntmps50;have hpe:16+(C:Int)+(m:Int)=(p:Int):=hd.symm;clear hd;go_wp2_with (go_at_call 91;refine HN.out.mono ?_;rintro e w1 ⟨rfl,hw⟩;replace hw:=hw.symm;subst hw)
 go_ret;exact⟨by go_num,rfl⟩
theorem Zri {xs:List Nat} {p:Nat} (h:p+16≤xs.length):numL 4 (tk (4*4) (xs.drop p))=[nAt 4 p xs,nAt 4 (p+4) xs,nAt 4 (p+8) xs,nAt 4 (p+12) xs]:=by
 have h2:p≤xs.length∧4*4≤xs.length-p:=⟨by omega,by omega⟩;have hlen:(numL 4 (tk (4*4) (xs.drop p))).length=4:=by
  rw[Zan];unfold tk;rw[if_pos (by rw[List.length_drop];omega),List.length_take,List.length_drop];omega
 have key:∀ i,i<4→(numL 4 (tk (4*4) (xs.drop p)))[i]? = some (nAt 4 (p+4*i) xs):=by
  intro i hi;have hn:nAt 4 (p+4*i) xs=L.wordOf 8 ((xs.drop (p+4*i)).take 4):=by
   unfold nAt Zb8;rw[if_pos (decide_eq_true ⟨by omega,by omega⟩)]
  unfold numL;rw[List.getElem?_map,List.getElem?_range (by unfold tk;rw[if_pos (by rw[List.length_drop];omega),List.length_take,List.length_drop];omega),Option.map_some,Zq0 4 4 p xs h2 i hi,hn]
 apply List.ext_getElem?;intro i;by_cases hi:i<4
 ·rw[key i hi]
  match i,hi with
  | 0,_=>rfl
  | 1,_=>rfl
  | 2,_=>rfl
  | 3,_=>rfl
 ·rw[List.getElem?_eq_none (by omega),List.getElem?_eq_none (by simp;omega)]
set_option maxHeartbeats 2000000 in
theorem Zr1 (v:Value) (xs:List Nat) (C i:Nat) (w:World) (hv:Rd w v xs.length 1 (u8s xs)) (hb:∀ x∈xs,x<256) (hl:xs.length≤16777216) (hC:1≤C∧C≤16) (G:Nat) (hG:G≤256) (hi:i<G*C) (hD:iD C G≤xs.length) :
  Calls Tryz.prog 90 #[v,.int .i64 C,.int .i64 i] w fun e w'=>e=.returned (.tuple #[.int .i64 ((eI C xs i).off:Nat),.int .i64 ((eI C xs i).len:Nat),.int .u32 ((eI C xs i).sum:Nat),.int .i64 ((eI C xs i).zl:Nat)])∧Below w.heap.size w w':=by
 have hq:i/C<G:=Nat.div_lt_of_lt_mul (by rw[Nat.mul_comm];exact hi);have hr:i%C<C:=Nat.mod_lt _ (by omega);have hpl:=Z1n (C:=C) hq;have hp:eP C (i/C) (i%C)+16≤xs.length:=by unfold eP;omega
 have HN:=hid (fun(w2:World) (h:Below w.heap.size w w2)=>Zcn v xs (eP C (i/C) (i%C)) 4 4 w2 (hv.mono h) hb hl (.inl rfl) (by omega) (by omega));have hno:Zav 4 4 (eP C (i/C) (i%C)) xs.length=true:=by unfold Zav;exact decide_eq_true ⟨by omega,by omega⟩
 rw[Zri hp,hno]at HN;have hen:=Zym (C:=C) hb (i/C) (i%C);have e0:nAt 4 (eP C (i/C) (i%C)) xs=(eI C xs i).off:=rfl;have e1:nAt 4 (eP C (i/C) (i%C)+4) xs=(eI C xs i).len:=rfl;have e2:nAt 4 (eP C (i/C) (i%C)+8) xs=(eI C xs i).sum:=rfl;have e3:nAt 4 (eP C (i/C) (i%C)+12) xs=(eI C xs i).zl:=rfl;rw[e0,e1,e2,e3]at HN;have hen2:(eI C xs i).off<4294967296∧(eI C xs i).len<4294967296∧(eI C xs i).sum<4294967296∧(eI C xs i).zl<4294967296:=hen;clear e0 e1 e2 e3 hen;have hpe:((eP C (i/C) (i%C):Nat):Int)=16+(C:Int)+((i/C:Nat):Int)*(4+16*(C:Int))+4+((i%C:Nat):Int)*16:=by unfold eP gP;simp;omega
 have hP16:eP C (i/C) (i%C)≤16777216:=by omega
 generalize eP C (i/C) (i%C)=p at *;generalize eI C xs i=en at *;obtain⟨eo,el,es,ez⟩:=en;simp only at HN hen2 ⊢;obtain⟨h0,h1,h2,h3⟩:=hen2;obtain⟨A,ca,rfl,_,_,_⟩:=hv.form;have hi1:i≤4096:=by have:=Nat.mul_le_mul hG hC.2;omega
 have hdiv:Int.tdiv (i:Int) (C:Int)=((i/C:Nat):Int):=by rw[Int.tdiv_eq_ediv_of_nonneg (by omega)];simp
 have hmod:Int.tmod (i:Int) (C:Int)=((i%C:Nat):Int):=by rw[Int.tmod_eq_emod_of_nonneg (by omega)];simp
 obtain⟨qd,hqd⟩:∃ qd,i/C=qd:=⟨_,rfl⟩;obtain⟨qm,hqm⟩:∃ qm,i%C=qm:=⟨_,rfl⟩;rw[hqd]at hdiv hpe hq;rw[hqm]at hmod hpe hr;have hm9:qd*(4+16*C)≤256*260:=Nat.mul_le_mul (by omega) (by omega);obtain⟨m,hm⟩:∃ m,qd*(4+16*C)=m:=⟨_,rfl⟩;have hmi:(qd:Int)*(4+16*(C:Int))=(m:Int):=by rw[← hm];simp
 rw[hm]at hm9;rw[hmi]at hpe;have hc0:((C:Int)==0)=false:=by simp;omega
 clear hv hqd hqm hpl hD hi hno hp hm hb;have hpe2:16+(C:Int)+(m:Int)+4+(qm:Int)*16=(p:Int):=hpe.symm;clear hpe;go_enter Tryz.func90,Tryz.ntmps90;go_upto_region 1 with fail
 have hwi:IntKind.i64.wrap ((i:Int).tdiv (C:Int))=(qd:Int):=by rw[hdiv,IntKind.wrap_i64];omega
 go_quiet (fail)
 have Qa:Hid (Below w.heap.size w (w.drewN nq)):=hid (Zaf (Zab w) nq);generalize w.drewN nq=w1 at *;clear hdiv hmod hwi hpe2 hmi;go_upto_region 3 with (go_at_call 89;refine(HN.out w1 Qa.out).mono ?_;rintro e w2 ⟨u,rfl,hou,hb2⟩;have HO:=hid hou;have Qb:=hid (Zac Qa.out hb2);obtain⟨U,cu,rfl,huc,hum,_,hform⟩:=Zao hou;clear hou hb2)
 obtain⟨gu,rfl,_,_,hcell,_⟩:=hform (by simp);have c0:w2.cell? ⟨gu,0,none⟩=some (.int .u64 (eo:Nat)):=hcell 0 (by simp);have c1:w2.cell? ⟨gu,0+1,none⟩=some (.int .u64 (el:Nat)):=hcell 1 (by simp);have c2:w2.cell? ⟨gu,0+2,none⟩=some (.int .u64 (es:Nat)):=hcell 2 (by simp);have c3:w2.cell? ⟨gu,0+3,none⟩=some (.int .u64 (ez:Nat)):=hcell 3 (by simp);have d1:w2.cell? ⟨gu,1,none⟩=some (.int .u64 (el:Nat)):=hcell 1 (by simp);have d2:w2.cell? ⟨gu,2,none⟩=some (.int .u64 (es:Nat)):=hcell 2 (by simp);have d3:w2.cell? ⟨gu,3,none⟩=some (.int .u64 (ez:Nat)):=hcell 3 (by simp);clear hform hcell HN;go_upto_region 5 with fail
 go_quiet (fail)
 have Qe:=hid (fun n=>Zaf Qb.out n);go_wp2_with fail
 refine bodyPost_ret (v:=.tuple #[.int .i64 (eo:Nat),.int .i64 (el:Nat),.int .u32 (es:Nat),.int .i64 (ez:Nat)]) ?_ rfl ⟨rfl,Qe.out _⟩;simp[results,Tryz.results90,go_sem]
theorem Zpo {xs:List Nat} {C c:Nat} (hc:c<C) (h:16+C≤xs.length):(iKs C xs).length=C∧(iKs C xs).getD c 0=xs.getD (16+c) 0:=by
 unfold iKs;refine⟨by rw[List.length_take,List.length_drop];omega,?_⟩;simp[List.getD,List.getElem?_take,hc]
theorem Zxu {xs:List Nat} {C:Nat} (h:16+C≤xs.length):(iKs C xs).length=C:=by unfold iKs;rw[List.length_take,List.length_drop];omega
theorem Zsd (ks:List Nat) (k:Nat) (hk:k<ks.length):(ks.take (k+1)).all (fun k=>Zax (k:Int))=((ks.take k).all (fun k=>Zax (k:Int))&&Zax ((ks.getD k 0:Nat):Int)):=by
 rw[List.take_succ_eq_append_getElem hk,List.all_append];simp[List.getD,List.getElem?_eq_getElem hk]
theorem Zyf (ks:List Nat) (k:Nat) (hk:k<ks.length) (h:Zax ((ks.getD k 0:Nat):Int)=false):ks.all (fun k=>Zax (k:Int))=false:=by
 rw[← Bool.not_eq_true];intro h2;rw[List.all_eq_true]at h2;have:=h2 (ks.getD k 0) (by simp[List.getD,List.getElem?_eq_getElem hk]);rw[h]at this;cases this
def hdOk (xs:List Nat):Bool:=Zf3 xs&&Zg1 (iC xs) xs
def hdV (xs:List Nat):Value:=if hdOk xs=true then .tuple #[.int .i64 (iC xs:Nat),.int .i64 (iG xs:Nat),.int .i64 (iR xs:Nat),.bool true]else .tuple #[.int .i64 0,.int .i64 0,.int .i64 0,.bool false]
set_option maxHeartbeats 4000000 in
theorem Zvq (v:Value) (xs:List Nat) (w:World) (hv:Rd w v xs.length 1 (u8s xs)) (hb:∀ x∈xs,x<256) (hl:xs.length≤16777216) :
  Calls Tryz.prog 48 #[v] w fun e w'=>e=.returned (hdV xs)∧Below w.heap.size w w':=by
 have HN:=hid (Zcn v xs 0 4 4 w hv hb hl (.inl rfl) (by omega) (by omega));obtain⟨R,hR⟩:∃ R,hdV xs=R:=⟨_,rfl⟩;have HR:=hid hR;rw[hR];clear hR;have HV:=hid hv;have YT:=hid hb;have hlt:nAt 4 0 xs<4294967296∧iC xs<4294967296∧iG xs<4294967296∧iR xs<4294967296:=⟨Zdx hb,Zdx hb,Zdx hb,Zdx hb⟩;obtain⟨A,ca,rfl,hlc,hcm,hA⟩:=hv.form;clear hv hb;by_cases h16:16≤xs.length
 rotate_left
 ·have hno:Zav 4 4 0 xs.length=false:=by unfold Zav;exact decide_eq_false (by omega)
  rw[hno]at HN;have Qm:Hid (R=.tuple #[.int .i64 0,.int .i64 0,.int .i64 0,.bool false]):=hid (by
   rw[← HR.out];unfold hdV hdOk Zf3;rw[decide_eq_false h16];rfl)
  clear HR;go_enter Tryz.func48,Tryz.ntmps48;go_wp2_with (go_at_call 89;refine HN.out.mono ?_;rintro e w1 ⟨u,rfl,hou,hb1⟩;obtain⟨U,cu,rfl,_⟩:=Zao hou;have Qa:=hid hb1;clear hou hb1)
  refine bodyPost_ret (v:=.tuple #[.int .i64 0,.int .i64 0,.int .i64 0,.bool false]) ?_ rfl ⟨by rw[Qm.out],Qa.out⟩;simp[results,Tryz.results48,go_sem]
 have hno:Zav 4 4 0 xs.length=true:=by unfold Zav;exact decide_eq_true (by omega)
 have hn4:=Zri (xs:=xs) (p:=0) (by omega);rw[hno,hn4]at HN;have ZH:Hid (Zf3 xs=(decide (nAt 4 0 xs=826889027)&&(decide (1≤iC xs∧iC xs≤16)&&(decide (iG xs≤256)&&(decide (iR xs≤65536)&&decide (iD (iC xs) (iG xs)≤xs.length)))))):=hid (by unfold Zf3;rw[decide_eq_true h16];rfl);have e1:nAt 4 (0+4) xs=iC xs:=rfl;have e2:nAt 4 (0+8) xs=iG xs:=rfl;have e3:nAt 4 (0+12) xs=iR xs:=rfl;rw[e1,e2,e3]at HN;clear e1 e2 e3 hno hn4;have XS:=hid (fun(C c:Nat) (hc:c<C) (h:16+C≤xs.length)=>(Zpo hc h).2);have HKL:=hid (fun(C:Nat) (h:16+C≤xs.length)=>Zxu (C:=C) h);have HDV:Hid (hdOk xs=(Zf3 xs&&Zg1 (iC xs) xs)):=hid rfl;unfold hdV at HR;have VM:Hid (Zg1 (iC xs) xs=(iKs (iC xs) xs).all fun k=>Zax (k:Int)):=hid rfl;generalize nAt 4 0 xs=mg at *;generalize iC xs=C at *;generalize iG xs=G at *;generalize iR xs=RR at *;obtain⟨l0,l1,l2,l3⟩:=hlt;go_enter Tryz.func48,Tryz.ntmps48;go_upto_region 2 with (go_at_call 89;refine HN.out.mono ?_;rintro e w2 ⟨u,rfl,hou,hb2⟩;have Qb:=hid hb2;obtain⟨U,cu,rfl,huc,hum,_,hform⟩:=Zao hou;clear hou hb2)
 obtain⟨gu,rfl,_,_,hcell,_⟩:=hform (by simp);have c0:w2.cell? ⟨gu,0,none⟩=some (.int .u64 (mg:Nat)):=hcell 0 (by simp);have d1:w2.cell? ⟨gu,1,none⟩=some (.int .u64 (C:Nat)):=hcell 1 (by simp);have d2:w2.cell? ⟨gu,2,none⟩=some (.int .u64 (G:Nat)):=hcell 2 (by simp);have d3:w2.cell? ⟨gu,3,none⟩=some (.int .u64 (RR:Nat)):=hcell 3 (by simp);clear hform hcell HN;obtain⟨hin,hhin⟩:∃ hin,(decide (mg=826889027)&&(decide (1≤C∧C≤16)&&(decide (G≤256)&&decide (RR≤65536))))=hin:=⟨_,rfl⟩;have VN:=hid hhin;clear hhin;go_cut [50]from 19 to 50 (fun s50 wc=>s50=.bool (!hin)∧wc=w2)
 case first =>
  have hh:=VN.out;subst hh;have k0:mg=826889027∨mg≠826889027:=by omega
  go_wp2_with fail
  all_goals go_meet
  all_goals refine⟨?_,rfl⟩
  all_goals (congr 1)
  all_goals first
   | (rw[Bool.eq_iff_iff];simp only[Bool.or_eq_true,Bool.not_eq_true',← Bool.not_eq_true,Bool.and_eq_true,decide_eq_true_eq,true_iff,iff_true,Bool.false_eq_true,false_iff];omega)
   | (simp[*];done)
   | trace_state
 case rest =>
 obtain⟨rfl,hw⟩:=hcut;replace hw:=hw.symm;subst hw;cases hin
 ·have Qm:Hid (R=.tuple #[.int .i64 0,.int .i64 0,.int .i64 0,.bool false]):=hid (by
   rw[← HR.out,HDV.out,ZH.out];have h:=VN.out;rw[if_neg];intro h2;simp only[Bool.and_eq_true,decide_eq_true_eq]at h2;have h3:(decide (mg=826889027)&&(decide (1≤C∧C≤16)&&(decide (G≤256)&&decide (RR≤65536))))=true:=by
    simp only[Bool.and_eq_true,decide_eq_true_eq];exact⟨h2.1.1,h2.1.2.1,h2.1.2.2.1,h2.1.2.2.2.1⟩
   rw[h]at h3;cases h3)
  clear c0 d1 d2 d3;go_wp2_with fail
  refine bodyPost_ret (v:=.tuple #[.int .i64 0,.int .i64 0,.int .i64 0,.bool false]) ?_ rfl ⟨by rw[Qm.out],Qb.out⟩;simp[results,Tryz.results48,go_sem]
 ·have h:=VN.out;simp only[Bool.and_eq_true,decide_eq_true_eq]at h;obtain⟨h1,⟨h2a,h2b⟩,h3,h4⟩:=h;have hm9:G*(4+16*C)≤256*260:=Nat.mul_le_mul h3 (by omega);obtain⟨m,hm⟩:∃ m,G*(4+16*C)=m:=⟨_,rfl⟩;have hmi:(G:Int)*(4+16*(C:Int))=(m:Int):=by rw[← hm];simp
  have hid2:iD C G=16+C+m:=by unfold iD;rw[hm]
  rw[hm]at hm9;rw[hid2]at ZH;clear hm hid2;by_cases hlen:16+C+m≤xs.length
  rotate_left
  ·have Qm:Hid (R=.tuple #[.int .i64 0,.int .i64 0,.int .i64 0,.bool false]):=hid (by
    rw[← HR.out,HDV.out,ZH.out,decide_eq_false hlen];simp)
   have hlti:(xs.length:Int)<16+(C:Int)+(m:Int):=by omega
   go_wp2_with fail
   refine bodyPost_ret (v:=.tuple #[.int .i64 0,.int .i64 0,.int .i64 0,.bool false]) ?_ rfl ⟨by rw[Qm.out],Qb.out⟩;simp[results,Tryz.results48,go_sem]
  ·have HHT:Hid (Zf3 xs=true):=hid (by rw[ZH.out];simp only[Bool.and_eq_true,decide_eq_true_eq];exact⟨h1,⟨h2a,h2b⟩,h3,h4,hlen⟩);have HRT:Hid (R=if Zg1 C xs=true then .tuple #[.int .i64 (C:Nat),.int .i64 (G:Nat),.int .i64 (RR:Nat),.bool true]else .tuple #[.int .i64 0,.int .i64 0,.int .i64 0,.bool false]):=hid (by
    rw[← HR.out,HDV.out,HHT.out,Bool.true_and])
   have hnlt:¬ (xs.length:Int)<16+(C:Int)+(m:Int):=by omega
   clear HR HDV ZH HHT c0;go_upto_region 8 with fail
   obtain⟨b,o,rfl,hseg⟩:=hA (by omega);have UN:=hid (hseg.mono Qb.out);have hca:ca≠16:=by omega
   have hca2:16+C≤ca:=by omega
   unfold maxLen at hcm;have HK:=hid (VM.out);have HL:=HKL.out C (by omega);have QY:=hid (fun(c:Nat) (hc:c<C)=>XS.out C c hc (by omega));have Qs:=hid (fun(t:Nat) (ht:t<C)=>Zsd (iKs C xs) t (by rw[HL];exact ht));have Q8:=hid (fun(t:Nat) (ht:t<C)=>Zyf (iKs C xs) t (by rw[HL];exact ht));have ZK:=hid HL;have HKO:=hid (fun(k:Int) (w2:World)=>Zkh k w2);clear hA hseg XS HKL HL VN;go_upto_region 9 with fail
   go_loopw [75] (fun i wr=>∃ k:Nat,k≤C∧i=.int .i64 k∧Hid (((iKs C xs).take k).all (fun k=>Zax (k:Int))=true)∧wr=w2) (fun i _=>C-(intOf i).toNat)
   case atStart=>exact⟨0,by omega,rfl,hid (by simp),rfl⟩
   case round =>
    obtain⟨k,hk,rfl,hall,rfl⟩:=hrel;by_cases hlt:k<C
    ·have cb:=UN.out.byte (16+k) (by omega);rw[← QY.out k hlt,← Nat.add_assoc]at cb;have Uu:=hid (Qs.out k hlt);have Zo:=hid (Q8.out k hlt);have YO:=hid (HKO.out (((iKs C xs).getD k 0:Nat):Int) wr);have hkd:(iKs C xs).getD k 0<256:=by
      rw[QY.out k hlt];exact YT.out _ (by simp[List.getD,List.getElem?_eq_getElem (show 16+k<xs.length by omega)])
     generalize (iKs C xs).getD k 0=kd at *;generalize Zax (kd:Int)=kk at *;cases kk
     ·have Qd:Hid (R=.tuple #[.int .i64 0,.int .i64 0,.int .i64 0,.bool false]):=hid (by
       rw[HRT.out,HK.out,Zo.out rfl];rfl)
      go_wp2_with (go_at_call 69;refine YO.out.mono ?_;rintro e w5 ⟨rfl,hw⟩;replace hw:=hw.symm;subst hw)
      refine bodyPost_ret (v:=.tuple #[.int .i64 0,.int .i64 0,.int .i64 0,.bool false]) ?_ rfl ⟨by rw[Qd.out],Qb.out⟩;simp[results,Tryz.results48,go_sem]
     ·go_wp2_with (go_at_call 69;refine YO.out.mono ?_;rintro e w5 ⟨rfl,hw⟩;replace hw:=hw.symm;subst hw)
      go_roundw
      case rel=>exact⟨k+1,by omega,by go_num,hid (by rw[Uu.out,hall.out];rfl),by first | rfl | trivial⟩
      case measure=>simp[intOf];omega
    ·obtain rfl:k=C:=by omega
     have Qd:Hid (R=.tuple #[.int .i64 (k:Nat),.int .i64 (G:Nat),.int .i64 (RR:Nat),.bool true]):=hid (by
      have h:=hall.out;rw[List.take_of_length_le (by rw[ZK.out];exact Nat.le_refl _)]at h;rw[HRT.out,HK.out,h];rfl)
     go_upto_region 14 with fail
     go_quiet (fail)
     have Qe:=hid (fun n=>Zaf Qb.out n);go_wp2_with fail
     refine bodyPost_ret (v:=.tuple #[.int .i64 (k:Nat),.int .i64 (G:Nat),.int .i64 (RR:Nat),.bool true]) ?_ rfl ⟨by rw[Qd.out],Qe.out _⟩;simp[results,Tryz.results48,go_sem]
theorem Zgd (xs:List Nat):Zf6 xs=(hdOk xs&&Zc1 (iC xs) (iG xs) (iR xs) xs):=by unfold Zf6 hdOk;rw[Bool.and_assoc]
theorem Zdd {xs:List Nat} (h:hdOk xs=true):(1≤iC xs∧iC xs≤16)∧iG xs≤256∧iR xs≤65536∧iD (iC xs) (iG xs)≤xs.length∧∀ c,c<iC xs→kdX xs c=1∨kdX xs c=2:=by
 unfold hdOk at h;rw[Bool.and_eq_true]at h;obtain⟨h1,h2⟩:=h;obtain⟨_,_,hC,hG,hR,hD⟩:=Zw4 h1;refine⟨hC,hG,hR,hD,fun c hc=>?_⟩;have hl:16+iC xs≤xs.length:=by unfold iD at hD;omega
 obtain⟨h3,h4⟩:=Zpo hc hl;unfold Zg1 at h2;rw[List.all_eq_true]at h2;have h5:=h2 ((iKs (iC xs) xs).getD c 0) (by simp[List.getD,List.getElem?_eq_getElem (show c<(iKs (iC xs) xs).length by omega)]);rw[h4]at h5;unfold Zax at h5;unfold kdX;simp only[Bool.or_eq_true,beq_iff_eq,decide_eq_true_eq]at h5;omega
theorem Zf2 {xs:List Nat} (h:hdOk xs=true) (hp:Zc1 (iC xs) (iG xs) (iR xs) xs=true) (g c:Nat) (hg:g<iG xs) (hc:c<iC xs) :
  Zap (iC xs) xs g≤65536∧(eN (iC xs) xs g c).off+(eN (iC xs) xs g c).len+(eN (iC xs) xs g c).zl≤xs.length:=by
 obtain⟨_,_,hR,_,_⟩:=Zdd h;unfold Zc1 at hp;simp only[Bool.and_eq_true,decide_eq_true_eq]at hp;obtain⟨h1,h2,h3⟩:=hp;have hi:g*iC xs+c<iG xs*iC xs:=by
  have:(g+1)*iC xs≤iG xs*iC xs:=Nat.mul_le_mul_right _ hg;rw[Nat.add_mul,Nat.one_mul]at this;omega
 constructor
 ·have h4:=Zq1 (iC xs) xs (g+1) (iG xs-(g+1));rw[show g+1+(iG xs-(g+1))=iG xs by omega,h2]at h4;have h5:sumR (iC xs) xs (g+1)=sumR (iC xs) xs g+Zap (iC xs) xs g:=rfl;omega
 ·have h4:=Zt5 (iC xs) (iD (iC xs) (iG xs)) xs (g*iC xs+c+1) (iG xs*iC xs-(g*iC xs+c+1));rw[show g*iC xs+c+1+(iG xs*iC xs-(g*iC xs+c+1))=iG xs*iC xs by omega,h3]at h4;have h5:eAt (iC xs) (iD (iC xs) (iG xs)) xs (g*iC xs+c+1)=eAt (iC xs) (iD (iC xs) (iG xs)) xs (g*iC xs+c)+((eI (iC xs) xs (g*iC xs+c)).len+(eI (iC xs) xs (g*iC xs+c)).zl):=rfl;have h6:(eI (iC xs) xs (g*iC xs+c)).off=eAt (iC xs) (iD (iC xs) (iG xs)) xs (g*iC xs+c):=by
   unfold laid at h1;rw[List.all_eq_true]at h1;have:=h1 (g*iC xs+c) (List.mem_range.2 hi);simpa using this
  rw[Zr8 hc]at h5 h6;omega
theorem Zt3 {xs:List Nat} {g c:Nat} (hg:g<iG xs) (hc:c<iC xs) (h:Ze9 (iC xs) xs g c=false):Zcu xs=false:=by
 rw[← Bool.not_eq_true];intro h2;unfold Zcu at h2;rw[Bool.and_eq_true,List.all_eq_true]at h2;have h3:=h2.2 g (List.mem_range.2 hg);rw[List.all_eq_true]at h3;have h4:=h3 c (List.mem_range.2 hc);rw[h]at h4;cases h4
theorem Zmz {xs:List Nat} (h:Zf6 xs=false):Zcu xs=false:=by unfold Zcu;rw[h];rfl
theorem Zqg {xs:List Nat} (h:Zf6 xs=true) (h2:∀ g,g<iG xs→∀ c,c<iC xs→Ze9 (iC xs) xs g c=true):Zcu xs=true:=by
 unfold Zcu;rw[h,Bool.true_and,List.all_eq_true];intro g hg;rw[List.all_eq_true];intro c hc;exact h2 g (List.mem_range.1 hg) c (List.mem_range.1 hc)
theorem Zta (k:Nat) (h:k≤1000):IntKind.i64.wrap (16+(k:Int))=16+(k:Int):=by rw[IntKind.wrap_i64];omega
end Go.Proofs.YtmcjknjlihgihaaGreatDoor
