/- The plain answer's Parse. -/
import Derived.Test.YtmcjknjlihgihaaGreatDoorLawfreshlistsuptoM37
set_option linter.unusedVariables false
set_option linter.unusedSimpArgs false
set_option linter.unnecessarySimpa false
set_option maxRecDepth 20000
namespace Go.Proofs.YtmcjknjlihgihaaGreatDoor
open Go.RowKit
set_option maxHeartbeats 4000000 in
theorem Zp2 (v:Value) (xs:List Nat) (C G R:Nat) (w:World) (hv:Rd w v xs.length 1 (u8s xs)) (hb:∀ x∈xs,x<256) (hl:xs.length≤16777216) (hC:1≤C∧C≤16) (hG:G≤256) (hR:R≤65536) (hD:iD C G≤xs.length) :
  Calls Tryz.prog 49 #[v,.int .i64 C,.int .i64 G,.int .i64 R] w fun e w'=>e=.returned (.bool (Zde C G R xs))∧Below w.heap.size w w':=by
 have Zy:=hid (fun(g:Nat) (hg:g<G)=>Zgg v xs C g w hv hb hl hC.2 (by omega));have Ym:=hid (fun(i:Nat) (hi:i<G*C) (w2:World) (h:Below w.heap.size w w2)=>Zp7 v xs C i w2 (hv.mono h) hb hl hC G hG hi hD);have HSL:=hid (fun g=>Zrd (C:=C) hb g);have QW:Hid (∀ g,Za4 C xs g<4294967296):=hid (fun g=>Zdt hb);have J3:Hid (∀ i,(eI C xs i).off<4294967296∧(eI C xs i).len<4294967296∧(eI C xs i).sum<4294967296∧(eI C xs i).zl<4294967296):=hid (fun i=>Zvz hb _ _);have YP:=hid (fun i=>Zwu (C:=C) (D:=iD C G) hb i);have Zt:=Z00 hC.2 hG;obtain⟨F,hF⟩:∃ F,Zde C G R xs=F:=⟨_,rfl⟩;have HF:=hid hF;rw[hF];have XG:G*C≤4096:=Nat.mul_le_mul hG hC.2;have hm9:G*(4+16*C)≤256*260:=Nat.mul_le_mul hG (by omega);obtain⟨m,hm⟩:∃ m,G*(4+16*C)=m:=⟨_,rfl⟩;have hmi:(G:Int)*(4+16*(C:Int))=(m:Int):=by rw[← hm];simp
 have hid2:iD C G=16+C+m:=by unfold iD;rw[hm]
 obtain⟨gc,hgc⟩:∃ gc,G*C=gc:=⟨_,rfl⟩;have hgci:(G:Int)*(C:Int)=(gc:Int):=by rw[← hgc];simp
 have HGC:=hid hgc;have Qw:=hid (show ∀ g,sumR C xs (g+1)=sumR C xs g+Za4 C xs g from fun g=>rfl);have HPS:=hid (show ∀ i,eAt C (iD C G) xs (i+1)=eAt C (iD C G) xs i+((eI C xs i).len+(eI C xs i).zl)from fun i=>rfl);have Ye:=hid (show eAt C (iD C G) xs 0=iD C G from rfl);have ZA:Hid (Zde C G R xs=(laid C (iD C G) xs (G*C)&&(decide (sumR C xs G=R)&&decide (eAt C (iD C G) xs (G*C)=xs.length)))):=hid rfl;have Zd:=hid (fun n=>Zp8 C (iD C G) xs n);have Yr:=hid (fun(i n:Nat) (hi:i<n) (h:(eI C xs i).off≠eAt C (iD C G) xs i)=>Zxc (D:=iD C G) hi h);obtain⟨D,hDD⟩:∃ D,iD C G=D:=⟨_,rfl⟩;rw[hm]at hm9;rw[hgc]at XG Ym;rw[hDD]at YP Zt hid2 HPS Ye ZA Zd Yr hD;obtain⟨A,ca,rfl,hlc,hcm,_⟩:=hv.form;clear hv hb hF hm hgc hDD;go_enter Tryz.func49,Tryz.ntmps49;go_upto_region 3 with fail
 go_loopw [9,10] (fun s i wr=>∃ g:Nat,g≤G∧i=.int .i64 g∧s=.int .i64 (sumR C xs g:Nat)∧wr=w) (fun _ i _=>G-(intOf i).toNat)
 case atStart=>exact⟨0,by omega,rfl,rfl,rfl⟩
 case round =>
  obtain⟨g,hg,rfl,rfl,hw⟩:=hrel;replace hw:=hw.symm;subst hw;by_cases hlt:g<G
  ·have QZ:=hid (Zy.out g hlt);have hs:=HSL.out g;have hr:=QW.out g;have YX:=hid (Qw.out g);generalize sumR C xs g=sm at *;generalize Za4 C xs g=gr at *;go_wp2_with (go_at_call 50;refine QZ.out.mono ?_;rintro e w5 ⟨rfl,hw⟩;replace hw:=hw.symm;subst hw)
   go_roundw
   case rel=>exact⟨g+1,by omega,by go_num,by rw[YX.out];go_num,by first | rfl | trivial⟩
   case measure=>simp[intOf];omega
  ·obtain rfl:g=G:=by omega
   have HSUM:=hid (ZA.out);have hsl:=HSL.out g;obtain⟨sr,hsr⟩:∃ sr,sumR C xs g=sr:=⟨_,rfl⟩;rw[hsr]at ZA hsl ⊢;clear HSUM hsr Zy Qw HSL;go_upto_region 8 with fail
   have hD0:16+(C:Int)+(m:Int)=((eAt C D xs 0:Nat):Int):=by rw[Ye.out];omega
   rw[hD0];have HLZ:Hid (laid C D xs 0=true):=hid (by simp[laid]);have HNOF:=hid (fun(i:Nat) (hi:i<gc) (h:(eI C xs i).off≠eAt C D xs i)=>show F=false by
    rw[← HF.out,ZA.out,Yr.out i (g*C) (by rw[HGC.out];exact hi) h];rfl)
   have Qy:Hid (laid C D xs gc=true→F=(decide (sr=R)&&decide (eAt C D xs gc=xs.length))):=hid (fun h=>by
    rw[← HF.out,ZA.out,HGC.out,h];rfl)
   have HW:=hid (Zab w);clear HF ZA hD0 hid2 Ye QW;go_loopw [11,12] (fun a i wv=>∃ t:Nat,t≤gc∧i=.int .i64 t∧a=.int .i64 (eAt C D xs t:Nat)∧Hid (laid C D xs t=true)∧Hid (Below w.heap.size w wv)) (fun _ i _=>gc-(intOf i).toNat)
   case atStart=>exact⟨0,by omega,rfl,rfl,HLZ,HW⟩
   case round =>
    obtain⟨t,ht,rfl,rfl,hla,hbw⟩:=hrel;have hpl:=YP.out t;by_cases hlt:t<gc
    ·have HE2:=hid (Ym.out t hlt wr hbw.out);have YW:=hid (HNOF.out t hlt);have XW:=hid (Zd.out t);have XX:=hid (HPS.out t);have hel:=J3.out t;generalize eI C xs t=en at *;obtain⟨eo,el,es,ez⟩:=en;simp only at HE2 YW XW XX hel;obtain⟨l0,l1,l2,l3⟩:=hel;obtain⟨at0,hat⟩:∃ at0,eAt C D xs t=at0:=⟨_,rfl⟩;rw[hat]at YW XW XX hpl ⊢;clear hat;by_cases heq:eo=at0
     ·have Yl:Hid (laid C D xs (t+1)=true):=hid (by rw[XW.out,hla.out];simpa using heq);subst heq;go_wp2_with (go_at_call 90;refine HE2.out.mono ?_;rintro e w5 ⟨rfl,hb5⟩;have Q2:=hid (Zad hbw.out hb5);clear hb5)
      go_roundw
      case rel=>exact⟨t+1,by omega,by go_num,by rw[XX.out];go_num,Yl,Q2⟩
      case measure=>simp[intOf];omega
     ·have HFF:=hid (YW.out heq);have hne:((eo:Int) != (at0:Int))=true:=by simp;omega
      go_wp2_with (go_at_call 90;refine HE2.out.mono ?_;rintro e w5 ⟨rfl,hb5⟩;have Q2:=hid (Zad hbw.out hb5);clear hb5)
      go_ret;exact⟨Zae HFF.out.symm,Q2.out⟩
    ·obtain rfl:t=gc:=by omega
     have HF2:=hid (Qy.out hla.out);obtain⟨at0,hat⟩:∃ at0,eAt C D xs t=at0:=⟨_,rfl⟩;rw[hat]at HF2 hpl ⊢;clear hat;by_cases h1:sr=R
     ·subst h1;have e1:((sr:Int)==(sr:Int))=true:=by simp
      go_wp2_with fail
      go_ret;exact⟨Zae (by rw[HF2.out,Bool.eq_iff_iff];simp;omega),hbw.out⟩
     ·have e1:((sr:Int)==(R:Int))=false:=by simp;omega
      have HF3:Hid (F=false):=hid (by rw[HF2.out,decide_eq_false h1];rfl);go_wp2_with fail
      go_ret;exact⟨Zae HF3.out.symm,hbw.out⟩
set_option maxRecDepth 100000
def Zwd (xs:List Nat) (w:World) (e:Ending) (w':World):Prop:=Below w.heap.size w w' ∧
 ((Zd2 xs=true∧∃ kv gv u L,e=.returned (.tuple #[.agg #[kv,gv],u,.bool true])∧Zgn w' w.heap.size kv gv xs∧CeN w' w.heap.size u L (iC xs) xs∧L.length=iG xs*iC xs) ∨
 (Zd2 xs=false∧e=.returned (.tuple #[.agg #[.slice none 0 0,.slice none 0 0],.slice none 0 0,.bool false])))
set_option maxHeartbeats 16000000 in
theorem Zwx (v:Value) (xs:List Nat) (w:World) (hv:Rd w v xs.length 1 (u8s xs)) (hb:∀ x∈xs,x<256) (hl:xs.length≤16777216) :
  Calls Tryz.prog 26 #[v] w (Zwd xs w):=by
 obtain⟨ANS,hANS⟩:∃ ANS,Zwd xs w=ANS:=⟨_,rfl⟩;have Qm:=hid hANS;rw[hANS];clear hANS;have YU:=hid (fun(w2:World) (h:Below w.heap.size w w2)=>Zvl v xs w2 (hv.mono h) hb hl);have YP:=hid (fun(hh:hdOk xs=true) (w2:World) (h:Below w.heap.size w w2)=>Zp2 v xs (iC xs) (iG xs) (iR xs) w2 (hv.mono h) hb hl (Zd6 hh).1 (Zd6 hh).2.1 (Zd6 hh).2.2.1 (Zd6 hh).2.2.2.1);have VQ:=hid (Zk4 xs);have Qb:=hid (fun(h:Zd2 xs=false) (w9:World) (hb9:Below w.heap.size w w9)=>(show Zwd xs w (.returned (.tuple #[.agg #[.slice none 0 0,.slice none 0 0],.slice none 0 0,.bool false])) w9 from ⟨hb9,.inr ⟨h,rfl⟩⟩));rw[Qm.out]at Qb;have Zy:=hid (fun(hh:hdOk xs=true) (g:Nat) (hg:g≤256) (w2:World) (h:Below w.heap.size w w2)=>Zgg v xs (iC xs) g w2 (hv.mono h) hb hl (Zd6 hh).1.2 hg);have HCO:=hid (fun(hh:hdOk xs=true) (hp:Zde (iC xs) (iG xs) (iR xs) xs=true) (g c:Nat) (hg:g<iG xs) (hc:c<iC xs) (w2:World) (h:Below w.heap.size w w2) =>
  (show Calls Tryz.prog 51 #[v,.int .i64 (iC xs:Nat),.int .i64 ((g*iC xs+c:Nat):Int)] w2 (Zxj (kdX xs c) (Za4 (iC xs) xs g) xs (eN (iC xs) xs g c) w2)from by
   have hd:=Zd6 hh;have hck:=Zpw hh hp g c hg hc;have hi:g*iC xs+c<iG xs*iC xs:=by
    have:(g+1)*iC xs≤iG xs*iC xs:=Nat.mul_le_mul_right _ hg;rw[Nat.add_mul,Nat.one_mul]at this;omega
   have hq:(g*iC xs+c)/iC xs=g:=by
    rw[Nat.mul_comm,Nat.mul_add_div (by omega),Nat.div_eq_of_lt hc,Nat.add_zero]
   have hm:(g*iC xs+c)%iC xs=c:=by
    rw[Nat.mul_comm,Nat.mul_add_mod,Nat.mod_eq_of_lt hc]
   exact Zss v xs (iC xs) (iG xs) (g*iC xs+c) w2 (hv.mono h) hb hl hd.1 hd.2.1 hi hd.2.2.2.1 (kdX xs c) (Za4 (iC xs) xs g) (eN (iC xs) xs g c) (by rw[hm]) (hd.2.2.2.2 c hc) (by rw[hq]) hck.1 (Zvt hc) hck.2))
 have HV:=hid hv;have YH:=hid hb;unfold hdV at YU;obtain⟨A,ca,rfl,hlc,hcm,_⟩:=hv.form;clear hv hb;obtain⟨p0,hp0⟩:∃ p0,w.heap.size=p0:=⟨_,rfl⟩;have Ye:=hid hp0;clear hp0;go_enter Tryz.func26,Tryz.ntmps26;go_upto_region 1 with fail
 have hf:=Zbs (w:=w) (C:=#[.slice none 0 0,.slice none 0 0]) (e:=26);have Qj:=hid hf.1;have Ql:=hid hf.2;clear hf;generalize w.alloc (.cells #[.slice none 0 0,.slice none 0 0] 26)=w1 at *;rw[Ye.out]at Qj ⊢;have QR:Hid (w.heap.size≤p0):=hid (by rw[Ye.out];exact Nat.le_refl _);by_cases hh:hdOk xs=true
 rotate_left
 ·have Q6:Hid (Zd2 xs=false):=hid (Zl4 (by rw[VQ.out];simp only[Bool.not_eq_true]at hh;rw[hh];rfl));have Ug:=hid (YU.out w1 Ql.out);rw[if_neg hh]at Ug;clear hh;go_upto_region 2 with (go_at_call 48;refine Ug.out.mono ?_;rintro e w2 ⟨rfl,hb2⟩;have Qc:=hid (Zad Ql.out hb2);have Qq:=hid (Qj.out.mono hb2);clear hb2)
  have z0:=Qq.out.cell 0;have z1:=Qq.out.cell 1;have f0:=Qq.out.frozen 0;have f1:=Qq.out.frozen 1;go_wp2_with fail
  have Q4:=hid ((Qq.out.set 0 (.slice none 0 0)).set 1 (.slice none 0 0));have QU:Hid (Below w.heap.size w ((w2.setCell ⟨p0,0,none⟩ (.slice none 0 0)).setCell ⟨p0,1,none⟩ (.slice none 0 0))):=hid (Zac (Zac Qc.out _ _ _ QR.out) _ _ _ QR.out);clear z0 z1 f0 f1;generalize (w2.setCell ⟨p0,0,none⟩ (.slice none 0 0)).setCell ⟨p0,1,none⟩ (.slice none 0 0)=wz at *;have y0:=Q4.out.cell 0;have y1:=Q4.out.cell 1;simp at y0 y1;refine bodyPost_ret (v:=.tuple #[.agg #[.slice none 0 0,.slice none 0 0],.slice none 0 0,.bool false]) ?_ rfl (Qb.out Q6.out _ QU.out);simp[results,Tryz.results26,go_sem,y0,y1]
 have HH:=hid hh;have Ug:=hid (YU.out w1 Ql.out);rw[if_pos hh]at Ug;have hdir:=Zd6 hh;have VH:=hid (YP.out hh);have HGR2:=hid (Zy.out hh);have JU:=hid (HCO.out hh);have QG:=hid (fun(hp:Zde (iC xs) (iG xs) (iR xs) xs=true) (h2:∀ g,g<iG xs→∀ c,c<iC xs→Zeu (iC xs) xs g c=true)=>Zqq (by rw[VQ.out,hh,hp];rfl) h2);have XY:=hid (fun(g c:Nat) (hg:g<iG xs) (hc:c<iC xs) (h:Zeu (iC xs) xs g c=false)=>Ztl hg hc h);have XZ:Hid (Zde (iC xs) (iG xs) (iR xs) xs=false→Zd2 xs=false):=hid (fun h=>Zl4 (by rw[VQ.out,h,Bool.and_false]));obtain⟨hC,hG,hR,hD,hkd⟩:=hdir;have HKD:=hid hkd;have hkk:∀ c,c<iC xs→kdX xs c<256:=fun c hc=>by rcases hkd c hc with h | h<;>omega
 have Z7:=hid hkk;have Qn:=hid (fun(kv gv u:Value) (L:List Value) (w9:World) (hb9:Below w.heap.size w w9) (h1:Zd2 xs=true) (h2:Zgn w9 w.heap.size kv gv xs) (h3:CeN w9 w.heap.size u L (iC xs) xs) (h4:L.length=iG xs*iC xs)=>(show Zwd xs w (.returned (.tuple #[.agg #[kv,gv],u,.bool true])) w9 from ⟨hb9,.inl ⟨h1,kv,gv,u,L,rfl,h2,h3,h4⟩⟩));rw[Qm.out]at Qn;have hlen16:16+iC xs≤xs.length:=by unfold iD at hD;omega
 have Vf:Hid (∀ w9 kv gv,w9.ownsRow w.heap.size 3 1 kv (iC xs) (i64s (nI (iKs (iC xs) xs)))→∀ es ces lo,es.length=iG xs→Gr w9 w.heap.size gv es ces lo (iC xs) xs→Zgn w9 w.heap.size kv gv xs):=hid (fun w9 kv gv h1 es ces lo h2 h3=>⟨h1,es,ces,lo,h2,h3⟩);have YT:Hid (∀ k,k<iC xs→(xs.drop 16).take (k+1)=(xs.drop 16).take k++[kdX xs k]):=hid (fun k hk=>by
  rw[List.take_succ_eq_append_getElem (by rw[List.length_drop];omega)];simp[kdX,List.getD,List.getElem?_eq_getElem (show 16+k<xs.length by omega)])
 have HKE:Hid ((xs.drop 16).take (iC xs)=iKs (iC xs) xs):=hid rfl;have JD:Hid (∀ c,c<iC xs→∃ b o,A=some ⟨b,o,none⟩∧∀ w2,Below w.heap.size w w2→w2.cell? ⟨b,o+(16+c),none⟩=some (.int .u8 (kdX xs c:Nat))):=hid (fun c hc=>by
  obtain⟨A',ca',he,_,_,hA⟩:=HV.out.form;injection he with e1 e2 e3
  subst e1;obtain⟨b,o,he2,hseg⟩:=hA (by omega);exact⟨b,o,he2,fun w2 h2=>(hseg.mono h2).byte (16+c) (by omega)⟩)
 obtain⟨P,hP⟩:∃ P,Zde (iC xs) (iG xs) (iR xs) xs=P:=⟨_,rfl⟩;rw[hP]at VH JU QG XZ;clear hP YP Zy HCO YU VQ hh hkd hkk hD;generalize iC xs=C at *;generalize iG xs=G at *;obtain⟨xn,hxn⟩:∃ xn,xs.length=xn:=⟨_,rfl⟩;rw[hxn]at hl hlc hlen16 Ug VH HGR2 JU ⊢;clear hxn;go_upto_region 2 with (go_at_call 48;refine Ug.out.mono ?_;rintro e w2 ⟨rfl,hb2⟩;have Qc:=hid (Zad Ql.out hb2);have Qq:=hid (Qj.out.mono hb2);clear hb2)
 have HPL3:=hid (VH.out w2 Qc.out);cases P
 ·go_upto_region 3 with (go_at_call 49;refine HPL3.out.mono ?_;rintro e w3 ⟨rfl,hb3⟩;have Qk:=hid (Zad Qc.out hb3);have Qf:=hid (Qq.out.mono hb3);clear hb3)
  have z0:=Qf.out.cell 0;have z1:=Qf.out.cell 1;have f0:=Qf.out.frozen 0;have f1:=Qf.out.frozen 1;go_wp2_with fail
  have Q4:=hid ((Qf.out.set 0 (.slice none 0 0)).set 1 (.slice none 0 0));have QU:Hid (Below w.heap.size w ((w3.setCell ⟨p0,0,none⟩ (.slice none 0 0)).setCell ⟨p0,1,none⟩ (.slice none 0 0))):=hid (Zac (Zac Qk.out _ _ _ QR.out) _ _ _ QR.out);clear z0 z1 f0 f1;generalize (w3.setCell ⟨p0,0,none⟩ (.slice none 0 0)).setCell ⟨p0,1,none⟩ (.slice none 0 0)=wz at *;have y0:=Q4.out.cell 0;have y1:=Q4.out.cell 1;simp at y0 y1;refine bodyPost_ret (v:=.tuple #[.agg #[.slice none 0 0,.slice none 0 0],.slice none 0 0,.bool false]) ?_ rfl (Qb.out (XZ.out (by first | rfl | trivial)) _ QU.out);simp[results,Tryz.results26,go_sem,y0,y1]
 clear XZ VH Ug;go_upto_region 7 with (go_at_call 49;refine HPL3.out.mono ?_;rintro e w3 ⟨rfl,hb3⟩;have Qk:=hid (Zad Qc.out hb3);have Qf:=hid (Qq.out.mono hb3);clear hb3)
 have hf:=Zbs (w:=w3) (C:=#[.slice none 0 0,.slice none 0 0]) (e:=26);obtain⟨pim,hpim⟩:∃ pim,w3.heap.size=pim:=⟨_,rfl⟩;have HB3p:Hid (Below p0 w w3):=hid (by rw[← Ye.out];exact Qk.out);have JV:Hid (∀ w9,Below p0 w w9→Below w.heap.size w w9):=hid (fun w9 h=>by rw[Ye.out];exact h);have hst:KdS w p0 pim xs 0 (.slice none 0 0) (w3.alloc (.cells #[.slice none 0 0,.slice none 0 0] 26)):=by
  have h3:=Qf.out.lt;have h4:=hf.1;rw[hpim]at h4;exact⟨Qf.out.mono hf.2,h4,by simpa [i64s,nI]using World.ownsRow_nil _ _ _ _,HB3p.out.trans (hf.2.mono (by omega)),by omega,by simp;omega⟩
 have Y7:=hid hst;clear hst hf;rw[hpim];clear hpim;generalize w3.alloc (.cells #[.slice none 0 0,.slice none 0 0] 26)=w4 at *;have hC2:=hC.2;go_loopw [11] (fun i wr=>∃(k:Nat) (kv:Value),k≤C∧i=.int .i64 k∧Hid (KdS w p0 pim xs k kv wr)) (fun i _=>C-(intOf i).toNat)
 case atStart=>exact⟨0,_,by omega,rfl,Y7⟩
 case round =>
  obtain⟨k,kv,hk,rfl,hst⟩:=hrel;by_cases hlt:k<C
  ·have XN:=hid (YT.out k hlt);have hkk:=Z7.out k hlt;obtain⟨b,o,hAe,hbt⟩:=JD.out k hlt;have Ud:=hid hbt;have HAE:=hid hAe;subst hAe;clear hbt;obtain⟨A9,c9,rfl⟩:=Zah hst.out.kin;have hdw:Below wr.heap.size wr wr.drew:=Zag (Zab wr) 1;have QV:=hid (hst.out.mono hdw);have x0:wr.cell? ⟨pim,0,none⟩=some (.slice A9 k c9):=by rw[hst.out.im.cell];rfl
   have x1:wr.drew.cell? ⟨pim,0,none⟩=some (.slice A9 k c9):=by rw[QV.out.im.cell];rfl
   have k0:=Ud.out wr (JV.out _ hst.out.bel);have k1:=Ud.out wr.drew (JV.out _ QV.out.bel);generalize kdX xs k=kd at *;have hwi:=Zjr kd hkk;have hix:(16:Int)+(k:Int)<(xn:Int):=by omega
   have hwx:=Zq3 k (by omega);have htn:(16+(k:Int)).toNat=16+k:=by omega
   have hix3:(0:Int)≤16+(k:Int):=by omega
   have hsw:pim<wr.heap.size:=hst.out.h2;have hpp:p0<pim:=hst.out.h1;have JB:=hid QV.out.kin;clear hdw;go_upto_region 9 with fail
   go_region_law
    (refine Zgu (v:=.slice A9 k c9) [.int .i64 (kd:Nat)] 1 rfl (.tmp 42) (.tmp 49) rfl 3 (.int .i64 0) 8 Tryz.underlying23 Tryz.infoI64 rfl (by decide) rfl rfl rfl JB.out (by have:=QV.out.h2;omega) (by simp[Value.oneCell']) (by unfold maxLen;omega) (by omega) ?_;intro v9 w9 g1 g2 g3 g4;obtain⟨A8,c8,rfl⟩:=Zah g1;have Yd:=hid g1;have QZ:=hid g2;have Q8:=hid (QV.out.im.below g2 (by omega));have fs:=Q8.out.frozen 0;have xs9:=Q8.out.cell 0;clear g1 g2 g3 g4)
   all_goals
    have Qy:=hid (KdS.push QV.out QZ.out Yd.out XN.out);clear Q8 fs xs9 Yd QZ x0 x1 k0 k1;generalize w9.setCell ⟨pim,0,none⟩ (.slice A8 (k+1) c8)=wz at *;go_wp2_with fail
    go_roundw
    case rel=>exact⟨k+1,_,by omega,by go_num,Qy⟩
    case measure=>simp[intOf];omega
  ·obtain rfl:k=C:=by omega
   obtain⟨K9,k9,rfl⟩:=Zah hst.out.kin;have HWS:=hid (KdS.start hst.out HKE.out (fun _=>[]));clear hst Y7 YT JD;go_upto_region 11 with fail
   go_loopw [10,12] (fun uu i wr=>∃(es:List Ent) (ces:Nat→List Ent) (lo:Nat→Nat) (gv:Value) (L:List Value),es.length≤G∧i=.int .i64 es.length∧Hid (WhS w p0 pim k xs (.slice K9 k k9) gv uu es ces lo L wr)) (fun _ i _=>G-(intOf i).toNat)
   case atStart=>exact⟨[],_,_,_,_,by simp,rfl,HWS⟩
   case round =>
    obtain⟨es,ces,lo,gv,L,he,rfl,hst⟩:=hrel;obtain⟨U9,u9,rfl⟩:=Zah hst.out.ce.own;obtain⟨V9,v9,rfl⟩:=Zah hst.out.gs.own;obtain⟨j,hj⟩:∃ j,es.length=j:=⟨_,rfl⟩;have HJ:=hid hj;have ZF:=hst.out.inner;rw[hj]at he ZF hst;simp only[hj];clear hj;by_cases hlt:j<G
    ·have HIN:=hid ZF;clear ZF;have Jn:=hid (HGR2.out j (by omega) wr (JV.out _ hst.out.bel));go_upto_region 15 with (go_at_call 50;refine Jn.out.mono ?_;rintro e w5 ⟨rfl,hw⟩;replace hw:=hw.symm;subst hw)
     generalize wr.alloc (.cells #[.int .i64 (Za4 k xs j:Nat),.slice none 0 0] 33)=wi at *;obtain⟨pg,hpg⟩:∃ pg,wr.heap.size=pg:=⟨_,rfl⟩;have HPG2:=hid hpg;rw[hpg]at HIN ⊢;clear hpg;obtain⟨m,hm⟩:∃ m,j*k=m:=⟨_,rfl⟩;have hmi:(j:Int)*(k:Int)=(m:Int):=by rw[← hm];simp
     have hm9:m≤4096:=by rw[← hm];exact Nat.le_trans (Nat.mul_le_mul (show j≤256 by omega) (show k≤16 by omega)) (by decide)
     have HM:=hid hm;clear hm;generalize wr=wo at *;go_loopw [10,14] (fun uv i wv=>∃(cs:List Ent) (cv:Value) (L':List Value),cs.length≤k∧i=.int .i64 cs.length∧Hid (InS w wo p0 pim pg k xs j cv uv cs L' wv)) (fun _ i _=>k-(intOf i).toNat)
     case atStart=>exact⟨[],_,_,by simp,rfl,HIN⟩
     case round =>
      obtain⟨cs,cv,L',hc,rfl,hin⟩:=hrel;obtain⟨V8,v8,rfl⟩:=Zah hin.out.ck.n.own;obtain⟨U8,u8',rfl⟩:=Zah hin.out.ce.own;obtain⟨c,hcl⟩:∃ c,cs.length=c:=⟨_,rfl⟩;have Yp:=hid hcl;rw[hcl]at hc hin;simp only[hcl];clear hcl;by_cases hlc2:c<k
      ·have QF:=JU.out (by first | rfl | trivial) j c hlt hlc2 wr (JV.out _ hin.out.bel);rw[HM.out,Int.natCast_add]at QF;obtain⟨o,l,s,cd,wd,z,hk1,hk2,hk3,hk4⟩:=Zoa k xs j c;have Zc:=hid (And.intro hk1 hk4);unfold Zxj at QF;rw[hk2,hk3]at QF;unfold ckVs at QF;simp only[List.cons_append,List.nil_append]at QF;have J4:=hid QF;have Y2:Hid (Zeu k xs j c=Zhp (kdX xs c) (Za4 k xs j) xs (eN k xs j c)):=hid rfl;rw[← Y2.out]at J4;have HNC:=hid (fun h=>XY.out j c hlt hlc2 h);clear QF hk1 hk2 hk3 hk4 Y2;obtain⟨ok,hok⟩:∃ ok,Zeu k xs j c=ok:=⟨_,rfl⟩;have Q7:=hid hok;rw[hok]at J4 HNC;clear hok;cases ok
       ·have HNI:=hid (HNC.out (by first | rfl | trivial));have JL:=hid (hin.out.fr.row hst.out.res (by decide));have Qg:=hid (JV.out _ hin.out.bel);go_upto_region 18 with (go_at_call 51;refine J4.out.mono ?_;rintro e w6 ⟨hb6,hor⟩;obtain rfl:=(hor.resolve_left (fun h=>by cases h.1)).2;have QT:=hid (Zad Qg.out hb6);have Vb:=hid (JL.out.mono hb6);clear hb6 hor)
        have hf:=Zbs (w:=w6) (C:=#[.int .i64 0,.int .i64 0,.int .u32 0,.int .i64 0,.int .i64 0,.bool false,.int .i64 0,.bool false,.int .i64 0,.string ⟨#[]⟩,.bool false,.int .i64 0,.string ⟨#[]⟩,.int .i64 0,.slice none 0 0]) (e:=41);have Jl:=hid (Vb.out.mono hf.2);have QM:=hid (Zad QT.out hf.2);clear hf;generalize w6.alloc (.cells #[.int .i64 0,.int .i64 0,.int .u32 0,.int .i64 0,.int .i64 0,.bool false,.int .i64 0,.bool false,.int .i64 0,.string ⟨#[]⟩,.bool false,.int .i64 0,.string ⟨#[]⟩,.int .i64 0,.slice none 0 0] 41)=w7 at *;have z0:=Jl.out.cell 0;have z1:=Jl.out.cell 1;have f0:=Jl.out.frozen 0;have f1:=Jl.out.frozen 1;go_wp2_with fail
        have Q4:=hid ((Jl.out.set 0 (.slice none 0 0)).set 1 (.slice none 0 0));have QU:Hid (Below w.heap.size w ((w7.setCell ⟨p0,0,none⟩ (.slice none 0 0)).setCell ⟨p0,1,none⟩ (.slice none 0 0))):=hid (Zac (Zac QM.out _ _ _ QR.out) _ _ _ QR.out);clear z0 z1 f0 f1;generalize (w7.setCell ⟨p0,0,none⟩ (.slice none 0 0)).setCell ⟨p0,1,none⟩ (.slice none 0 0)=wz at *;have y0:=Q4.out.cell 0;have y1:=Q4.out.cell 1;simp at y0 y1;refine bodyPost_ret (v:=.tuple #[.agg #[.slice none 0 0,.slice none 0 0],.slice none 0 0,.bool false]) ?_ rfl (Qb.out HNI.out _ QU.out);simp[results,Tryz.results26,go_sem,y0,y1]
       ·go_upto_region 20 with (go_at_call 51;refine J4.out.mono ?_;rintro e w6 ⟨hb6,hor⟩;obtain⟨_,B9,c9,ux,rfl,hob,hou⟩:=hor.resolve_right (fun h=>by cases h.1);obtain⟨U7,u7,rfl⟩:=Zah hou;have QT:=hid hb6;have Vh:=hid hob;have HOU:=hid hou;clear hb6 hor hob hou)
        have hf:=Zbs (w:=w6) (C:=#[.int .i64 (o:Nat),.int .i64 (l:Nat),.int .u32 (s:Nat),.int .i64 (cd:Nat),.int .i64 (wd:Nat),.bool z.rg,.int .i64 z.nu,.bool z.mn.n,.int .i64 z.mn.i,.string z.mn.s,.bool z.mx.n,.int .i64 z.mx.i,.string z.mx.s,.int .i64 z.hs,.slice B9 z.bl.length c9]) (e:=41);have Q3:=hid hf.1;have QM:=hid (Zad QT.out hf.2);have UX:=hid (Zai Vh.out hf.2);have VI:=hid (Zai HOU.out hf.2);clear hf;obtain⟨pc,hpc⟩:∃ pc,w6.heap.size=pc:=⟨_,rfl⟩;rw[hpc]at Q3 ⊢;clear hpc;generalize w6.alloc (.cells #[.int .i64 (o:Nat),.int .i64 (l:Nat),.int .u32 (s:Nat),.int .i64 (cd:Nat),.int .i64 (wd:Nat),.bool z.rg,.int .i64 z.nu,.bool z.mn.n,.int .i64 z.mn.i,.string z.mn.s,.bool z.mx.n,.int .i64 z.mx.i,.string z.mx.s,.int .i64 z.hs,.slice B9 z.bl.length c9] 41)=w7 at *;have YO:=hid (hin.out.mono QM.out);have x1:w7.cell? ⟨pg,1,none⟩=some (.slice V8 c v8):=by rw[YO.out.g.cell];rfl
        obtain⟨y_0,y_1,y_2,y_3,y_4,y_5,y_6,y_7,y_8,y_9,y_10,y_11,y_12,y_13,y_14⟩:=Zch Q3.out;have hkw:=YO.out.ck.n.own;rw[Yp.out]at hkw;have JB:=hid hkw;have hpg7:=YO.out.h2;clear hkw;go_upto_region 21 with (at_builtin;refine Zcn [.int .i64 (o:Nat),.int .i64 (l:Nat),.int .u32 (s:Nat),.int .i64 (cd:Nat),.int .i64 (wd:Nat),.bool z.rg,.int .i64 z.nu,.bool z.mn.n,.int .i64 z.mn.i,.string z.mn.s,.bool z.mx.n,.int .i64 z.mx.i,.string z.mx.s,.int .i64 z.hs,.slice B9 z.bl.length c9] 15 rfl (.tmp 83) (.tmp 85) rfl 41 (.agg [.int .i64 0,.int .i64 0,.int .u32 0,.int .i64 0,.int .i64 0,.bool false,.int .i64 0,.bool false,.int .i64 0,.string ⟨#[]⟩,.bool false,.int .i64 0,.string ⟨#[]⟩,.int .i64 0,.slice none 0 0].toArray) 152 Tryz.underlying31 Tryz.infoCkA rfl (by decide) rfl rfl rfl JB.out (by omega) (by simp[Value.oneCell']) (by unfold maxLen;omega) (by omega) ?_;intro v9' w9 g1 g2 g3 g4;obtain⟨A8,c8,rfl⟩:=Zah g1;have Yd:=hid g1;have QZ:=hid g2;have Jn:=hid g3;have Jo:=hid g4;have Q8:=hid (YO.out.g.below g2 (by omega));have fs:=Q8.out.frozen 1;have xs9:=Q8.out.cell 1;clear g1 g2 g3 g4)
        have ZG:=hid (by
         have hcl:=Yp.out;have hck:=Zc.out.1;have hbx:=Zc.out.2;exact InS.chunk (j:=j) (cs:=cs) (bv:=.slice B9 z.bl.length c9) (v':=.slice A8 (c+1) c8) hin.out QM.out (by rw[hcl];exact Q7.out) (by rw[hcl,hbx];exact UX.out) (by rw[hcl,hck];exact Yd.out) QZ.out Jn.out Jo.out)
        have hou9:=Zav VI.out (fun k2 hk2=>Jo.out.1 k2 (VI.out.lt k2 hk2).2 (fun e=>Zcd VI.out JB.out (by decide) k2 hk2 e.symm));have hsz2:=QM.out.size;have hpo:=hin.out.h4;have hfo:=hin.out.fr.1;have hpi:=hin.out.h3;have hwp:=hin.out.h1;have HOUA:=hid (Za7 (B':=pim+1) (Zav (w':=w9.setCell ⟨pg,1,none⟩ (.slice A8 (c+1) c8)) hou9 (fun k2 hk2=>heap_setCell_other _ _ _ _ (by simpa using Zdj hou9 Q8.out (by decide) k2 hk2))) (by omega));clear hou9 Q8 fs xs9 Yd QZ Jn Jo x1 y_0 y_1 y_2 y_3 y_4 y_5 y_6 y_7 y_8 y_9 y_10 y_11 y_12 y_13 y_14 JB YO UX VI Q3 Vh HOU;generalize w9.setCell ⟨pg,1,none⟩ (.slice A8 (c+1) c8)=wA at *;have XH:=hid ZG.out.2.2.2.1.own;have hll:L'.length≤4112:=by
         have:=hin.out.len;rw[HM.out,Yp.out]at this;omega
        have hpA:=ZG.out.2.1.lt;have hpm:pim+1≤wA.heap.size:=by omega
        go_wp2_with (at_builtin;refine Zcn [.slice U7 (Za4 k xs j) u7] 1 rfl (.tmp 88) (.tmp 90) rfl 78 (.slice none 0 0) 24 Tryz.underlying47 Tryz.infoCeA rfl (by decide) rfl rfl rfl XH.out hpm (by simp[Value.oneCell']) (by unfold maxLen;omega) (by omega) ?_;intro v11 w11 g1 g2 g3 g4;obtain⟨A6,c6,rfl⟩:=Zah g1;have Yd:=hid g1;have QZ:=hid g2;have Jn:=hid g3;have Jo:=hid g4;clear g1 g2 g3 g4)
        have Qy:=hid (by
         have hlen:=hin.out.len;have hcl:=Yp.out;have hd:L'.length/k=j:=by rw[hlen,hcl,Nat.mul_comm,Nat.mul_add_div (by omega),Nat.div_eq_of_lt hlc2,Nat.add_zero]
         have hmd:L'.length%k=c:=by rw[hlen,hcl,Nat.mul_comm,Nat.mul_add_mod,Nat.mod_eq_of_lt hlc2]
         have hei:eI k xs L'.length=eN k xs j c:=by rw[hlen,hcl];exact Zvt hlc2
         exact InS.cells (x:=.slice U7 (Za4 k xs j) u7) ZG.out.1 ZG.out.2.1 ZG.out.2.2.1 ZG.out.2.2.2.1 ZG.out.2.2.2.2.1 ZG.out.2.2.2.2.2 (by rw[hlen];simp;omega) hwp hpi hpo (by rw[hd,hmd,hei];exact HOUA.out) Yd.out QZ.out Jn.out Jo.out)
        go_roundw
        case rel=>exact⟨_,_,_,by simp[Yp.out];omega,by simp only[List.length_append,List.length_cons,List.length_nil,Yp.out];go_num,Qy⟩
        case measure=>simp[intOf];omega
      ·obtain rfl:c=k:=by omega
       have him:=hin.out.fr.row hst.out.im (by decide);have HIMR:=hid him;have x1:wr.cell? ⟨pim,1,none⟩=some (.slice V9 j v9):=by rw[him.cell];rfl
       have y0:=hin.out.g.cell 0;have y1:=hin.out.g.cell 1;simp only[List.getElem?_cons_zero,List.getElem?_cons_succ]at y0 y1;have hgs:=(hst.out.gs.fr hin.out.fr (by decide) (by decide) (by decide)).own;rw[HJ.out]at hgs;have Vd:=hid hgs;have hpo:=hin.out.h4;have hfo:=hin.out.fr.1;have hpi:=hin.out.h3;have hwp:=hin.out.h1;have hpm:pim+1≤wr.heap.size:=by omega
       clear him hgs;go_upto_region 12 with (at_builtin;refine Zcn [.int .i64 (Za4 c xs j:Nat),.slice V8 c v8] 2 rfl (.tmp 93) (.tmp 95) rfl 33 (.agg [.int .i64 0,.slice none 0 0].toArray) 32 Tryz.underlying24 Tryz.infoGrA rfl (by decide) rfl rfl rfl Vd.out hpm (by simp[Value.oneCell']) (by unfold maxLen;omega) (by omega) ?_;intro v11 w11 g1 g2 g3 g4;obtain⟨A6,c6,rfl⟩:=Zah g1;have YR:=hid g1;have HQ2:=hid g2;have Yn:=hid g3;have XC:=hid g4;have Q8:=hid (HIMR.out.below g2 (by omega));have fs:=Q8.out.frozen 1;have xs9:=Q8.out.cell 1;clear g1 g2 g3 g4)
       have Qy:Hid (∃ es2 ces2 lo2,es2.length=j+1∧WhS w p0 pim c xs (.slice K9 c k9) (.slice A6 (j+1) c6) (.slice U8 L'.length u8') es2 ces2 lo2 L' (w11.setCell ⟨pim,1,none⟩ (.slice A6 (j+1) c6))):=hid (by
        have hj:=HJ.out;have hcl:=Yp.out;subst hj;exact WhS.group hst.out hin.out hcl YR.out HQ2.out Yn.out XC.out)
       clear Q8 fs xs9 YR HQ2 Yn XC x1 y0 y1 Vd HIMR;generalize w11.setCell ⟨pim,1,none⟩ (.slice A6 (j+1) c6)=wz at *;obtain⟨es2,ces2,lo2,hl2,hws2⟩:=Qy.out;have Z1:=hid hl2;have HWS2:=hid hws2;clear hl2 hws2 Qy;go_wp2_with fail
       go_roundw
       case rel=>exact⟨es2,ces2,lo2,_,_,by rw[Z1.out];omega,by rw[Z1.out];go_num,HWS2⟩
       case measure=>simp[intOf];omega
    ·obtain rfl:j=G:=by omega
     clear ZF;have HOKI:=hid (QG.out (by first | rfl | trivial) (fun g hg c hc=>hst.out.all g (by rw[HJ.out];exact hg) c hc));have z0:=hst.out.im.cell 0;have z1:=hst.out.im.cell 1;have y0:=hst.out.res.cell 0;have y1:=hst.out.res.cell 1;have f0:=hst.out.res.frozen 0;have f1:=hst.out.res.frozen 1;simp only[List.getElem?_cons_zero,List.getElem?_cons_succ]at z0 z1 y0 y1;obtain⟨d1,d2,d3,d4,d5⟩:=hst.out.fin w.heap.size QR.out (.slice K9 k k9) (.slice V9 j v9);have HD:=hid (And.intro d1 (And.intro d2 (And.intro d3 (And.intro d4 d5))));clear d1 d2 d3 d4 d5;go_wp2_with fail
     clear z0 z1 y0 y1 f0 f1;generalize (wr.setCell ⟨p0,0,none⟩ (.slice K9 k k9)).setCell ⟨p0,1,none⟩ (.slice V9 j v9)=wz at *;have y0:=HD.out.2.2.2.2.cell 0;have y1:=HD.out.2.2.2.2.cell 1;simp only[List.getElem?_cons_zero,List.getElem?_cons_succ]at y0 y1;refine bodyPost_ret (v:=.tuple #[.agg #[.slice K9 k k9,.slice V9 j v9],.slice U9 L.length u9,.bool true]) ?_ rfl (Qn.out _ _ _ L _ (JV.out _ HD.out.2.2.2.1) HOKI.out (Vf.out _ _ _ HD.out.1 es ces lo HJ.out HD.out.2.1) HD.out.2.2.1 (by have:=hst.out.len;rw[HJ.out]at this;exact this));simp[results,Tryz.results26,go_sem,y0,y1]
theorem Zgn.under {w w':World} {b B:Nat} {kv gv:Value} {xs:List Nat} (h:Zgn w b kv gv xs) (hk:∀ k,b≤k→k<w.heap.size→w'.heap[k]? = w.heap[k]?) (hs:w.heap.size≤w'.heap.size) (hB:B≤b):Zgn w' B kv gv xs:=by
 obtain⟨h1,es,ces,lo,h2,h3⟩:=h;exact⟨Za7 (Zav h1 fun k hv=>hk k (h1.lt k hv).1 (h1.lt k hv).2) hB,es,ces,lo,h2,(h3.under hk hs).weak hB⟩
theorem Zgn.forms {w:World} {b:Nat} {kv gv:Value} {xs:List Nat} (h:Zgn w b kv gv xs):(∃ A c,kv=.slice A (iC xs) c)∧∃ A c,gv=.slice A (iG xs) c:=by
 obtain⟨h1,es,ces,lo,h2,h3⟩:=h;obtain⟨A,c,e⟩:=Zah h1;obtain⟨A2,c2,e2⟩:=Zah h3.own;rw[h2]at e2;exact⟨⟨A,c,e⟩,A2,c2,e2⟩
def Znu (xs:List Nat) (w:World) (e:Ending) (w':World):Prop:=Below w.heap.size w w' ∧
 ((Zd2 xs=true∧∃ kv gv,e=.returned (.tuple #[.agg #[kv,gv],.int .i64 0])∧Zgn w' w.heap.size kv gv xs) ∨
 (Zd2 xs=false∧e=.returned (.tuple #[.agg #[.slice none 0 0,.slice none 0 0],.int .i64 1])))
set_option maxHeartbeats 8000000 in
theorem Zpl (v:Value) (xs:List Nat) (w:World) (hv:Rd w v xs.length 1 (u8s xs)) (hb:∀ x∈xs,x<256) (hl:xs.length≤16777216) :
  Calls Tryz.prog 7 #[v] w (Znu xs w):=by
 obtain⟨ANS,hANS⟩:∃ ANS,Znu xs w=ANS:=⟨_,rfl⟩;have Qm:=hid hANS;rw[hANS];clear hANS;have HWH:=hid (fun(w2:World) (h:Below w.heap.size w w2)=>Zwx v xs w2 (hv.mono h) hb hl);unfold Zwd at HWH;have Qb:=hid (fun(h:Zd2 xs=false) (w9:World) (hb9:Below w.heap.size w w9)=>(show Znu xs w (.returned (.tuple #[.agg #[.slice none 0 0,.slice none 0 0],.int .i64 1])) w9 from ⟨hb9,.inr ⟨h,rfl⟩⟩));have Qn:=hid (fun(h:Zd2 xs=true) (kv gv:Value) (w9:World) (hb9:Below w.heap.size w w9) (hi:Zgn w9 w.heap.size kv gv xs)=>(show Znu xs w (.returned (.tuple #[.agg #[kv,gv],.int .i64 0])) w9 from ⟨hb9,.inl ⟨h,kv,gv,rfl,hi⟩⟩));rw[Qm.out]at Qb Qn;obtain⟨A,ca,rfl,_,_,_⟩:=hv.form;clear hv hb;go_enter Tryz.func7,Tryz.ntmps7;go_upto_region 1 with fail
 have hf:=Zbs (w:=w) (C:=#[.slice none 0 0,.slice none 0 0]) (e:=26);have Qj:=hid hf.1;have Ql:=hid hf.2;have hs1:(w.alloc (.cells #[.slice none 0 0,.slice none 0 0] 26)).heap.size=w.heap.size+1:=by simp
 clear hf;generalize w.alloc (.cells #[.slice none 0 0,.slice none 0 0] 26)=w1 at *;obtain⟨p0,hp0⟩:∃ p0,w.heap.size=p0:=⟨_,rfl⟩;have Ye:=hid hp0;have JE:Hid (w1.heap.size=p0+1):=hid (by rw[hs1,hp0]);rw[hp0]at Qj ⊢;clear hp0 hs1;have QR:Hid (w.heap.size≤p0):=hid (by rw[Ye.out];exact Nat.le_refl _);have HW1:=hid (HWH.out w1 Ql.out);obtain⟨ok,hok⟩:∃ ok,Zd2 xs=ok:=⟨_,rfl⟩;have Q7:=hid hok;rw[hok]at HW1;clear hok HWH;cases ok
 ·go_upto_region 2 with (go_at_call 26;refine HW1.out.mono ?_;rintro e w2 ⟨hb2,hor⟩;obtain rfl:=(hor.resolve_left (fun h=>by cases h.1)).2;have Qc:=hid (Zad Ql.out hb2);have Qq:=hid (Qj.out.mono hb2);clear hb2 hor)
  have hf:=Zbs (w:=w2) (C:=#[.slice none 0 0,.slice none 0 0]) (e:=26);have Qf:=hid (Qq.out.mono hf.2);have Qk:=hid (Zad Qc.out hf.2);clear hf;generalize w2.alloc (.cells #[.slice none 0 0,.slice none 0 0] 26)=w3 at *;have z0:=Qf.out.cell 0;have z1:=Qf.out.cell 1;have f0:=Qf.out.frozen 0;have f1:=Qf.out.frozen 1;go_wp2_with fail
  have Q4:=hid ((Qf.out.set 0 (.slice none 0 0)).set 1 (.slice none 0 0));have QU:Hid (Below w.heap.size w ((w3.setCell ⟨p0,0,none⟩ (.slice none 0 0)).setCell ⟨p0,1,none⟩ (.slice none 0 0))):=hid (Zac (Zac Qk.out _ _ _ QR.out) _ _ _ QR.out);clear z0 z1 f0 f1;generalize (w3.setCell ⟨p0,0,none⟩ (.slice none 0 0)).setCell ⟨p0,1,none⟩ (.slice none 0 0)=wz at *;have y0:=Q4.out.cell 0;have y1:=Q4.out.cell 1;simp at y0 y1;refine bodyPost_ret (v:=.tuple #[.agg #[.slice none 0 0,.slice none 0 0],.int .i64 1]) ?_ rfl (Qb.out Q7.out _ QU.out);simp[results,Tryz.results7,go_sem,y0,y1]
 ·go_upto_region 2 with (go_at_call 26;refine HW1.out.mono ?_;rintro e w2 ⟨hb2,hor⟩;obtain⟨_,kv,gv,u,L,rfl,him,hce,_⟩:=hor.resolve_right (fun h=>by cases h.1);obtain⟨⟨K9,k9,rfl⟩,G9,g9,rfl⟩:=him.forms;obtain⟨U9,u9,rfl⟩:=Zah hce.own;have Vf:=hid him;have Qc:=hid (Zad Ql.out hb2);have Qq:=hid (Qj.out.mono hb2);clear hb2 hor him hce)
  have hf:=Zbs (w:=w2) (C:=#[.slice K9 (iC xs) k9,.slice G9 (iG xs) g9]) (e:=26);have Qf:=hid (Qq.out.mono hf.2);have Qk:=hid (Zad Qc.out hf.2);have VR:=hid (Vf.out.under (B:=w1.heap.size) (fun k _ hk=>hf.2.block k hk) hf.2.size (Nat.le_refl _));have UG:=hid hf.1;clear hf;obtain⟨pv,hpv⟩:∃ pv,w2.heap.size=pv:=⟨_,rfl⟩;rw[hpv]at UG ⊢;clear hpv;generalize w2.alloc (.cells #[.slice K9 (iC xs) k9,.slice G9 (iG xs) g9] 26)=w3 at *;have z0:=Qf.out.cell 0;have z1:=Qf.out.cell 1;have f0:=Qf.out.frozen 0;have f1:=Qf.out.frozen 1;have v0:=UG.out.cell 0;have v1:=UG.out.cell 1;simp only[List.toList_toArray,List.getElem?_cons_zero,List.getElem?_cons_succ]at v0 v1;go_wp2_with fail
  have Q4:=hid ((Qf.out.set 0 (.slice K9 (iC xs) k9)).set 1 (.slice G9 (iG xs) g9));have QU:Hid (Below w.heap.size w ((w3.setCell ⟨p0,0,none⟩ (.slice K9 (iC xs) k9)).setCell ⟨p0,1,none⟩ (.slice G9 (iG xs) g9))):=hid (Zac (Zac Qk.out _ _ _ QR.out) _ _ _ QR.out);have Zn:Hid (Zgn ((w3.setCell ⟨p0,0,none⟩ (.slice K9 (iC xs) k9)).setCell ⟨p0,1,none⟩ (.slice G9 (iG xs) g9)) w.heap.size (.slice K9 (iC xs) k9) (.slice G9 (iG xs) g9) xs):=hid (VR.out.under (fun k hk _=>by
   have:=JE.out;rw[heap_setCell_other _ _ _ _ (by simp;omega),heap_setCell_other _ _ _ _ (by simp;omega)]) (by simp) Ql.out.size)
  clear z0 z1 f0 f1 v0 v1;generalize (w3.setCell ⟨p0,0,none⟩ (.slice K9 (iC xs) k9)).setCell ⟨p0,1,none⟩ (.slice G9 (iG xs) g9)=wz at *;have y0:=Q4.out.cell 0;have y1:=Q4.out.cell 1;simp at y0 y1;refine bodyPost_ret (v:=.tuple #[.agg #[.slice K9 (iC xs) k9,.slice G9 (iG xs) g9],.int .i64 0]) ?_ rfl (Qn.out Q7.out _ _ _ QU.out Zn.out);simp[results,Tryz.results7,go_sem,y0,y1]
end Go.Proofs.YtmcjknjlihgihaaGreatDoor
