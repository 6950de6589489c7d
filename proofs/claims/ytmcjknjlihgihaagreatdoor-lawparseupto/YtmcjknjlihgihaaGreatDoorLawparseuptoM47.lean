/- Where the chunks lie, as the plain answer asks it. -/
import Derived.Test.YtmcjknjlihgihaaGreatDoorLawparseuptoM39
import Derived.Test.YtmcjknjlihgihaaGreatDoorLawparseuptoM46
set_option linter.unusedVariables false
set_option linter.unusedSimpArgs false
set_option linter.unnecessarySimpa false
set_option maxRecDepth 100000
namespace Go.Proofs.YtmcjknjlihgihaaGreatDoor
open Go.RowKit
def Zxz (kd rows:Nat) (xs:List Nat) (en:En) (w:World) (e:Ending) (w':World):Prop:=Below w.heap.size w w' ∧
 ((Zh9 kd rows xs en=true∧∃ B c u,e=.returned (.tuple #[.agg (ckVE kd rows xs en++[Value.slice B (zE kd rows xs en).bl.length c]).toArray,u,.bool true])∧w'.ownsRow w.heap.size 73 1 (.slice B (zE kd rows xs en).bl.length c) (zE kd rows xs en).bl.length (u64s (zE kd rows xs en).bl) ∧
   w'.ownsRow w.heap.size 36 3 u rows (Zd7 kd rows (Zak xs en))) ∨
 (Zh9 kd rows xs en=false∧e=.returned (.tuple #[Zig,.slice none 0 0,.bool false])))
set_option maxHeartbeats 16000000 in
theorem Ztg (v:Value) (xs:List Nat) (C G i:Nat) (w:World) (hv:Rd w v xs.length 1 (u8s xs)) (hb:∀ x∈xs,x<256) (hl:xs.length≤16777216) (hC:1≤C∧C≤16) (hG:G≤256) (hi:i<G*C) (hD:iD C G≤xs.length)
  (kd rows:Nat) (en:En) (hkd:kdX xs (i%C)=kd) (hk:kd=1∨kd=2) (hrw:Zap C xs (i/C)=rows) (hrr:rows≤65536) (hen:eI C xs i=en) (hfit:en.off+en.len+en.zl≤xs.length) :
  Calls Tryz.prog 51 #[v,.int .i64 C,.int .i64 i] w (Zxz kd rows xs en w):=by
 obtain⟨ANS,hANS⟩:∃ ANS,Zxz kd rows xs en w=ANS:=⟨_,rfl⟩;have Qj:=hid hANS;rw[hANS];clear hANS;have Yr:=hid (fun(w2:World) (h:Below w.heap.size w w2)=>Zr1 v xs C i w2 (hv.mono h) hb hl hC G hG hi hD);rw[hen]at Yr;have hq:i/C<G:=Nat.div_lt_of_lt_mul (by rw[Nat.mul_comm];exact hi);have hr:i%C<C:=Nat.mod_lt _ (by omega);have ZY:=hid (fun(w2:World) (h:Below w.heap.size w w2)=>Zgn v xs C (i/C) w2 (hv.mono h) hb hl hC.2 (by omega));rw[hrw]at ZY;have hi1:i≤4096:=by have:=Nat.mul_le_mul hG hC.2;omega
 have hdiv:Int.tdiv (i:Int) (C:Int)=((i/C:Nat):Int):=by rw[Int.tdiv_eq_ediv_of_nonneg (by omega)];simp
 have hmod:Int.tmod (i:Int) (C:Int)=((i%C:Nat):Int):=by rw[Int.tmod_eq_emod_of_nonneg (by omega)];simp
 have hc0:((C:Int)==0)=false:=by simp;omega
 have QA:=hid (Zwt (xs:=xs) (en:=en) (by omega));have YT:Hid (∀ x∈Zak xs en,x<256):=hid (Zfa hb en.off en.len);have UY:Hid (∀ x∈recE xs en,x<256):=hid (Zfa hb (en.off+en.len) en.zl);have HB:=hid hb;have hkk:=Zxb hk;have HDE:=hid (fun(u:Value) (w2:World) (h:Rd w2 u (Zak xs en).length 1 (u8s (Zak xs en)))=>Zom kd rows u (Zak xs en) w2 h YT.out (by rw[QA.out];omega));have HCD:=hid (Zyb hk hrr (Zak xs en));have Zx:Hid (rOk kd rows (Zak xs en)=true→Zc2 kd rows (Zak xs en)=Zd7 kd rows (Zak xs en)∧Zf7 kd rows (Zak xs en)=rows):=hid (fun h=>by
  have h2:=HCD.out;rw[if_pos h]at h2;exact⟨by unfold Zc2;rw[if_pos h2,Int.toNat_natCast,Int.toNat_natCast],by unfold Zf7;rw[if_pos h2,Int.toNat_natCast]⟩)
 have hrl:(recE xs en).length≤16777216:=by unfold recE;rw[List.length_take];omega
 have Zy:=hid (fun(u:Value) (w2:World) (h:Rd w2 u (recE xs en).length 1 (u8s (recE xs en)))=>(Zv5 w2 kd rows u (recE xs en) hkk ⟨by omega,by omega⟩ h UY.out hrl).mono (fun e w' hh=>Zzu hkk ⟨by omega,by omega⟩ UY.out hh));have Vo:=hid (fun(u:Value) (w2:World) (h:Rd w2 u (Zak xs en).length 1 (u8s (Zak xs en)))=>Zhs u (Zak xs en) w2 h YT.out);have Vm:Hid (∀ x∈(zE kd rows xs en).bl,x<18446744073709551616):=hid (Zpn kd rows UY.out).2.2;have Ji:=hid (fun(B:Option Addr) (bc:Nat) (u:Value) (w2:World) (hu:Rd w2 u rows 3 (Zd7 kd rows (Zak xs en))) (hbl:Rd w2 (.slice B (zE kd rows xs en).bl.length bc) (zE kd rows xs en).bl.length 1 (u64s (zE kd rows xs en).bl)) (h3:(zE kd rows xs en).bl.length≤17592186044416) =>
  Zwq (zE kd rows xs en) B bc kd u rows _ _ _ w2 hu hrr hbl Vm.out h3)
 have HF:Hid (Zh9 kd rows xs en=(zOkZ kd rows (recE xs en)&&(decide (crc (Zak xs en)=en.sum)&&(rOk kd rows (Zak xs en)&&sndR (zE kd rows xs en) kd rows (cA (rWs rows (Zak xs en))) (cB (rWs rows (Zak xs en)) (rPay kd rows (Zak xs en)).2) (cC (rWs rows (Zak xs en)) (rPay kd rows (Zak xs en)).2))))):=hid rfl;have Y2:Hid (zOkZ kd rows (recE xs en)=true→(zE kd rows xs en).bl.length≤64):=hid (fun h=>by
  unfold zOkZ at h;rw[decide_eq_true_eq]at h;rcases Zfx h.1 with ⟨h1,_⟩ | ⟨_,h2,_⟩
  ·have h3:(zE kd rows xs en).bl=[]:=h1;rw[h3];simp
  ·exact h2)
 have HTW:Hid (rOk kd rows (Zak xs en)=true→2≤(Zak xs en).length):=hid Z0h;have HRP1:=hid (fun(A:Option Addr) (ca:Nat) (w2:World) (h:Rd w2 (.slice A xs.length ca) xs.length 1 (u8s xs)) (hca:ca≠en.off)=>(show Rd w2 (.slice (A.map fun x=>x.add en.off) en.len (ca-en.off)) (Zak xs en).length 1 (u8s (Zak xs en))from Zjh h en.off en.len (by omega) hca));have HRP2:=hid (fun(A:Option Addr) (w2:World) (hca:xs.length≤en.off)=>(show Rd w2 (.slice A 0 0) (Zak xs en).length 1 (u8s (Zak xs en))from Zg3 (by omega) hca));have YX:=hid (fun(A:Option Addr) (ca:Nat) (w2:World) (h:Rd w2 (.slice A xs.length ca) xs.length 1 (u8s xs)) (hca:ca≠en.off+en.len)=>(show Rd w2 (.slice (A.map fun x=>x.add (en.off+en.len)) en.zl (ca-(en.off+en.len))) (recE xs en).length 1 (u8s (recE xs en))from Zjh h (en.off+en.len) en.zl (by omega) hca));have Yq:=hid (fun(A:Option Addr) (w2:World) (hca:xs.length≤en.off+en.len)=>(show Rd w2 (.slice A 0 0) (recE xs en).length 1 (u8s (recE xs en))from Zg3 (by omega) hca));have hkc:16+i%C<xs.length:=by unfold iD at hD;omega
 have hkv:xs.getD (16+i%C) 0=kd:=hkd;have hlt2:en.off<4294967296∧en.len<4294967296∧en.sum<4294967296∧en.zl<4294967296:=by rw[← hen];exact Zym hb _ _
 have HHV:=hid hv;obtain⟨A,ca,rfl,hlc,hcm,hA⟩:=hv.form;obtain⟨b,o,hAe,hseg⟩:=hA (by omega);have JM:Hid (w.cell? ⟨b,o+(16+i%C),none⟩=some (.int .u8 (kd:Nat))):=hid (by
  have:=hseg.byte (16+i%C) hkc;rw[hkv]at this;exact this)
 have hwk:wrap64 ((kd:Nat):Int)=(kd:Int):=by unfold wrap64;omega
 have ez:Zgb kd rows (recE xs en)=zE kd rows xs en:=rfl;unfold ZGot at Zy;rw[ez]at Zy;unfold ZM.v at Zy Ji;have QW:=hid (fun(u:Value) (h:(0:Nat)<2)=>trivial);unfold Zxz ckVE at Qj;rw[HF.out]at Qj;have Y8:Hid (∀ w2 u,Rd w2 u (Zak xs en).length 1 (u8s (Zak xs en))→2≤(Zak xs en).length→∃ A2 c2 b2 o2,u=.slice A2 (Zak xs en).length c2∧A2=some ⟨b2,o2,none⟩∧w2.cell? ⟨b2,o2,none⟩=some (.int .u8 ((Zak xs en).getD 0 0:Nat))∧w2.cell? ⟨b2,o2+1,none⟩=some (.int .u8 ((Zak xs en).getD 1 0:Nat))):=hid (fun w2 u h h2=>by
  obtain⟨A2,c2,hu,_,_,hs⟩:=h.form;obtain⟨b2,o2,he2,hseg2⟩:=hs (by omega);exact⟨A2,c2,b2,o2,hu,he2,hseg2.byte 0 (by omega),hseg2.byte 1 (by omega)⟩)
 have QO:Hid ((Zak xs en).getD 0 0<256∧(Zak xs en).getD 1 0<256):=hid (by
  have h:∀ j,(Zak xs en).getD j 0<256:=fun j=>by
   by_cases hj:j<(Zak xs en).length
   ·have:=YT.out (Zak xs en)[j] (List.getElem_mem hj);simpa [List.getD,List.getElem?_eq_getElem hj]using this
   ·simp[List.getD,List.getElem?_eq_none (l:=Zak xs en) (i:=j) (by omega)]
  exact⟨h 0,h 1⟩)
 generalize zE kd rows xs en=z at *;generalize zOkZ kd rows (recE xs en)=zk at *;generalize Zd7 kd rows (Zak xs en)=cl at *;generalize sndR z kd rows (cA (rWs rows (Zak xs en))) (cB (rWs rows (Zak xs en)) (rPay kd rows (Zak xs en)).2) (cC (rWs rows (Zak xs en)) (rPay kd rows (Zak xs en)).2)=sk at *;generalize rOk kd rows (Zak xs en)=dk at *;generalize crc (Zak xs en)=cr at *;generalize recE xs en=rc at *;generalize Zc2 kd rows (Zak xs en)=rcl at *;generalize Zf7 kd rows (Zak xs en)=rln at *;generalize Zcl kd rows (Zak xs en)=rcd at *;generalize (Zak xs en).getD 0 0=y0 at *;generalize (Zak xs en).getD 1 0=y1 at *;generalize Zak xs en=bx at *;obtain⟨eo,el,es,el2⟩:=en;simp only at *;obtain⟨qd,hqd⟩:∃ qd,i/C=qd:=⟨_,rfl⟩;obtain⟨qm,hqm⟩:∃ qm,i%C=qm:=⟨_,rfl⟩;rw[hqd]at hdiv ZY hq;rw[hqm]at hmod hr hkc JM;have HAE:=hid hAe;have HBLT:Hid (b<w.heap.size):=hid (World.block_lt_of_cell? w _ JM.out);obtain⟨xn,hxn⟩:∃ xn,xs.length=xn:=⟨_,rfl⟩;have UE:=hid hxn;rw[hxn]at hkc hfit hl hlc HRP2 Yq Yr ZY ⊢;have HHV2:=hid (fun(w2:World) (h:Below w.heap.size w w2)=>HHV.out.mono h);obtain⟨l0,l1,l2,l3⟩:=hlt2;clear hv hqd hqm hkd hkv hA hseg hAe hb hen hi hxn HB HHV ez hk hkk hD hrl QW;obtain⟨p0,hp0⟩:∃ p0,w.heap.size=p0:=⟨_,rfl⟩;have Yo:=hid hp0;go_enter Tryz.func51,Tryz.ntmps51;go_upto_region 1 with fail
 have hf:=Zbe (w:=w) (C:=#[.int .i64 0,.int .i64 0,.int .u32 0,.int .i64 0,.int .i64 0,.bool false,.int .i64 0,.bool false,.int .i64 0,.string ⟨#[]⟩,.bool false,.int .i64 0,.string ⟨#[]⟩,.int .i64 0,.slice none 0 0]) (e:=41);have Qg:=hid hf.1;have Qa:=hid hf.2;clear hf;generalize w.alloc (.cells #[.int .i64 0,.int .i64 0,.int .u32 0,.int .i64 0,.int .i64 0,.bool false,.int .i64 0,.bool false,.int .i64 0,.string ⟨#[]⟩,.bool false,.int .i64 0,.string ⟨#[]⟩,.int .i64 0,.slice none 0 0] 41)=w1 at *;rw[hp0]at Qg;clear hp0;go_upto_region 2 with (go_at_call 90;refine(Yr.out w1 Qa.out).mono ?_;rintro e w2 ⟨rfl,hb2⟩;have Qb:=hid (Zac Qa.out hb2);have Qm:=hid (Qg.out.mono hb2);clear hb2)
 have hkcell:w2.cell? ⟨b,o+(16+qm),none⟩=some (.int .u8 (kd:Nat)):=(Qb.out.cell (p:=⟨b,_,none⟩) (World.block_lt_of_cell? w _ JM.out)).trans JM.out;have hae:=HAE.out;subst hae;obtain⟨q,hq⟩:∃ q,eo+el=q:=⟨_,rfl⟩;obtain⟨q2,hq2⟩:∃ q2,q+el2=q2:=⟨_,rfl⟩;rw[hq]at hfit YX Yq;rw[hq2]at hfit;have hqi:(eo:Int)+(el:Int)=(q:Int):=by omega
 have hqi2:(q:Int)+(el2:Int)=(q2:Int):=by omega
 have hqe:q-eo=el:=by omega
 have hqe2:q2-q=el2:=by omega
 have hle1:eo≤q:=by omega
 have hle2:q≤q2:=by omega
 have Ze:=hid (And.intro Yo.out (And.intro hq hq2));clear hq hq2 JM;go_upto_region 3 with fail
 go_upto_region 4 with (go_at_call 50;refine(ZY.out w2 Qb.out).mono ?_;rintro e w3 ⟨rfl,hw⟩;replace hw:=hw.symm;subst hw)
 clear hkcell hdiv hmod;go_cut [15]from 43 to 48 (fun s15 wc=>∃ D dc,s15=.slice D el dc∧Hid (Rd wc (.slice D el dc) bx.length 1 (u8s bx))∧Hid (∀ a,D=some a→a.block=b)∧wc=w2)
 case first =>
  have hce:ca=eo∨ca≠eo:=by omega
  rcases hce with hce | hce
  ·have hx:xn≤eo:=by omega
   have HP:=hid (HRP2.out (some ⟨b,o,none⟩) w2 hx);have h0:el=0:=by omega
   subst hce h0;go_wp2_with fail
   all_goals go_meet
   exact⟨_,_,rfl,HP,hid (fun a h=>by injection h with h;rw[← h]),rfl⟩
  ·have HP:Hid (Rd w2 (.slice (some ⟨b,o+eo,none⟩) el (ca-eo)) bx.length 1 (u8s bx)):=hid (by
    have h:=HRP1.out _ _ w2 (HHV2.out w2 Qb.out) hce;rw[Option.map_some,Zdl]at h;exact h)
   go_wp2_with fail
   all_goals go_meet
   exact⟨_,_,rfl,HP,hid (fun a h=>by injection h with h;rw[← h]),rfl⟩
 case rest =>
 obtain⟨D,dc,rfl,Vr,HDB,hw⟩:=hcut;replace hw:=hw.symm;subst hw;clear HRP1 HRP2 hqe;go_upto_region 6 with (go_at_call 92;refine(HDE.out _ w2 Vr.out).mono ?_;rintro e w3 ⟨u,rfl,hou,hb3⟩;have HOU:=hid hou;have Qe:=hid hb3;clear hou hb3)
 obtain⟨U,cu,rfl⟩:=Zag HOU.out;have Qz:=hid (Zac Qb.out Qe.out);have U4:=hid (Qm.out.mono Qe.out);have HR4S:=hid U4.out.lt;have HR2S:=hid Qm.out.lt;have HBX4:=hid (Vr.out.mono Qe.out);clear HDE Qg Qm ZY Yr;have HW3:=hid (HHV2.out w3 Qz.out);clear HHV2;go_cut [18,19]from 57 to 71 (fun s18 s19 wc=>∃(zb:Nat) (z9:ZM) (B9:Option Addr) (c9:Nat),s18=.pointer (some ⟨zb,0,none⟩)∧s19=.bool zk∧Hid (w3.heap.size≤zb)∧Hid (Row wc zb 39 (z9.vs (.slice B9 z9.bl.length c9)))∧Hid (wc.ownsRow w3.heap.size 73 1 (.slice B9 z9.bl.length c9) z9.bl.length (u64s z9.bl))∧Hid (zk=true→z9=z)∧Hid (Below w3.heap.size w3 wc))
 case first =>
  have hce:ca=q∨ca≠q:=by omega
  rcases hce with hce | hce
  ·have hx:xn≤q:=by omega
   have HP:=hid (Yq.out (some ⟨b,o,none⟩) w3 hx);have h0:el2=0:=by omega
   subst h0;obtain rfl:q=q2:=by omega
   subst hce;go_wp2_with (go_at_call 93;refine(Zy.out _ w3 HP.out).mono ?_;rintro e w4 ⟨hb4,z9,B9,c9,rfl,ho9,heq9⟩;have Q1:=hid hb4;have Z7:=hid ho9;have Va:=hid heq9;clear hb4 ho9 heq9)
   all_goals go_meet
   have hf:=Zbe (w:=w4) (C:=#[.bool z9.rg,.int .i64 z9.nu,.bool z9.mn.n,.int .i64 z9.mn.i,.string z9.mn.s,.bool z9.mx.n,.int .i64 z9.mx.i,.string z9.mx.s,.int .i64 z9.hs,.slice B9 z9.bl.length c9]) (e:=39);exact⟨_,z9,B9,c9,rfl,rfl,hid Q1.out.size,hid hf.1,hid (Zah Z7.out hf.2),Va,hid (Zac Q1.out hf.2)⟩
  ·have HP:Hid (Rd w3 (.slice (some ⟨b,o+q,none⟩) el2 (ca-q)) rc.length 1 (u8s rc)):=hid (by
    have h:=YX.out _ _ w3 HW3.out hce;rw[Option.map_some,Zdl]at h;exact h)
   go_wp2_with (go_at_call 93;refine(Zy.out _ w3 HP.out).mono ?_;rintro e w4 ⟨hb4,z9,B9,c9,rfl,ho9,heq9⟩;have Q1:=hid hb4;have Z7:=hid ho9;have Va:=hid heq9;clear hb4 ho9 heq9)
   all_goals go_meet
   have hf:=Zbe (w:=w4) (C:=#[.bool z9.rg,.int .i64 z9.nu,.bool z9.mn.n,.int .i64 z9.mn.i,.string z9.mn.s,.bool z9.mx.n,.int .i64 z9.mx.i,.string z9.mx.s,.int .i64 z9.hs,.slice B9 z9.bl.length c9]) (e:=39);exact⟨_,z9,B9,c9,rfl,rfl,hid Q1.out.size,hid hf.1,hid (Zah Z7.out hf.2),Va,hid (Zac Q1.out hf.2)⟩
 case rest =>
 obtain⟨zb,z9,B9,c9,rfl,rfl,HZBB,Qr,HZW,HZE,Q1⟩:=hcut;have HBX5:=hid (HBX4.out.mono Q1.out);have HOU5:=hid (Zah HOU.out Q1.out);have Jd:=hid (U4.out.mono Q1.out);have QS:=hid (Zac Qz.out Q1.out);have Vd:=hid (Zby HZW.out);have HURd:=hid (Zby HOU5.out);clear YX Yq Zy HW3 HBX4 HOU U4 Qz;go_upto_region 7 with fail
 go_cut [90]from 72 to 90 (fun s90 wd=>s90=.bool (!(zk&&(decide (cr=es)&&(dk&&sk))))∧Hid (Below wc.heap.size wc wd))
 case first =>
  have hcd:=HCD.out;cases dk
  ·obtain rfl:rcd=1:=hcd;go_wp2_with fail
   all_goals go_meet
   exact⟨by simp,hid (Zab _)⟩
  ·obtain rfl:rcd=0:=hcd;cases zk
   ·go_wp2_with fail
    all_goals go_meet
    exact⟨by simp,hid (Zab _)⟩
   ·have hz9:=HZE.out rfl;subst hz9;obtain⟨rfl,rfl⟩:=Zx.out rfl;obtain⟨z0,z1,z2,z3,z4,z5,z6,z7,z8,z9⟩:=Za6 Qr.out;by_cases hcr:cr=es
    ·have hne:((cr:Int) != (es:Int))=false:=by simp[hcr]
     have J3:=hid (Ji.out _ _ _ wc HURd.out Vd.out (by have:=Y2.out rfl;omega));go_wp2_with (first
      | (go_at_call 17;refine(Vo.out _ wc HBX5.out).mono ?_;rintro e w7 ⟨rfl,hw⟩;replace hw:=hw.symm;subst hw)
      | (go_at_call 94;refine J3.out.mono ?_;rintro e w8 ⟨rfl,hb8⟩;have XU:=hid hb8;clear hb8))
     all_goals go_meet
     exact⟨by simp[hcr],XU⟩
    ·have hne:((cr:Int) != (es:Int))=true:=by simp;omega
     go_wp2_with (go_at_call 17;refine(Vo.out _ wc HBX5.out).mono ?_;rintro e w7 ⟨rfl,hw⟩;replace hw:=hw.symm;subst hw)
     all_goals go_meet
     exact⟨by simp[hcr],hid (Zab _)⟩
 case rest =>
 obtain⟨rfl,QN⟩:=hcut;have Jz:=hid (Jd.out.mono QN.out);have XU:=hid (Zac QS.out QN.out);have hp0:=Yo.out;have hpl:w.heap.size≤p0:=by omega
 have Zp:=hid hpl;clear hp0;obtain⟨ok,hok⟩:∃ ok,(zk&&(decide (cr=es)&&(dk&&sk)))=ok:=⟨_,rfl⟩;have Q3:=hid hok;rw[hok]at Qj ⊢;clear hok hpl;obtain⟨f_0,f_1,f_2,f_3,f_4,f_5,f_6,f_7,f_8,f_9,f_10,f_11,f_12,f_13,f_14⟩:=Zgx Jz.out;cases ok
 ·obtain⟨y_0,y_1,y_2,y_3,y_4,y_5,y_6,y_7,y_8,y_9,y_10,y_11,y_12,y_13,y_14⟩:=Zcs Jz.out;go_wp2_with fail
  change bodyPost _ _ _ _ _ (Zdn wc p0 (.int .i64 0) (.int .i64 0) (.int .u32 0) (.int .i64 0) (.int .i64 0) (.bool false) (.int .i64 0) (.bool false) (.int .i64 0) (.string ⟨#[]⟩) (.bool false) (.int .i64 0) (.string ⟨#[]⟩) (.int .i64 0) (.slice none 0 0))
  have R9:=Zcy Jz.out (.int .i64 0) (.int .i64 0) (.int .u32 0) (.int .i64 0) (.int .i64 0) (.bool false) (.int .i64 0) (.bool false) (.int .i64 0) (.string ⟨#[]⟩) (.bool false) (.int .i64 0) (.string ⟨#[]⟩) (.int .i64 0) (.slice none 0 0);have hbl:=Zb2 XU.out Zp.out (.int .i64 0) (.int .i64 0) (.int .u32 0) (.int .i64 0) (.int .i64 0) (.bool false) (.int .i64 0) (.bool false) (.int .i64 0) (.string ⟨#[]⟩) (.bool false) (.int .i64 0) (.string ⟨#[]⟩) (.int .i64 0) (.slice none 0 0);clear y_0 y_1 y_2 y_3 y_4 y_5 y_6 y_7 y_8 y_9 y_10 y_11 y_12 y_13 y_14 f_0 f_1 f_2 f_3 f_4 f_5 f_6 f_7 f_8 f_9 f_10 f_11 f_12 f_13 f_14;generalize Zdn wc p0 (.int .i64 0) (.int .i64 0) (.int .u32 0) (.int .i64 0) (.int .i64 0) (.bool false) (.int .i64 0) (.bool false) (.int .i64 0) (.string ⟨#[]⟩) (.bool false) (.int .i64 0) (.string ⟨#[]⟩) (.int .i64 0) (.slice none 0 0)=wz at *;obtain⟨q_0,q_1,q_2,q_3,q_4,q_5,q_6,q_7,q_8,q_9,q_10,q_11,q_12,q_13,q_14⟩:=Zcs R9;refine bodyPost_ret (v:=.tuple #[Zig,.slice none 0 0,.bool false]) ?_ rfl ?_
  ·simp[results,Tryz.results51,go_sem,q_0,q_1,q_2,q_3,q_4,q_5,q_6,q_7,q_8,q_9,q_10,q_11,q_12,q_13,q_14]
  ·rw[← Qj.out];exact⟨hbl,.inr ⟨by first | rfl | trivial,rfl⟩⟩
 ·have hb4:=Q3.out;simp only[Bool.and_eq_true,decide_eq_true_eq]at hb4;obtain⟨rfl,rfl,rfl,rfl⟩:=hb4;have hz9:z=z9:=(HZE.out rfl).symm;subst hz9;obtain⟨rfl,rfl⟩:=Zx.out rfl;have h2:=HTW.out rfl;obtain⟨A2,c2,b2,o2,hue,rfl,k0,k1⟩:=Y8.out wc _ (HBX5.out.mono QN.out) h2;have hbl2:=QA.out;injection hue with e1 e2 e3
  subst e1 e3;have hel:2≤el:=by omega
  have hel0:0<el:=by omega
  have hel1:(1:Int)<(el:Int):=by omega
  have hel2:1<el:=by omega
  obtain⟨g0,g1⟩:=QO.out;have hw0:wrap64 ((y0:Nat):Int)=(y0:Int):=by unfold wrap64;omega
  have hw1:wrap64 ((y1:Nat):Int)=(y1:Int):=by unfold wrap64;omega
  clear f_0 f_1 f_2 f_3 f_4 f_5 f_6 f_7 f_8 f_9 f_10 f_11 f_12 f_13 f_14;go_upto_region 9 with fail
  have hdw:Below wc.heap.size wc wc.drew:=Zaf (Zab wc) 1;obtain⟨z0,z1,z2,z3,z4,z5,z6,z7,z8,z9⟩:=Za6 (Qr.out.mono (Zac QN.out hdw));have Z7:=hid (Zah HZW.out (Zac QN.out hdw));have HU9:=hid (Zah HOU5.out (Zac QN.out hdw));have HSZ4:=hid Qe.out.size;have Qx:=hid (Jz.out.mono hdw);have HBD2:Hid (Below w.heap.size w wc.drew):=hid (Zaf XU.out 1);have kd0:=(hdw.cell (p:=⟨b2,o2,none⟩) (World.block_lt_of_cell? wc _ k0)).trans k0;have kd1:=(hdw.cell (p:=⟨b2,o2+1,none⟩) (World.block_lt_of_cell? wc _ k1)).trans k1;have hne1:b2≠p0:=by
   have h1:=HDB.out _ rfl;simp only at h1;have h3:=HBLT.out;have h4:=Yo.out;omega
  have hzb:w3.heap.size≤zb:=HZBB.out;have hne2:zb≠p0:=by
   have h1:=HR4S.out;omega
  have hck:wc.drew.cell? ⟨b2,o2,none⟩=some (.int .u8 (y0:Nat))∧wc.drew.cell? ⟨b2,o2+1,none⟩=some (.int .u8 (y1:Nat))∧wc.drew.cell? ⟨zb,0,none⟩=some (.bool z.rg)∧wc.drew.cell? ⟨zb,1,none⟩=some (.int .i64 z.nu)∧wc.drew.cell? ⟨zb,2,none⟩=some (.bool z.mn.n)∧wc.drew.cell? ⟨zb,3,none⟩=some (.int .i64 z.mn.i)∧wc.drew.cell? ⟨zb,4,none⟩=some (.string z.mn.s)∧wc.drew.cell? ⟨zb,5,none⟩=some (.bool z.mx.n)∧wc.drew.cell? ⟨zb,6,none⟩=some (.int .i64 z.mx.i)∧wc.drew.cell? ⟨zb,7,none⟩=some (.string z.mx.s)∧wc.drew.cell? ⟨zb,8,none⟩=some (.int .i64 z.hs)∧wc.drew.cell? ⟨zb,9,none⟩=some (.slice B9 z.bl.length c9):=⟨kd0,kd1,z0,z1,z2,z3,z4,z5,z6,z7,z8,z9⟩;have hwi0:=Zko y0 g0;have hwi1:=Zko y1 g1;clear e2 hbl2 hzb hdw kd0 kd1 k0 k1 z0 z1 z2 z3 z4 z5 z6 z7 z8 z9;obtain⟨f_0,f_1,f_2,f_3,f_4,f_5,f_6,f_7,f_8,f_9,f_10,f_11,f_12,f_13,f_14⟩:=Zgx Qx.out;obtain⟨y_0,y_1,y_2,y_3,y_4,y_5,y_6,y_7,y_8,y_9,y_10,y_11,y_12,y_13,y_14⟩:=Zcs Qx.out;refine wp_region_held_drew (S:=fun w'=>w'.cell? ⟨b2,o2,none⟩=some (.int .u8 (y0:Nat))∧w'.cell? ⟨b2,o2+1,none⟩=some (.int .u8 (y1:Nat))∧w'.cell? ⟨zb,0,none⟩=some (.bool z.rg)∧w'.cell? ⟨zb,1,none⟩=some (.int .i64 z.nu)∧w'.cell? ⟨zb,2,none⟩=some (.bool z.mn.n)∧w'.cell? ⟨zb,3,none⟩=some (.int .i64 z.mn.i)∧w'.cell? ⟨zb,4,none⟩=some (.string z.mn.s)∧w'.cell? ⟨zb,5,none⟩=some (.bool z.mx.n)∧w'.cell? ⟨zb,6,none⟩=some (.int .i64 z.mx.i)∧w'.cell? ⟨zb,7,none⟩=some (.string z.mx.s)∧w'.cell? ⟨zb,8,none⟩=some (.int .i64 z.hs)∧w'.cell? ⟨zb,9,none⟩=some (.slice B9 z.bl.length c9)) (by kernel_rfl) (by(try dsimp only);first | assumption | first | exact hSET14 _ rfl | with_reducible exact hck | with_reducible exact hHeld) (fun hHeld=>?_);generalize wc.drew=wd at *;refine tkA (v:=?_) 0 ?_ ?_;rotate_left
  ·(intro wS hSw;(try dsimp only at hSw);go_simp;try with_reducible rfl)
  try simp only[Act.put,tk1,tk2,tk3]
  refine tkA (v:=?_) 1 ?_ ?_;rotate_left
  ·(intro wS hSw;(try dsimp only at hSw);go_simp;try with_reducible rfl)
  try simp only[Act.put,tk1,tk2,tk3]
  refine tkA (v:=?_) 2 ?_ ?_;rotate_left
  ·(intro wS hSw;(try dsimp only at hSw);go_simp;try with_reducible rfl)
  try simp only[Act.put,tk1,tk2,tk3]
  refine tkA (v:=?_) 3 ?_ ?_;rotate_left
  ·(intro wS hSw;(try dsimp only at hSw);go_simp;try with_reducible rfl)
  try simp only[Act.put,tk1,tk2,tk3]
  refine tkA (v:=?_) 4 ?_ ?_;rotate_left
  ·(intro wS hSw;(try dsimp only at hSw);go_simp;try with_reducible rfl)
  try simp only[Act.put,tk1,tk2,tk3]
  refine tkA (v:=?_) 5 ?_ ?_;rotate_left
  ·(intro wS hSw;(try dsimp only at hSw);go_simp;try with_reducible rfl)
  try simp only[Act.put,tk1,tk2,tk3]
  refine tkA (v:=?_) 6 ?_ ?_;rotate_left
  ·(intro wS hSw;(try dsimp only at hSw);go_simp;try with_reducible rfl)
  try simp only[Act.put,tk1,tk2,tk3]
  refine tkA (v:=?_) 7 ?_ ?_;rotate_left
  ·(intro wS hSw;(try dsimp only at hSw);go_simp;try with_reducible rfl)
  try simp only[Act.put,tk1,tk2,tk3]
  refine tkA (v:=?_) 8 ?_ ?_;rotate_left
  ·(intro wS hSw;(try dsimp only at hSw);go_simp;try with_reducible rfl)
  try simp only[Act.put,tk1,tk2,tk3]
  refine tkA (v:=?_) 9 ?_ ?_;rotate_left
  ·(intro wS hSw;(try dsimp only at hSw);go_simp;try with_reducible rfl)
  try simp only[Act.put,tk1,tk2,tk3]
  refine tkA (v:=?_) 10 ?_ ?_;rotate_left
  ·(intro wS hSw;(try dsimp only at hSw);go_simp;try with_reducible rfl)
  try simp only[Act.put,tk1,tk2,tk3]
  refine tkA (v:=?_) 11 ?_ ?_;rotate_left
  ·(intro wS hSw;(try dsimp only at hSw);go_simp;try with_reducible rfl)
  try simp only[Act.put,tk1,tk2,tk3]
  refine tkA (v:=?_) 12 ?_ ?_;rotate_left
  ·(intro wS hSw;(try dsimp only at hSw);go_simp;try with_reducible rfl)
  try simp only[Act.put,tk1,tk2,tk3]
  refine tkA (v:=?_) 13 ?_ ?_;rotate_left
  ·(intro wS hSw;(try dsimp only at hSw);go_simp;try with_reducible rfl)
  try simp only[Act.put,tk1,tk2,tk3]
  refine wpAnyH_ready (rs:=[14]) (by kernel_rfl) (by simp) ?_;refine AllReadyH.cons (Zc6 rfl) (fun K hK=>?_) AllReadyH.nil;go_simp;have P0:=fun i=>Zh7 wd p0 b2 i (.int .i64 (eo:Nat)) (.int .i64 (el:Nat)) (.int .u32 (cr:Nat)) (.int .i64 (y0:Nat)) (.int .i64 (y1:Nat)) (.bool z.rg) (.int .i64 z.nu) (.bool z.mn.n) (.int .i64 z.mn.i) (.string z.mn.s) (.bool z.mx.n) (.int .i64 z.mx.i) (.string z.mx.s) (.int .i64 z.hs) (.slice B9 z.bl.length c9) hne1
  have P1:=fun i=>Zh7 wd p0 zb i (.int .i64 (eo:Nat)) (.int .i64 (el:Nat)) (.int .u32 (cr:Nat)) (.int .i64 (y0:Nat)) (.int .i64 (y1:Nat)) (.bool z.rg) (.int .i64 z.nu) (.bool z.mn.n) (.int .i64 z.mn.i) (.string z.mn.s) (.bool z.mx.n) (.int .i64 z.mx.i) (.string z.mx.s) (.int .i64 z.hs) (.slice B9 z.bl.length c9) hne2
  have hSET14:∀ ws:World,ws=Zdn wd p0 (.int .i64 (eo:Nat)) (.int .i64 (el:Nat)) (.int .u32 (cr:Nat)) (.int .i64 (y0:Nat)) (.int .i64 (y1:Nat)) (.bool z.rg) (.int .i64 z.nu) (.bool z.mn.n) (.int .i64 z.mn.i) (.string z.mn.s) (.bool z.mx.n) (.int .i64 z.mx.i) (.string z.mx.s) (.int .i64 z.hs) (.slice B9 z.bl.length c9)→(ws.cell? ⟨b2,o2,none⟩=some (.int .u8 (y0:Nat))∧ws.cell? ⟨b2,o2+1,none⟩=some (.int .u8 (y1:Nat))∧ws.cell? ⟨zb,0,none⟩=some (.bool z.rg)∧ws.cell? ⟨zb,1,none⟩=some (.int .i64 z.nu)∧ws.cell? ⟨zb,2,none⟩=some (.bool z.mn.n)∧ws.cell? ⟨zb,3,none⟩=some (.int .i64 z.mn.i)∧ws.cell? ⟨zb,4,none⟩=some (.string z.mn.s)∧ws.cell? ⟨zb,5,none⟩=some (.bool z.mx.n)∧ws.cell? ⟨zb,6,none⟩=some (.int .i64 z.mx.i)∧ws.cell? ⟨zb,7,none⟩=some (.string z.mx.s)∧ws.cell? ⟨zb,8,none⟩=some (.int .i64 z.hs)∧ws.cell? ⟨zb,9,none⟩=some (.slice B9 z.bl.length c9)):=by
   rintro ws rfl;exact⟨(P0 o2).trans hHeld.1,(P0 (o2+1)).trans hHeld.2.1,(P1 0).trans hHeld.2.2.1,(P1 1).trans hHeld.2.2.2.1,(P1 2).trans hHeld.2.2.2.2.1,(P1 3).trans hHeld.2.2.2.2.2.1,(P1 4).trans hHeld.2.2.2.2.2.2.1,(P1 5).trans hHeld.2.2.2.2.2.2.2.1,(P1 6).trans hHeld.2.2.2.2.2.2.2.2.1,(P1 7).trans hHeld.2.2.2.2.2.2.2.2.2.1,(P1 8).trans hHeld.2.2.2.2.2.2.2.2.2.2.1,(P1 9).trans hHeld.2.2.2.2.2.2.2.2.2.2.2⟩
  clear P0 P1;refine hK.out _ _ ?_ (fun hHeld2=>?_)
  ·(try dsimp only)
   first | with_reducible assumption | (first | exact hSET14 _ rfl | with_reducible exact hck | with_reducible exact hHeld)
  clear hK hHeld;clear K;have hHeld:=hHeld2;clear hHeld2
  try simp only[Act.put,tk1,tk2,tk3]
  refine tkA (v:=?_) 15 ?_ ?_;rotate_left
  ·(intro wS hSw;(try dsimp only at hSw);go_simp;try with_reducible rfl)
  try simp only[Act.put,tk1,tk2,tk3]
  refine tkA (v:=?_) 16 ?_ ?_;rotate_left
  ·(intro wS hSw;(try dsimp only at hSw);go_simp;try with_reducible rfl)
  try simp only[Act.put,tk1,tk2,tk3]
  refine wpAnyH_done (by kernel_rfl) ?_ _;clear hHeld;go_wp2_with fail
  change bodyPost _ _ _ _ _ (Zdn wd p0 (.int .i64 (eo:Nat)) (.int .i64 (el:Nat)) (.int .u32 (cr:Nat)) (.int .i64 (y0:Nat)) (.int .i64 (y1:Nat)) (.bool z.rg) (.int .i64 z.nu) (.bool z.mn.n) (.int .i64 z.mn.i) (.string z.mn.s) (.bool z.mx.n) (.int .i64 z.mx.i) (.string z.mx.s) (.int .i64 z.hs) (.slice B9 z.bl.length c9))
  have R9:=Zcy Qx.out (.int .i64 (eo:Nat)) (.int .i64 (el:Nat)) (.int .u32 (cr:Nat)) (.int .i64 (y0:Nat)) (.int .i64 (y1:Nat)) (.bool z.rg) (.int .i64 z.nu) (.bool z.mn.n) (.int .i64 z.mn.i) (.string z.mn.s) (.bool z.mx.n) (.int .i64 z.mx.i) (.string z.mx.s) (.int .i64 z.hs) (.slice B9 z.bl.length c9);have hbl:=Zb2 HBD2.out Zp.out (.int .i64 (eo:Nat)) (.int .i64 (el:Nat)) (.int .u32 (cr:Nat)) (.int .i64 (y0:Nat)) (.int .i64 (y1:Nat)) (.bool z.rg) (.int .i64 z.nu) (.bool z.mn.n) (.int .i64 z.mn.i) (.string z.mn.s) (.bool z.mx.n) (.int .i64 z.mx.i) (.string z.mx.s) (.int .i64 z.hs) (.slice B9 z.bl.length c9);have hch:=Zl7 wd p0 (.int .i64 (eo:Nat)) (.int .i64 (el:Nat)) (.int .u32 (cr:Nat)) (.int .i64 (y0:Nat)) (.int .i64 (y1:Nat)) (.bool z.rg) (.int .i64 z.nu) (.bool z.mn.n) (.int .i64 z.mn.i) (.string z.mn.s) (.bool z.mx.n) (.int .i64 z.mx.i) (.string z.mx.s) (.int .i64 z.hs) (.slice B9 z.bl.length c9);have HO9b:=hid (Zcp Z7.out hch (fun k hk=>by have h1:=(Z7.out.lt k hk).1;have h2:=HR4S.out;omega));have HU9b:=hid (Zcp HU9.out hch (fun k hk=>by have h1:=(HU9.out.lt k hk).1;have h2:=HR2S.out;omega));clear hck f_0 f_1 f_2 f_3 f_4 f_5 f_6 f_7 f_8 f_9 f_10 f_11 f_12 f_13 f_14 y_0 y_1 y_2 y_3 y_4 y_5 y_6 y_7 y_8 y_9 y_10 y_11 y_12 y_13 y_14 hch;generalize Zdn wd p0 (.int .i64 (eo:Nat)) (.int .i64 (el:Nat)) (.int .u32 (cr:Nat)) (.int .i64 (y0:Nat)) (.int .i64 (y1:Nat)) (.bool z.rg) (.int .i64 z.nu) (.bool z.mn.n) (.int .i64 z.mn.i) (.string z.mn.s) (.bool z.mx.n) (.int .i64 z.mx.i) (.string z.mx.s) (.int .i64 z.hs) (.slice B9 z.bl.length c9)=wz at *;obtain⟨q_0,q_1,q_2,q_3,q_4,q_5,q_6,q_7,q_8,q_9,q_10,q_11,q_12,q_13,q_14⟩:=Zcs R9;refine bodyPost_ret (v:=.tuple #[.agg (ckVs eo el cr y0 y1 z++[Value.slice B9 z.bl.length c9]).toArray,.slice U rln cu,.bool true]) ?_ rfl ?_
  ·simp[results,Tryz.results51,go_sem,q_0,q_1,q_2,q_3,q_4,q_5,q_6,q_7,q_8,q_9,q_10,q_11,q_12,q_13,q_14];rfl
  ·rw[← Qj.out];exact⟨hbl,.inl ⟨by first | rfl | trivial,B9,c9,_,rfl,Zbc HO9b.out (by have:=HSZ4.out;have:=Qb.out.size;omega),Zbc HU9b.out Qb.out.size⟩⟩
set_option maxRecDepth 20000
set_option maxHeartbeats 4000000 in
theorem Zqz (v:Value) (xs:List Nat) (C G R:Nat) (w:World) (hv:Rd w v xs.length 1 (u8s xs)) (hb:∀ x∈xs,x<256) (hl:xs.length≤16777216) (hC:1≤C∧C≤16) (hG:G≤256) (hR:R≤65536) (hD:iD C G≤xs.length) :
  Calls Tryz.prog 49 #[v,.int .i64 C,.int .i64 G,.int .i64 R] w fun e w'=>e=.returned (.bool (Zc1 C G R xs))∧Below w.heap.size w w':=by
 have ZY:=hid (fun(g:Nat) (hg:g<G)=>Zgn v xs C g w hv hb hl hC.2 (by omega));have Yr:=hid (fun(i:Nat) (hi:i<G*C) (w2:World) (h:Below w.heap.size w w2)=>Zr1 v xs C i w2 (hv.mono h) hb hl hC G hG hi hD);have HSL:=hid (fun g=>Ztk (C:=C) hb g);have Yc:Hid (∀ g,Zap C xs g<4294967296):=hid (fun g=>Zdx hb);have HEL:Hid (∀ i,(eI C xs i).off<4294967296∧(eI C xs i).len<4294967296∧(eI C xs i).sum<4294967296∧(eI C xs i).zl<4294967296):=hid (fun i=>Zym hb _ _);have Zp:=hid (fun i=>Zwy (C:=C) (D:=iD C G) hb i);have JG:=Z13 hC.2 hG;obtain⟨F,hF⟩:∃ F,Zc1 C G R xs=F:=⟨_,rfl⟩;have HF:=hid hF;rw[hF];have XZ:G*C≤4096:=Nat.mul_le_mul hG hC.2;have hm9:G*(4+16*C)≤256*260:=Nat.mul_le_mul hG (by omega);obtain⟨m,hm⟩:∃ m,G*(4+16*C)=m:=⟨_,rfl⟩;have hmi:(G:Int)*(4+16*(C:Int))=(m:Int):=by rw[← hm];simp
 have hid2:iD C G=16+C+m:=by unfold iD;rw[hm]
 obtain⟨gc,hgc⟩:∃ gc,G*C=gc:=⟨_,rfl⟩;have hgci:(G:Int)*(C:Int)=(gc:Int):=by rw[← hgc];simp
 have VU:=hid hgc;have Qv:=hid (show ∀ g,sumR C xs (g+1)=sumR C xs g+Zap C xs g from fun g=>rfl);have HPS:=hid (show ∀ i,eAt C (iD C G) xs (i+1)=eAt C (iD C G) xs i+((eI C xs i).len+(eI C xs i).zl)from fun i=>rfl);have Yo:=hid (show eAt C (iD C G) xs 0=iD C G from rfl);have ZU:Hid (Zc1 C G R xs=(laid C (iD C G) xs (G*C)&&(decide (sumR C xs G=R)&&decide (eAt C (iD C G) xs (G*C)=xs.length)))):=hid rfl;have UR:=hid (fun n=>Zq7 C (iD C G) xs n);have QP:=hid (fun(i n:Nat) (hi:i<n) (h:(eI C xs i).off≠eAt C (iD C G) xs i)=>Zx8 (D:=iD C G) hi h);obtain⟨D,hDD⟩:∃ D,iD C G=D:=⟨_,rfl⟩;rw[hm]at hm9;rw[hgc]at XZ Yr;rw[hDD]at Zp JG hid2 HPS Yo ZU UR QP hD;obtain⟨A,ca,rfl,hlc,hcm,_⟩:=hv.form;clear hv hb hF hm hgc hDD;go_enter Tryz.func49,Tryz.ntmps49;go_upto_region 3 with fail
 go_loopw [9,10] (fun s i wr=>∃ g:Nat,g≤G∧i=.int .i64 g∧s=.int .i64 (sumR C xs g:Nat)∧wr=w) (fun _ i _=>G-(intOf i).toNat)
 case atStart=>exact⟨0,by omega,rfl,rfl,rfl⟩
 case round =>
  obtain⟨g,hg,rfl,rfl,hw⟩:=hrel;replace hw:=hw.symm;subst hw;by_cases hlt:g<G
  ·have QY:=hid (ZY.out g hlt);have hs:=HSL.out g;have hr:=Yc.out g;have YK:=hid (Qv.out g);generalize sumR C xs g=sm at *;generalize Zap C xs g=gr at *;go_wp2_with (go_at_call 50;refine QY.out.mono ?_;rintro e w5 ⟨rfl,hw⟩;replace hw:=hw.symm;subst hw)
   go_roundw
   case rel=>exact⟨g+1,by omega,by go_num,by rw[YK.out];go_num,by first | rfl | trivial⟩
   case measure=>simp[intOf];omega
  ·obtain rfl:g=G:=by omega
   have HSUM:=hid (ZU.out);have hsl:=HSL.out g;obtain⟨sr,hsr⟩:∃ sr,sumR C xs g=sr:=⟨_,rfl⟩;rw[hsr]at ZU hsl ⊢;clear HSUM hsr ZY Qv HSL;go_upto_region 8 with fail
   have hD0:16+(C:Int)+(m:Int)=((eAt C D xs 0:Nat):Int):=by rw[Yo.out];omega
   rw[hD0];have HLZ:Hid (laid C D xs 0=true):=hid (by simp[laid]);have HNOF:=hid (fun(i:Nat) (hi:i<gc) (h:(eI C xs i).off≠eAt C D xs i)=>show F=false by
    rw[← HF.out,ZU.out,QP.out i (g*C) (by rw[VU.out];exact hi) h];rfl)
   have Qw:Hid (laid C D xs gc=true→F=(decide (sr=R)&&decide (eAt C D xs gc=xs.length))):=hid (fun h=>by
    rw[← HF.out,ZU.out,VU.out,h];rfl)
   have HW:=hid (Zab w);clear HF ZU hD0 hid2 Yo Yc;go_loopw [11,12] (fun a i wv=>∃ t:Nat,t≤gc∧i=.int .i64 t∧a=.int .i64 (eAt C D xs t:Nat)∧Hid (laid C D xs t=true)∧Hid (Below w.heap.size w wv)) (fun _ i _=>gc-(intOf i).toNat)
   case atStart=>exact⟨0,by omega,rfl,rfl,HLZ,HW⟩
   case round =>
    obtain⟨t,ht,rfl,rfl,hla,hbw⟩:=hrel;have hpl:=Zp.out t;by_cases hlt:t<gc
    ·have HE2:=hid (Yr.out t hlt wr hbw.out);have Zo:=hid (HNOF.out t hlt);have HLS2:=hid (UR.out t);have HPS2:=hid (HPS.out t);have hel:=HEL.out t;generalize eI C xs t=en at *;obtain⟨eo,el,es,ez⟩:=en;simp only at HE2 Zo HLS2 HPS2 hel;obtain⟨l0,l1,l2,l3⟩:=hel;obtain⟨at0,hat⟩:∃ at0,eAt C D xs t=at0:=⟨_,rfl⟩;rw[hat]at Zo HLS2 HPS2 hpl ⊢;clear hat;by_cases heq:eo=at0
     ·have Yi:Hid (laid C D xs (t+1)=true):=hid (by rw[HLS2.out,hla.out];simpa using heq);subst heq;go_wp2_with (go_at_call 90;refine HE2.out.mono ?_;rintro e w5 ⟨rfl,hb5⟩;have Q1:=hid (Zac hbw.out hb5);clear hb5)
      go_roundw
      case rel=>exact⟨t+1,by omega,by go_num,by rw[HPS2.out];go_num,Yi,Q1⟩
      case measure=>simp[intOf];omega
     ·have HFF:=hid (Zo.out heq);have hne:((eo:Int) != (at0:Int))=true:=by simp;omega
      go_wp2_with (go_at_call 90;refine HE2.out.mono ?_;rintro e w5 ⟨rfl,hb5⟩;have Q1:=hid (Zac hbw.out hb5);clear hb5)
      go_ret;exact⟨Zae HFF.out.symm,Q1.out⟩
    ·obtain rfl:t=gc:=by omega
     have HF2:=hid (Qw.out hla.out);obtain⟨at0,hat⟩:∃ at0,eAt C D xs t=at0:=⟨_,rfl⟩;rw[hat]at HF2 hpl ⊢;clear hat;by_cases h1:sr=R
     ·subst h1;have e1:((sr:Int)==(sr:Int))=true:=by simp
      go_wp2_with fail
      go_ret;exact⟨Zae (by rw[HF2.out,Bool.eq_iff_iff];simp;omega),hbw.out⟩
     ·have e1:((sr:Int)==(R:Int))=false:=by simp;omega
      have HF3:Hid (F=false):=hid (by rw[HF2.out,decide_eq_false h1];rfl);go_wp2_with fail
      go_ret;exact⟨Zae HF3.out.symm,hbw.out⟩
end Go.Proofs.YtmcjknjlihgihaaGreatDoor
