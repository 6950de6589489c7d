/- Package format: lookChunk (kind 1, a body that is sound). -/
import Derived.Test.YtmcjknjlihgihaaGreatDoorLawfreshlistsuptoM31
set_option linter.unusedVariables false
set_option linter.unusedSimpArgs false
set_option linter.unnecessarySimpa false
set_option maxRecDepth 100000
namespace Go.Proofs.YtmcjknjlihgihaaGreatDoor
open Go.RowKit
set_option maxHeartbeats 16000000 in
theorem Z1v (v:Value) (xs:List Nat) (kd rows:Nat) (en:En) (w:World) (hT:Tab w) (hTF:TabF w) (hv:Rd w v xs.length 1 (u8s xs)) (hb:∀ x∈xs,x<256) (hl:xs.length≤16777216) (hk:kd=1∨kd=2) (hrr:rows≤65536) (hfit:en.off+en.len+en.zl≤xs.length) (hk1:kd=1) (hsk:sOkE kd rows (Zam xs en) (zE kd rows xs en)=true) :
  Calls Tryz.prog 47 #[v,.int .i64 kd,.int .i64 rows,.agg #[.int .i64 (en.off:Nat),.int .i64 (en.len:Nat),.int .u32 (en.sum:Nat),.int .i64 (en.zl:Nat)]] w (Zid kd rows xs en w):=by
 have Zc:=hid hk1;have HSK:=hid hsk;clear hk1 hsk;obtain⟨ANS,hANS⟩:∃ ANS,Zid kd rows xs en w=ANS:=⟨_,rfl⟩;have Qm:=hid hANS;rw[hANS];clear hANS;have HV:=hid hv;have hkk:=Zwe hk;have YH:Hid (∀ x∈Zam xs en,x<256):=hid (Zfv hb en.off en.len);have UN:Hid (∀ x∈recE xs en,x<256):=hid (Zfv hb (en.off+en.len) en.zl);have hrl:(recE xs en).length≤16777216:=by unfold recE;rw[List.length_take];omega
 have hbl:(Zam xs en).length≤16777216:=by unfold Zam;rw[List.length_take];omega
 have Ze:=hid (fun(u:Value) (w2:World) (h:Rd w2 u (recE xs en).length 1 (u8s (recE xs en)))=>(Zki w2 kd rows u (recE xs en) hkk ⟨by omega,by omega⟩ h UN.out hrl).mono (fun e w' hh=>Zs6 hh));have ez:Zfs kd rows (recE xs en)=zE kd rows xs en:=rfl;unfold ZGot at Ze;rw[ez]at Ze;have Va:Hid (∀ x∈(zE kd rows xs en).bl,x<18446744073709551616):=hid (Zor kd rows UN.out).2.2;have JR:Hid (zOkZ kd rows (recE xs en)=true→zOk kd rows (zE kd rows xs en)=true):=hid (fun h=>by
  unfold zOkZ at h;rw[decide_eq_true_eq]at h;exact h.1)
 obtain⟨A,ca,rfl,hlc,hcm,_⟩:=hv.form;have ZV:=hid (fun(sm cd wd:Int) (z:ZM) (B:Option Addr) (bn bc:Nat) (w2:World) (h:Below w.heap.size w w2)=>(show Calls Tryz.prog 55 #[.slice A xs.length ca,.agg #[.int .i64 (en.off:Nat),.int .i64 (en.len:Nat),.int .u32 sm,.int .i64 cd,.int .i64 wd,.bool z.rg,.int .i64 z.nu,.bool z.mn.n,.int .i64 z.mn.i,.string z.mn.s,.bool z.mx.n,.int .i64 z.mx.i,.string z.mx.s,.int .i64 z.hs,.slice B bn bc]] w2 fun e w'=>∃ D dc,e=.returned (.slice D en.len dc)∧Rd w2 (.slice D en.len dc) (Zam xs en).length 1 (u8s (Zam xs en))∧Below w2.heap.size w2 w' from Zm7 A ca xs en.off en.len sm cd wd z B bn bc w2 (hv.mono h) hl (by omega)));have VP:=hid (fun(u:Value) (w2:World) (hb2:Below w.heap.size w w2) (h:Rd w2 u (Zam xs en).length 1 (u8s (Zam xs en)))=>Zkk u (Zam xs en) w2 (hTF.mono hb2 hTF.lt) h YH.out);have HLI:=hid (fun(hk1:kd=1) (hz:zOkZ kd rows (recE xs en)=true) (v2:Value) (cd wd:Int) (B:Option Addr) (bc:Nat) (w2:World) (hb2:Below w.heap.size w w2) (h:Rd w2 v2 (Zam xs en).length 1 (u8s (Zam xs en))) (h3:Rd w2 (.slice B (zE kd rows xs en).bl.length bc) (zE kd rows xs en).bl.length 1 (u64s (zE kd rows xs en).bl)) =>
  (show Calls Tryz.prog 88 #[.iface 159 (.agg #[]),.int .i64 rows,v2,.agg #[.int .i64 (en.off:Nat),.int .i64 (en.len:Nat),.int .u32 (en.sum:Nat),.int .i64 cd,.int .i64 wd,.bool (zE kd rows xs en).rg,.int .i64 (zE kd rows xs en).nu,.bool (zE kd rows xs en).mn.n,.int .i64 (zE kd rows xs en).mn.i,.string (zE kd rows xs en).mn.s,.bool (zE kd rows xs en).mx.n,.int .i64 (zE kd rows xs en).mx.i,.string (zE kd rows xs en).mx.s,.int .i64 (zE kd rows xs en).hs,.slice B (zE kd rows xs en).bl.length bc]] w2 fun e w' =>
   Below w2.heap.size w2 w'∧e=.returned (lbV kd rows en.off en.len en.sum (Zam xs en) (zE kd rows xs en) (.slice B (zE kd rows xs en).bl.length bc))from by
    subst hk1;exact Zlo w2 v2 (Zam xs en) rows en.off en.len en.sum cd wd _ B bc (hT.mono hb2 hT.lt) h YH.out hbl hrr (JR.out hz) h3 Va.out))
 have Zd:=hid (fun(hk1:kd=2) (hz:zOkZ kd rows (recE xs en)=true) (v2:Value) (cd wd:Int) (B:Option Addr) (bc:Nat) (w2:World) (hb2:Below w.heap.size w w2) (h:Rd w2 v2 (Zam xs en).length 1 (u8s (Zam xs en))) (h3:Rd w2 (.slice B (zE kd rows xs en).bl.length bc) (zE kd rows xs en).bl.length 1 (u64s (zE kd rows xs en).bl)) =>
  (show Calls Tryz.prog 87 #[.iface 157 (.agg #[]),.int .i64 rows,v2,.agg #[.int .i64 (en.off:Nat),.int .i64 (en.len:Nat),.int .u32 (en.sum:Nat),.int .i64 cd,.int .i64 wd,.bool (zE kd rows xs en).rg,.int .i64 (zE kd rows xs en).nu,.bool (zE kd rows xs en).mn.n,.int .i64 (zE kd rows xs en).mn.i,.string (zE kd rows xs en).mn.s,.bool (zE kd rows xs en).mx.n,.int .i64 (zE kd rows xs en).mx.i,.string (zE kd rows xs en).mx.s,.int .i64 (zE kd rows xs en).hs,.slice B (zE kd rows xs en).bl.length bc]] w2 fun e w' =>
   Below w2.heap.size w2 w'∧e=.returned (lbV kd rows en.off en.len en.sum (Zam xs en) (zE kd rows xs en) (.slice B (zE kd rows xs en).bl.length bc))from by
    subst hk1;exact Zl2 w2 v2 (Zam xs en) rows en.off en.len en.sum cd wd _ B bc (hT.mono hb2 hT.lt) h YH.out hbl hrr (JR.out hz) h3 Va.out))
 have YM:=hid (fun(w2:World) (h:Below w.heap.size w w2) (hca:ca≠en.off+en.len)=>(show Rd w2 (.slice (A.map fun x=>x.add (en.off+en.len)) en.zl (ca-(en.off+en.len))) (recE xs en).length 1 (u8s (recE xs en))from Zji (hv.mono h) (en.off+en.len) en.zl (by omega) hca));have Yk:=hid (fun(w2:World) (hca:xs.length≤en.off+en.len)=>(show Rd w2 (.slice A 0 0) (recE xs en).length 1 (u8s (recE xs en))from Zgp (by omega) hca));have HF:Hid (Zhp kd rows xs en=(zOkZ kd rows (recE xs en)&&(decide (crc (Zam xs en)=en.sum)&&sOkE kd rows (Zam xs en) (zE kd rows xs en)))):=hid rfl;have Qb:=hid (fun(h:Zhp kd rows xs en=false) (w':World) (hb:Below w.heap.size w w')=>(show Zid kd rows xs en w (.returned (.tuple #[Zgj,.bool false])) w' from Zid.false_of h hb));have Qn:=hid (fun(h:Zhp kd rows xs en=true) (w':World) (hb:Below w.heap.size w w') (B:Option Addr) (c:Nat) (ho:w'.ownsRow w.heap.size 73 1 (.slice B (zE kd rows xs en).bl.length c) (zE kd rows xs en).bl.length (u64s (zE kd rows xs en).bl))=>(show Zid kd rows xs en w (.returned (.tuple #[.agg (ckVE kd rows xs en++[Value.slice B (zE kd rows xs en).bl.length c]).toArray,.bool true])) w' from ⟨hb,.inl ⟨h,B,c,rfl,ho⟩⟩));rw[Qm.out]at Qb Qn;have Zz:=hid (show ∀ b:Value,lbV kd rows en.off en.len en.sum (Zam xs en) (zE kd rows xs en) b=(if sOkE kd rows (Zam xs en) (zE kd rows xs en)=true then .tuple #[.agg (ckVE kd rows xs en++[b]).toArray,.bool true]else .tuple #[Zgj,.bool false])from fun b=>rfl);rw[HF.out]at Qb Qn;have HCV:=hid (show ckVE kd rows xs en=ckVs en.off en.len en.sum ((Zam xs en).getD 0 0) ((Zam xs en).getD 1 0) (zE kd rows xs en)from rfl);rw[HCV.out]at Qn Zz;unfold ckVs at Qn Zz;unfold ZM.v at Ze;have hwk:wrap64 ((kd:Nat):Int)=(kd:Int):=by unfold wrap64;omega
 generalize lbV kd rows en.off en.len en.sum (Zam xs en) (zE kd rows xs en)=LB at *;generalize sOkE kd rows (Zam xs en) (zE kd rows xs en)=sk at *;generalize zE kd rows xs en=z at *;generalize zOkZ kd rows (recE xs en)=zk at *;generalize crc (Zam xs en)=cr at *;generalize recE xs en=rc at *;generalize (Zam xs en).getD 0 0=g0 at *;generalize (Zam xs en).getD 1 0=g1 at *;generalize Zam xs en=bx at *;have hes:en.sum<4294967296∨True:=.inr trivial;obtain⟨eo,el,es,el2⟩:=en;simp only at *;obtain⟨q,hq⟩:∃ q,eo+el=q:=⟨_,rfl⟩;obtain⟨q2,hq2⟩:∃ q2,q+el2=q2:=⟨_,rfl⟩;rw[hq]at hfit YM Yk;rw[hq2]at hfit;have hqi:(eo:Int)+(el:Int)=(q:Int):=by omega
 have hqi2:(q:Int)+(el2:Int)=(q2:Int):=by omega
 have hqe2:q2-q=el2:=by omega
 have hle2:q≤q2:=by omega
 obtain⟨xn,hxn⟩:∃ xn,xs.length=xn:=⟨_,rfl⟩;rw[hxn]at hfit hl hlc Yk ZV ⊢;clear hv hq hq2 hxn hb HV hT hTF hkk hrl hbl ez HF HCV hes JR;go_enter Tryz.func47,Tryz.ntmps47;go_upto_region 1 with fail
 have hf:=Zjk (u:=w) (X:=#[.int .i64 (eo:Nat),.int .i64 (el:Nat),.int .u32 (es:Nat),.int .i64 (el2:Nat)]) (Y:=#[.int .i64 0,.int .i64 0,.int .u32 0,.int .i64 0,.int .i64 0,.bool false,.int .i64 0,.bool false,.int .i64 0,.string ⟨#[]⟩,.bool false,.int .i64 0,.string ⟨#[]⟩,.int .i64 0,.slice none 0 0]) (eX:=108) (eY:=41);have Qj:=hid hf.1;have QI:=hid hf.2.1;have Qa:=hid hf.2.2;clear hf;obtain⟨p0,hp0⟩:∃ p0,w.heap.size=p0:=⟨_,rfl⟩;have Ye:=hid hp0;have hsz:((w.alloc (.cells #[.int .i64 (eo:Nat),.int .i64 (el:Nat),.int .u32 (es:Nat),.int .i64 (el2:Nat)] 108)).alloc (.cells #[.int .i64 0,.int .i64 0,.int .u32 0,.int .i64 0,.int .i64 0,.bool false,.int .i64 0,.bool false,.int .i64 0,.string ⟨#[]⟩,.bool false,.int .i64 0,.string ⟨#[]⟩,.int .i64 0,.slice none 0 0] 41)).heap.size=p0+1+1:=by simp[hp0]
 generalize (w.alloc (.cells #[.int .i64 (eo:Nat),.int .i64 (el:Nat),.int .u32 (es:Nat),.int .i64 (el2:Nat)] 108)).alloc (.cells #[.int .i64 0,.int .i64 0,.int .u32 0,.int .i64 0,.int .i64 0,.bool false,.int .i64 0,.bool false,.int .i64 0,.string ⟨#[]⟩,.bool false,.int .i64 0,.string ⟨#[]⟩,.int .i64 0,.slice none 0 0] 41)=w1 at *;rw[hp0]at Qj QI ⊢;clear hp0;have e0:=Qj.out.cell 0;have e1:=Qj.out.cell 1;have e2:=Qj.out.cell 2;simp only[List.toList_toArray,List.getElem?_cons_zero,List.getElem?_cons_succ]at e0 e1 e2;go_upto_region 2 with fail
 have hf:=Zbs (w:=w1) (C:=#[.int .i64 (eo:Nat),.int .i64 (el:Nat),.int .u32 (es:Nat),.int .i64 0,.int .i64 0,.bool false,.int .i64 0,.bool false,.int .i64 0,.string ⟨#[]⟩,.bool false,.int .i64 0,.string ⟨#[]⟩,.int .i64 0,.slice none 0 0]) (e:=41);have Qq:Hid (Row (w1.alloc (.cells #[.int .i64 (eo:Nat),.int .i64 (el:Nat),.int .u32 (es:Nat),.int .i64 0,.int .i64 0,.bool false,.int .i64 0,.bool false,.int .i64 0,.string ⟨#[]⟩,.bool false,.int .i64 0,.string ⟨#[]⟩,.int .i64 0,.slice none 0 0] 41)) (p0+1+1) 41 [.int .i64 (eo:Nat),.int .i64 (el:Nat),.int .u32 (es:Nat),.int .i64 0,.int .i64 0,.bool false,.int .i64 0,.bool false,.int .i64 0,.string ⟨#[]⟩,.bool false,.int .i64 0,.string ⟨#[]⟩,.int .i64 0,.slice none 0 0]):=hid (by have h:=hf.1;rw[hsz]at h;exact h);have YN:=hid (Qj.out.mono hf.2);have UO:=hid (QI.out.mono hf.2);have Qc:=hid (Zad Qa.out hf.2);have YX:Hid ((w1.alloc (.cells #[.int .i64 (eo:Nat),.int .i64 (el:Nat),.int .u32 (es:Nat),.int .i64 0,.int .i64 0,.bool false,.int .i64 0,.bool false,.int .i64 0,.string ⟨#[]⟩,.bool false,.int .i64 0,.string ⟨#[]⟩,.int .i64 0,.slice none 0 0] 41)).heap.size=p0+1+1+1):=hid (by simp[hsz]);clear hf hsz Qj QI Qa e0 e1 e2;generalize w1.alloc (.cells #[.int .i64 (eo:Nat),.int .i64 (el:Nat),.int .u32 (es:Nat),.int .i64 0,.int .i64 0,.bool false,.int .i64 0,.bool false,.int .i64 0,.string ⟨#[]⟩,.bool false,.int .i64 0,.string ⟨#[]⟩,.int .i64 0,.slice none 0 0] 41)=w2 at *;have e0:=YN.out.cell 0;have e1:=YN.out.cell 1;have e3:=YN.out.cell 3;simp only[List.toList_toArray,List.getElem?_cons_zero,List.getElem?_cons_succ]at e0 e1 e3;go_upto_region 3 with fail
 go_cut [12,13]from 27 to 38 (fun s12 s13 wc=>∃(zb:Nat) (z9:ZM) (B9:Option Addr) (c9:Nat),s12=.pointer (some ⟨zb,0,none⟩)∧s13=.bool zk∧Hid (w2.heap.size≤zb)∧Hid (Row wc zb 39 (z9.vs (.slice B9 z9.bl.length c9)))∧Hid (wc.ownsRow w2.heap.size 73 1 (.slice B9 z9.bl.length c9) z9.bl.length (u64s z9.bl))∧Hid (zk=true→z9=z)∧Hid (Below w2.heap.size w2 wc))
 case first =>
  have hce:ca=q∨ca≠q:=by omega
  rcases hce with hce | hce
  ·have hx:xn≤q:=by omega
   have HP:=hid (Yk.out w2 hx);have h0:el2=0:=by omega
   subst h0;obtain rfl:q=q2:=by omega
   subst hce;go_wp2_with (go_at_call 86;refine(Ze.out _ w2 HP.out).mono ?_;rintro e w4 ⟨hb4,z9,B9,c9,rfl,ho9,heq9⟩;have Q2:=hid hb4;have Zm:=hid ho9;have UP:=hid heq9;clear hb4 ho9 heq9)
   all_goals go_meet
   have hf:=Zbs (w:=w4) (C:=#[.bool z9.rg,.int .i64 z9.nu,.bool z9.mn.n,.int .i64 z9.mn.i,.string z9.mn.s,.bool z9.mx.n,.int .i64 z9.mx.i,.string z9.mx.s,.int .i64 z9.hs,.slice B9 z9.bl.length c9]) (e:=39);exact⟨_,z9,B9,c9,rfl,rfl,hid Q2.out.size,hid hf.1,hid (Zai Zm.out hf.2),UP,hid (Zad Q2.out hf.2)⟩
  ·have HP:=hid (YM.out w2 Qc.out hce);go_wp2_with (go_at_call 86;refine(Ze.out _ w2 HP.out).mono ?_;rintro e w4 ⟨hb4,z9,B9,c9,rfl,ho9,heq9⟩;have Q2:=hid hb4;have Zm:=hid ho9;have UP:=hid heq9;clear hb4 ho9 heq9)
   all_goals go_meet
   have hf:=Zbs (w:=w4) (C:=#[.bool z9.rg,.int .i64 z9.nu,.bool z9.mn.n,.int .i64 z9.mn.i,.string z9.mn.s,.bool z9.mx.n,.int .i64 z9.mx.i,.string z9.mx.s,.int .i64 z9.hs,.slice B9 z9.bl.length c9]) (e:=39);exact⟨_,z9,B9,c9,rfl,rfl,hid Q2.out.size,hid hf.1,hid (Zai Zm.out hf.2),UP,hid (Zad Q2.out hf.2)⟩
 case rest =>
 obtain⟨zb,z9,B9,c9,rfl,rfl,XI,Qt,HZW,HZE,Q2⟩:=hcut;have UQ:=hid (YN.out.mono Q2.out);have UR:=hid (UO.out.mono Q2.out);have Ju:=hid (Qq.out.mono Q2.out);have QT:=hid (Zad Qc.out Q2.out);clear e0 e1 e3 YM Yk Ze YN UO Qq;generalize wc=w3 at *;go_upto_region 4 with fail
 have YL:=hid (fun(w':World) (hb:Below w3.heap.size w3 w')=>(show w'.cell? ⟨p0,2,none⟩=some (.int .u32 (es:Nat))∧w'.cell? ⟨p0+1+1,0,none⟩=some (.int .i64 (eo:Nat))∧w'.cell? ⟨p0+1+1,1,none⟩=some (.int .i64 (el:Nat))∧w'.cell? ⟨p0+1+1,2,none⟩=some (.int .u32 (es:Nat))∧w'.cell? ⟨p0+1+1,3,none⟩=some (.int .i64 0)∧w'.cell? ⟨p0+1+1,4,none⟩=some (.int .i64 0)∧w'.cell? ⟨p0+1+1,5,none⟩=some (.bool false)∧w'.cell? ⟨p0+1+1,6,none⟩=some (.int .i64 0)∧w'.cell? ⟨p0+1+1,7,none⟩=some (.bool false)∧w'.cell? ⟨p0+1+1,8,none⟩=some (.int .i64 0)∧w'.cell? ⟨p0+1+1,9,none⟩=some (.string ⟨#[]⟩)∧w'.cell? ⟨p0+1+1,10,none⟩=some (.bool false)∧w'.cell? ⟨p0+1+1,11,none⟩=some (.int .i64 0)∧w'.cell? ⟨p0+1+1,12,none⟩=some (.string ⟨#[]⟩)∧w'.cell? ⟨p0+1+1,13,none⟩=some (.int .i64 0)∧w'.cell? ⟨p0+1+1,14,none⟩=some (.slice none 0 0)from by
  obtain⟨y0,y1,y2,y3,y4,y5,y6,y7,y8,y9,y10,y11,y12,y13,y14⟩:=Zch (Ju.out.mono hb);have e2:=(UQ.out.mono hb).cell 2;simp only[List.toList_toArray,List.getElem?_cons_zero,List.getElem?_cons_succ]at e2;exact⟨e2,y0,y1,y2,y3,y4,y5,y6,y7,y8,y9,y10,y11,y12,y13,y14⟩))
 go_cut [49]from 39 to 49 (fun s49 wc=>s49=.bool (!(zk&&decide (cr=es)))∧Hid (Below w3.heap.size w3 wc))
 case first =>
  cases zk
  ·skip
   refine wp_region_held_drew (S:=fun w'=>Hid True) (by kernel_rfl) (by(try dsimp only);first | assumption | exact hid trivial) (fun hHeld=>?_);refine tkA (v:=?_) 0 ?_ ?_;rotate_left
   ·(intro wS hSw;(try dsimp only at hSw);go_simp;try with_reducible rfl)
   try simp only[Act.put,tk1,tk2,tk3]
   refine tkA (v:=?_) 1 ?_ ?_;rotate_left
   ·(intro wS hSw;(try dsimp only at hSw);go_simp;try with_reducible rfl)
   try simp only[Act.put,tk1,tk2,tk3]
   refine tkA (v:=?_) 2 ?_ ?_;rotate_left
   ·(intro wS hSw;(try dsimp only at hSw);go_simp;try with_reducible rfl)
   try simp only[Act.put,tk1,tk2,tk3]
   refine tkB 3 ?_
   try simp only[Act.put,tk1,tk2,tk3]
   refine tkB 4 ?_
   try simp only[Act.put,tk1,tk2,tk3]
   refine tkB 5 ?_
   try simp only[Act.put,tk1,tk2,tk3]
   refine tkB 6 ?_
   try simp only[Act.put,tk1,tk2,tk3]
   refine tkB 7 ?_
   try simp only[Act.put,tk1,tk2,tk3]
   refine tkB 8 ?_
   try simp only[Act.put,tk1,tk2,tk3]
   refine tkB 9 ?_
   try simp only[Act.put,tk1,tk2,tk3]
   refine tkA (v:=?_) 10 ?_ ?_;rotate_left
   ·(intro wS hSw;(try dsimp only at hSw);go_simp;try with_reducible rfl)
   try simp only[Act.put,tk1,tk2,tk3]
   refine wpAnyH_done (by kernel_rfl) ?_ _;clear hHeld;go_wp2_with fail
   all_goals go_meet
   exact⟨by simp,hid (Zag (Zab _) 1)⟩
  ·have hck:=YL.out w3.drew (Zag (Zab _) 1);refine wp_region_held_drew (S:=fun w'=>w'.cell? ⟨p0,2,none⟩=some (.int .u32 (es:Nat))∧w'.cell? ⟨p0+1+1,0,none⟩=some (.int .i64 (eo:Nat))∧w'.cell? ⟨p0+1+1,1,none⟩=some (.int .i64 (el:Nat))∧w'.cell? ⟨p0+1+1,2,none⟩=some (.int .u32 (es:Nat))∧w'.cell? ⟨p0+1+1,3,none⟩=some (.int .i64 0)∧w'.cell? ⟨p0+1+1,4,none⟩=some (.int .i64 0)∧w'.cell? ⟨p0+1+1,5,none⟩=some (.bool false)∧w'.cell? ⟨p0+1+1,6,none⟩=some (.int .i64 0)∧w'.cell? ⟨p0+1+1,7,none⟩=some (.bool false)∧w'.cell? ⟨p0+1+1,8,none⟩=some (.int .i64 0)∧w'.cell? ⟨p0+1+1,9,none⟩=some (.string ⟨#[]⟩)∧w'.cell? ⟨p0+1+1,10,none⟩=some (.bool false)∧w'.cell? ⟨p0+1+1,11,none⟩=some (.int .i64 0)∧w'.cell? ⟨p0+1+1,12,none⟩=some (.string ⟨#[]⟩)∧w'.cell? ⟨p0+1+1,13,none⟩=some (.int .i64 0)∧w'.cell? ⟨p0+1+1,14,none⟩=some (.slice none 0 0)) (by kernel_rfl) (by(try dsimp only);first | assumption | first | assumption | exact YL.out _ (Zag (Zab _) 1) | exact YL.out _ (Zad (Zag (Zab _) 1) hbz) | exact hHeld) (fun hHeld=>?_);refine tkA (v:=?_) 0 ?_ ?_;rotate_left
   ·(intro wS hSw;(try dsimp only at hSw);go_simp;try with_reducible rfl)
   try simp only[Act.put,tk1,tk2,tk3]
   refine tkA (v:=?_) 1 ?_ ?_;rotate_left
   ·(intro wS hSw;(try dsimp only at hSw);go_simp;try with_reducible rfl)
   try simp only[Act.put,tk1,tk2,tk3]
   refine tkA (v:=?_) 2 ?_ ?_;rotate_left
   ·(intro wS hSw;(try dsimp only at hSw);go_simp;try with_reducible rfl)
   try simp only[Act.put,tk1,tk2,tk3]
   refine tkA (v:=?_) 3 ?_ ?_;rotate_left
   ·(intro wS hSw;(try dsimp only at hSw);go_simp;try with_reducible rfl)
   try simp only[Act.put,tk1,tk2,tk3]
   refine tkA (v:=?_) 4 ?_ ?_;rotate_left
   ·(intro wS hSw;(try dsimp only at hSw);go_simp;try with_reducible rfl)
   try simp only[Act.put,tk1,tk2,tk3]
   refine tkA (v:=?_) 7 ?_ ?_;rotate_left
   ·(intro wS hSw;(try dsimp only at hSw);go_simp;try with_reducible rfl)
   try simp only[Act.put,tk1,tk2,tk3]
   refine tkA (v:=?_) 8 ?_ ?_;rotate_left
   ·(intro wS hSw;(try dsimp only at hSw);go_simp;try with_reducible rfl)
   try simp only[Act.put,tk1,tk2,tk3]
   refine wpAnyH_ready (rs:=[5]) (by kernel_rfl) (by simp) ?_;refine AllReadyH.cons (Zck rfl) (fun K hK=>?_) AllReadyH.nil;go_simp;go_at_call 55
   refine(ZV.out _ _ _ ⟨false,0,C3.df,C3.df,0,[]⟩ none 0 0 _ (Zag QT.out 1)).mono ?_;rintro e wv ⟨D,dc,rfl,hrd,hbz⟩;have Q5:=hid (Zad (Zag (Zab _) 1) hbz);have Qu:=hid (hrd.mono hbz);clear hrd
   (try go_wp2_with fail)
   refine hK.out _ _ ?_ (fun hHeld2=>?_)
   ·(try dsimp only)
    first | with_reducible assumption | (first | assumption | exact YL.out _ (Zag (Zab _) 1) | exact YL.out _ (Zad (Zag (Zab _) 1) hbz) | exact hHeld)
   clear hK hHeld;clear K;have hHeld:=hHeld2;clear hHeld2
   try simp only[Act.put,tk1,tk2,tk3]
   refine wpAnyH_ready (rs:=[6]) (by kernel_rfl) (by simp) ?_;refine AllReadyH.cons (Zck rfl) (fun K hK=>?_) AllReadyH.nil;go_simp;go_at_call 16
   refine(VP.out _ _ (Zad QT.out Q5.out) Qu.out).mono ?_;rintro e wu ⟨rfl,hw⟩;replace hw:=hw.symm;subst hw
   (try go_wp2_with fail)
   refine hK.out _ _ ?_ (fun hHeld2=>?_)
   ·(try dsimp only)
    first | with_reducible assumption | (first | assumption | exact YL.out _ (Zag (Zab _) 1) | exact YL.out _ (Zad (Zag (Zab _) 1) hbz) | exact hHeld)
   clear hK hHeld;clear K;have hHeld:=hHeld2;clear hHeld2
   try simp only[Act.put,tk1,tk2,tk3]
   refine tkA (v:=?_) 9 ?_ ?_;rotate_left
   ·(intro wS hSw;(try dsimp only at hSw);go_simp;try with_reducible rfl)
   try simp only[Act.put,tk1,tk2,tk3]
   refine tkA (v:=?_) 10 ?_ ?_;rotate_left
   ·(intro wS hSw;(try dsimp only at hSw);go_simp;try with_reducible rfl)
   try simp only[Act.put,tk1,tk2,tk3]
   refine wpAnyH_done (by kernel_rfl) ?_ _;clear hHeld;go_wp2_with fail
   all_goals go_meet
   exact⟨by congr 1;rw[Bool.eq_iff_iff];simp;omega,Q5⟩
 case rest =>
 obtain⟨rfl,QB⟩:=hcut;have Zs:=hid (UR.out.mono QB.out);have Jv:=hid (Ju.out.mono QB.out);have US:=hid (Qt.out.mono QB.out);have Y8:=hid (Zai HZW.out QB.out);have QM:=hid (Zad QT.out QB.out);have YP:Hid (w.heap.size≤p0+1):=hid (by have:=Ye.out;omega);have XJ:Hid (w.heap.size≤w2.heap.size):=hid Qc.out.size;clear YL UR Ju UQ VP UN YH;obtain⟨b4,hb4⟩:∃ b4,(zk&&decide (cr=es))=b4:=⟨_,rfl⟩;have Q0:=hid hb4;rw[hb4];clear hb4;obtain⟨f0,f1,f2,f3,f4,f5,f6,f7,f8,f9,f10,f11,f12,f13,f14⟩:=Zf4 Zs.out;obtain⟨y0,y1,y2,y3,y4,y5,y6,y7,y8,y9,y10,y11,y12,y13,y14⟩:=Zch Zs.out;cases b4
 ·have Q6:Hid ((zk&&(decide (cr=es)&&sk))=false):=hid (by rw[← Bool.and_assoc,Q0.out];rfl);go_wp2_with fail
  change bodyPost _ _ _ _ _ (Zar wc (p0+1) (.int .i64 0) (.int .i64 0) (.int .u32 0) (.int .i64 0) (.int .i64 0) (.bool false) (.int .i64 0) (.bool false) (.int .i64 0) (.string ⟨#[]⟩) (.bool false) (.int .i64 0) (.string ⟨#[]⟩) (.int .i64 0) (.slice none 0 0))
  have R9:=Zci Zs.out (.int .i64 0) (.int .i64 0) (.int .u32 0) (.int .i64 0) (.int .i64 0) (.bool false) (.int .i64 0) (.bool false) (.int .i64 0) (.string ⟨#[]⟩) (.bool false) (.int .i64 0) (.string ⟨#[]⟩) (.int .i64 0) (.slice none 0 0);have hbl:=Zbr QM.out YP.out (.int .i64 0) (.int .i64 0) (.int .u32 0) (.int .i64 0) (.int .i64 0) (.bool false) (.int .i64 0) (.bool false) (.int .i64 0) (.string ⟨#[]⟩) (.bool false) (.int .i64 0) (.string ⟨#[]⟩) (.int .i64 0) (.slice none 0 0);clear y0 y1 y2 y3 y4 y5 y6 y7 y8 y9 y10 y11 y12 y13 y14 f0 f1 f2 f3 f4 f5 f6 f7 f8 f9 f10 f11 f12 f13 f14;generalize Zar wc (p0+1) (.int .i64 0) (.int .i64 0) (.int .u32 0) (.int .i64 0) (.int .i64 0) (.bool false) (.int .i64 0) (.bool false) (.int .i64 0) (.string ⟨#[]⟩) (.bool false) (.int .i64 0) (.string ⟨#[]⟩) (.int .i64 0) (.slice none 0 0)=wz at *;obtain⟨q_0,q_1,q_2,q_3,q_4,q_5,q_6,q_7,q_8,q_9,q_10,q_11,q_12,q_13,q_14⟩:=Zch R9;refine bodyPost_ret (v:=.tuple #[Zgj,.bool false]) ?_ rfl ?_
  ·simp[results,Tryz.results47,go_sem,q_0,q_1,q_2,q_3,q_4,q_5,q_6,q_7,q_8,q_9,q_10,q_11,q_12,q_13,q_14]
  ·exact Qb.out Q6.out _ hbl
 ·have h4:=Q0.out;simp only[Bool.and_eq_true,decide_eq_true_eq]at h4;obtain⟨rfl,rfl⟩:=h4;have hz9:z=z9:=(HZE.out rfl).symm;subst hz9;simp only[decide_true,Bool.true_and]at Qb Qn;clear y0 y1 y2 y3 y4 y5 y6 y7 y8 y9 y10 y11 y12 y13 y14 f0 f1 f2 f3 f4 f5 f6 f7 f8 f9 f10 f11 f12 f13 f14;obtain⟨z0,z1,z2,z3,z4,z5,z6,z7,z8,z9⟩:=Za5 US.out;obtain⟨f0,f1,f2,f3,f4,f5,f6,f7,f8,f9,f10,f11,f12,f13,f14⟩:=Zf4 Jv.out;obtain⟨y0,y1,y2,y3,y4,y5,y6,y7,y8,y9,y10,y11,y12,y13,y14⟩:=Zch Jv.out;obtain⟨w5,hw5⟩:∃ w5,setZ wc (p0+1+1) (.bool z.rg) (.int .i64 z.nu) (.bool z.mn.n) (.int .i64 z.mn.i) (.string z.mn.s) (.bool z.mx.n) (.int .i64 z.mx.i) (.string z.mx.s) (.int .i64 z.hs) (.slice B9 z.bl.length c9)=w5:=⟨_,rfl⟩;have HRn:Hid (Row w5 (p0+1+1) 41 [.int .i64 (eo:Nat),.int .i64 (el:Nat),.int .u32 (cr:Nat),.int .i64 0,.int .i64 0,.bool z.rg,.int .i64 z.nu,.bool z.mn.n,.int .i64 z.mn.i,.string z.mn.s,.bool z.mx.n,.int .i64 z.mx.i,.string z.mx.s,.int .i64 z.hs,.slice B9 z.bl.length c9]):=hid (by rw[← hw5];exact Zts Jv.out (.bool z.rg) (.int .i64 z.nu) (.bool z.mn.n) (.int .i64 z.mn.i) (.string z.mn.s) (.bool z.mx.n) (.int .i64 z.mx.i) (.string z.mx.s) (.int .i64 z.hs) (.slice B9 z.bl.length c9));have hchg:Chg (p0+1+1) (p0+1+1) wc w5:=by rw[← hw5];exact Ztw wc (p0+1+1) (.bool z.rg) (.int .i64 z.nu) (.bool z.mn.n) (.int .i64 z.mn.i) (.string z.mn.s) (.bool z.mx.n) (.int .i64 z.mx.i) (.string z.mx.s) (.int .i64 z.hs) (.slice B9 z.bl.length c9)
  have HW5:=hid hw5;have XK:=hid (hchg.row Zs.out (by omega) (by omega));have XL:=hid (Zcl Y8.out hchg (fun k hk=>by have:=(Y8.out.lt k hk).1;have:=YX.out;omega));have HBn:=hid (hchg.below QM.out QM.out.size (by have:=Ye.out;omega) (by have:=Ye.out;omega));clear hchg hw5;go_upto_region 7 with fail
  change Code.wp _ _ _ _ (setZ wc (p0+1+1) (.bool z.rg) (.int .i64 z.nu) (.bool z.mn.n) (.int .i64 z.mn.i) (.string z.mn.s) (.bool z.mx.n) (.int .i64 z.mx.i) (.string z.mx.s) (.int .i64 z.hs) (.slice B9 z.bl.length c9))
  rw[HW5.out];clear y0 y1 y2 y3 y4 y5 y6 y7 y8 y9 y10 y11 y12 y13 y14 f0 f1 f2 f3 f4 f5 f6 f7 f8 f9 f10 f11 f12 f13 f14 z0 z1 z2 z3 z4 z5 z6 z7 z8 z9;have hdw:Below w5.heap.size w5 w5.drew:=Zag (Zab w5) 1;have Yz:=hid (XK.out.mono hdw);have Qg:Hid (Below w.heap.size w w5.drew):=hid (Zag HBn.out 1);have Zf:=hid (Zai XL.out hdw);have HDW:=hid hdw;clear hdw;have Qe:=hid (fun(w':World) (hb:Below w5.drew.heap.size w5.drew w')=>(show w'.cell? ⟨p0+1+1,0,none⟩=some (.int .i64 (eo:Nat))∧w'.cell? ⟨p0+1+1,1,none⟩=some (.int .i64 (el:Nat))∧w'.cell? ⟨p0+1+1,2,none⟩=some (.int .u32 (cr:Nat))∧w'.cell? ⟨p0+1+1,3,none⟩=some (.int .i64 0)∧w'.cell? ⟨p0+1+1,4,none⟩=some (.int .i64 0)∧w'.cell? ⟨p0+1+1,5,none⟩=some (.bool z.rg)∧w'.cell? ⟨p0+1+1,6,none⟩=some (.int .i64 z.nu)∧w'.cell? ⟨p0+1+1,7,none⟩=some (.bool z.mn.n)∧w'.cell? ⟨p0+1+1,8,none⟩=some (.int .i64 z.mn.i)∧w'.cell? ⟨p0+1+1,9,none⟩=some (.string z.mn.s)∧w'.cell? ⟨p0+1+1,10,none⟩=some (.bool z.mx.n)∧w'.cell? ⟨p0+1+1,11,none⟩=some (.int .i64 z.mx.i)∧w'.cell? ⟨p0+1+1,12,none⟩=some (.string z.mx.s)∧w'.cell? ⟨p0+1+1,13,none⟩=some (.int .i64 z.hs)∧w'.cell? ⟨p0+1+1,14,none⟩=some (.slice B9 z.bl.length c9)from by
   obtain⟨y0,y1,y2,y3,y4,y5,y6,y7,y8,y9,y10,y11,y12,y13,y14⟩:=Zch (HRn.out.mono (Zad HDW.out hb));exact⟨y0,y1,y2,y3,y4,y5,y6,y7,y8,y9,y10,y11,y12,y13,y14⟩))
  have hne:p0+1+1≠p0+1:=by omega
  have hck:=Qe.out _ (Zab _);have hk1:=Zc.out;subst hk1;have hsk:=HSK.out;subst hsk;have hLB:LB (.slice B9 z.bl.length c9)=.tuple #[.agg #[.int .i64 (eo:Nat),.int .i64 (el:Nat),.int .u32 (cr:Nat),.int .i64 (g0:Nat),.int .i64 (g1:Nat),.bool z.rg,.int .i64 z.nu,.bool z.mn.n,.int .i64 z.mn.i,.string z.mn.s,.bool z.mx.n,.int .i64 z.mx.i,.string z.mx.s,.int .i64 z.hs,.slice B9 z.bl.length c9],.bool true]:=Zz.out _;go_upto_region 9 with fail
  refine wp_region_held_drew (S:=fun w'=>w'.cell? ⟨p0+1+1,0,none⟩=some (.int .i64 (eo:Nat))∧w'.cell? ⟨p0+1+1,1,none⟩=some (.int .i64 (el:Nat))∧w'.cell? ⟨p0+1+1,2,none⟩=some (.int .u32 (cr:Nat))∧w'.cell? ⟨p0+1+1,3,none⟩=some (.int .i64 0)∧w'.cell? ⟨p0+1+1,4,none⟩=some (.int .i64 0)∧w'.cell? ⟨p0+1+1,5,none⟩=some (.bool z.rg)∧w'.cell? ⟨p0+1+1,6,none⟩=some (.int .i64 z.nu)∧w'.cell? ⟨p0+1+1,7,none⟩=some (.bool z.mn.n)∧w'.cell? ⟨p0+1+1,8,none⟩=some (.int .i64 z.mn.i)∧w'.cell? ⟨p0+1+1,9,none⟩=some (.string z.mn.s)∧w'.cell? ⟨p0+1+1,10,none⟩=some (.bool z.mx.n)∧w'.cell? ⟨p0+1+1,11,none⟩=some (.int .i64 z.mx.i)∧w'.cell? ⟨p0+1+1,12,none⟩=some (.string z.mx.s)∧w'.cell? ⟨p0+1+1,13,none⟩=some (.int .i64 z.hs)∧w'.cell? ⟨p0+1+1,14,none⟩=some (.slice B9 z.bl.length c9)) (by kernel_rfl) (by(try dsimp only);first | assumption | first | exact hSET10 _ rfl | with_reducible exact Qe.out _ Qi.out | with_reducible exact Qe.out _ Q5.out | with_reducible exact Qe.out _ (Zab _)) (fun hHeld=>?_);refine tkA (v:=?_) 0 ?_ ?_;rotate_left
  ·(intro wS hSw;(try dsimp only at hSw);go_simp;try with_reducible rfl)
  try simp only[Act.put,tk1,tk2,tk3]
  refine tkA (v:=?_) 1 ?_ ?_;rotate_left
  ·(intro wS hSw;(try dsimp only at hSw);go_simp;try with_reducible rfl)
  try simp only[Act.put,tk1,tk2,tk3]
  refine tkA (v:=?_) 2 ?_ ?_;rotate_left
  ·(intro wS hSw;(try dsimp only at hSw);go_simp;try with_reducible rfl)
  try simp only[Act.put,tk1,tk2,tk3]
  refine tkA (v:=?_) 3 ?_ ?_;rotate_left
  ·(intro wS hSw;(try dsimp only at hSw);go_simp;try with_reducible rfl)
  try simp only[Act.put,tk1,tk2,tk3]
  refine tkA (v:=?_) 4 ?_ ?_;rotate_left
  ·(intro wS hSw;(try dsimp only at hSw);go_simp;try with_reducible rfl)
  try simp only[Act.put,tk1,tk2,tk3]
  refine tkA (v:=?_) 6 ?_ ?_;rotate_left
  ·(intro wS hSw;(try dsimp only at hSw);go_simp;try with_reducible rfl)
  try simp only[Act.put,tk1,tk2,tk3]
  refine wpAnyH_ready (rs:=[5]) (by kernel_rfl) (by simp) ?_;refine AllReadyH.cons (Zck rfl) (fun K hK=>?_) AllReadyH.nil;go_simp;go_at_call 55
  refine(ZV.out _ _ _ z B9 _ c9 _ Qg.out).mono ?_;rintro e wv ⟨D,dc,rfl,hrd,hbz⟩;have Q5:=hid hbz;have Qu:=hid (hrd.mono hbz);clear hrd
  (try go_wp2_with fail)
  refine hK.out _ _ ?_ (fun hHeld2=>?_)
  ·(try dsimp only)
   first | with_reducible assumption | (first | exact hSET10 _ rfl | with_reducible exact Qe.out _ Qi.out | with_reducible exact Qe.out _ Q5.out | with_reducible exact Qe.out _ (Zab _))
  clear hK hHeld;clear K;have hHeld:=hHeld2;clear hHeld2
  try simp only[Act.put,tk1,tk2,tk3]
  refine wpAnyH_ready (rs:=[7]) (by kernel_rfl) (by simp) ?_;refine AllReadyH.cons (Zck rfl) (fun K hK=>?_) AllReadyH.nil;go_simp;go_at_call 88
  refine(HLI.out (by first | rfl | trivial) (by first | rfl | trivial) _ _ _ B9 c9 _ (Zad Qg.out Q5.out) Qu.out (Zb5 (Zai Zf.out Q5.out))).mono ?_;rintro e wu ⟨hby,rfl⟩;have Qi:=hid (Zad Q5.out hby);rw[hLB];obtain⟨y0,y1,y2,y3,y4,y5,y6,y7,y8,y9,y10,y11,y12,y13,y14⟩:=Zch (Yz.out.mono Qi.out);obtain⟨f0,f1,f2,f3,f4,f5,f6,f7,f8,f9,f10,f11,f12,f13,f14⟩:=Zf4 (Yz.out.mono Qi.out)
  (try go_wp2_with fail)
  refine hK.out _ _ ?_ (fun hHeld2=>?_)
  ·(try dsimp only)
   first | with_reducible assumption | (first | exact hSET10 _ rfl | with_reducible exact Qe.out _ Qi.out | with_reducible exact Qe.out _ Q5.out | with_reducible exact Qe.out _ (Zab _))
  clear hK hHeld;clear K;have hHeld:=hHeld2;clear hHeld2
  try simp only[Act.put,tk1,tk2,tk3]
  refine tkA (v:=?_) 8 ?_ ?_;rotate_left
  ·(intro wS hSw;(try dsimp only at hSw);go_simp;try with_reducible rfl)
  try simp only[Act.put,tk1,tk2,tk3]
  refine tkA (v:=?_) 9 ?_ ?_;rotate_left
  ·(intro wS hSw;(try dsimp only at hSw);go_simp;try with_reducible rfl)
  try simp only[Act.put,tk1,tk2,tk3]
  refine wpAnyH_ready (rs:=[10]) (by kernel_rfl) (by simp) ?_;refine AllReadyH.cons (Zck rfl) (fun K hK=>?_) AllReadyH.nil;go_simp;have P0:=fun i=>Zaf wu (p0+1) (p0+1+1) i (.int .i64 (eo:Nat)) (.int .i64 (el:Nat)) (.int .u32 (cr:Nat)) (.int .i64 (g0:Nat)) (.int .i64 (g1:Nat)) (.bool z.rg) (.int .i64 z.nu) (.bool z.mn.n) (.int .i64 z.mn.i) (.string z.mn.s) (.bool z.mx.n) (.int .i64 z.mx.i) (.string z.mx.s) (.int .i64 z.hs) (.slice B9 z.bl.length c9) hne
  have hSET10:∀ ws:World,ws=Zar wu (p0+1) (.int .i64 (eo:Nat)) (.int .i64 (el:Nat)) (.int .u32 (cr:Nat)) (.int .i64 (g0:Nat)) (.int .i64 (g1:Nat)) (.bool z.rg) (.int .i64 z.nu) (.bool z.mn.n) (.int .i64 z.mn.i) (.string z.mn.s) (.bool z.mx.n) (.int .i64 z.mx.i) (.string z.mx.s) (.int .i64 z.hs) (.slice B9 z.bl.length c9)→(ws.cell? ⟨p0+1+1,0,none⟩=some (.int .i64 (eo:Nat))∧ws.cell? ⟨p0+1+1,1,none⟩=some (.int .i64 (el:Nat))∧ws.cell? ⟨p0+1+1,2,none⟩=some (.int .u32 (cr:Nat))∧ws.cell? ⟨p0+1+1,3,none⟩=some (.int .i64 0)∧ws.cell? ⟨p0+1+1,4,none⟩=some (.int .i64 0)∧ws.cell? ⟨p0+1+1,5,none⟩=some (.bool z.rg)∧ws.cell? ⟨p0+1+1,6,none⟩=some (.int .i64 z.nu)∧ws.cell? ⟨p0+1+1,7,none⟩=some (.bool z.mn.n)∧ws.cell? ⟨p0+1+1,8,none⟩=some (.int .i64 z.mn.i)∧ws.cell? ⟨p0+1+1,9,none⟩=some (.string z.mn.s)∧ws.cell? ⟨p0+1+1,10,none⟩=some (.bool z.mx.n)∧ws.cell? ⟨p0+1+1,11,none⟩=some (.int .i64 z.mx.i)∧ws.cell? ⟨p0+1+1,12,none⟩=some (.string z.mx.s)∧ws.cell? ⟨p0+1+1,13,none⟩=some (.int .i64 z.hs)∧ws.cell? ⟨p0+1+1,14,none⟩=some (.slice B9 z.bl.length c9)):=by
   rintro ws rfl;exact⟨(P0 0).trans (Qe.out _ Qi.out).1,(P0 1).trans (Qe.out _ Qi.out).2.1,(P0 2).trans (Qe.out _ Qi.out).2.2.1,(P0 3).trans (Qe.out _ Qi.out).2.2.2.1,(P0 4).trans (Qe.out _ Qi.out).2.2.2.2.1,(P0 5).trans (Qe.out _ Qi.out).2.2.2.2.2.1,(P0 6).trans (Qe.out _ Qi.out).2.2.2.2.2.2.1,(P0 7).trans (Qe.out _ Qi.out).2.2.2.2.2.2.2.1,(P0 8).trans (Qe.out _ Qi.out).2.2.2.2.2.2.2.2.1,(P0 9).trans (Qe.out _ Qi.out).2.2.2.2.2.2.2.2.2.1,(P0 10).trans (Qe.out _ Qi.out).2.2.2.2.2.2.2.2.2.2.1,(P0 11).trans (Qe.out _ Qi.out).2.2.2.2.2.2.2.2.2.2.2.1,(P0 12).trans (Qe.out _ Qi.out).2.2.2.2.2.2.2.2.2.2.2.2.1,(P0 13).trans (Qe.out _ Qi.out).2.2.2.2.2.2.2.2.2.2.2.2.2.1,(P0 14).trans (Qe.out _ Qi.out).2.2.2.2.2.2.2.2.2.2.2.2.2.2⟩
  clear P0;refine hK.out _ _ ?_ (fun hHeld2=>?_)
  ·(try dsimp only)
   first | with_reducible assumption | (first | exact hSET10 _ rfl | with_reducible exact Qe.out _ Qi.out | with_reducible exact Qe.out _ Q5.out | with_reducible exact Qe.out _ (Zab _))
  clear hK hHeld;clear K;have hHeld:=hHeld2;clear hHeld2
  try simp only[Act.put,tk1,tk2,tk3]
  refine tkA (v:=?_) 11 ?_ ?_;rotate_left
  ·(intro wS hSw;(try dsimp only at hSw);go_simp;try with_reducible rfl)
  try simp only[Act.put,tk1,tk2,tk3]
  refine wpAnyH_done (by kernel_rfl) ?_ _;clear hHeld;go_wp2_with fail
  change bodyPost _ _ _ _ _ (Zar wu (p0+1) (.int .i64 (eo:Nat)) (.int .i64 (el:Nat)) (.int .u32 (cr:Nat)) (.int .i64 (g0:Nat)) (.int .i64 (g1:Nat)) (.bool z.rg) (.int .i64 z.nu) (.bool z.mn.n) (.int .i64 z.mn.i) (.string z.mn.s) (.bool z.mx.n) (.int .i64 z.mx.i) (.string z.mx.s) (.int .i64 z.hs) (.slice B9 z.bl.length c9))
  have R9:=Zci (Yz.out.mono Qi.out) (.int .i64 (eo:Nat)) (.int .i64 (el:Nat)) (.int .u32 (cr:Nat)) (.int .i64 (g0:Nat)) (.int .i64 (g1:Nat)) (.bool z.rg) (.int .i64 z.nu) (.bool z.mn.n) (.int .i64 z.mn.i) (.string z.mn.s) (.bool z.mx.n) (.int .i64 z.mx.i) (.string z.mx.s) (.int .i64 z.hs) (.slice B9 z.bl.length c9);have hbl:=Zbr (Zad Qg.out Qi.out) YP.out (.int .i64 (eo:Nat)) (.int .i64 (el:Nat)) (.int .u32 (cr:Nat)) (.int .i64 (g0:Nat)) (.int .i64 (g1:Nat)) (.bool z.rg) (.int .i64 z.nu) (.bool z.mn.n) (.int .i64 z.mn.i) (.string z.mn.s) (.bool z.mx.n) (.int .i64 z.mx.i) (.string z.mx.s) (.int .i64 z.hs) (.slice B9 z.bl.length c9);clear y0 y1 y2 y3 y4 y5 y6 y7 y8 y9 y10 y11 y12 y13 y14 f0 f1 f2 f3 f4 f5 f6 f7 f8 f9 f10 f11 f12 f13 f14;have hch:=Zln wu (p0+1) (.int .i64 (eo:Nat)) (.int .i64 (el:Nat)) (.int .u32 (cr:Nat)) (.int .i64 (g0:Nat)) (.int .i64 (g1:Nat)) (.bool z.rg) (.int .i64 z.nu) (.bool z.mn.n) (.int .i64 z.mn.i) (.string z.mn.s) (.bool z.mx.n) (.int .i64 z.mx.i) (.string z.mx.s) (.int .i64 z.hs) (.slice B9 z.bl.length c9);have HOz:=hid (Za7 (Zcl (Zai Zf.out Qi.out) hch (fun k hk=>by have h1:=(Zf.out.lt k hk).1;have h2:=YX.out;omega)) XJ.out);clear hch;generalize Zar wu (p0+1) (.int .i64 (eo:Nat)) (.int .i64 (el:Nat)) (.int .u32 (cr:Nat)) (.int .i64 (g0:Nat)) (.int .i64 (g1:Nat)) (.bool z.rg) (.int .i64 z.nu) (.bool z.mn.n) (.int .i64 z.mn.i) (.string z.mn.s) (.bool z.mx.n) (.int .i64 z.mx.i) (.string z.mx.s) (.int .i64 z.hs) (.slice B9 z.bl.length c9)=wz at *;obtain⟨q_0,q_1,q_2,q_3,q_4,q_5,q_6,q_7,q_8,q_9,q_10,q_11,q_12,q_13,q_14⟩:=Zch R9;refine bodyPost_ret (v:=.tuple #[.agg #[.int .i64 (eo:Nat),.int .i64 (el:Nat),.int .u32 (cr:Nat),.int .i64 (g0:Nat),.int .i64 (g1:Nat),.bool z.rg,.int .i64 z.nu,.bool z.mn.n,.int .i64 z.mn.i,.string z.mn.s,.bool z.mx.n,.int .i64 z.mx.i,.string z.mx.s,.int .i64 z.hs,.slice B9 z.bl.length c9],.bool true]) ?_ rfl ?_
  ·simp[results,Tryz.results47,go_sem,q_0,q_1,q_2,q_3,q_4,q_5,q_6,q_7,q_8,q_9,q_10,q_11,q_12,q_13,q_14]
  ·exact Qn.out (by first | rfl | trivial) _ hbl B9 c9 HOz.out
end Go.Proofs.YtmcjknjlihgihaaGreatDoor
