/- Package format: lookChunk (kind 2). -/
import Derived.Test.YtmcjknjlihgihaaGreatDoorLawparseuptoM41
set_option linter.unusedVariables false
set_option linter.unusedSimpArgs false
set_option linter.unnecessarySimpa false
set_option maxRecDepth 100000
namespace Go.Proofs.YtmcjknjlihgihaaGreatDoor
open Go.RowKit
set_option maxHeartbeats 16000000 in
theorem Zsh (v:Value) (xs:List Nat) (kd rows:Nat) (en:En) (w:World) (hT:Tab w) (hTF:TabF w) (hv:Rd w v xs.length 1 (u8s xs)) (hb:∀ x∈xs,x<256) (hl:xs.length≤16777216) (hk:kd=1∨kd=2) (hrr:rows≤65536) (hfit:en.off+en.len+en.zl≤xs.length) (hk1:kd=2) :
  Calls Tryz.prog 47 #[v,.int .i64 kd,.int .i64 rows,.agg #[.int .i64 (en.off:Nat),.int .i64 (en.len:Nat),.int .u32 (en.sum:Nat),.int .i64 (en.zl:Nat)]] w (Zir kd rows xs en w):=by
 have Zw:=hid hk1;clear hk1;obtain⟨ANS,hANS⟩:∃ ANS,Zir kd rows xs en w=ANS:=⟨_,rfl⟩;have Qj:=hid hANS;rw[hANS];clear hANS;have HV:=hid hv;have hkk:=Zxb hk;have YT:Hid (∀ x∈Zak xs en,x<256):=hid (Zfa hb en.off en.len);have UY:Hid (∀ x∈recE xs en,x<256):=hid (Zfa hb (en.off+en.len) en.zl);have hrl:(recE xs en).length≤16777216:=by unfold recE;rw[List.length_take];omega
 have hbl:(Zak xs en).length≤16777216:=by unfold Zak;rw[List.length_take];omega
 have Zy:=hid (fun(u:Value) (w2:World) (h:Rd w2 u (recE xs en).length 1 (u8s (recE xs en)))=>(Zk0 w2 kd rows u (recE xs en) hkk ⟨by omega,by omega⟩ h UY.out hrl).mono (fun e w' hh=>Zth hh));have ez:Zgb kd rows (recE xs en)=zE kd rows xs en:=rfl;unfold ZGot at Zy;rw[ez]at Zy;have Vm:Hid (∀ x∈(zE kd rows xs en).bl,x<18446744073709551616):=hid (Zpn kd rows UY.out).2.2;have Uc:Hid (zOkZ kd rows (recE xs en)=true→zOk kd rows (zE kd rows xs en)=true):=hid (fun h=>by
  unfold zOkZ at h;rw[decide_eq_true_eq]at h;exact h.1)
 obtain⟨A,ca,rfl,hlc,hcm,_⟩:=hv.form;have ZE:=hid (fun(sm cd wd:Int) (z:ZM) (B:Option Addr) (bn bc:Nat) (w2:World) (h:Below w.heap.size w w2)=>(show Calls Tryz.prog 55 #[.slice A xs.length ca,.agg #[.int .i64 (en.off:Nat),.int .i64 (en.len:Nat),.int .u32 sm,.int .i64 cd,.int .i64 wd,.bool z.rg,.int .i64 z.nu,.bool z.mn.n,.int .i64 z.mn.i,.string z.mn.s,.bool z.mx.n,.int .i64 z.mx.i,.string z.mx.s,.int .i64 z.hs,.slice B bn bc]] w2 fun e w'=>∃ D dc,e=.returned (.slice D en.len dc)∧Rd w2 (.slice D en.len dc) (Zak xs en).length 1 (u8s (Zak xs en))∧Below w2.heap.size w2 w' from Zkn A ca xs en.off en.len sm cd wd z B bn bc w2 (hv.mono h) hl (by omega)));have Vo:=hid (fun(u:Value) (w2:World) (hb2:Below w.heap.size w w2) (h:Rd w2 u (Zak xs en).length 1 (u8s (Zak xs en)))=>Zhl u (Zak xs en) w2 (hTF.mono hb2 hTF.lt) h YT.out);have HLI:=hid (fun(hk1:kd=1) (hz:zOkZ kd rows (recE xs en)=true) (v2:Value) (cd wd:Int) (B:Option Addr) (bc:Nat) (w2:World) (hb2:Below w.heap.size w w2) (h:Rd w2 v2 (Zak xs en).length 1 (u8s (Zak xs en))) (h3:Rd w2 (.slice B (zE kd rows xs en).bl.length bc) (zE kd rows xs en).bl.length 1 (u64s (zE kd rows xs en).bl)) =>
  (show Calls Tryz.prog 88 #[.iface 159 (.agg #[]),.int .i64 rows,v2,.agg #[.int .i64 (en.off:Nat),.int .i64 (en.len:Nat),.int .u32 (en.sum:Nat),.int .i64 cd,.int .i64 wd,.bool (zE kd rows xs en).rg,.int .i64 (zE kd rows xs en).nu,.bool (zE kd rows xs en).mn.n,.int .i64 (zE kd rows xs en).mn.i,.string (zE kd rows xs en).mn.s,.bool (zE kd rows xs en).mx.n,.int .i64 (zE kd rows xs en).mx.i,.string (zE kd rows xs en).mx.s,.int .i64 (zE kd rows xs en).hs,.slice B (zE kd rows xs en).bl.length bc]] w2 fun e w' =>
   Below w2.heap.size w2 w'∧e=.returned (lbV kd rows en.off en.len en.sum (Zak xs en) (zE kd rows xs en) (.slice B (zE kd rows xs en).bl.length bc))from by
    subst hk1;exact Zm0 w2 v2 (Zak xs en) rows en.off en.len en.sum cd wd _ B bc (hT.mono hb2 hT.lt) h YT.out hbl hrr (Uc.out hz) h3 Vm.out))
 have UR:=hid (fun(hk1:kd=2) (hz:zOkZ kd rows (recE xs en)=true) (v2:Value) (cd wd:Int) (B:Option Addr) (bc:Nat) (w2:World) (hb2:Below w.heap.size w w2) (h:Rd w2 v2 (Zak xs en).length 1 (u8s (Zak xs en))) (h3:Rd w2 (.slice B (zE kd rows xs en).bl.length bc) (zE kd rows xs en).bl.length 1 (u64s (zE kd rows xs en).bl)) =>
  (show Calls Tryz.prog 87 #[.iface 157 (.agg #[]),.int .i64 rows,v2,.agg #[.int .i64 (en.off:Nat),.int .i64 (en.len:Nat),.int .u32 (en.sum:Nat),.int .i64 cd,.int .i64 wd,.bool (zE kd rows xs en).rg,.int .i64 (zE kd rows xs en).nu,.bool (zE kd rows xs en).mn.n,.int .i64 (zE kd rows xs en).mn.i,.string (zE kd rows xs en).mn.s,.bool (zE kd rows xs en).mx.n,.int .i64 (zE kd rows xs en).mx.i,.string (zE kd rows xs en).mx.s,.int .i64 (zE kd rows xs en).hs,.slice B (zE kd rows xs en).bl.length bc]] w2 fun e w' =>
   Below w2.heap.size w2 w'∧e=.returned (lbV kd rows en.off en.len en.sum (Zak xs en) (zE kd rows xs en) (.slice B (zE kd rows xs en).bl.length bc))from by
    subst hk1;exact Zmx w2 v2 (Zak xs en) rows en.off en.len en.sum cd wd _ B bc (hT.mono hb2 hT.lt) h YT.out hbl hrr (Uc.out hz) h3 Vm.out))
 have YX:=hid (fun(w2:World) (h:Below w.heap.size w w2) (hca:ca≠en.off+en.len)=>(show Rd w2 (.slice (A.map fun x=>x.add (en.off+en.len)) en.zl (ca-(en.off+en.len))) (recE xs en).length 1 (u8s (recE xs en))from Zjh (hv.mono h) (en.off+en.len) en.zl (by omega) hca));have Yq:=hid (fun(w2:World) (hca:xs.length≤en.off+en.len)=>(show Rd w2 (.slice A 0 0) (recE xs en).length 1 (u8s (recE xs en))from Zg3 (by omega) hca));have HF:Hid (Zh9 kd rows xs en=(zOkZ kd rows (recE xs en)&&(decide (crc (Zak xs en)=en.sum)&&sOkE kd rows (Zak xs en) (zE kd rows xs en)))):=hid rfl;have Qc:=hid (fun(h:Zh9 kd rows xs en=false) (w':World) (hb:Below w.heap.size w w')=>(show Zir kd rows xs en w (.returned (.tuple #[Zig,.bool false])) w' from Zir.false_of h hb));have Qf:=hid (fun(h:Zh9 kd rows xs en=true) (w':World) (hb:Below w.heap.size w w') (B:Option Addr) (c:Nat) (ho:w'.ownsRow w.heap.size 73 1 (.slice B (zE kd rows xs en).bl.length c) (zE kd rows xs en).bl.length (u64s (zE kd rows xs en).bl))=>(show Zir kd rows xs en w (.returned (.tuple #[.agg (ckVE kd rows xs en++[Value.slice B (zE kd rows xs en).bl.length c]).toArray,.bool true])) w' from ⟨hb,.inl ⟨h,B,c,rfl,ho⟩⟩));rw[Qj.out]at Qc Qf;have ZI:=hid (show ∀ b:Value,lbV kd rows en.off en.len en.sum (Zak xs en) (zE kd rows xs en) b=(if sOkE kd rows (Zak xs en) (zE kd rows xs en)=true then .tuple #[.agg (ckVE kd rows xs en++[b]).toArray,.bool true]else .tuple #[Zig,.bool false])from fun b=>rfl);rw[HF.out]at Qc Qf;have HCV:=hid (show ckVE kd rows xs en=ckVs en.off en.len en.sum ((Zak xs en).getD 0 0) ((Zak xs en).getD 1 0) (zE kd rows xs en)from rfl);rw[HCV.out]at Qf ZI;unfold ckVs at Qf ZI;unfold ZM.v at Zy;have hwk:wrap64 ((kd:Nat):Int)=(kd:Int):=by unfold wrap64;omega
 generalize lbV kd rows en.off en.len en.sum (Zak xs en) (zE kd rows xs en)=LB at *;generalize sOkE kd rows (Zak xs en) (zE kd rows xs en)=sk at *;generalize zE kd rows xs en=z at *;generalize zOkZ kd rows (recE xs en)=zk at *;generalize crc (Zak xs en)=cr at *;generalize recE xs en=rc at *;generalize (Zak xs en).getD 0 0=g0 at *;generalize (Zak xs en).getD 1 0=g1 at *;generalize Zak xs en=bx at *;have hes:en.sum<4294967296∨True:=.inr trivial;obtain⟨eo,el,es,el2⟩:=en;simp only at *;obtain⟨q,hq⟩:∃ q,eo+el=q:=⟨_,rfl⟩;obtain⟨q2,hq2⟩:∃ q2,q+el2=q2:=⟨_,rfl⟩;rw[hq]at hfit YX Yq;rw[hq2]at hfit;have hqi:(eo:Int)+(el:Int)=(q:Int):=by omega
 have hqi2:(q:Int)+(el2:Int)=(q2:Int):=by omega
 have hqe2:q2-q=el2:=by omega
 have hle2:q≤q2:=by omega
 obtain⟨xn,hxn⟩:∃ xn,xs.length=xn:=⟨_,rfl⟩;rw[hxn]at hfit hl hlc Yq ZE ⊢;clear hv hq hq2 hxn hb HV hT hTF hkk hrl hbl ez HF HCV hes Uc;go_enter Tryz.func47,Tryz.ntmps47;go_upto_region 1 with fail
 have hf:=Zij (u:=w) (X:=#[.int .i64 (eo:Nat),.int .i64 (el:Nat),.int .u32 (es:Nat),.int .i64 (el2:Nat)]) (Y:=#[.int .i64 0,.int .i64 0,.int .u32 0,.int .i64 0,.int .i64 0,.bool false,.int .i64 0,.bool false,.int .i64 0,.string ⟨#[]⟩,.bool false,.int .i64 0,.string ⟨#[]⟩,.int .i64 0,.slice none 0 0]) (eX:=108) (eY:=41);have Qg:=hid hf.1;have QD:=hid hf.2.1;have Qa:=hid hf.2.2;clear hf;obtain⟨p0,hp0⟩:∃ p0,w.heap.size=p0:=⟨_,rfl⟩;have Yo:=hid hp0;have hsz:((w.alloc (.cells #[.int .i64 (eo:Nat),.int .i64 (el:Nat),.int .u32 (es:Nat),.int .i64 (el2:Nat)] 108)).alloc (.cells #[.int .i64 0,.int .i64 0,.int .u32 0,.int .i64 0,.int .i64 0,.bool false,.int .i64 0,.bool false,.int .i64 0,.string ⟨#[]⟩,.bool false,.int .i64 0,.string ⟨#[]⟩,.int .i64 0,.slice none 0 0] 41)).heap.size=p0+1+1:=by simp[hp0]
 generalize (w.alloc (.cells #[.int .i64 (eo:Nat),.int .i64 (el:Nat),.int .u32 (es:Nat),.int .i64 (el2:Nat)] 108)).alloc (.cells #[.int .i64 0,.int .i64 0,.int .u32 0,.int .i64 0,.int .i64 0,.bool false,.int .i64 0,.bool false,.int .i64 0,.string ⟨#[]⟩,.bool false,.int .i64 0,.string ⟨#[]⟩,.int .i64 0,.slice none 0 0] 41)=w1 at *;rw[hp0]at Qg QD ⊢;clear hp0;have e0:=Qg.out.cell 0;have e1:=Qg.out.cell 1;have e2:=Qg.out.cell 2;simp only[List.toList_toArray,List.getElem?_cons_zero,List.getElem?_cons_succ]at e0 e1 e2;go_upto_region 2 with fail
 have hf:=Zbe (w:=w1) (C:=#[.int .i64 (eo:Nat),.int .i64 (el:Nat),.int .u32 (es:Nat),.int .i64 0,.int .i64 0,.bool false,.int .i64 0,.bool false,.int .i64 0,.string ⟨#[]⟩,.bool false,.int .i64 0,.string ⟨#[]⟩,.int .i64 0,.slice none 0 0]) (e:=41);have Qm:Hid (Row (w1.alloc (.cells #[.int .i64 (eo:Nat),.int .i64 (el:Nat),.int .u32 (es:Nat),.int .i64 0,.int .i64 0,.bool false,.int .i64 0,.bool false,.int .i64 0,.string ⟨#[]⟩,.bool false,.int .i64 0,.string ⟨#[]⟩,.int .i64 0,.slice none 0 0] 41)) (p0+1+1) 41 [.int .i64 (eo:Nat),.int .i64 (el:Nat),.int .u32 (es:Nat),.int .i64 0,.int .i64 0,.bool false,.int .i64 0,.bool false,.int .i64 0,.string ⟨#[]⟩,.bool false,.int .i64 0,.string ⟨#[]⟩,.int .i64 0,.slice none 0 0]):=hid (by have h:=hf.1;rw[hsz]at h;exact h);have YY:=hid (Qg.out.mono hf.2);have UZ:=hid (QD.out.mono hf.2);have Qb:=hid (Zac Qa.out hf.2);have YK:Hid ((w1.alloc (.cells #[.int .i64 (eo:Nat),.int .i64 (el:Nat),.int .u32 (es:Nat),.int .i64 0,.int .i64 0,.bool false,.int .i64 0,.bool false,.int .i64 0,.string ⟨#[]⟩,.bool false,.int .i64 0,.string ⟨#[]⟩,.int .i64 0,.slice none 0 0] 41)).heap.size=p0+1+1+1):=hid (by simp[hsz]);clear hf hsz Qg QD Qa e0 e1 e2;generalize w1.alloc (.cells #[.int .i64 (eo:Nat),.int .i64 (el:Nat),.int .u32 (es:Nat),.int .i64 0,.int .i64 0,.bool false,.int .i64 0,.bool false,.int .i64 0,.string ⟨#[]⟩,.bool false,.int .i64 0,.string ⟨#[]⟩,.int .i64 0,.slice none 0 0] 41)=w2 at *;have e0:=YY.out.cell 0;have e1:=YY.out.cell 1;have e3:=YY.out.cell 3;simp only[List.toList_toArray,List.getElem?_cons_zero,List.getElem?_cons_succ]at e0 e1 e3;go_upto_region 3 with fail
 go_cut [12,13]from 27 to 38 (fun s12 s13 wc=>∃(zb:Nat) (z9:ZM) (B9:Option Addr) (c9:Nat),s12=.pointer (some ⟨zb,0,none⟩)∧s13=.bool zk∧Hid (w2.heap.size≤zb)∧Hid (Row wc zb 39 (z9.vs (.slice B9 z9.bl.length c9)))∧Hid (wc.ownsRow w2.heap.size 73 1 (.slice B9 z9.bl.length c9) z9.bl.length (u64s z9.bl))∧Hid (zk=true→z9=z)∧Hid (Below w2.heap.size w2 wc))
 case first =>
  have hce:ca=q∨ca≠q:=by omega
  rcases hce with hce | hce
  ·have hx:xn≤q:=by omega
   have HP:=hid (Yq.out w2 hx);have h0:el2=0:=by omega
   subst h0;obtain rfl:q=q2:=by omega
   subst hce;go_wp2_with (go_at_call 86;refine(Zy.out _ w2 HP.out).mono ?_;rintro e w4 ⟨hb4,z9,B9,c9,rfl,ho9,heq9⟩;have Q1:=hid hb4;have Z7:=hid ho9;have Va:=hid heq9;clear hb4 ho9 heq9)
   all_goals go_meet
   have hf:=Zbe (w:=w4) (C:=#[.bool z9.rg,.int .i64 z9.nu,.bool z9.mn.n,.int .i64 z9.mn.i,.string z9.mn.s,.bool z9.mx.n,.int .i64 z9.mx.i,.string z9.mx.s,.int .i64 z9.hs,.slice B9 z9.bl.length c9]) (e:=39);exact⟨_,z9,B9,c9,rfl,rfl,hid Q1.out.size,hid hf.1,hid (Zah Z7.out hf.2),Va,hid (Zac Q1.out hf.2)⟩
  ·have HP:=hid (YX.out w2 Qb.out hce);go_wp2_with (go_at_call 86;refine(Zy.out _ w2 HP.out).mono ?_;rintro e w4 ⟨hb4,z9,B9,c9,rfl,ho9,heq9⟩;have Q1:=hid hb4;have Z7:=hid ho9;have Va:=hid heq9;clear hb4 ho9 heq9)
   all_goals go_meet
   have hf:=Zbe (w:=w4) (C:=#[.bool z9.rg,.int .i64 z9.nu,.bool z9.mn.n,.int .i64 z9.mn.i,.string z9.mn.s,.bool z9.mx.n,.int .i64 z9.mx.i,.string z9.mx.s,.int .i64 z9.hs,.slice B9 z9.bl.length c9]) (e:=39);exact⟨_,z9,B9,c9,rfl,rfl,hid Q1.out.size,hid hf.1,hid (Zah Z7.out hf.2),Va,hid (Zac Q1.out hf.2)⟩
 case rest =>
 obtain⟨zb,z9,B9,c9,rfl,rfl,HZBB,Qr,HZW,HZE,Q1⟩:=hcut;have Vb:=hid (YY.out.mono Q1.out);have Vc:=hid (UZ.out.mono Q1.out);have J6:=hid (Qm.out.mono Q1.out);have QS:=hid (Zac Qb.out Q1.out);clear e0 e1 e3 YX Yq Zy YY UZ Qm;generalize wc=w3 at *;go_upto_region 4 with fail
 have YV:=hid (fun(w':World) (hb:Below w3.heap.size w3 w')=>(show w'.cell? ⟨p0,2,none⟩=some (.int .u32 (es:Nat))∧w'.cell? ⟨p0+1+1,0,none⟩=some (.int .i64 (eo:Nat))∧w'.cell? ⟨p0+1+1,1,none⟩=some (.int .i64 (el:Nat))∧w'.cell? ⟨p0+1+1,2,none⟩=some (.int .u32 (es:Nat))∧w'.cell? ⟨p0+1+1,3,none⟩=some (.int .i64 0)∧w'.cell? ⟨p0+1+1,4,none⟩=some (.int .i64 0)∧w'.cell? ⟨p0+1+1,5,none⟩=some (.bool false)∧w'.cell? ⟨p0+1+1,6,none⟩=some (.int .i64 0)∧w'.cell? ⟨p0+1+1,7,none⟩=some (.bool false)∧w'.cell? ⟨p0+1+1,8,none⟩=some (.int .i64 0)∧w'.cell? ⟨p0+1+1,9,none⟩=some (.string ⟨#[]⟩)∧w'.cell? ⟨p0+1+1,10,none⟩=some (.bool false)∧w'.cell? ⟨p0+1+1,11,none⟩=some (.int .i64 0)∧w'.cell? ⟨p0+1+1,12,none⟩=some (.string ⟨#[]⟩)∧w'.cell? ⟨p0+1+1,13,none⟩=some (.int .i64 0)∧w'.cell? ⟨p0+1+1,14,none⟩=some (.slice none 0 0)from by
  obtain⟨y0,y1,y2,y3,y4,y5,y6,y7,y8,y9,y10,y11,y12,y13,y14⟩:=Zcs (J6.out.mono hb);have e2:=(Vb.out.mono hb).cell 2;simp only[List.toList_toArray,List.getElem?_cons_zero,List.getElem?_cons_succ]at e2;exact⟨e2,y0,y1,y2,y3,y4,y5,y6,y7,y8,y9,y10,y11,y12,y13,y14⟩))
 go_cut [49]from 39 to 49 (fun s49 wc=>s49=.bool (!(zk&&decide (cr=es)))∧Hid (Below w3.heap.size w3 wc))
 case first =>
  cases zk
  ·skip
   refine wp_region_held_drew (S:=fun w'=>Hid True) (by kernel_rfl) (by(try dsimp only);first | assumption | exact hid trivial) (fun hHeld=>?_);refine tkA (v:=?_) 0 ?_ ?_;rotate_left
   ·(intro wS hSw;(try dsimp only at hSw);go_simp;try with_reducible rfl)
   try simp only[Act.put,tk1,tk2,tk3]
   refine tkA (v:=?_) 1 ?_ ?_;rotate_left
   ·(intro wS hSw;(try dsimp only at hSw);go_simp;try with_reducible rfl)
   try simp only[Act.put,tk1,tk2,tk3]
   refine tkA (v:=?_) 2 ?_ ?_;rotate_left
   ·(intro wS hSw;(try dsimp only at hSw);go_simp;try with_reducible rfl)
   try simp only[Act.put,tk1,tk2,tk3]
   refine tkB 3 ?_
   try simp only[Act.put,tk1,tk2,tk3]
   refine tkB 4 ?_
   try simp only[Act.put,tk1,tk2,tk3]
   refine tkB 5 ?_
   try simp only[Act.put,tk1,tk2,tk3]
   refine tkB 6 ?_
   try simp only[Act.put,tk1,tk2,tk3]
   refine tkB 7 ?_
   try simp only[Act.put,tk1,tk2,tk3]
   refine tkB 8 ?_
   try simp only[Act.put,tk1,tk2,tk3]
   refine tkB 9 ?_
   try simp only[Act.put,tk1,tk2,tk3]
   refine tkA (v:=?_) 10 ?_ ?_;rotate_left
   ·(intro wS hSw;(try dsimp only at hSw);go_simp;try with_reducible rfl)
   try simp only[Act.put,tk1,tk2,tk3]
   refine wpAnyH_done (by kernel_rfl) ?_ _;clear hHeld;go_wp2_with fail
   all_goals go_meet
   exact⟨by simp,hid (Zaf (Zab _) 1)⟩
  ·have hck:=YV.out w3.drew (Zaf (Zab _) 1);refine wp_region_held_drew (S:=fun w'=>w'.cell? ⟨p0,2,none⟩=some (.int .u32 (es:Nat))∧w'.cell? ⟨p0+1+1,0,none⟩=some (.int .i64 (eo:Nat))∧w'.cell? ⟨p0+1+1,1,none⟩=some (.int .i64 (el:Nat))∧w'.cell? ⟨p0+1+1,2,none⟩=some (.int .u32 (es:Nat))∧w'.cell? ⟨p0+1+1,3,none⟩=some (.int .i64 0)∧w'.cell? ⟨p0+1+1,4,none⟩=some (.int .i64 0)∧w'.cell? ⟨p0+1+1,5,none⟩=some (.bool false)∧w'.cell? ⟨p0+1+1,6,none⟩=some (.int .i64 0)∧w'.cell? ⟨p0+1+1,7,none⟩=some (.bool false)∧w'.cell? ⟨p0+1+1,8,none⟩=some (.int .i64 0)∧w'.cell? ⟨p0+1+1,9,none⟩=some (.string ⟨#[]⟩)∧w'.cell? ⟨p0+1+1,10,none⟩=some (.bool false)∧w'.cell? ⟨p0+1+1,11,none⟩=some (.int .i64 0)∧w'.cell? ⟨p0+1+1,12,none⟩=some (.string ⟨#[]⟩)∧w'.cell? ⟨p0+1+1,13,none⟩=some (.int .i64 0)∧w'.cell? ⟨p0+1+1,14,none⟩=some (.slice none 0 0)) (by kernel_rfl) (by(try dsimp only);first | assumption | first | assumption | exact YV.out _ (Zaf (Zab _) 1) | exact YV.out _ (Zac (Zaf (Zab _) 1) hbz) | exact hHeld) (fun hHeld=>?_);refine tkA (v:=?_) 0 ?_ ?_;rotate_left
   ·(intro wS hSw;(try dsimp only at hSw);go_simp;try with_reducible rfl)
   try simp only[Act.put,tk1,tk2,tk3]
   refine tkA (v:=?_) 1 ?_ ?_;rotate_left
   ·(intro wS hSw;(try dsimp only at hSw);go_simp;try with_reducible rfl)
   try simp only[Act.put,tk1,tk2,tk3]
   refine tkA (v:=?_) 2 ?_ ?_;rotate_left
   ·(intro wS hSw;(try dsimp only at hSw);go_simp;try with_reducible rfl)
   try simp only[Act.put,tk1,tk2,tk3]
   refine tkA (v:=?_) 3 ?_ ?_;rotate_left
   ·(intro wS hSw;(try dsimp only at hSw);go_simp;try with_reducible rfl)
   try simp only[Act.put,tk1,tk2,tk3]
   refine tkA (v:=?_) 4 ?_ ?_;rotate_left
   ·(intro wS hSw;(try dsimp only at hSw);go_simp;try with_reducible rfl)
   try simp only[Act.put,tk1,tk2,tk3]
   refine tkA (v:=?_) 7 ?_ ?_;rotate_left
   ·(intro wS hSw;(try dsimp only at hSw);go_simp;try with_reducible rfl)
   try simp only[Act.put,tk1,tk2,tk3]
   refine tkA (v:=?_) 8 ?_ ?_;rotate_left
   ·(intro wS hSw;(try dsimp only at hSw);go_simp;try with_reducible rfl)
   try simp only[Act.put,tk1,tk2,tk3]
   refine wpAnyH_ready (rs:=[5]) (by kernel_rfl) (by simp) ?_;refine AllReadyH.cons (Zc6 rfl) (fun K hK=>?_) AllReadyH.nil;go_simp;go_at_call 55
   refine(ZE.out _ _ _ ⟨false,0,C3.df,C3.df,0,[]⟩ none 0 0 _ (Zaf QS.out 1)).mono ?_;rintro e wv ⟨D,dc,rfl,hrd,hbz⟩;have QW:=hid (Zac (Zaf (Zab _) 1) hbz);have Qx:=hid (hrd.mono hbz);clear hrd
   (try go_wp2_with fail)
   refine hK.out _ _ ?_ (fun hHeld2=>?_)
   ·(try dsimp only)
    first | with_reducible assumption | (first | assumption | exact YV.out _ (Zaf (Zab _) 1) | exact YV.out _ (Zac (Zaf (Zab _) 1) hbz) | exact hHeld)
   clear hK hHeld;clear K;have hHeld:=hHeld2;clear hHeld2
   try simp only[Act.put,tk1,tk2,tk3]
   refine wpAnyH_ready (rs:=[6]) (by kernel_rfl) (by simp) ?_;refine AllReadyH.cons (Zc6 rfl) (fun K hK=>?_) AllReadyH.nil;go_simp;go_at_call 16
   refine(Vo.out _ _ (Zac QS.out QW.out) Qx.out).mono ?_;rintro e wu ⟨rfl,hw⟩;replace hw:=hw.symm;subst hw
   (try go_wp2_with fail)
   refine hK.out _ _ ?_ (fun hHeld2=>?_)
   ·(try dsimp only)
    first | with_reducible assumption | (first | assumption | exact YV.out _ (Zaf (Zab _) 1) | exact YV.out _ (Zac (Zaf (Zab _) 1) hbz) | exact hHeld)
   clear hK hHeld;clear K;have hHeld:=hHeld2;clear hHeld2
   try simp only[Act.put,tk1,tk2,tk3]
   refine tkA (v:=?_) 9 ?_ ?_;rotate_left
   ·(intro wS hSw;(try dsimp only at hSw);go_simp;try with_reducible rfl)
   try simp only[Act.put,tk1,tk2,tk3]
   refine tkA (v:=?_) 10 ?_ ?_;rotate_left
   ·(intro wS hSw;(try dsimp only at hSw);go_simp;try with_reducible rfl)
   try simp only[Act.put,tk1,tk2,tk3]
   refine wpAnyH_done (by kernel_rfl) ?_ _;clear hHeld;go_wp2_with fail
   all_goals go_meet
   exact⟨by congr 1;rw[Bool.eq_iff_iff];simp;omega,QW⟩
 case rest =>
 obtain⟨rfl,QE⟩:=hcut;have ZD:=hid (Vc.out.mono QE.out);have J7:=hid (J6.out.mono QE.out);have Vd:=hid (Qr.out.mono QE.out);have YF:=hid (Zah HZW.out QE.out);have QN:=hid (Zac QS.out QE.out);have Zp:Hid (w.heap.size≤p0+1):=hid (by have:=Yo.out;omega);have HLOW:Hid (w.heap.size≤w2.heap.size):=hid Qb.out.size;clear YV Vc J6 Vb Vo UY YT;obtain⟨b4,hb4⟩:∃ b4,(zk&&decide (cr=es))=b4:=⟨_,rfl⟩;have Qz:=hid hb4;rw[hb4];clear hb4;obtain⟨f0,f1,f2,f3,f4,f5,f6,f7,f8,f9,f10,f11,f12,f13,f14⟩:=Zgx ZD.out;obtain⟨y0,y1,y2,y3,y4,y5,y6,y7,y8,y9,y10,y11,y12,y13,y14⟩:=Zcs ZD.out;cases b4
 ·have Q8:Hid ((zk&&(decide (cr=es)&&sk))=false):=hid (by rw[← Bool.and_assoc,Qz.out];rfl);go_wp2_with fail
  change bodyPost _ _ _ _ _ (Zdn wc (p0+1) (.int .i64 0) (.int .i64 0) (.int .u32 0) (.int .i64 0) (.int .i64 0) (.bool false) (.int .i64 0) (.bool false) (.int .i64 0) (.string ⟨#[]⟩) (.bool false) (.int .i64 0) (.string ⟨#[]⟩) (.int .i64 0) (.slice none 0 0))
  have R9:=Zcy ZD.out (.int .i64 0) (.int .i64 0) (.int .u32 0) (.int .i64 0) (.int .i64 0) (.bool false) (.int .i64 0) (.bool false) (.int .i64 0) (.string ⟨#[]⟩) (.bool false) (.int .i64 0) (.string ⟨#[]⟩) (.int .i64 0) (.slice none 0 0);have hbl:=Zb2 QN.out Zp.out (.int .i64 0) (.int .i64 0) (.int .u32 0) (.int .i64 0) (.int .i64 0) (.bool false) (.int .i64 0) (.bool false) (.int .i64 0) (.string ⟨#[]⟩) (.bool false) (.int .i64 0) (.string ⟨#[]⟩) (.int .i64 0) (.slice none 0 0);clear y0 y1 y2 y3 y4 y5 y6 y7 y8 y9 y10 y11 y12 y13 y14 f0 f1 f2 f3 f4 f5 f6 f7 f8 f9 f10 f11 f12 f13 f14;generalize Zdn wc (p0+1) (.int .i64 0) (.int .i64 0) (.int .u32 0) (.int .i64 0) (.int .i64 0) (.bool false) (.int .i64 0) (.bool false) (.int .i64 0) (.string ⟨#[]⟩) (.bool false) (.int .i64 0) (.string ⟨#[]⟩) (.int .i64 0) (.slice none 0 0)=wz at *;obtain⟨q_0,q_1,q_2,q_3,q_4,q_5,q_6,q_7,q_8,q_9,q_10,q_11,q_12,q_13,q_14⟩:=Zcs R9;refine bodyPost_ret (v:=.tuple #[Zig,.bool false]) ?_ rfl ?_
  ·simp[results,Tryz.results47,go_sem,q_0,q_1,q_2,q_3,q_4,q_5,q_6,q_7,q_8,q_9,q_10,q_11,q_12,q_13,q_14]
  ·exact Qc.out Q8.out _ hbl
 ·have h4:=Qz.out;simp only[Bool.and_eq_true,decide_eq_true_eq]at h4;obtain⟨rfl,rfl⟩:=h4;have hz9:z=z9:=(HZE.out rfl).symm;subst hz9;simp only[decide_true,Bool.true_and]at Qc Qf;clear y0 y1 y2 y3 y4 y5 y6 y7 y8 y9 y10 y11 y12 y13 y14 f0 f1 f2 f3 f4 f5 f6 f7 f8 f9 f10 f11 f12 f13 f14;obtain⟨z0,z1,z2,z3,z4,z5,z6,z7,z8,z9⟩:=Za6 Vd.out;obtain⟨f0,f1,f2,f3,f4,f5,f6,f7,f8,f9,f10,f11,f12,f13,f14⟩:=Zgx J7.out;obtain⟨y0,y1,y2,y3,y4,y5,y6,y7,y8,y9,y10,y11,y12,y13,y14⟩:=Zcs J7.out;obtain⟨w5,hw5⟩:∃ w5,setZ wc (p0+1+1) (.bool z.rg) (.int .i64 z.nu) (.bool z.mn.n) (.int .i64 z.mn.i) (.string z.mn.s) (.bool z.mx.n) (.int .i64 z.mx.i) (.string z.mx.s) (.int .i64 z.hs) (.slice B9 z.bl.length c9)=w5:=⟨_,rfl⟩;have HRn:Hid (Row w5 (p0+1+1) 41 [.int .i64 (eo:Nat),.int .i64 (el:Nat),.int .u32 (cr:Nat),.int .i64 0,.int .i64 0,.bool z.rg,.int .i64 z.nu,.bool z.mn.n,.int .i64 z.mn.i,.string z.mn.s,.bool z.mx.n,.int .i64 z.mx.i,.string z.mx.s,.int .i64 z.hs,.slice B9 z.bl.length c9]):=hid (by rw[← hw5];exact Zue J7.out (.bool z.rg) (.int .i64 z.nu) (.bool z.mn.n) (.int .i64 z.mn.i) (.string z.mn.s) (.bool z.mx.n) (.int .i64 z.mx.i) (.string z.mx.s) (.int .i64 z.hs) (.slice B9 z.bl.length c9));have hchg:Chg (p0+1+1) (p0+1+1) wc w5:=by rw[← hw5];exact Zug wc (p0+1+1) (.bool z.rg) (.int .i64 z.nu) (.bool z.mn.n) (.int .i64 z.mn.i) (.string z.mn.s) (.bool z.mx.n) (.int .i64 z.mx.i) (.string z.mx.s) (.int .i64 z.hs) (.slice B9 z.bl.length c9)
  have HW5:=hid hw5;have HR1n:=hid (hchg.row ZD.out (by omega) (by omega));have HO6n:=hid (Zcp YF.out hchg (fun k hk=>by have:=(YF.out.lt k hk).1;have:=YK.out;omega));have HBn:=hid (hchg.below QN.out QN.out.size (by have:=Yo.out;omega) (by have:=Yo.out;omega));clear hchg hw5;go_upto_region 7 with fail
  change Code.wp _ _ _ _ (setZ wc (p0+1+1) (.bool z.rg) (.int .i64 z.nu) (.bool z.mn.n) (.int .i64 z.mn.i) (.string z.mn.s) (.bool z.mx.n) (.int .i64 z.mx.i) (.string z.mx.s) (.int .i64 z.hs) (.slice B9 z.bl.length c9))
  rw[HW5.out];clear y0 y1 y2 y3 y4 y5 y6 y7 y8 y9 y10 y11 y12 y13 y14 f0 f1 f2 f3 f4 f5 f6 f7 f8 f9 f10 f11 f12 f13 f14 z0 z1 z2 z3 z4 z5 z6 z7 z8 z9;have hdw:Below w5.heap.size w5 w5.drew:=Zaf (Zab w5) 1;have J8:=hid (HR1n.out.mono hdw);have Ql:Hid (Below w.heap.size w w5.drew):=hid (Zaf HBn.out 1);have ZN:=hid (Zah HO6n.out hdw);have HDW:=hid hdw;clear hdw;have Q2:=hid (fun(w':World) (hb:Below w5.drew.heap.size w5.drew w')=>(show w'.cell? ⟨p0+1+1,0,none⟩=some (.int .i64 (eo:Nat))∧w'.cell? ⟨p0+1+1,1,none⟩=some (.int .i64 (el:Nat))∧w'.cell? ⟨p0+1+1,2,none⟩=some (.int .u32 (cr:Nat))∧w'.cell? ⟨p0+1+1,3,none⟩=some (.int .i64 0)∧w'.cell? ⟨p0+1+1,4,none⟩=some (.int .i64 0)∧w'.cell? ⟨p0+1+1,5,none⟩=some (.bool z.rg)∧w'.cell? ⟨p0+1+1,6,none⟩=some (.int .i64 z.nu)∧w'.cell? ⟨p0+1+1,7,none⟩=some (.bool z.mn.n)∧w'.cell? ⟨p0+1+1,8,none⟩=some (.int .i64 z.mn.i)∧w'.cell? ⟨p0+1+1,9,none⟩=some (.string z.mn.s)∧w'.cell? ⟨p0+1+1,10,none⟩=some (.bool z.mx.n)∧w'.cell? ⟨p0+1+1,11,none⟩=some (.int .i64 z.mx.i)∧w'.cell? ⟨p0+1+1,12,none⟩=some (.string z.mx.s)∧w'.cell? ⟨p0+1+1,13,none⟩=some (.int .i64 z.hs)∧w'.cell? ⟨p0+1+1,14,none⟩=some (.slice B9 z.bl.length c9)from by
   obtain⟨y0,y1,y2,y3,y4,y5,y6,y7,y8,y9,y10,y11,y12,y13,y14⟩:=Zcs (HRn.out.mono (Zac HDW.out hb));exact⟨y0,y1,y2,y3,y4,y5,y6,y7,y8,y9,y10,y11,y12,y13,y14⟩))
  have hne:p0+1+1≠p0+1:=by omega
  have hck:=Q2.out _ (Zab _);have hk1:=Zw.out;subst hk1;obtain⟨i0,i1,i2,i3,i4,t5,i6,t7,i8,s9,t10,i11,s12,i13,D14,d14,e14,hLB⟩:∃(i0 i1 i2 i3 i4:Int) (t5:Bool) (i6:Int) (t7:Bool) (i8:Int) (s9:ByteArray) (t10:Bool) (i11:Int) (s12:ByteArray) (i13:Int) (D14:Option Addr) (d14 e14:Nat),LB (.slice B9 z.bl.length c9)=.tuple #[.agg #[.int .i64 i0,.int .i64 i1,.int .u32 i2,.int .i64 i3,.int .i64 i4,.bool t5,.int .i64 i6,.bool t7,.int .i64 i8,.string s9,.bool t10,.int .i64 i11,.string s12,.int .i64 i13,.slice D14 d14 e14],.bool sk]:=by
   have h:=ZI.out (.slice B9 z.bl.length c9);cases sk
   ·exact⟨0,0,0,0,0,false,0,false,0,⟨#[]⟩,false,0,⟨#[]⟩,0,none,0,0,h⟩
   ·exact⟨_,_,_,_,_,_,_,_,_,_,_,_,_,_,_,_,_,h⟩
  have HLBE:=hid hLB;go_upto_region 8 with fail
  refine wp_region_held_drew (S:=fun w'=>w'.cell? ⟨p0+1+1,0,none⟩=some (.int .i64 (eo:Nat))∧w'.cell? ⟨p0+1+1,1,none⟩=some (.int .i64 (el:Nat))∧w'.cell? ⟨p0+1+1,2,none⟩=some (.int .u32 (cr:Nat))∧w'.cell? ⟨p0+1+1,3,none⟩=some (.int .i64 0)∧w'.cell? ⟨p0+1+1,4,none⟩=some (.int .i64 0)∧w'.cell? ⟨p0+1+1,5,none⟩=some (.bool z.rg)∧w'.cell? ⟨p0+1+1,6,none⟩=some (.int .i64 z.nu)∧w'.cell? ⟨p0+1+1,7,none⟩=some (.bool z.mn.n)∧w'.cell? ⟨p0+1+1,8,none⟩=some (.int .i64 z.mn.i)∧w'.cell? ⟨p0+1+1,9,none⟩=some (.string z.mn.s)∧w'.cell? ⟨p0+1+1,10,none⟩=some (.bool z.mx.n)∧w'.cell? ⟨p0+1+1,11,none⟩=some (.int .i64 z.mx.i)∧w'.cell? ⟨p0+1+1,12,none⟩=some (.string z.mx.s)∧w'.cell? ⟨p0+1+1,13,none⟩=some (.int .i64 z.hs)∧w'.cell? ⟨p0+1+1,14,none⟩=some (.slice B9 z.bl.length c9)) (by kernel_rfl) (by(try dsimp only);first | assumption | first | exact hSET10 _ rfl | with_reducible exact Q2.out _ Q7.out | with_reducible exact Q2.out _ QW.out | with_reducible exact Q2.out _ (Zab _)) (fun hHeld=>?_);refine tkA (v:=?_) 0 ?_ ?_;rotate_left
  ·(intro wS hSw;(try dsimp only at hSw);go_simp;try with_reducible rfl)
  try simp only[Act.put,tk1,tk2,tk3]
  refine tkA (v:=?_) 1 ?_ ?_;rotate_left
  ·(intro wS hSw;(try dsimp only at hSw);go_simp;try with_reducible rfl)
  try simp only[Act.put,tk1,tk2,tk3]
  refine tkA (v:=?_) 2 ?_ ?_;rotate_left
  ·(intro wS hSw;(try dsimp only at hSw);go_simp;try with_reducible rfl)
  try simp only[Act.put,tk1,tk2,tk3]
  refine tkA (v:=?_) 3 ?_ ?_;rotate_left
  ·(intro wS hSw;(try dsimp only at hSw);go_simp;try with_reducible rfl)
  try simp only[Act.put,tk1,tk2,tk3]
  refine tkA (v:=?_) 4 ?_ ?_;rotate_left
  ·(intro wS hSw;(try dsimp only at hSw);go_simp;try with_reducible rfl)
  try simp only[Act.put,tk1,tk2,tk3]
  refine tkA (v:=?_) 6 ?_ ?_;rotate_left
  ·(intro wS hSw;(try dsimp only at hSw);go_simp;try with_reducible rfl)
  try simp only[Act.put,tk1,tk2,tk3]
  refine wpAnyH_ready (rs:=[5]) (by kernel_rfl) (by simp) ?_;refine AllReadyH.cons (Zc6 rfl) (fun K hK=>?_) AllReadyH.nil;go_simp;go_at_call 55
  refine(ZE.out _ _ _ z B9 _ c9 _ Ql.out).mono ?_;rintro e wv ⟨D,dc,rfl,hrd,hbz⟩;have QW:=hid hbz;have Qx:=hid (hrd.mono hbz);clear hrd
  (try go_wp2_with fail)
  refine hK.out _ _ ?_ (fun hHeld2=>?_)
  ·(try dsimp only)
   first | with_reducible assumption | (first | exact hSET10 _ rfl | with_reducible exact Q2.out _ Q7.out | with_reducible exact Q2.out _ QW.out | with_reducible exact Q2.out _ (Zab _))
  clear hK hHeld;clear K;have hHeld:=hHeld2;clear hHeld2
  try simp only[Act.put,tk1,tk2,tk3]
  refine wpAnyH_ready (rs:=[7]) (by kernel_rfl) (by simp) ?_;refine AllReadyH.cons (Zc6 rfl) (fun K hK=>?_) AllReadyH.nil;go_simp;go_at_call 87
  refine(UR.out (by first | rfl | trivial) (by first | rfl | trivial) _ _ _ B9 c9 _ (Zac Ql.out QW.out) Qx.out (Zby (Zah ZN.out QW.out))).mono ?_;rintro e wu ⟨hby,rfl⟩;have Q7:=hid (Zac QW.out hby);rw[hLB];obtain⟨y0,y1,y2,y3,y4,y5,y6,y7,y8,y9,y10,y11,y12,y13,y14⟩:=Zcs (J8.out.mono Q7.out);obtain⟨f0,f1,f2,f3,f4,f5,f6,f7,f8,f9,f10,f11,f12,f13,f14⟩:=Zgx (J8.out.mono Q7.out)
  (try go_wp2_with fail)
  refine hK.out _ _ ?_ (fun hHeld2=>?_)
  ·(try dsimp only)
   first | with_reducible assumption | (first | exact hSET10 _ rfl | with_reducible exact Q2.out _ Q7.out | with_reducible exact Q2.out _ QW.out | with_reducible exact Q2.out _ (Zab _))
  clear hK hHeld;clear K;have hHeld:=hHeld2;clear hHeld2
  try simp only[Act.put,tk1,tk2,tk3]
  refine tkA (v:=?_) 8 ?_ ?_;rotate_left
  ·(intro wS hSw;(try dsimp only at hSw);go_simp;try with_reducible rfl)
  try simp only[Act.put,tk1,tk2,tk3]
  refine tkA (v:=?_) 9 ?_ ?_;rotate_left
  ·(intro wS hSw;(try dsimp only at hSw);go_simp;try with_reducible rfl)
  try simp only[Act.put,tk1,tk2,tk3]
  refine wpAnyH_ready (rs:=[10]) (by kernel_rfl) (by simp) ?_;refine AllReadyH.cons (Zc6 rfl) (fun K hK=>?_) AllReadyH.nil;go_simp;have P0:=fun i=>Zh7 wu (p0+1) (p0+1+1) i (.int .i64 i0) (.int .i64 i1) (.int .u32 i2) (.int .i64 i3) (.int .i64 i4) (.bool t5) (.int .i64 i6) (.bool t7) (.int .i64 i8) (.string s9) (.bool t10) (.int .i64 i11) (.string s12) (.int .i64 i13) (.slice D14 d14 e14) hne
  have hSET10:∀ ws:World,ws=Zdn wu (p0+1) (.int .i64 i0) (.int .i64 i1) (.int .u32 i2) (.int .i64 i3) (.int .i64 i4) (.bool t5) (.int .i64 i6) (.bool t7) (.int .i64 i8) (.string s9) (.bool t10) (.int .i64 i11) (.string s12) (.int .i64 i13) (.slice D14 d14 e14)→(ws.cell? ⟨p0+1+1,0,none⟩=some (.int .i64 (eo:Nat))∧ws.cell? ⟨p0+1+1,1,none⟩=some (.int .i64 (el:Nat))∧ws.cell? ⟨p0+1+1,2,none⟩=some (.int .u32 (cr:Nat))∧ws.cell? ⟨p0+1+1,3,none⟩=some (.int .i64 0)∧ws.cell? ⟨p0+1+1,4,none⟩=some (.int .i64 0)∧ws.cell? ⟨p0+1+1,5,none⟩=some (.bool z.rg)∧ws.cell? ⟨p0+1+1,6,none⟩=some (.int .i64 z.nu)∧ws.cell? ⟨p0+1+1,7,none⟩=some (.bool z.mn.n)∧ws.cell? ⟨p0+1+1,8,none⟩=some (.int .i64 z.mn.i)∧ws.cell? ⟨p0+1+1,9,none⟩=some (.string z.mn.s)∧ws.cell? ⟨p0+1+1,10,none⟩=some (.bool z.mx.n)∧ws.cell? ⟨p0+1+1,11,none⟩=some (.int .i64 z.mx.i)∧ws.cell? ⟨p0+1+1,12,none⟩=some (.string z.mx.s)∧ws.cell? ⟨p0+1+1,13,none⟩=some (.int .i64 z.hs)∧ws.cell? ⟨p0+1+1,14,none⟩=some (.slice B9 z.bl.length c9)):=by
   rintro ws rfl;exact⟨(P0 0).trans (Q2.out _ Q7.out).1,(P0 1).trans (Q2.out _ Q7.out).2.1,(P0 2).trans (Q2.out _ Q7.out).2.2.1,(P0 3).trans (Q2.out _ Q7.out).2.2.2.1,(P0 4).trans (Q2.out _ Q7.out).2.2.2.2.1,(P0 5).trans (Q2.out _ Q7.out).2.2.2.2.2.1,(P0 6).trans (Q2.out _ Q7.out).2.2.2.2.2.2.1,(P0 7).trans (Q2.out _ Q7.out).2.2.2.2.2.2.2.1,(P0 8).trans (Q2.out _ Q7.out).2.2.2.2.2.2.2.2.1,(P0 9).trans (Q2.out _ Q7.out).2.2.2.2.2.2.2.2.2.1,(P0 10).trans (Q2.out _ Q7.out).2.2.2.2.2.2.2.2.2.2.1,(P0 11).trans (Q2.out _ Q7.out).2.2.2.2.2.2.2.2.2.2.2.1,(P0 12).trans (Q2.out _ Q7.out).2.2.2.2.2.2.2.2.2.2.2.2.1,(P0 13).trans (Q2.out _ Q7.out).2.2.2.2.2.2.2.2.2.2.2.2.2.1,(P0 14).trans (Q2.out _ Q7.out).2.2.2.2.2.2.2.2.2.2.2.2.2.2⟩
  clear P0;refine hK.out _ _ ?_ (fun hHeld2=>?_)
  ·(try dsimp only)
   first | with_reducible assumption | (first | exact hSET10 _ rfl | with_reducible exact Q2.out _ Q7.out | with_reducible exact Q2.out _ QW.out | with_reducible exact Q2.out _ (Zab _))
  clear hK hHeld;clear K;have hHeld:=hHeld2;clear hHeld2
  try simp only[Act.put,tk1,tk2,tk3]
  refine tkA (v:=?_) 11 ?_ ?_;rotate_left
  ·(intro wS hSw;(try dsimp only at hSw);go_simp;try with_reducible rfl)
  try simp only[Act.put,tk1,tk2,tk3]
  refine wpAnyH_done (by kernel_rfl) ?_ _;clear hHeld;go_wp2_with fail
  change bodyPost _ _ _ _ _ (Zdn wu (p0+1) (.int .i64 i0) (.int .i64 i1) (.int .u32 i2) (.int .i64 i3) (.int .i64 i4) (.bool t5) (.int .i64 i6) (.bool t7) (.int .i64 i8) (.string s9) (.bool t10) (.int .i64 i11) (.string s12) (.int .i64 i13) (.slice D14 d14 e14))
  have R9:=Zcy (J8.out.mono Q7.out) (.int .i64 i0) (.int .i64 i1) (.int .u32 i2) (.int .i64 i3) (.int .i64 i4) (.bool t5) (.int .i64 i6) (.bool t7) (.int .i64 i8) (.string s9) (.bool t10) (.int .i64 i11) (.string s12) (.int .i64 i13) (.slice D14 d14 e14);have hbl:=Zb2 (Zac Ql.out Q7.out) Zp.out (.int .i64 i0) (.int .i64 i1) (.int .u32 i2) (.int .i64 i3) (.int .i64 i4) (.bool t5) (.int .i64 i6) (.bool t7) (.int .i64 i8) (.string s9) (.bool t10) (.int .i64 i11) (.string s12) (.int .i64 i13) (.slice D14 d14 e14);clear y0 y1 y2 y3 y4 y5 y6 y7 y8 y9 y10 y11 y12 y13 y14 f0 f1 f2 f3 f4 f5 f6 f7 f8 f9 f10 f11 f12 f13 f14;have hch:=Zl7 wu (p0+1) (.int .i64 i0) (.int .i64 i1) (.int .u32 i2) (.int .i64 i3) (.int .i64 i4) (.bool t5) (.int .i64 i6) (.bool t7) (.int .i64 i8) (.string s9) (.bool t10) (.int .i64 i11) (.string s12) (.int .i64 i13) (.slice D14 d14 e14);have HOz:=hid (Zbc (Zcp (Zah ZN.out Q7.out) hch (fun k hk=>by have h1:=(ZN.out.lt k hk).1;have h2:=YK.out;omega)) HLOW.out);clear hch;generalize Zdn wu (p0+1) (.int .i64 i0) (.int .i64 i1) (.int .u32 i2) (.int .i64 i3) (.int .i64 i4) (.bool t5) (.int .i64 i6) (.bool t7) (.int .i64 i8) (.string s9) (.bool t10) (.int .i64 i11) (.string s12) (.int .i64 i13) (.slice D14 d14 e14)=wz at *;obtain⟨q_0,q_1,q_2,q_3,q_4,q_5,q_6,q_7,q_8,q_9,q_10,q_11,q_12,q_13,q_14⟩:=Zcs R9;refine bodyPost_ret (v:=.tuple #[.agg #[.int .i64 i0,.int .i64 i1,.int .u32 i2,.int .i64 i3,.int .i64 i4,.bool t5,.int .i64 i6,.bool t7,.int .i64 i8,.string s9,.bool t10,.int .i64 i11,.string s12,.int .i64 i13,.slice D14 d14 e14],.bool sk]) ?_ rfl ?_
  ·simp[results,Tryz.results47,go_sem,q_0,q_1,q_2,q_3,q_4,q_5,q_6,q_7,q_8,q_9,q_10,q_11,q_12,q_13,q_14]
  ·rw[← HLBE.out,ZI.out];cases sk
   ·exact Qc.out (by first | rfl | trivial | simp) _ hbl
   ·exact Qf.out (by first | rfl | trivial | simp) _ hbl B9 c9 HOz.out
end Go.Proofs.YtmcjknjlihgihaaGreatDoor
