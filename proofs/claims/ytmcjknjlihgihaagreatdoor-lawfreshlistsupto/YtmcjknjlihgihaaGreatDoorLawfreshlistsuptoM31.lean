/- Package format: lookChunk (what its walks share). -/
import Derived.Test.YtmcjknjlihgihaaGreatDoorLawfreshlistsuptoM29
import Derived.Test.YtmcjknjlihgihaaGreatDoorLawfreshlistsuptoM30
set_option linter.unusedVariables false
set_option linter.unusedSimpArgs false
set_option linter.unnecessarySimpa false
set_option maxRecDepth 100000
namespace Go.Proofs.YtmcjknjlihgihaaGreatDoor
open Go.RowKit
def Zrw (rows:Nat) (xs:List Nat):List ByteArray:=yv_S (Zaa rows xs).codec (Zaa rows xs).wd (Zan rows xs).list (Zan rows xs).ends (Zcv rows xs) (Zan rows xs).lanes (Zbd rows (Zaa rows xs).nulls)
def Zo9 (rows:Nat) (xs:List Nat) (z:ZM):Bool:=Zc3 rows xs&&Zru z rows (Zbd rows (Zaa rows xs).nulls) (Zrw rows xs)
theorem Zw2 (rows:Nat) (xs:List Nat) (z:ZM) (hb:∀ x∈xs,x<256) (hl:xs.length≤16777216) (hrr:rows≤65536) (hok:Zc3 rows xs=true) (w:World) (g:Nat) (B:Option Addr) (bc:Nat)
  (hk:Ck_S w g rows (Zaa rows xs).codec (Zaa rows xs).wd (Zaa rows xs).nulls (Zbd rows (Zaa rows xs).nulls) (Zan rows xs).list (Zan rows xs).ends (Zcv rows xs) (Zan rows xs).lanes)
  (hbr:Rd w (.slice B z.bl.length bc) z.bl.length 1 (u64s z.bl)) (hbv:∀ x∈z.bl,x<18446744073709551616) (hbl:z.bl.length≤64) (hhs:0≤z.hs∧z.hs≤8) :
  Calls Tryz.prog 127 #[.iface 157 (.agg #[]),.pointer (some ⟨g,0,none⟩),z.v (.slice B z.bl.length bc)] w fun e w' =>
   e=.returned (.bool (Zru z rows (Zbd rows (Zaa rows xs).nulls) (Zrw rows xs)))∧Below w.heap.size w w':=by
 have hV:=Zof rows xs hb hl hrr hok;have hw64:=Z01 rows xs hb hl hrr hok;have hk6:Zbd rows (Zaa rows xs).nulls≤65536:=by unfold Zbd;omega
 refine Zw4 w g rows _ _ _ _ _ _ _ _ z B bc hk hV.el hV.ll hV.lv hw64 hk6 hrr hV.ok (fun h2 j hj=>?_) hbr hbv hbl hhs ?_
 ·have:=hV.ok j hj;rw[h2]at this;unfold Zkz ok_S at this;rcases this with ⟨h9,_⟩ | ⟨_,h5,_,h6⟩ | ⟨h9,_⟩
  ·omega
  ·exact⟨h5,h6⟩
  ·omega
 ·skip
  exact Z02 _ _ _ _ _ _ _ (Zub rows xs) hV.ok
set_option maxHeartbeats 8000000 in
theorem Zui (w:World) (v:Value) (xs:List Nat) (rows:Nat) (o l sm:Int) (cd wd:Int) (z:ZM) (B:Option Addr) (bc:Nat) (hT:Tab w) (hv:Rd w v xs.length 1 (u8s xs)) (hb:∀ x∈xs,x<256) (hl:xs.length≤16777216) (hrr:rows≤65536)
  (hbr:Rd w (.slice B z.bl.length bc) z.bl.length 1 (u64s z.bl)) (hbv:∀ x∈z.bl,x<18446744073709551616) (hbl:z.bl.length≤64) (hhs:0≤z.hs∧z.hs≤8) :
  Calls Tryz.prog 87 #[.iface 157 (.agg #[]),.int .i64 rows,v,.agg #[.int .i64 o,.int .i64 l,.int .u32 sm,.int .i64 cd,.int .i64 wd,.bool z.rg,.int .i64 z.nu,.bool z.mn.n,.int .i64 z.mn.i,.string z.mn.s,.bool z.mx.n,.int .i64 z.mx.i,.string z.mx.s,.int .i64 z.hs,.slice B z.bl.length bc]] w fun e w' =>
   Below w.heap.size w w'∧e=.returned (if Zo9 rows xs z=true then .tuple #[.agg #[.int .i64 o,.int .i64 l,.int .u32 sm,.int .i64 (Zaa rows xs).codec,.int .i64 (Zaa rows xs).wd,.bool z.rg,.int .i64 z.nu,.bool z.mn.n,.int .i64 z.mn.i,.string z.mn.s,.bool z.mx.n,.int .i64 z.mx.i,.string z.mx.s,.int .i64 z.hs,.slice B z.bl.length bc],.bool true]
    else .tuple #[.agg #[.int .i64 0,.int .i64 0,.int .u32 0,.int .i64 0,.int .i64 0,.bool false,.int .i64 0,.bool false,.int .i64 0,.string ⟨#[]⟩,.bool false,.int .i64 0,.string ⟨#[]⟩,.int .i64 0,.slice none 0 0],.bool false]):=by
 have HLK:=hid (fun w2 (hb2:Below w.heap.size w w2)=>Z1e w2 v xs rows (hT.mono hb2 hT.lt) (hv.mono hb2) hb hl hrr);have ZT:=hid (fun(w2:World) (g:Nat) (hb2:Below w.heap.size w w2) (hh:Zc3 rows xs=true)=>fun hk=>Zw2 rows xs z hb hl hrr hh w2 g B bc hk (hbr.mono hb2) hbv hbl hhs);obtain⟨A0,c0,rfl,_,_,_⟩:=hv.form;have Js:=hid (fun(w2:World) (nu lv ev nv bef:Value)=>@Zxv w2 rows xs nu lv ev nv bef);unfold Zo9;generalize Zru z rows (Zbd rows (Zaa rows xs).nulls) (Zrw rows xs)=SO at *;generalize Zc3 rows xs=OK at *;generalize Zan rows xs=O at *;generalize Zcv rows xs=bs at *;generalize Zaa rows xs=H at *;obtain⟨rg,nu,mn,mx,hs,bl⟩:=z;simp only at ZT;unfold ZM.v at ZT;simp only at ZT ⊢;generalize bl.length=bn at *;clear hT hv hbr hbv hbl hhs;obtain⟨ANS,hANS⟩:∃ ANS,(if (OK&&SO)=true then Value.tuple #[.agg #[.int .i64 o,.int .i64 l,.int .u32 sm,.int .i64 H.codec,.int .i64 H.wd,.bool rg,.int .i64 nu,.bool mn.n,.int .i64 mn.i,.string mn.s,.bool mx.n,.int .i64 mx.i,.string mx.s,.int .i64 hs,.slice B bn bc],.bool true]
    else .tuple #[.agg #[.int .i64 0,.int .i64 0,.int .u32 0,.int .i64 0,.int .i64 0,.bool false,.int .i64 0,.bool false,.int .i64 0,.string ⟨#[]⟩,.bool false,.int .i64 0,.string ⟨#[]⟩,.int .i64 0,.slice none 0 0],.bool false])=ANS:=⟨_,rfl⟩
 rw[hANS];have Qm:=hid hANS;clear hANS;go_enter Tryz.func87,Tryz.ntmps87;go_upto_region 1 with fail
 obtain⟨w1,hw1⟩:∃ w1,(w.alloc (.cells #[.int .i64 o,.int .i64 l,.int .u32 sm,.int .i64 cd,.int .i64 wd,.bool rg,.int .i64 nu,.bool mn.n,.int .i64 mn.i,.string mn.s,.bool mx.n,.int .i64 mx.i,.string mx.s,.int .i64 hs,.slice B bn bc] 41)).alloc (.cells #[.int .i64 0,.int .i64 0,.int .u32 0,.int .i64 0,.int .i64 0,.bool false,.int .i64 0,.bool false,.int .i64 0,.string ⟨#[]⟩,.bool false,.int .i64 0,.string ⟨#[]⟩,.int .i64 0,.slice none 0 0] 41)=w1:=⟨_,rfl⟩;obtain⟨s,hsz⟩:∃ s,w.heap.size=s:=⟨_,rfl⟩;have HR:Hid (Row w1 s 41 [.int .i64 o,.int .i64 l,.int .u32 sm,.int .i64 cd,.int .i64 wd,.bool rg,.int .i64 nu,.bool mn.n,.int .i64 mn.i,.string mn.s,.bool mx.n,.int .i64 mx.i,.string mx.s,.int .i64 hs,.slice B bn bc]∧Row w1 (s+1) 41 [.int .i64 0,.int .i64 0,.int .u32 0,.int .i64 0,.int .i64 0,.bool false,.int .i64 0,.bool false,.int .i64 0,.string ⟨#[]⟩,.bool false,.int .i64 0,.string ⟨#[]⟩,.int .i64 0,.slice none 0 0]∧Below w.heap.size w w1∧w1.heap.size=s+2):=hid (by
  have f1:=Zbs (w:=w) (C:=#[.int .i64 o,.int .i64 l,.int .u32 sm,.int .i64 cd,.int .i64 wd,.bool rg,.int .i64 nu,.bool mn.n,.int .i64 mn.i,.string mn.s,.bool mx.n,.int .i64 mx.i,.string mx.s,.int .i64 hs,.slice B bn bc]) (e:=41);have f2:=Zbs (w:=w.alloc (.cells #[.int .i64 o,.int .i64 l,.int .u32 sm,.int .i64 cd,.int .i64 wd,.bool rg,.int .i64 nu,.bool mn.n,.int .i64 mn.i,.string mn.s,.bool mx.n,.int .i64 mx.i,.string mx.s,.int .i64 hs,.slice B bn bc] 41)) (C:=#[.int .i64 0,.int .i64 0,.int .u32 0,.int .i64 0,.int .i64 0,.bool false,.int .i64 0,.bool false,.int .i64 0,.string ⟨#[]⟩,.bool false,.int .i64 0,.string ⟨#[]⟩,.int .i64 0,.slice none 0 0]) (e:=41);rw[hw1]at f2;have r1:=f1.1.mono f2.2;have r2:=f2.1;simp only[World.size_alloc,hsz]at r1 r2;refine⟨r1,r2,Zad f1.2 f2.2,?_⟩;rw[← hw1];simp[hsz])
 rw[hw1];have QY:=hid hsz;clear hw1;rw[hsz];clear hsz;have Vg:=hid (HLK.out w1 HR.out.2.2.1);clear HLK;go_wp2_with fail
 refine Vg.out.mono ?_;rintro e w2 ⟨hb2,⟨rfl,rfl⟩ | ⟨rfl,nu2,lv,ev,nv,bef,rfl,h1,h2,h3,h4,h5⟩⟩
 ·have hb3:Below w2.heap.size w2 (w2.alloc (.cells Zaz.toArray 198)):=(Zab w2).alloc (Nat.le_refl _) _;have hz1:=HR.out.2.2.2;have hz2:=hb2.size;have R2:=(HR.out.2.1.mono hb2).mono hb3;have Zu:=hid (Zad (Zad HR.out.2.2.1 hb2) hb3);have HA:Hid (ANS=.tuple #[.agg #[.int .i64 0,.int .i64 0,.int .u32 0,.int .i64 0,.int .i64 0,.bool false,.int .i64 0,.bool false,.int .i64 0,.string ⟨#[]⟩,.bool false,.int .i64 0,.string ⟨#[]⟩,.int .i64 0,.slice none 0 0],.bool false]):=hid (by rw[← Qm.out];simp);clear hb2 hb3 ZT Js Qm Vg;unfold Zaz i64 nilS at *;go_upto_region 2 with fail
  generalize w2.alloc (.cells #[.int .i64 0,.int .i64 0,.int .i64 0,.slice none 0 0,.int .i64 0,.slice none 0 0,.slice none 0 0,.int .i64 0,.slice none 0 0,.nilIface,.slice none 0 0] 198)=w3 at *;obtain⟨y0,y1,y2,y3,y4,y5,y6,y7,y8,y9,y10,y11,y12,y13,y14⟩:=Zch R2;obtain⟨f0,f1,f2,f3,f4,f5,f6,f7,f8,f9,f10,f11,f12,f13,f14⟩:=Zf4 R2;have Qq:=hid R2;clear R2;go_wp2_with fail
  change bodyPost _ _ _ _ _ (Zar w3 (s+1) (.int .i64 0) (.int .i64 0) (.int .u32 0) (.int .i64 0) (.int .i64 0) (.bool false) (.int .i64 0) (.bool false) (.int .i64 0) (.string ⟨#[]⟩) (.bool false) (.int .i64 0) (.string ⟨#[]⟩) (.int .i64 0) (.slice none 0 0))
  have R9:=Zci Qq.out (.int .i64 0) (.int .i64 0) (.int .u32 0) (.int .i64 0) (.int .i64 0) (.bool false) (.int .i64 0) (.bool false) (.int .i64 0) (.string ⟨#[]⟩) (.bool false) (.int .i64 0) (.string ⟨#[]⟩) (.int .i64 0) (.slice none 0 0);have hbl:=Zbr Zu.out (show w.heap.size≤s+1 by rw[QY.out];omega) (.int .i64 0) (.int .i64 0) (.int .u32 0) (.int .i64 0) (.int .i64 0) (.bool false) (.int .i64 0) (.bool false) (.int .i64 0) (.string ⟨#[]⟩) (.bool false) (.int .i64 0) (.string ⟨#[]⟩) (.int .i64 0) (.slice none 0 0);clear y0 y1 y2 y3 y4 y5 y6 y7 y8 y9 y10 y11 y12 y13 y14 f0 f1 f2 f3 f4 f5 f6 f7 f8 f9 f10 f11 f12 f13 f14;generalize Zar w3 (s+1) (.int .i64 0) (.int .i64 0) (.int .u32 0) (.int .i64 0) (.int .i64 0) (.bool false) (.int .i64 0) (.bool false) (.int .i64 0) (.string ⟨#[]⟩) (.bool false) (.int .i64 0) (.string ⟨#[]⟩) (.int .i64 0) (.slice none 0 0)=wz at *;obtain⟨q0,q1,q2,q3,q4,q5,q6,q7,q8,q9,q10,q11,q12,q13,q14⟩:=Zch R9;refine bodyPost_ret (v:=.tuple #[.agg #[.int .i64 0,.int .i64 0,.int .u32 0,.int .i64 0,.int .i64 0,.bool false,.int .i64 0,.bool false,.int .i64 0,.string ⟨#[]⟩,.bool false,.int .i64 0,.string ⟨#[]⟩,.int .i64 0,.slice none 0 0],.bool false]) ?_ rfl ?_
  ·simp[results,Tryz.results87,go_sem,q0,q1,q2,q3,q4,q5,q6,q7,q8,q9,q10,q11,q12,q13,q14]
  ·exact⟨hbl,by rw[HA.out]⟩
 ·obtain⟨A1,c1,rfl,_,_,_⟩:=(Zba h1).form;obtain⟨A2,c2,rfl,_,_,_⟩:=h2.form;obtain⟨A3,c3,rfl,_,_,_⟩:=h3.form;obtain⟨A4,c4,rfl,_,_,_⟩:=h4.form;obtain⟨A5,c5,rfl,_,_,_⟩:=h5.form;have Y2:=hid (Js.out w2 _ _ _ _ _ (Zba h1) h2 h3 h4 h5);have Qc:=hid (Zad HR.out.2.2.1 hb2);have Qf:=hid (Zbs (w:=w2) (C:=(ck_S rows H.codec H.wd (.slice A1 H.nulls.length c1) (Zbd rows H.nulls) (.slice A2 O.list.length c2) (.slice A3 O.ends.length c3) bs (.slice A4 O.lanes.length c4) Zbz (.slice A5 H.nulls.length c5)).toArray) (e:=198));have hz1:=HR.out.2.2.2;have hz2:=hb2.size;have ZX:=hid hz2;have QK:=hid (HR.out.1.mono hb2);have Zx:=hid (HR.out.2.1.mono hb2);clear h1 h2 h3 h4 h5 hb2 Js Vg;have Jt:=hid (ZT.out _ w2.heap.size (Zad Qc.out Qf.out.2) rfl Y2.out);clear ZT;generalize Zbd rows H.nulls=kk at *;unfold ck_S i64 Zbz at *;go_upto_region 2 with fail
  have Qk:=hid (Zad Qc.out Qf.out.2);have Yt:=hid (QK.out.mono Qf.out.2);have QN:=hid (Zx.out.mono Qf.out.2);have Z8:=hid Qf.out.1;clear Qf Y2 QK Zx Qc;generalize w2.alloc (.cells #[.int .i64 rows,.int .i64 H.codec,.int .i64 H.wd,.slice A1 H.nulls.length c1,.int .i64 kk,.slice A2 O.list.length c2,.slice A3 O.ends.length c3,.int .i64 bs,.slice A4 O.lanes.length c4,.iface 157 (.agg #[]),.slice A5 H.nulls.length c5] 198)=w3 at *;obtain⟨y0,y1,y2,y3,y4,y5,y6,y7,y8,y9,y10,y11,y12,y13,y14⟩:=Zch Yt.out;have HPS:Hid (s+1<w2.heap.size):=hid (by omega);clear hz1 hz2;cases SO
  ·have HA:Hid (ANS=.tuple #[.agg #[.int .i64 0,.int .i64 0,.int .u32 0,.int .i64 0,.int .i64 0,.bool false,.int .i64 0,.bool false,.int .i64 0,.string ⟨#[]⟩,.bool false,.int .i64 0,.string ⟨#[]⟩,.int .i64 0,.slice none 0 0],.bool false]):=hid (by rw[← Qm.out];rfl);clear Qm;go_wp2_with (go_at_call 127;refine Jt.out.mono ?_;rintro e w4 ⟨rfl,hb4⟩;have Q0:=hid hb4;have Yg:=hid (QN.out.mono hb4);clear hb4 y0 y1 y2 y3 y4 y5 y6 y7 y8 y9 y10 y11 y12 y13 y14;obtain⟨y0,y1,y2,y3,y4,y5,y6,y7,y8,y9,y10,y11,y12,y13,y14⟩:=Zch Yg.out;obtain⟨f0,f1,f2,f3,f4,f5,f6,f7,f8,f9,f10,f11,f12,f13,f14⟩:=Zf4 Yg.out)
   change bodyPost _ _ _ _ _ (Zar w4 (s+1) (.int .i64 0) (.int .i64 0) (.int .u32 0) (.int .i64 0) (.int .i64 0) (.bool false) (.int .i64 0) (.bool false) (.int .i64 0) (.string ⟨#[]⟩) (.bool false) (.int .i64 0) (.string ⟨#[]⟩) (.int .i64 0) (.slice none 0 0))
   have R9:=Zci Yg.out (.int .i64 0) (.int .i64 0) (.int .u32 0) (.int .i64 0) (.int .i64 0) (.bool false) (.int .i64 0) (.bool false) (.int .i64 0) (.string ⟨#[]⟩) (.bool false) (.int .i64 0) (.string ⟨#[]⟩) (.int .i64 0) (.slice none 0 0);have hbl:=Zbr (Zad Qk.out Q0.out) (show w.heap.size≤s+1 by rw[QY.out];omega) (.int .i64 0) (.int .i64 0) (.int .u32 0) (.int .i64 0) (.int .i64 0) (.bool false) (.int .i64 0) (.bool false) (.int .i64 0) (.string ⟨#[]⟩) (.bool false) (.int .i64 0) (.string ⟨#[]⟩) (.int .i64 0) (.slice none 0 0);clear y0 y1 y2 y3 y4 y5 y6 y7 y8 y9 y10 y11 y12 y13 y14 f0 f1 f2 f3 f4 f5 f6 f7 f8 f9 f10 f11 f12 f13 f14;generalize Zar w4 (s+1) (.int .i64 0) (.int .i64 0) (.int .u32 0) (.int .i64 0) (.int .i64 0) (.bool false) (.int .i64 0) (.bool false) (.int .i64 0) (.string ⟨#[]⟩) (.bool false) (.int .i64 0) (.string ⟨#[]⟩) (.int .i64 0) (.slice none 0 0)=wz at *;obtain⟨q0,q1,q2,q3,q4,q5,q6,q7,q8,q9,q10,q11,q12,q13,q14⟩:=Zch R9;refine bodyPost_ret (v:=.tuple #[.agg #[.int .i64 0,.int .i64 0,.int .u32 0,.int .i64 0,.int .i64 0,.bool false,.int .i64 0,.bool false,.int .i64 0,.string ⟨#[]⟩,.bool false,.int .i64 0,.string ⟨#[]⟩,.int .i64 0,.slice none 0 0],.bool false]) ?_ rfl ?_
   ·simp[results,Tryz.results87,go_sem,q0,q1,q2,q3,q4,q5,q6,q7,q8,q9,q10,q11,q12,q13,q14]
   ·exact⟨hbl,by rw[HA.out]⟩
  ·have HA:Hid (ANS=.tuple #[.agg #[.int .i64 o,.int .i64 l,.int .u32 sm,.int .i64 H.codec,.int .i64 H.wd,.bool rg,.int .i64 nu,.bool mn.n,.int .i64 mn.i,.string mn.s,.bool mx.n,.int .i64 mx.i,.string mx.s,.int .i64 hs,.slice B bn bc],.bool true]):=hid (by rw[← Qm.out];rfl);clear Qm;go_upto_region 4 with (go_at_call 127;refine Jt.out.mono ?_;rintro e w4 ⟨rfl,hb4⟩;have Q0:=hid hb4;have YQ:=hid (Yt.out.mono hb4);have Yg:=hid (QN.out.mono hb4);have YL:=hid (Z8.out.mono hb4);clear hb4)
   clear y0 y1 y2 y3 y4 y5 y6 y7 y8 y9 y10 y11 y12 y13 y14;obtain⟨y0,y1,y2,y3,y4,y5,y6,y7,y8,y9,y10,y11,y12,y13,y14⟩:=Zch YQ.out;obtain⟨f0,f1,f2,f3,f4,f5,f6,f7,f8,f9,f10,f11,f12,f13,f14⟩:=Zf4 YQ.out;have k1:=YL.out.cell 1;have k2:=YL.out.cell 2;simp only[List.getElem?_cons_zero,List.getElem?_cons_succ]at k1 k2;go_region
   have Vn:Hid (Row ((w4.setCell ⟨s,3,none⟩ (.int .i64 H.codec)).setCell ⟨s,4,none⟩ (.int .i64 H.wd)).drew s 41 [.int .i64 o,.int .i64 l,.int .u32 sm,.int .i64 H.codec,.int .i64 H.wd,.bool rg,.int .i64 nu,.bool mn.n,.int .i64 mn.i,.string mn.s,.bool mx.n,.int .i64 mx.i,.string mx.s,.int .i64 hs,.slice B bn bc]):=hid (((YQ.out.set 3 (.int .i64 H.codec)).set 4 (.int .i64 H.wd)).mono (Zag (Zab _) 1));have ZK:Hid (Row ((w4.setCell ⟨s,3,none⟩ (.int .i64 H.codec)).setCell ⟨s,4,none⟩ (.int .i64 H.wd)).drew (s+1) 41 [.int .i64 0,.int .i64 0,.int .u32 0,.int .i64 0,.int .i64 0,.bool false,.int .i64 0,.bool false,.int .i64 0,.string ⟨#[]⟩,.bool false,.int .i64 0,.string ⟨#[]⟩,.int .i64 0,.slice none 0 0]):=hid ((Zbg (w:=w4.setCell ⟨s,3,none⟩ (.int .i64 H.codec)) (i:=4) (v:=.int .i64 H.wd) (Zbg (w:=w4) (i:=3) (v:=.int .i64 H.codec) Yg.out (show s+1≠s by omega)) (show s+1≠s by omega)).mono (Zag (Zab _) 1));have Q2:Hid (Below w.heap.size w ((w4.setCell ⟨s,3,none⟩ (.int .i64 H.codec)).setCell ⟨s,4,none⟩ (.int .i64 H.wd)).drew):=hid (Zag (Zbf (Zbf (Zad Qk.out Q0.out) s 3 (.int .i64 H.codec) (by rw[QY.out];exact Nat.le_refl _)) s 4 (.int .i64 H.wd) (by rw[QY.out];exact Nat.le_refl _)) 1);clear y0 y1 y2 y3 y4 y5 y6 y7 y8 y9 y10 y11 y12 y13 y14 f0 f1 f2 f3 f4 f5 f6 f7 f8 f9 f10 f11 f12 f13 f14 k1 k2;generalize ((w4.setCell ⟨s,3,none⟩ (.int .i64 H.codec)).setCell ⟨s,4,none⟩ (.int .i64 H.wd)).drew=w5 at *;obtain⟨y0,y1,y2,y3,y4,y5,y6,y7,y8,y9,y10,y11,y12,y13,y14⟩:=Zch Vn.out;obtain⟨e0,e1,e2,e3,e4,e5,e6,e7,e8,e9,e10,e11,e12,e13,e14⟩:=Zch ZK.out;obtain⟨f0,f1,f2,f3,f4,f5,f6,f7,f8,f9,f10,f11,f12,f13,f14⟩:=Zf4 ZK.out;go_wp2_with fail
   change bodyPost _ _ _ _ _ (Zar w5 (s+1) (.int .i64 o) (.int .i64 l) (.int .u32 sm) (.int .i64 H.codec) (.int .i64 H.wd) (.bool rg) (.int .i64 nu) (.bool mn.n) (.int .i64 mn.i) (.string mn.s) (.bool mx.n) (.int .i64 mx.i) (.string mx.s) (.int .i64 hs) (.slice B bn bc))
   have R9:=Zci ZK.out (.int .i64 o) (.int .i64 l) (.int .u32 sm) (.int .i64 H.codec) (.int .i64 H.wd) (.bool rg) (.int .i64 nu) (.bool mn.n) (.int .i64 mn.i) (.string mn.s) (.bool mx.n) (.int .i64 mx.i) (.string mx.s) (.int .i64 hs) (.slice B bn bc);have hbl:=Zbr Q2.out (show w.heap.size≤s+1 by rw[QY.out];omega) (.int .i64 o) (.int .i64 l) (.int .u32 sm) (.int .i64 H.codec) (.int .i64 H.wd) (.bool rg) (.int .i64 nu) (.bool mn.n) (.int .i64 mn.i) (.string mn.s) (.bool mx.n) (.int .i64 mx.i) (.string mx.s) (.int .i64 hs) (.slice B bn bc);clear y0 y1 y2 y3 y4 y5 y6 y7 y8 y9 y10 y11 y12 y13 y14 f0 f1 f2 f3 f4 f5 f6 f7 f8 f9 f10 f11 f12 f13 f14 e0 e1 e2 e3 e4 e5 e6 e7 e8 e9 e10 e11 e12 e13 e14;generalize Zar w5 (s+1) (.int .i64 o) (.int .i64 l) (.int .u32 sm) (.int .i64 H.codec) (.int .i64 H.wd) (.bool rg) (.int .i64 nu) (.bool mn.n) (.int .i64 mn.i) (.string mn.s) (.bool mx.n) (.int .i64 mx.i) (.string mx.s) (.int .i64 hs) (.slice B bn bc)=wz at *;obtain⟨q0,q1,q2,q3,q4,q5,q6,q7,q8,q9,q10,q11,q12,q13,q14⟩:=Zch R9;refine bodyPost_ret (v:=.tuple #[.agg #[.int .i64 o,.int .i64 l,.int .u32 sm,.int .i64 H.codec,.int .i64 H.wd,.bool rg,.int .i64 nu,.bool mn.n,.int .i64 mn.i,.string mn.s,.bool mx.n,.int .i64 mx.i,.string mx.s,.int .i64 hs,.slice B bn bc],.bool true]) ?_ rfl ?_
   ·simp[results,Tryz.results87,go_sem,q0,q1,q2,q3,q4,q5,q6,q7,q8,q9,q10,q11,q12,q13,q14]
   ·exact⟨hbl,by rw[HA.out]⟩
set_option maxRecDepth 20000
theorem Zx9 {α : Type} (ys:List α) (n:Nat) (f:Nat→α) (h1:∀ y∈ys,∃ j,j<n∧y=f j) (h2:∀ j,j<n→f j∈ys) (p : α→Bool):ys.all p=(List.range n).all fun j=>p (f j):=by
 rw[Bool.eq_iff_iff,List.all_eq_true,List.all_eq_true];constructor
 ·intro h j hj;exact h _ (h2 j (List.mem_range.1 hj))
 ·intro h y hy;obtain⟨j,hj,rfl⟩:=h1 y hy;exact h j (List.mem_range.2 hj)
theorem Znh {list:List ByteArray} {i:Nat} (h:i<list.length):list.getD i dfS∈list:=by simp[List.getD,List.getElem?_eq_getElem h]
theorem Zm6 {list:List ByteArray} {y:ByteArray} (h:y∈list):∃ i,i<list.length∧y=list.getD i dfS:=by
 obtain⟨i,hi,rfl⟩:=List.getElem_of_mem h;exact⟨i,hi,by simp[List.getD,List.getElem?_eq_getElem hi]⟩
theorem Zia (f:Nat→Nat) (k:Nat) (list:List ByteArray) (y:ByteArray):∀ i,y∈Zcq f k list i↔∃ t,t<i∧Zdq f k t=true∧y=list.getD t dfS
 | 0=>by simp[Zcq]
 | i+1=>by
  unfold Zcq;rw[List.mem_append,Zia f k list y i];constructor
  ·rintro(⟨t,h1,h2,h3⟩ | h)
   ·exact⟨t,by omega,h2,h3⟩
   ·split at h
    ·rename_i hu
     exact⟨i,by omega,hu,List.mem_singleton.1 h⟩
    ·cases h
  ·rintro⟨t,h1,h2,h3⟩;by_cases ht:t=i
   ·subst ht
    right;rw[if_pos h2];exact List.mem_singleton.2 h3
   ·exact .inl ⟨t,by omega,h2,h3⟩
theorem Zkh (f:Nat→Nat) (k t:Nat):Zdq f k t=true↔∃ j,j<k∧f j=t:=by
 unfold Zdq;rw[List.any_eq_true];constructor
 ·rintro⟨j,hj,h⟩;exact⟨j,List.mem_range.1 hj,by simpa using h⟩
 ·rintro⟨j,hj,h⟩;exact⟨j,List.mem_range.2 hj,by simpa using h⟩
theorem Zre {es:List Nat} {k:Nat} (h:Zax (nI es) k=true) (i:Nat) (hi:i<es.length):∃ j,j<k∧Zb8 (nI es) ((j:Int)+1)=i:=by
 have h1:Za2 0 (nI es)=some (k:Int):=by simpa [Zax]using h
 have hasc:=Ze9 h;have hgt:=Zi6 (nI es) 0 k h1 i (by rw[Zaq];exact hi);have hle:=Zj2 (nI es) 0 k h1 i (by rw[Zaq];exact hi);have hg:(nI es).getD i 0=(es.getD i 0:Nat):=by unfold nI;simp[List.getD,List.getElem?_map,List.getElem?_eq_getElem hi]
 rw[hg]at hgt hle;refine⟨es.getD i 0-1,by omega,?_⟩;have e:(((es.getD i 0-1:Nat):Int)+1)=(nI es).getD i 0:=by rw[hg];omega
 rw[e];refine Zhk _ _ i (by rw[Zaq];omega) (fun a ha=>hasc a i ha (by rw[Zaq];exact hi)) (fun _=>Int.le_refl _)
theorem Ztp (rows:Nat) (xs:List Nat) (h:Zc3 rows xs=true) (hok:∀ j,j<Zbd rows (Zaa rows xs).nulls→Zkz (Zaa rows xs).codec (Zaa rows xs).wd (Zan rows xs).list (Zan rows xs).ends (Zan rows xs).lanes j) :
  (∀ y∈Zrw rows xs,∃ j,j<Zbd rows (Zaa rows xs).nulls∧y=Zoq rows xs j)∧∀ j,j<Zbd rows (Zaa rows xs).nulls→Zoq rows xs j∈Zrw rows xs:=by
 unfold Zc3 Zgk at h;simp only[Bool.and_eq_true,Bool.not_eq_true',decide_eq_true_eq]at h;obtain⟨⟨hpk,hcd⟩,hOb,hOs,hOl⟩:=h;unfold Zrw Zoq;generalize Zcv rows xs=bs at *;unfold Zan at *;generalize Zbd rows (Zaa rows xs).nulls=k at *;generalize (Zaa rows xs).left=x3 at *;generalize (Zaa rows xs).short=t3 at *;generalize (Zaa rows xs).codec=cd at *;generalize (Zaa rows xs).wd=wd at *;have hcdk:1≤cd∧cd≤3:=by
  unfold Zbi at hcd
  split at hcd
  ·omega
  ·simp only[decide_eq_true_eq]at hcd;unfold Zko at hcd;omega
 unfold Zbq at *;by_cases h1:cd=1
 ·subst h1;rw[if_pos rfl]at *;unfold Zbk at *;simp only[Bool.and_eq_true,decide_eq_true_eq]at *;have hf:=Zem hOb.1 hOs;have hv:∀ j,vl_S 1 wd (rdS k x3 t3).1 [] bs [] j=(rdS k x3 t3).1.getD j dfS:=fun j=>by unfold vl_S Zh9;rw[if_pos rfl]
  unfold yv_S;rw[if_pos (.inl rfl)];refine⟨fun y hy=>?_,fun j hj=>?_⟩
  ·obtain⟨i,hi,he⟩:=Zm6 hy;exact⟨i,by omega,by rw[hv];exact he⟩
  ·rw[hv];exact Znh (by omega)
 by_cases h2:cd=2
 ·subst h2;rw[if_neg (by decide),if_pos rfl]at *;unfold Zbm at *
  split at hOb
  ·cases hOb
  ·rename_i hc
   rw[if_neg hc]at *;generalize rdS (L.wordOf 8 (tk 4 x3)) (tkL 4 x3) (tkS 4 x3 t3)=R at *;generalize L.wordOf 8 (tk 4 x3)=d at *;have hfl:R.2.1=true→R.2.2.2=false→True:=fun _ _=>trivial
   obtain⟨vals,ok,xl,s1⟩:=R;simp only at *
   split at hOb
   ·rename_i hoa
    rw[if_pos hoa]at *;simp only at *;obtain⟨l1,l2,l3,l4⟩:=Zce hOb;have hv:∀ j,vl_S 2 wd vals [] bs (Za6 xl) j=vals.getD (L.laneOf wd (Za6 xl) j) dfS:=fun j=>by unfold vl_S Zh9;rw[if_neg (by decide),if_pos rfl]
    unfold yv_S;rw[if_neg (by omega),if_pos rfl];refine⟨fun y hy=>?_,fun j hj=>?_⟩
    ·obtain⟨t,ht,hu,he⟩:=(Zia _ _ _ _ _).1 hy;obtain⟨j,hj,hl⟩:=(Zkh _ _ _).1 hu;exact⟨j,hj,by rw[hv,hl];exact he⟩
    ·rw[hv];by_cases hlt:L.laneOf wd (Za6 xl) j<vals.length
     ·exact(Zia _ _ _ _ _).2 ⟨_,hlt,(Zkh _ _ _).2 ⟨j,hj,rfl⟩,rfl⟩
     ·exfalso;have:=hok j hj;unfold Zkz ok_S at this;rcases this with ⟨h9,_⟩ | ⟨_,h5,_,h6⟩ | ⟨h9,_⟩
      ·omega
      ·exact hlt h5
      ·omega
   ·cases hOb
 by_cases h3:cd=3
 ·subst h3;rw[if_neg (by decide),if_neg (by decide)]at *;unfold Zbh at *
  split at hOb
  ·cases hOb
  ·rename_i hc
   rw[if_neg hc]at *;have hfl:=@Zem (L.wordOf 8 (tk 4 x3)) (tkL (4*L.wordOf 8 (tk 4 x3)) (tkL 4 x3)) (tkS (4*L.wordOf 8 (tk 4 x3)) (tkL 4 x3) (tkS 4 x3 t3));have hsh:=Zjw (L.wordOf 8 (tk 4 x3)) (tkL (4*L.wordOf 8 (tk 4 x3)) (tkL 4 x3)) (tkS (4*L.wordOf 8 (tk 4 x3)) (tkL 4 x3) (tkS 4 x3 t3));have hel:tkS (4*L.wordOf 8 (tk 4 x3)) (tkL 4 x3) (tkS 4 x3 t3)=false→(numL 4 (tk (4*L.wordOf 8 (tk 4 x3)) (tkL 4 x3))).length=L.wordOf 8 (tk 4 x3):=fun h=>by
    rw[Zal,Zke (Zb7 h).1];omega
   generalize rdS (L.wordOf 8 (tk 4 x3)) (tkL (4*L.wordOf 8 (tk 4 x3)) (tkL 4 x3)) (tkS (4*L.wordOf 8 (tk 4 x3)) (tkL 4 x3) (tkS 4 x3 t3))=R at *;generalize numL 4 (tk (4*L.wordOf 8 (tk 4 x3)) (tkL 4 x3))=es at *;generalize tkS (4*L.wordOf 8 (tk 4 x3)) (tkL 4 x3) (tkS 4 x3 t3)=s2 at *;generalize L.wordOf 8 (tk 4 x3)=d at *;obtain⟨vals,ok,xl,s1⟩:=R;simp only[Bool.and_eq_true]at *;have hvl:=hfl hOb.1 hOs;have hed:=hel (hsh hOs);have hre:Zax (nI es) k=true:=by
    cases hx:Zax (nI es) k with
    | true=>rfl
    | false=>exact absurd (.inr hx) hc
   have hv:∀ j,vl_S 3 wd vals es bs [] j=vals.getD (Zb8 (nI es) ((j:Int)+1)) dfS:=fun j=>by unfold vl_S Zh9;rw[if_neg (by decide),if_neg (by decide)]
   unfold yv_S;rw[if_pos (.inr rfl)];refine⟨fun y hy=>?_,fun j hj=>?_⟩
   ·obtain⟨i,hi,he⟩:=Zm6 hy;obtain⟨j,hj,hf⟩:=Zre hre i (by omega);exact⟨j,hj,by rw[hv,hf];exact he⟩
   ·rw[hv];refine Znh ?_;have:=Ze2 hre ((j:Int)+1) (by omega) (by omega);rw[Zaq,hed]at this;omega
 ·have hv:∀(l:List ByteArray) (e lanes:List Nat),yv_S cd wd l e bs lanes k=(List.range k).map (vl_S cd wd l e bs lanes):=fun l e lanes=>by unfold yv_S;rw[if_neg (by omega),if_neg h2]
  rw[hv];refine⟨fun y hy=>?_,fun j hj=>?_⟩
  ·rw[List.mem_map]at hy;obtain⟨j,hj,rfl⟩:=hy;exact⟨j,List.mem_range.1 hj,rfl⟩
  ·rw[List.mem_map];exact⟨j,List.mem_range.2 hj,rfl⟩
theorem Zx8 (rows:Nat) (xs:List Nat) (hb:∀ x∈xs,x<256) (hl:xs.length≤16777216) (hrr:rows≤65536) (h:Zc3 rows xs=true) (p:ByteArray→Bool):(Zrw rows xs).all p=(List.range (Zbd rows (Zaa rows xs).nulls)).all fun j=>p (Zoq rows xs j) :=
 Zx9 _ _ _ (Ztp rows xs h (Zof rows xs hb hl hrr h).ok).1 (Ztp rows xs h (Zof rows xs hb hl hrr h).ok).2 p
theorem Zu9 (x:ByteArray) (h:(vk_S x).s.size≤1024):Zdx 2 (vk_S x)=true:=by
 unfold Zdx ofK vk_S at *;rw[if_neg (by simp)];rw[if_neg (by decide)];simp only[Bool.not_false,Bool.true_and,decide_eq_true_eq];exact⟨trivial,trivial,h⟩
theorem Zzk (z:ZM) (rows:Nat) (x:ByteArray) (hs:(vk_S x).s.size≤1024) (hz:zOk 2 rows z=true) (hnr:z.rg=true→z.nu≠(rows:Int)):sndC z 2 rows (vk_S x)=Znm z x:=by
 unfold sndC Znm;have e0:(vk_S x).n=false:=rfl;rw[e0,Bool.false_or];congr 1
 ·cases hr:z.rg
  ·simp
  ·have hne:=hnr hr;rcases Zmv hz with ⟨_,_,h1,h2⟩ | ⟨h,_⟩
   ·rw[decide_eq_true hne];have e1:=Zpe h1;have e2:=Zpe h2;unfold Zqz vk_S;rw[e1,e2];simp
   ·exact absurd ⟨hr,hne⟩ h
 ·cases hbl:decide (z.bl=[])
  ·have hne:z.bl≠[]:=by simpa using hbl
   rcases Zfq hz with ⟨h,_⟩ | ⟨_,h2,h3,h4⟩
   ·exact absurd h hne
   ·rw[Bool.false_or,Bool.false_or];unfold hasR;rw[Zu9 x hs];have hl:0<z.bl.length:=List.length_pos_iff.2 hne;have e:Zej (z.bl.length:Int) z.hs=true:=by unfold Zej;rw[decide_eq_true_eq];omega
    rw[e];rfl
  ·rfl
theorem Zzq (rows:Nat) (xs:List Nat) (hb:∀ x∈xs,x<256) (hl:xs.length≤16777216) (hrr:rows≤65536) (h:Zc3 rows xs=true) (j:Nat) (hj:j<Zbd rows (Zaa rows xs).nulls):(vk_S (Zoq rows xs j)).s.size≤1024:=by
 exact Zzf (base:=Zcv rows xs) (Zub rows xs) ((Zof rows xs hb hl hrr h).ok j hj)
theorem Zwq (rows:Nat) (xs:List Nat) (z:ZM) (hb:∀ x∈xs,x<256) (hl:xs.length≤16777216) (hrr:rows≤65536) (hz:zOk 2 rows z=true) :
  Zo9 rows xs z=(rOk 2 rows xs&&sndR z 2 rows (cA (rWs rows xs)) (cB (rWs rows xs) (rPay 2 rows xs).2) (cC (rWs rows xs) (rPay 2 rows xs).2)):=by
 obtain⟨m1,m2⟩:=Z04 rows xs hrr;unfold Zo9;cases hlk:Zc3 rows xs
 ·rw[← m1,hlk];rfl
 ·rw[← m1,hlk,Bool.true_and,Bool.true_and];have m3:=m2 (by rw[← m1];exact hlk);have hn:(Zaa rows xs).nulls=rWs rows xs:=by
   cases hno:Zau 8 (rN rows) 2 xs.length
   ·exfalso;have e1:rOk 2 rows xs=false:=by unfold rOk rHd;rw[hno];simp
    rw[← m1,hlk]at e1;cases e1
   ·exact(Zmc rows xs hno).2.2.1
  have hsz:=Zzq rows xs hb hl hrr hlk;unfold Zru;rw[Zx8 rows xs hb hl hrr hlk];have hcell:∀ r,r<rows→Za0 (rWs rows xs) r=false→(⟨cA (rWs rows xs) r,cB (rWs rows xs) (rPay 2 rows xs).2 r,cC (rWs rows xs) (rPay 2 rows xs).2 r⟩:C3)=vk_S (Zoq rows xs (r-Zbe (rWs rows xs) r)):=by
   intro r hr hbit;obtain⟨a1,a2,a3⟩:=m3 r hr;rw[← a1,← a2,← a3];unfold Zrt Zrj Zsn;rw[hn,hbit,Zii _ _ hbit];rfl
  have hnull:∀ r,Za0 (rWs rows xs) r=true→cA (rWs rows xs) r=true:=fun r h=>h
  rw[hn]at *;have hcnt:Zbd rows (rWs rows xs)=rows-Zbe (rWs rows xs) rows:=rfl;rw[hcnt]at *;have hrk:=Zet (rWs rows xs) rows;unfold sndR;rw[Zo8];generalize (rPay 2 rows xs).2=vs at *;generalize rWs rows xs=ws at *;clear m1 m2 m3 hlk hn hcnt;rw[Bool.eq_iff_iff];simp only[Bool.and_eq_true,List.all_eq_true,List.mem_range,Bool.or_eq_true,Bool.not_eq_true',decide_eq_true_eq];constructor
  ·rintro⟨h1,h2⟩;refine⟨fun r hr=>?_,?_⟩
   ·cases hbit:Za0 ws r
    ·have hj:=Zm8 ws rows r hr hbit;rw[hcell r hr hbit,Zzk z rows _ (hsz _ hj) hz]
     ·exact h2 _ hj
     ·intro hrg;rcases h1 with h1 | h1
      ·rw[h1]at hrg;cases hrg
      ·omega
    ·unfold sndC;simp only;rw[hnull r hbit];rfl
   ·rcases h1 with h1 | h1
    ·exact .inl h1
    ·exact .inr (by omega)
  ·rintro⟨h1,h2⟩;refine⟨?_,fun j hj=>?_⟩
   ·rcases h2 with h2 | h2
    ·exact .inl h2
    ·exact .inr (by omega)
   ·obtain⟨r,hr,hbit,rfl⟩:=Zja ws rows j hj;have:=h1 r hr;rw[hcell r hr hbit,Zzk z rows _ (hsz _ hj) hz]at this
    ·exact this
    ·intro hrg;rcases h2 with h2 | h2
     ·rw[h2]at hrg;cases hrg
     ·omega
abbrev Zgj:Value:=.agg #[.int .i64 0,.int .i64 0,.int .u32 0,.int .i64 0,.int .i64 0,.bool false,.int .i64 0,.bool false,.int .i64 0,.string ⟨#[]⟩,.bool false,.int .i64 0,.string ⟨#[]⟩,.int .i64 0,.slice none 0 0]
theorem Zji {w:World} {A:Option Addr} {ca:Nat} {xs:List Nat} (h:Rd w (.slice A xs.length ca) xs.length 1 (u8s xs)) (p n:Nat) (hp:p+n≤xs.length) (hca:ca≠p) :
  Rd w (.slice (A.map fun x=>x.add p) n (ca-p)) ((xs.drop p).take n).length 1 (u8s ((xs.drop p).take n)):=by
 have h1:=(h.rear p (by omega) hca);have h2:=h1.short n (by rw[List.length_drop];omega);have hl:((xs.drop p).take n).length=n:=by rw[List.length_take,List.length_drop];omega
 rw[hl]at h2 ⊢;exact h2
theorem Zgp {w:World} {A:Option Addr} {xs:List Nat} {p n:Nat} (hp:p+n≤xs.length) (hca:xs.length≤p):Rd w (.slice A 0 0) ((xs.drop p).take n).length 1 (u8s ((xs.drop p).take n)):=by
 have h0:(xs.drop p).take n=[]:=by rw[List.drop_of_length_le hca];simp
 rw[h0];exact Znd w A
theorem Zwh {xs:List Nat} {en:En} (h:en.off+en.len≤xs.length):(Zam xs en).length=en.len:=by unfold Zam;rw[List.length_take,List.length_drop];omega
theorem Zz1 {kd rows:Nat} {xs:List Nat} (h:rOk kd rows xs=true):2≤xs.length:=by
 unfold rOk rHd at h;simp only[Bool.and_eq_true]at h;have h2:=h.1.1.1;unfold Zau at h2;rw[decide_eq_true_eq]at h2;omega
theorem Zw3 {kd rows:Nat} (hk:kd=1∨kd=2) (hr:rows≤65536) (xs:List Nat):Zdv kd rows xs=if rOk kd rows xs=true then 0 else 1:=by
 unfold Zdv;have h1:Za3 (kd:Int)=true:=by unfold Za3;rcases hk with rfl | rfl<;>rfl
 have h2:Zhw (rows:Int)=true:=by unfold Zhw;exact decide_eq_true (by omega)
 rw[h1,h2,if_pos (by rfl),Int.toNat_natCast,Int.toNat_natCast]
theorem Zfv {xs:List Nat} (hb:∀ x∈xs,x<256) (p n:Nat):∀ x∈(xs.drop p).take n,x<256:=fun x hx=>hb x (List.mem_of_mem_drop (List.mem_of_mem_take hx))
theorem Zwe {kd:Nat} (hk:kd=1∨kd=2):Za3 (kd:Int)=true:=by unfold Za3;rcases hk with rfl | rfl<;>rfl
theorem Zln (w:World) (g:Nat) (a0 a1 a2 a3 a4 a5 a6 a7 a8 a9 a10 a11 a12 a13 a14:Value):Chg g g w (Zar w g a0 a1 a2 a3 a4 a5 a6 a7 a8 a9 a10 a11 a12 a13 a14):=((((((((((((((((Chg.refl g g w).setCell g 0 a0 (.inl rfl)).setCell g 1 a1 (.inl rfl)).setCell g 2 a2 (.inl rfl)).setCell g 3 a3 (.inl rfl)).setCell g 4 a4 (.inl rfl)).setCell g 5 a5 (.inl rfl)).setCell g 6 a6 (.inl rfl)).setCell g 7 a7 (.inl rfl)).setCell g 8 a8 (.inl rfl)).setCell g 9 a9 (.inl rfl)).setCell g 10 a10 (.inl rfl)).setCell g 11 a11 (.inl rfl)).setCell g 12 a12 (.inl rfl)).setCell g 13 a13 (.inl rfl)).setCell g 14 a14 (.inl rfl))
theorem Zuc (w:World) (g q:Nat) (a0 a1 a2 a3 a4 a5 a6 a7 a8 a9 a10 a11 a12 a13 a14:Value) (h:q≠g):(Zar w g a0 a1 a2 a3 a4 a5 a6 a7 a8 a9 a10 a11 a12 a13 a14).heap[q]? = w.heap[q]?:=by
 unfold Zar
 iterate 15 rw[heap_setCell_other _ _ _ _ (by simpa using h)]
theorem Zaf (w:World) (g q i:Nat) (a0 a1 a2 a3 a4 a5 a6 a7 a8 a9 a10 a11 a12 a13 a14:Value) (h:q≠g):(Zar w g a0 a1 a2 a3 a4 a5 a6 a7 a8 a9 a10 a11 a12 a13 a14).cell? ⟨q,i,none⟩=w.cell? ⟨q,i,none⟩:=World.cell?_of_block (Zuc w g q a0 a1 a2 a3 a4 a5 a6 a7 a8 a9 a10 a11 a12 a13 a14 h)
theorem Zjr (n:Nat) (h:n<256):IntKind.i64.wrap (n:Int)=(n:Int):=by rw[IntKind.wrap_i64];omega
set_option maxRecDepth 100000
theorem Zk3 {kd rows:Nat} {xs:List Nat} (h:rOk kd rows xs=true):(Zaa rows xs).codec=xs.getD 0 0∧(Zaa rows xs).wd=xs.getD 1 0:=by
 unfold rOk rHd at h;simp only[Bool.and_eq_true]at h;have h2:=Zmc rows xs h.1.1.1;exact⟨h2.1,h2.2.1⟩
def lbV (kd rows o l s:Nat) (xs:List Nat) (z:ZM) (b:Value):Value :=
 if sOkE kd rows xs z=true then .tuple #[.agg (ckVs o l s (xs.getD 0 0) (xs.getD 1 0) z++[b]).toArray,.bool true]else .tuple #[Zgj,.bool false]
theorem Zlo (w:World) (v:Value) (xs:List Nat) (rows o l s:Nat) (cd wd:Int) (z:ZM) (B:Option Addr) (bc:Nat) (hT:Tab w) (hv:Rd w v xs.length 1 (u8s xs)) (hb:∀ x∈xs,x<256) (hl:xs.length≤16777216) (hrr:rows≤65536)
  (hz:zOk 1 rows z=true) (hbr:Rd w (.slice B z.bl.length bc) z.bl.length 1 (u64s z.bl)) (hbv:∀ x∈z.bl,x<18446744073709551616) :
  Calls Tryz.prog 88 #[.iface 159 (.agg #[]),.int .i64 rows,v,.agg #[.int .i64 (o:Nat),.int .i64 (l:Nat),.int .u32 (s:Nat),.int .i64 cd,.int .i64 wd,.bool z.rg,.int .i64 z.nu,.bool z.mn.n,.int .i64 z.mn.i,.string z.mn.s,.bool z.mx.n,.int .i64 z.mx.i,.string z.mx.s,.int .i64 z.hs,.slice B z.bl.length bc]] w fun e w' =>
   Below w.heap.size w w'∧e=.returned (lbV 1 rows o l s xs z (.slice B z.bl.length bc)):=by
 have hf:z.bl.length≤64∧(0≤z.hs∧z.hs≤8):=by
  rcases Zfq hz with ⟨h1,h2⟩ | ⟨_,h2,h3,h4⟩
  ·rw[h1,h2];simp
  ·exact⟨h2,by omega,h4⟩
 refine(Zvr w v xs rows o l s cd wd z B bc hT hv hb hl hrr hbr hbv hf.1 hf.2).mono ?_;rintro e w' ⟨h1,rfl⟩;refine⟨h1,?_⟩;have hm:=Zw1 rows xs z hb hl hrr hz;have hm2:Zqf rows xs z=sOkE 1 rows xs z:=hm;unfold lbV;rw[hm2];cases h:sOkE 1 rows xs z
 ·rfl
 ·have h3:rOk 1 rows xs=true:=by unfold sOkE at h;simp only[Bool.and_eq_true]at h;exact h.1
  rw[(Zk3 h3).1,(Zk3 h3).2];rfl
theorem Zl2 (w:World) (v:Value) (xs:List Nat) (rows o l s:Nat) (cd wd:Int) (z:ZM) (B:Option Addr) (bc:Nat) (hT:Tab w) (hv:Rd w v xs.length 1 (u8s xs)) (hb:∀ x∈xs,x<256) (hl:xs.length≤16777216) (hrr:rows≤65536)
  (hz:zOk 2 rows z=true) (hbr:Rd w (.slice B z.bl.length bc) z.bl.length 1 (u64s z.bl)) (hbv:∀ x∈z.bl,x<18446744073709551616) :
  Calls Tryz.prog 87 #[.iface 157 (.agg #[]),.int .i64 rows,v,.agg #[.int .i64 (o:Nat),.int .i64 (l:Nat),.int .u32 (s:Nat),.int .i64 cd,.int .i64 wd,.bool z.rg,.int .i64 z.nu,.bool z.mn.n,.int .i64 z.mn.i,.string z.mn.s,.bool z.mx.n,.int .i64 z.mx.i,.string z.mx.s,.int .i64 z.hs,.slice B z.bl.length bc]] w fun e w' =>
   Below w.heap.size w w'∧e=.returned (lbV 2 rows o l s xs z (.slice B z.bl.length bc)):=by
 have hf:z.bl.length≤64∧(0≤z.hs∧z.hs≤8):=by
  rcases Zfq hz with ⟨h1,h2⟩ | ⟨_,h2,h3,h4⟩
  ·rw[h1,h2];simp
  ·exact⟨h2,by omega,h4⟩
 refine(Zui w v xs rows o l s cd wd z B bc hT hv hb hl hrr hbr hbv hf.1 hf.2).mono ?_;rintro e w' ⟨h1,rfl⟩;refine⟨h1,?_⟩;have hm:=Zwq rows xs z hb hl hrr hz;have hm2:Zo9 rows xs z=sOkE 2 rows xs z:=hm;unfold lbV;rw[hm2];cases h:sOkE 2 rows xs z
 ·rfl
 ·have h3:rOk 2 rows xs=true:=by unfold sOkE at h;simp only[Bool.and_eq_true]at h;exact h.1
  rw[(Zk3 h3).1,(Zk3 h3).2];rfl
set_option maxHeartbeats 4000000 in
theorem Zm7 (A:Option Addr) (ca:Nat) (xs:List Nat) (eo el:Nat) (sm cd wd:Int) (z:ZM) (B:Option Addr) (bn bc:Nat) (w:World) (hv:Rd w (.slice A xs.length ca) xs.length 1 (u8s xs)) (hl:xs.length≤16777216) (hfit:eo+el≤xs.length) :
  Calls Tryz.prog 55 #[.slice A xs.length ca,.agg #[.int .i64 (eo:Nat),.int .i64 (el:Nat),.int .u32 sm,.int .i64 cd,.int .i64 wd,.bool z.rg,.int .i64 z.nu,.bool z.mn.n,.int .i64 z.mn.i,.string z.mn.s,.bool z.mx.n,.int .i64 z.mx.i,.string z.mx.s,.int .i64 z.hs,.slice B bn bc]] w fun e w' =>
   ∃ D dc,e=.returned (.slice D el dc)∧Rd w (.slice D el dc) ((xs.drop eo).take el).length 1 (u8s ((xs.drop eo).take el))∧Below w.heap.size w w':=by
 have Vc:=hid (fun(hca:ca≠eo)=>Zji hv eo el hfit hca);have J7:=hid (fun(hca:xs.length≤eo)=>(Zgp (A:=A) (w:=w) hfit hca));generalize ((xs.drop eo).take el)=bx at *;obtain⟨A',ca',he,hlc,hcm,_⟩:=hv.form;injection he with e1 e2 e3
 subst e1 e3;have hca2:eo+el≤ca:=by omega
 have HHC:=hid (show (eo:Int)+(el:Int)=((eo+el:Nat):Int) by omega);obtain⟨q,hq⟩:∃ q,eo+el=q:=⟨_,rfl⟩;rw[hq]at HHC hca2 hfit;have hqq:eo≤q:=by omega
 have hqe:q-eo=el:=by omega
 have hqi:(eo:Int)+(el:Int)=(q:Int):=HHC.out;obtain⟨rg,nu,⟨mnn,mni,mns⟩,⟨mxn,mxi,mxs⟩,hs,bl⟩:=z;simp only;obtain⟨xn,hxn⟩:∃ xn,xs.length=xn:=⟨_,rfl⟩;rw[hxn]at hfit hl hlc J7 ⊢;have hQE:=hid hqe;have hb0:Below w.heap.size w (w.alloc (.cells #[.int .i64 (eo:Nat),.int .i64 (el:Nat),.int .u32 sm,.int .i64 cd,.int .i64 wd,.bool rg,.int .i64 nu,.bool mnn,.int .i64 mni,.string mns,.bool mxn,.int .i64 mxi,.string mxs,.int .i64 hs,.slice B bn bc] 41)):=(Zab w).alloc (Nat.le_refl _) _;have HB:=hid hb0;have hce:ca=eo∨ca≠eo:=by omega
 clear hv hxn hq hb0 HHC hqe;rcases hce with hce | hce
 ·have h0:el=0:=by have:=hQE.out;omega
  have HP:=hid (J7.out (by have:=hQE.out;omega));subst hce h0;clear Vc J7;go_enter Tryz.func55,Tryz.ntmps55;go_wp2_with fail
  go_ret;exact⟨_,_,rfl,HP.out,HB.out⟩
 ·have HP:=hid (Vc.out hce);clear Vc J7;go_enter Tryz.func55,Tryz.ntmps55;go_wp2_with fail
  go_ret;exact⟨_,_,by rw[hQE.out];rfl,HP.out,HB.out⟩
def setZ (w:World) (g:Nat) (b0 b1 b2 b3 b4 b5 b6 b7 b8 b9:Value):World:=((((((((((w.setCell ⟨g,5,none⟩ b0).setCell ⟨g,6,none⟩ b1).setCell ⟨g,7,none⟩ b2).setCell ⟨g,8,none⟩ b3).setCell ⟨g,9,none⟩ b4).setCell ⟨g,10,none⟩ b5).setCell ⟨g,11,none⟩ b6).setCell ⟨g,12,none⟩ b7).setCell ⟨g,13,none⟩ b8).setCell ⟨g,14,none⟩ b9)
theorem Zts {w:World} {g:Nat} {e:TypeId} {a0 a1 a2 a3 a4 a5 a6 a7 a8 a9 a10 a11 a12 a13 a14:Value} (h:Row w g e [a0,a1,a2,a3,a4,a5,a6,a7,a8,a9,a10,a11,a12,a13,a14]) (b0 b1 b2 b3 b4 b5 b6 b7 b8 b9:Value):Row (setZ w g b0 b1 b2 b3 b4 b5 b6 b7 b8 b9) g e [a0,a1,a2,a3,a4,b0,b1,b2,b3,b4,b5,b6,b7,b8,b9]:=((((((((((h.set 5 b0).set 6 b1).set 7 b2).set 8 b3).set 9 b4).set 10 b5).set 11 b6).set 12 b7).set 13 b8).set 14 b9)
theorem Ztw (w:World) (g:Nat) (b0 b1 b2 b3 b4 b5 b6 b7 b8 b9:Value):Chg g g w (setZ w g b0 b1 b2 b3 b4 b5 b6 b7 b8 b9):=(((((((((((Chg.refl g g w).setCell g 5 b0 (.inl rfl)).setCell g 6 b1 (.inl rfl)).setCell g 7 b2 (.inl rfl)).setCell g 8 b3 (.inl rfl)).setCell g 9 b4 (.inl rfl)).setCell g 10 b5 (.inl rfl)).setCell g 11 b6 (.inl rfl)).setCell g 12 b7 (.inl rfl)).setCell g 13 b8 (.inl rfl)).setCell g 14 b9 (.inl rfl))
theorem Zid.false_of {kd rows:Nat} {xs:List Nat} {en:En} {w w':World} (h:Zhp kd rows xs en=false) (hb:Below w.heap.size w w'):Zid kd rows xs en w (.returned (.tuple #[Zgj,.bool false])) w':=⟨hb,.inr ⟨h,rfl⟩⟩
end Go.Proofs.YtmcjknjlihgihaaGreatDoor
