/- A zone holds for a body as it holds for the body's cells (integers). -/
import Derived.Test.YtmcjknjlihgihaaGreatDoorLawfreshlistsuptoM28
set_option linter.unusedVariables false
set_option linter.unusedSimpArgs false
set_option linter.unnecessarySimpa false
set_option maxRecDepth 100000
namespace Go.Proofs.YtmcjknjlihgihaaGreatDoor
open Go.RowKit
def Zr7 (rows:Nat) (xs:List Nat):List Int:=yv_I (Zaa rows xs).codec (Zaa rows xs).wd (Zao rows xs).list (Zao rows xs).ends (Zc2 rows xs) (Zao rows xs).lanes (Zbd rows (Zaa rows xs).nulls)
def Zqf (rows:Nat) (xs:List Nat) (z:ZM):Bool:=Zc1 rows xs&&Zsf z rows (Zbd rows (Zaa rows xs).nulls) (Zr7 rows xs)
theorem Zxo (rows:Nat) (xs:List Nat) (z:ZM) (hb:∀ x∈xs,x<256) (hl:xs.length≤16777216) (hrr:rows≤65536) (hok:Zc1 rows xs=true) (w:World) (g:Nat) (B:Option Addr) (bc:Nat)
  (hk:Ck_I w g rows (Zaa rows xs).codec (Zaa rows xs).wd (Zaa rows xs).nulls (Zbd rows (Zaa rows xs).nulls) (Zao rows xs).list (Zao rows xs).ends (Zc2 rows xs) (Zao rows xs).lanes)
  (hbr:Rd w (.slice B z.bl.length bc) z.bl.length 1 (u64s z.bl)) (hbv:∀ x∈z.bl,x<18446744073709551616) (hbl:z.bl.length≤64) (hhs:0≤z.hs∧z.hs≤8) :
  Calls Tryz.prog 129 #[.iface 159 (.agg #[]),.pointer (some ⟨g,0,none⟩),z.v (.slice B z.bl.length bc)] w fun e w' =>
   e=.returned (.bool (Zsf z rows (Zbd rows (Zaa rows xs).nulls) (Zr7 rows xs)))∧Below w.heap.size w w':=by
 have hV:=Zs9 rows xs hb hl hrr hok;have hw64:=Z0w rows xs hb hl hrr hok;have hk6:Zbd rows (Zaa rows xs).nulls≤65536:=by unfold Zbd;omega
 refine Zxg w g rows _ _ _ _ _ _ _ _ z B bc hk hV.el hV.ll hV.lv hw64 hk6 hrr hV.ok (fun h2 j hj=>?_) hbr hbv hbl hhs ?_
 ·have:=hV.ok j hj;rw[h2]at this;unfold Zox ok_I at this;rcases this with ⟨h9,_⟩ | ⟨h9,_⟩ | ⟨_,h5,_,h6⟩ | ⟨h9,_⟩
  ·omega
  ·omega
  ·exact⟨h5,h6⟩
  ·omega
 ·skip
  exact Z1g _ _ _ _ _ _ _
set_option maxHeartbeats 8000000 in
theorem Zvr (w:World) (v:Value) (xs:List Nat) (rows:Nat) (o l sm:Int) (cd wd:Int) (z:ZM) (B:Option Addr) (bc:Nat) (hT:Tab w) (hv:Rd w v xs.length 1 (u8s xs)) (hb:∀ x∈xs,x<256) (hl:xs.length≤16777216) (hrr:rows≤65536)
  (hbr:Rd w (.slice B z.bl.length bc) z.bl.length 1 (u64s z.bl)) (hbv:∀ x∈z.bl,x<18446744073709551616) (hbl:z.bl.length≤64) (hhs:0≤z.hs∧z.hs≤8) :
  Calls Tryz.prog 88 #[.iface 159 (.agg #[]),.int .i64 rows,v,.agg #[.int .i64 o,.int .i64 l,.int .u32 sm,.int .i64 cd,.int .i64 wd,.bool z.rg,.int .i64 z.nu,.bool z.mn.n,.int .i64 z.mn.i,.string z.mn.s,.bool z.mx.n,.int .i64 z.mx.i,.string z.mx.s,.int .i64 z.hs,.slice B z.bl.length bc]] w fun e w' =>
   Below w.heap.size w w'∧e=.returned (if Zqf rows xs z=true then .tuple #[.agg #[.int .i64 o,.int .i64 l,.int .u32 sm,.int .i64 (Zaa rows xs).codec,.int .i64 (Zaa rows xs).wd,.bool z.rg,.int .i64 z.nu,.bool z.mn.n,.int .i64 z.mn.i,.string z.mn.s,.bool z.mx.n,.int .i64 z.mx.i,.string z.mx.s,.int .i64 z.hs,.slice B z.bl.length bc],.bool true]
    else .tuple #[.agg #[.int .i64 0,.int .i64 0,.int .u32 0,.int .i64 0,.int .i64 0,.bool false,.int .i64 0,.bool false,.int .i64 0,.string ⟨#[]⟩,.bool false,.int .i64 0,.string ⟨#[]⟩,.int .i64 0,.slice none 0 0],.bool false]):=by
 have HLK:=hid (fun w2 (hb2:Below w.heap.size w w2)=>Z03 w2 v xs rows (hT.mono hb2 hT.lt) (hv.mono hb2) hb hl hrr);have ZT:=hid (fun(w2:World) (g:Nat) (hb2:Below w.heap.size w w2) (hh:Zc1 rows xs=true)=>fun hk=>Zxo rows xs z hb hl hrr hh w2 g B bc hk (hbr.mono hb2) hbv hbl hhs);obtain⟨A0,c0,rfl,_,_,_⟩:=hv.form;have Js:=hid (fun(w2:World) (nu lv ev nv bef:Value)=>@Zv9 w2 rows xs nu lv ev nv bef);unfold Zqf;generalize Zsf z rows (Zbd rows (Zaa rows xs).nulls) (Zr7 rows xs)=SO at *;generalize Zc1 rows xs=OK at *;generalize Zao rows xs=O at *;generalize Zc2 rows xs=bs at *;generalize Zaa rows xs=H at *;obtain⟨rg,nu,mn,mx,hs,bl⟩:=z;simp only at ZT;unfold ZM.v at ZT;simp only at ZT ⊢;generalize bl.length=bn at *;clear hT hv hbr hbv hbl hhs;obtain⟨ANS,hANS⟩:∃ ANS,(if (OK&&SO)=true then Value.tuple #[.agg #[.int .i64 o,.int .i64 l,.int .u32 sm,.int .i64 H.codec,.int .i64 H.wd,.bool rg,.int .i64 nu,.bool mn.n,.int .i64 mn.i,.string mn.s,.bool mx.n,.int .i64 mx.i,.string mx.s,.int .i64 hs,.slice B bn bc],.bool true]
    else .tuple #[.agg #[.int .i64 0,.int .i64 0,.int .u32 0,.int .i64 0,.int .i64 0,.bool false,.int .i64 0,.bool false,.int .i64 0,.string ⟨#[]⟩,.bool false,.int .i64 0,.string ⟨#[]⟩,.int .i64 0,.slice none 0 0],.bool false])=ANS:=⟨_,rfl⟩
 rw[hANS];have Qm:=hid hANS;clear hANS;go_enter Tryz.func88,Tryz.ntmps88;go_upto_region 1 with fail
 obtain⟨w1,hw1⟩:∃ w1,(w.alloc (.cells #[.int .i64 o,.int .i64 l,.int .u32 sm,.int .i64 cd,.int .i64 wd,.bool rg,.int .i64 nu,.bool mn.n,.int .i64 mn.i,.string mn.s,.bool mx.n,.int .i64 mx.i,.string mx.s,.int .i64 hs,.slice B bn bc] 41)).alloc (.cells #[.int .i64 0,.int .i64 0,.int .u32 0,.int .i64 0,.int .i64 0,.bool false,.int .i64 0,.bool false,.int .i64 0,.string ⟨#[]⟩,.bool false,.int .i64 0,.string ⟨#[]⟩,.int .i64 0,.slice none 0 0] 41)=w1:=⟨_,rfl⟩;obtain⟨s,hsz⟩:∃ s,w.heap.size=s:=⟨_,rfl⟩;have HR:Hid (Row w1 s 41 [.int .i64 o,.int .i64 l,.int .u32 sm,.int .i64 cd,.int .i64 wd,.bool rg,.int .i64 nu,.bool mn.n,.int .i64 mn.i,.string mn.s,.bool mx.n,.int .i64 mx.i,.string mx.s,.int .i64 hs,.slice B bn bc]∧Row w1 (s+1) 41 [.int .i64 0,.int .i64 0,.int .u32 0,.int .i64 0,.int .i64 0,.bool false,.int .i64 0,.bool false,.int .i64 0,.string ⟨#[]⟩,.bool false,.int .i64 0,.string ⟨#[]⟩,.int .i64 0,.slice none 0 0]∧Below w.heap.size w w1∧w1.heap.size=s+2):=hid (by
  have f1:=Zbs (w:=w) (C:=#[.int .i64 o,.int .i64 l,.int .u32 sm,.int .i64 cd,.int .i64 wd,.bool rg,.int .i64 nu,.bool mn.n,.int .i64 mn.i,.string mn.s,.bool mx.n,.int .i64 mx.i,.string mx.s,.int .i64 hs,.slice B bn bc]) (e:=41);have f2:=Zbs (w:=w.alloc (.cells #[.int .i64 o,.int .i64 l,.int .u32 sm,.int .i64 cd,.int .i64 wd,.bool rg,.int .i64 nu,.bool mn.n,.int .i64 mn.i,.string mn.s,.bool mx.n,.int .i64 mx.i,.string mx.s,.int .i64 hs,.slice B bn bc] 41)) (C:=#[.int .i64 0,.int .i64 0,.int .u32 0,.int .i64 0,.int .i64 0,.bool false,.int .i64 0,.bool false,.int .i64 0,.string ⟨#[]⟩,.bool false,.int .i64 0,.string ⟨#[]⟩,.int .i64 0,.slice none 0 0]) (e:=41);rw[hw1]at f2;have r1:=f1.1.mono f2.2;have r2:=f2.1;simp only[World.size_alloc,hsz]at r1 r2;refine⟨r1,r2,Zad f1.2 f2.2,?_⟩;rw[← hw1];simp[hsz])
 rw[hw1];have QY:=hid hsz;clear hw1;rw[hsz];clear hsz;have Vg:=hid (HLK.out w1 HR.out.2.2.1);clear HLK;go_wp2_with fail
 refine Vg.out.mono ?_;rintro e w2 ⟨hb2,⟨rfl,rfl⟩ | ⟨rfl,nu2,lv,ev,nv,bef,rfl,h1,h2,h3,h4,h5⟩⟩
 ·have hb3:Below w2.heap.size w2 (w2.alloc (.cells Zay.toArray 207)):=(Zab w2).alloc (Nat.le_refl _) _;have hz1:=HR.out.2.2.2;have hz2:=hb2.size;have R2:=(HR.out.2.1.mono hb2).mono hb3;have Zu:=hid (Zad (Zad HR.out.2.2.1 hb2) hb3);have HA:Hid (ANS=.tuple #[.agg #[.int .i64 0,.int .i64 0,.int .u32 0,.int .i64 0,.int .i64 0,.bool false,.int .i64 0,.bool false,.int .i64 0,.string ⟨#[]⟩,.bool false,.int .i64 0,.string ⟨#[]⟩,.int .i64 0,.slice none 0 0],.bool false]):=hid (by rw[← Qm.out];simp);clear hb2 hb3 ZT Js Qm Vg;unfold Zay i64 nilS at *;go_upto_region 2 with fail
  generalize w2.alloc (.cells #[.int .i64 0,.int .i64 0,.int .i64 0,.slice none 0 0,.int .i64 0,.slice none 0 0,.slice none 0 0,.int .i64 0,.slice none 0 0,.nilIface,.slice none 0 0] 207)=w3 at *;obtain⟨y0,y1,y2,y3,y4,y5,y6,y7,y8,y9,y10,y11,y12,y13,y14⟩:=Zch R2;obtain⟨f0,f1,f2,f3,f4,f5,f6,f7,f8,f9,f10,f11,f12,f13,f14⟩:=Zf4 R2;have Qq:=hid R2;clear R2;go_wp2_with fail
  change bodyPost _ _ _ _ _ (Zar w3 (s+1) (.int .i64 0) (.int .i64 0) (.int .u32 0) (.int .i64 0) (.int .i64 0) (.bool false) (.int .i64 0) (.bool false) (.int .i64 0) (.string ⟨#[]⟩) (.bool false) (.int .i64 0) (.string ⟨#[]⟩) (.int .i64 0) (.slice none 0 0))
  have R9:=Zci Qq.out (.int .i64 0) (.int .i64 0) (.int .u32 0) (.int .i64 0) (.int .i64 0) (.bool false) (.int .i64 0) (.bool false) (.int .i64 0) (.string ⟨#[]⟩) (.bool false) (.int .i64 0) (.string ⟨#[]⟩) (.int .i64 0) (.slice none 0 0);have hbl:=Zbr Zu.out (show w.heap.size≤s+1 by rw[QY.out];omega) (.int .i64 0) (.int .i64 0) (.int .u32 0) (.int .i64 0) (.int .i64 0) (.bool false) (.int .i64 0) (.bool false) (.int .i64 0) (.string ⟨#[]⟩) (.bool false) (.int .i64 0) (.string ⟨#[]⟩) (.int .i64 0) (.slice none 0 0);clear y0 y1 y2 y3 y4 y5 y6 y7 y8 y9 y10 y11 y12 y13 y14 f0 f1 f2 f3 f4 f5 f6 f7 f8 f9 f10 f11 f12 f13 f14;generalize Zar w3 (s+1) (.int .i64 0) (.int .i64 0) (.int .u32 0) (.int .i64 0) (.int .i64 0) (.bool false) (.int .i64 0) (.bool false) (.int .i64 0) (.string ⟨#[]⟩) (.bool false) (.int .i64 0) (.string ⟨#[]⟩) (.int .i64 0) (.slice none 0 0)=wz at *;obtain⟨q0,q1,q2,q3,q4,q5,q6,q7,q8,q9,q10,q11,q12,q13,q14⟩:=Zch R9;refine bodyPost_ret (v:=.tuple #[.agg #[.int .i64 0,.int .i64 0,.int .u32 0,.int .i64 0,.int .i64 0,.bool false,.int .i64 0,.bool false,.int .i64 0,.string ⟨#[]⟩,.bool false,.int .i64 0,.string ⟨#[]⟩,.int .i64 0,.slice none 0 0],.bool false]) ?_ rfl ?_
  ·simp[results,Tryz.results88,go_sem,q0,q1,q2,q3,q4,q5,q6,q7,q8,q9,q10,q11,q12,q13,q14]
  ·exact⟨hbl,by rw[HA.out]⟩
 ·obtain⟨A1,c1,rfl,_,_,_⟩:=(Zba h1).form;obtain⟨A2,c2,rfl,_,_,_⟩:=h2.form;obtain⟨A3,c3,rfl,_,_,_⟩:=h3.form;obtain⟨A4,c4,rfl,_,_,_⟩:=h4.form;obtain⟨A5,c5,rfl,_,_,_⟩:=h5.form;have Y2:=hid (Js.out w2 _ _ _ _ _ (Zba h1) h2 h3 h4 h5);have Qc:=hid (Zad HR.out.2.2.1 hb2);have Qf:=hid (Zbs (w:=w2) (C:=(ck_I rows H.codec H.wd (.slice A1 H.nulls.length c1) (Zbd rows H.nulls) (.slice A2 O.list.length c2) (.slice A3 O.ends.length c3) bs (.slice A4 O.lanes.length c4) Zbj (.slice A5 H.nulls.length c5)).toArray) (e:=207));have hz1:=HR.out.2.2.2;have hz2:=hb2.size;have ZX:=hid hz2;have QK:=hid (HR.out.1.mono hb2);have Zx:=hid (HR.out.2.1.mono hb2);clear h1 h2 h3 h4 h5 hb2 Js Vg;have Jt:=hid (ZT.out _ w2.heap.size (Zad Qc.out Qf.out.2) rfl Y2.out);clear ZT;generalize Zbd rows H.nulls=kk at *;unfold ck_I i64 Zbj at *;go_upto_region 2 with fail
  have Qk:=hid (Zad Qc.out Qf.out.2);have Yt:=hid (QK.out.mono Qf.out.2);have QN:=hid (Zx.out.mono Qf.out.2);have Z8:=hid Qf.out.1;clear Qf Y2 QK Zx Qc;generalize w2.alloc (.cells #[.int .i64 rows,.int .i64 H.codec,.int .i64 H.wd,.slice A1 H.nulls.length c1,.int .i64 kk,.slice A2 O.list.length c2,.slice A3 O.ends.length c3,.int .i64 bs,.slice A4 O.lanes.length c4,.iface 159 (.agg #[]),.slice A5 H.nulls.length c5] 207)=w3 at *;obtain⟨y0,y1,y2,y3,y4,y5,y6,y7,y8,y9,y10,y11,y12,y13,y14⟩:=Zch Yt.out;have HPS:Hid (s+1<w2.heap.size):=hid (by omega);clear hz1 hz2;cases SO
  ·have HA:Hid (ANS=.tuple #[.agg #[.int .i64 0,.int .i64 0,.int .u32 0,.int .i64 0,.int .i64 0,.bool false,.int .i64 0,.bool false,.int .i64 0,.string ⟨#[]⟩,.bool false,.int .i64 0,.string ⟨#[]⟩,.int .i64 0,.slice none 0 0],.bool false]):=hid (by rw[← Qm.out];rfl);clear Qm;go_wp2_with (go_at_call 129;refine Jt.out.mono ?_;rintro e w4 ⟨rfl,hb4⟩;have Q0:=hid hb4;have Yg:=hid (QN.out.mono hb4);clear hb4 y0 y1 y2 y3 y4 y5 y6 y7 y8 y9 y10 y11 y12 y13 y14;obtain⟨y0,y1,y2,y3,y4,y5,y6,y7,y8,y9,y10,y11,y12,y13,y14⟩:=Zch Yg.out;obtain⟨f0,f1,f2,f3,f4,f5,f6,f7,f8,f9,f10,f11,f12,f13,f14⟩:=Zf4 Yg.out)
   change bodyPost _ _ _ _ _ (Zar w4 (s+1) (.int .i64 0) (.int .i64 0) (.int .u32 0) (.int .i64 0) (.int .i64 0) (.bool false) (.int .i64 0) (.bool false) (.int .i64 0) (.string ⟨#[]⟩) (.bool false) (.int .i64 0) (.string ⟨#[]⟩) (.int .i64 0) (.slice none 0 0))
   have R9:=Zci Yg.out (.int .i64 0) (.int .i64 0) (.int .u32 0) (.int .i64 0) (.int .i64 0) (.bool false) (.int .i64 0) (.bool false) (.int .i64 0) (.string ⟨#[]⟩) (.bool false) (.int .i64 0) (.string ⟨#[]⟩) (.int .i64 0) (.slice none 0 0);have hbl:=Zbr (Zad Qk.out Q0.out) (show w.heap.size≤s+1 by rw[QY.out];omega) (.int .i64 0) (.int .i64 0) (.int .u32 0) (.int .i64 0) (.int .i64 0) (.bool false) (.int .i64 0) (.bool false) (.int .i64 0) (.string ⟨#[]⟩) (.bool false) (.int .i64 0) (.string ⟨#[]⟩) (.int .i64 0) (.slice none 0 0);clear y0 y1 y2 y3 y4 y5 y6 y7 y8 y9 y10 y11 y12 y13 y14 f0 f1 f2 f3 f4 f5 f6 f7 f8 f9 f10 f11 f12 f13 f14;generalize Zar w4 (s+1) (.int .i64 0) (.int .i64 0) (.int .u32 0) (.int .i64 0) (.int .i64 0) (.bool false) (.int .i64 0) (.bool false) (.int .i64 0) (.string ⟨#[]⟩) (.bool false) (.int .i64 0) (.string ⟨#[]⟩) (.int .i64 0) (.slice none 0 0)=wz at *;obtain⟨q0,q1,q2,q3,q4,q5,q6,q7,q8,q9,q10,q11,q12,q13,q14⟩:=Zch R9;refine bodyPost_ret (v:=.tuple #[.agg #[.int .i64 0,.int .i64 0,.int .u32 0,.int .i64 0,.int .i64 0,.bool false,.int .i64 0,.bool false,.int .i64 0,.string ⟨#[]⟩,.bool false,.int .i64 0,.string ⟨#[]⟩,.int .i64 0,.slice none 0 0],.bool false]) ?_ rfl ?_
   ·simp[results,Tryz.results88,go_sem,q0,q1,q2,q3,q4,q5,q6,q7,q8,q9,q10,q11,q12,q13,q14]
   ·exact⟨hbl,by rw[HA.out]⟩
  ·have HA:Hid (ANS=.tuple #[.agg #[.int .i64 o,.int .i64 l,.int .u32 sm,.int .i64 H.codec,.int .i64 H.wd,.bool rg,.int .i64 nu,.bool mn.n,.int .i64 mn.i,.string mn.s,.bool mx.n,.int .i64 mx.i,.string mx.s,.int .i64 hs,.slice B bn bc],.bool true]):=hid (by rw[← Qm.out];rfl);clear Qm;go_upto_region 4 with (go_at_call 129;refine Jt.out.mono ?_;rintro e w4 ⟨rfl,hb4⟩;have Q0:=hid hb4;have YQ:=hid (Yt.out.mono hb4);have Yg:=hid (QN.out.mono hb4);have YL:=hid (Z8.out.mono hb4);clear hb4)
   clear y0 y1 y2 y3 y4 y5 y6 y7 y8 y9 y10 y11 y12 y13 y14;obtain⟨y0,y1,y2,y3,y4,y5,y6,y7,y8,y9,y10,y11,y12,y13,y14⟩:=Zch YQ.out;obtain⟨f0,f1,f2,f3,f4,f5,f6,f7,f8,f9,f10,f11,f12,f13,f14⟩:=Zf4 YQ.out;have k1:=YL.out.cell 1;have k2:=YL.out.cell 2;simp only[List.getElem?_cons_zero,List.getElem?_cons_succ]at k1 k2;go_region
   have Vn:Hid (Row ((w4.setCell ⟨s,3,none⟩ (.int .i64 H.codec)).setCell ⟨s,4,none⟩ (.int .i64 H.wd)).drew s 41 [.int .i64 o,.int .i64 l,.int .u32 sm,.int .i64 H.codec,.int .i64 H.wd,.bool rg,.int .i64 nu,.bool mn.n,.int .i64 mn.i,.string mn.s,.bool mx.n,.int .i64 mx.i,.string mx.s,.int .i64 hs,.slice B bn bc]):=hid (((YQ.out.set 3 (.int .i64 H.codec)).set 4 (.int .i64 H.wd)).mono (Zag (Zab _) 1));have ZK:Hid (Row ((w4.setCell ⟨s,3,none⟩ (.int .i64 H.codec)).setCell ⟨s,4,none⟩ (.int .i64 H.wd)).drew (s+1) 41 [.int .i64 0,.int .i64 0,.int .u32 0,.int .i64 0,.int .i64 0,.bool false,.int .i64 0,.bool false,.int .i64 0,.string ⟨#[]⟩,.bool false,.int .i64 0,.string ⟨#[]⟩,.int .i64 0,.slice none 0 0]):=hid ((Zbg (w:=w4.setCell ⟨s,3,none⟩ (.int .i64 H.codec)) (i:=4) (v:=.int .i64 H.wd) (Zbg (w:=w4) (i:=3) (v:=.int .i64 H.codec) Yg.out (show s+1≠s by omega)) (show s+1≠s by omega)).mono (Zag (Zab _) 1));have Q2:Hid (Below w.heap.size w ((w4.setCell ⟨s,3,none⟩ (.int .i64 H.codec)).setCell ⟨s,4,none⟩ (.int .i64 H.wd)).drew):=hid (Zag (Zbf (Zbf (Zad Qk.out Q0.out) s 3 (.int .i64 H.codec) (by rw[QY.out];exact Nat.le_refl _)) s 4 (.int .i64 H.wd) (by rw[QY.out];exact Nat.le_refl _)) 1);clear y0 y1 y2 y3 y4 y5 y6 y7 y8 y9 y10 y11 y12 y13 y14 f0 f1 f2 f3 f4 f5 f6 f7 f8 f9 f10 f11 f12 f13 f14 k1 k2;generalize ((w4.setCell ⟨s,3,none⟩ (.int .i64 H.codec)).setCell ⟨s,4,none⟩ (.int .i64 H.wd)).drew=w5 at *;obtain⟨y0,y1,y2,y3,y4,y5,y6,y7,y8,y9,y10,y11,y12,y13,y14⟩:=Zch Vn.out;obtain⟨e0,e1,e2,e3,e4,e5,e6,e7,e8,e9,e10,e11,e12,e13,e14⟩:=Zch ZK.out;obtain⟨f0,f1,f2,f3,f4,f5,f6,f7,f8,f9,f10,f11,f12,f13,f14⟩:=Zf4 ZK.out;go_wp2_with fail
   change bodyPost _ _ _ _ _ (Zar w5 (s+1) (.int .i64 o) (.int .i64 l) (.int .u32 sm) (.int .i64 H.codec) (.int .i64 H.wd) (.bool rg) (.int .i64 nu) (.bool mn.n) (.int .i64 mn.i) (.string mn.s) (.bool mx.n) (.int .i64 mx.i) (.string mx.s) (.int .i64 hs) (.slice B bn bc))
   have R9:=Zci ZK.out (.int .i64 o) (.int .i64 l) (.int .u32 sm) (.int .i64 H.codec) (.int .i64 H.wd) (.bool rg) (.int .i64 nu) (.bool mn.n) (.int .i64 mn.i) (.string mn.s) (.bool mx.n) (.int .i64 mx.i) (.string mx.s) (.int .i64 hs) (.slice B bn bc);have hbl:=Zbr Q2.out (show w.heap.size≤s+1 by rw[QY.out];omega) (.int .i64 o) (.int .i64 l) (.int .u32 sm) (.int .i64 H.codec) (.int .i64 H.wd) (.bool rg) (.int .i64 nu) (.bool mn.n) (.int .i64 mn.i) (.string mn.s) (.bool mx.n) (.int .i64 mx.i) (.string mx.s) (.int .i64 hs) (.slice B bn bc);clear y0 y1 y2 y3 y4 y5 y6 y7 y8 y9 y10 y11 y12 y13 y14 f0 f1 f2 f3 f4 f5 f6 f7 f8 f9 f10 f11 f12 f13 f14 e0 e1 e2 e3 e4 e5 e6 e7 e8 e9 e10 e11 e12 e13 e14;generalize Zar w5 (s+1) (.int .i64 o) (.int .i64 l) (.int .u32 sm) (.int .i64 H.codec) (.int .i64 H.wd) (.bool rg) (.int .i64 nu) (.bool mn.n) (.int .i64 mn.i) (.string mn.s) (.bool mx.n) (.int .i64 mx.i) (.string mx.s) (.int .i64 hs) (.slice B bn bc)=wz at *;obtain⟨q0,q1,q2,q3,q4,q5,q6,q7,q8,q9,q10,q11,q12,q13,q14⟩:=Zch R9;refine bodyPost_ret (v:=.tuple #[.agg #[.int .i64 o,.int .i64 l,.int .u32 sm,.int .i64 H.codec,.int .i64 H.wd,.bool rg,.int .i64 nu,.bool mn.n,.int .i64 mn.i,.string mn.s,.bool mx.n,.int .i64 mx.i,.string mx.s,.int .i64 hs,.slice B bn bc],.bool true]) ?_ rfl ?_
   ·simp[results,Tryz.results88,go_sem,q0,q1,q2,q3,q4,q5,q6,q7,q8,q9,q10,q11,q12,q13,q14]
   ·exact⟨hbl,by rw[HA.out]⟩
set_option maxRecDepth 20000
theorem Zy3 {α : Type} (ys:List α) (n:Nat) (f:Nat→α) (h1:∀ y∈ys,∃ j,j<n∧y=f j) (h2:∀ j,j<n→f j∈ys) (p : α→Bool):ys.all p=(List.range n).all fun j=>p (f j):=by
 rw[Bool.eq_iff_iff,List.all_eq_true,List.all_eq_true];constructor
 ·intro h j hj;exact h _ (h2 j (List.mem_range.1 hj))
 ·intro h y hy;obtain⟨j,hj,rfl⟩:=h1 y hy;exact h j (List.mem_range.2 hj)
theorem Zne {list:List Int} {i:Nat} (h:i<list.length):list.getD i dfI∈list:=by simp[List.getD,List.getElem?_eq_getElem h]
theorem Zm2 {list:List Int} {y:Int} (h:y∈list):∃ i,i<list.length∧y=list.getD i dfI:=by
 obtain⟨i,hi,rfl⟩:=List.getElem_of_mem h;exact⟨i,hi,by simp[List.getD,List.getElem?_eq_getElem hi]⟩
theorem Zij (f:Nat→Nat) (k:Nat) (list:List Int) (y:Int):∀ i,y∈Zc0 f k list i↔∃ t,t<i∧Zdr f k t=true∧y=list.getD t dfI
 | 0=>by simp[Zc0]
 | i+1=>by
  unfold Zc0;rw[List.mem_append,Zij f k list y i];constructor
  ·rintro(⟨t,h1,h2,h3⟩ | h)
   ·exact⟨t,by omega,h2,h3⟩
   ·split at h
    ·rename_i hu
     exact⟨i,by omega,hu,List.mem_singleton.1 h⟩
    ·cases h
  ·rintro⟨t,h1,h2,h3⟩;by_cases ht:t=i
   ·subst ht
    right;rw[if_pos h2];exact List.mem_singleton.2 h3
   ·exact .inl ⟨t,by omega,h2,h3⟩
theorem Zkm (f:Nat→Nat) (k t:Nat):Zdr f k t=true↔∃ j,j<k∧f j=t:=by
 unfold Zdr;rw[List.any_eq_true];constructor
 ·rintro⟨j,hj,h⟩;exact⟨j,List.mem_range.1 hj,by simpa using h⟩
 ·rintro⟨j,hj,h⟩;exact⟨j,List.mem_range.2 hj,by simpa using h⟩
theorem Zs3 {es:List Nat} {k:Nat} (h:Zax (nI es) k=true) (i:Nat) (hi:i<es.length):∃ j,j<k∧Zb8 (nI es) ((j:Int)+1)=i:=by
 have h1:Za2 0 (nI es)=some (k:Int):=by simpa [Zax]using h
 have hasc:=Ze9 h;have hgt:=Zi6 (nI es) 0 k h1 i (by rw[Zaq];exact hi);have hle:=Zj2 (nI es) 0 k h1 i (by rw[Zaq];exact hi);have hg:(nI es).getD i 0=(es.getD i 0:Nat):=by unfold nI;simp[List.getD,List.getElem?_map,List.getElem?_eq_getElem hi]
 rw[hg]at hgt hle;refine⟨es.getD i 0-1,by omega,?_⟩;have e:(((es.getD i 0-1:Nat):Int)+1)=(nI es).getD i 0:=by rw[hg];omega
 rw[e];refine Zhk _ _ i (by rw[Zaq];omega) (fun a ha=>hasc a i ha (by rw[Zaq];exact hi)) (fun _=>Int.le_refl _)
theorem Zt8 (rows:Nat) (xs:List Nat) (h:Zc1 rows xs=true) (hok:∀ j,j<Zbd rows (Zaa rows xs).nulls→Zox (Zaa rows xs).codec (Zaa rows xs).wd (Zao rows xs).list (Zao rows xs).ends (Zao rows xs).lanes j) :
  (∀ y∈Zr7 rows xs,∃ j,j<Zbd rows (Zaa rows xs).nulls∧y=Zom rows xs j)∧∀ j,j<Zbd rows (Zaa rows xs).nulls→Zom rows xs j∈Zr7 rows xs:=by
 unfold Zc1 Zgk at h;simp only[Bool.and_eq_true,Bool.not_eq_true',decide_eq_true_eq]at h;obtain⟨⟨hpk,hcd⟩,hOb,hOs,hOl⟩:=h;unfold Zr7 Zom;generalize Zc2 rows xs=bs at *;unfold Zao at *;generalize Zbd rows (Zaa rows xs).nulls=k at *;generalize (Zaa rows xs).left=x3 at *;generalize (Zaa rows xs).short=t3 at *;generalize (Zaa rows xs).codec=cd at *;generalize (Zaa rows xs).wd=wd at *;have hcdk:1≤cd∧cd≤5:=by
  unfold Zbi at hcd
  split at hcd
  ·omega
  ·simp only[decide_eq_true_eq]at hcd;omega
 unfold Zbc at *;by_cases h1:cd=1
 ·subst h1;rw[if_pos rfl]at *;unfold Zbu at *;simp only[Bool.and_eq_true,decide_eq_true_eq]at *;have hf:=Zen hOb.1 hOs;have hv:∀ j,vl_I 1 wd (rdI k x3 t3).1 [] bs [] j=(rdI k x3 t3).1.getD j dfI:=fun j=>by unfold vl_I Zi2;rw[if_neg (by omega),if_pos rfl]
  unfold yv_I;rw[if_pos (.inl rfl)];refine⟨fun y hy=>?_,fun j hj=>?_⟩
  ·obtain⟨i,hi,he⟩:=Zm2 hy;exact⟨i,by omega,by rw[hv];exact he⟩
  ·rw[hv];exact Zne (by omega)
 by_cases h2:cd=2
 ·subst h2;rw[if_neg (by decide),if_pos rfl]at *;unfold Zbv at *
  split at hOb
  ·cases hOb
  ·rename_i hc
   rw[if_neg hc]at *;generalize rdI (L.wordOf 8 (tk 4 x3)) (tkL 4 x3) (tkS 4 x3 t3)=R at *;generalize L.wordOf 8 (tk 4 x3)=d at *;have hfl:R.2.1=true→R.2.2.2=false→True:=fun _ _=>trivial
   obtain⟨vals,ok,xl,s1⟩:=R;simp only at *
   split at hOb
   ·rename_i hoa
    rw[if_pos hoa]at *;simp only at *;obtain⟨l1,l2,l3,l4⟩:=Zce hOb;have hv:∀ j,vl_I 2 wd vals [] bs (Za6 xl) j=vals.getD (L.laneOf wd (Za6 xl) j) dfI:=fun j=>by unfold vl_I Zi2;rw[if_neg (by omega),if_neg (by decide),if_pos rfl]
    unfold yv_I;rw[if_neg (by omega),if_pos rfl];refine⟨fun y hy=>?_,fun j hj=>?_⟩
    ·obtain⟨t,ht,hu,he⟩:=(Zij _ _ _ _ _).1 hy;obtain⟨j,hj,hl⟩:=(Zkm _ _ _).1 hu;exact⟨j,hj,by rw[hv,hl];exact he⟩
    ·rw[hv];by_cases hlt:L.laneOf wd (Za6 xl) j<vals.length
     ·exact(Zij _ _ _ _ _).2 ⟨_,hlt,(Zkm _ _ _).2 ⟨j,hj,rfl⟩,rfl⟩
     ·exfalso;have:=hok j hj;unfold Zox ok_I at this;rcases this with ⟨h9,_⟩ | ⟨h9,_⟩ | ⟨_,h5,_,h6⟩ | ⟨h9,_⟩
      ·omega
      ·omega
      ·exact hlt h5
      ·omega
   ·cases hOb
 by_cases h3:cd=3
 ·subst h3;rw[if_neg (by decide),if_neg (by decide),if_pos rfl]at *;unfold Zbp at *
  split at hOb
  ·cases hOb
  ·rename_i hc
   rw[if_neg hc]at *;have hfl:=@Zen (L.wordOf 8 (tk 4 x3)) (tkL (4*L.wordOf 8 (tk 4 x3)) (tkL 4 x3)) (tkS (4*L.wordOf 8 (tk 4 x3)) (tkL 4 x3) (tkS 4 x3 t3));have hsh:=Zjy (L.wordOf 8 (tk 4 x3)) (tkL (4*L.wordOf 8 (tk 4 x3)) (tkL 4 x3)) (tkS (4*L.wordOf 8 (tk 4 x3)) (tkL 4 x3) (tkS 4 x3 t3));have hel:tkS (4*L.wordOf 8 (tk 4 x3)) (tkL 4 x3) (tkS 4 x3 t3)=false→(numL 4 (tk (4*L.wordOf 8 (tk 4 x3)) (tkL 4 x3))).length=L.wordOf 8 (tk 4 x3):=fun h=>by
    rw[Zal,Zke (Zb7 h).1];omega
   generalize rdI (L.wordOf 8 (tk 4 x3)) (tkL (4*L.wordOf 8 (tk 4 x3)) (tkL 4 x3)) (tkS (4*L.wordOf 8 (tk 4 x3)) (tkL 4 x3) (tkS 4 x3 t3))=R at *;generalize numL 4 (tk (4*L.wordOf 8 (tk 4 x3)) (tkL 4 x3))=es at *;generalize tkS (4*L.wordOf 8 (tk 4 x3)) (tkL 4 x3) (tkS 4 x3 t3)=s2 at *;generalize L.wordOf 8 (tk 4 x3)=d at *;obtain⟨vals,ok,xl,s1⟩:=R;simp only[Bool.and_eq_true]at *;have hvl:=hfl hOb.1 hOs;have hed:=hel (hsh hOs);have hre:Zax (nI es) k=true:=by
    cases hx:Zax (nI es) k with
    | true=>rfl
    | false=>exact absurd (.inr hx) hc
   have hv:∀ j,vl_I 3 wd vals es bs [] j=vals.getD (Zb8 (nI es) ((j:Int)+1)) dfI:=fun j=>by unfold vl_I Zi2;rw[if_neg (by omega),if_neg (by decide),if_neg (by decide)]
   unfold yv_I;rw[if_pos (.inr rfl)];refine⟨fun y hy=>?_,fun j hj=>?_⟩
   ·obtain⟨i,hi,he⟩:=Zm2 hy;obtain⟨j,hj,hf⟩:=Zs3 hre i (by omega);exact⟨j,hj,by rw[hv,hf];exact he⟩
   ·rw[hv];refine Zne ?_;have:=Ze2 hre ((j:Int)+1) (by omega) (by omega);rw[Zaq,hed]at this;omega
 ·have hv:∀(l:List Int) (e lanes:List Nat),yv_I cd wd l e bs lanes k=(List.range k).map (vl_I cd wd l e bs lanes):=fun l e lanes=>by unfold yv_I;rw[if_neg (by omega),if_neg h2]
  rw[hv];refine⟨fun y hy=>?_,fun j hj=>?_⟩
  ·rw[List.mem_map]at hy;obtain⟨j,hj,rfl⟩:=hy;exact⟨j,List.mem_range.1 hj,rfl⟩
  ·rw[List.mem_map];exact⟨j,List.mem_range.2 hj,rfl⟩
theorem Zyn (rows:Nat) (xs:List Nat) (hb:∀ x∈xs,x<256) (hl:xs.length≤16777216) (hrr:rows≤65536) (h:Zc1 rows xs=true) (p:Int→Bool):(Zr7 rows xs).all p=(List.range (Zbd rows (Zaa rows xs).nulls)).all fun j=>p (Zom rows xs j) :=
 Zy3 _ _ _ (Zt8 rows xs h (Zs9 rows xs hb hl hrr h).ok).1 (Zt8 rows xs h (Zs9 rows xs hb hl hrr h).ok).2 p
theorem Zvv (x:Int) (h:(vk_I x).s.size≤1024):Zdx 1 (vk_I x)=true:=by
 unfold Zdx ofK vk_I at *;rw[if_neg (by simp)];rw[if_pos rfl];exact(show (true&&ByteArray.empty.toList.isEmpty)=true from by decide +kernel)
theorem Zzm (z:ZM) (rows:Nat) (x:Int) (hs:(vk_I x).s.size≤1024) (hz:zOk 1 rows z=true) (hnr:z.rg=true→z.nu≠(rows:Int)):sndC z 1 rows (vk_I x)=Znq z x:=by
 unfold sndC Znq;have e0:(vk_I x).n=false:=rfl;rw[e0,Bool.false_or];congr 1
 ·cases hr:z.rg
  ·simp
  ·have hne:=hnr hr;rcases Zmv hz with ⟨_,_,h1,h2⟩ | ⟨h,_⟩
   ·rw[decide_eq_true hne];have e1:=Zp1 h1;have e2:=Zp1 h2;unfold Zqz vk_I;rw[e1,e2];simp only[Zyf,Bool.and_false,Bool.or_false,Bool.and_self,Bool.not_true,Bool.false_or]
   ·exact absurd ⟨hr,hne⟩ h
 ·cases hbl:decide (z.bl=[])
  ·have hne:z.bl≠[]:=by simpa using hbl
   rcases Zfq hz with ⟨h,_⟩ | ⟨_,h2,h3,h4⟩
   ·exact absurd h hne
   ·rw[Bool.false_or,Bool.false_or];unfold hasR;rw[Zvv x hs];have hl:0<z.bl.length:=List.length_pos_iff.2 hne;have e:Zej (z.bl.length:Int) z.hs=true:=by unfold Zej;rw[decide_eq_true_eq];omega
    rw[e];rfl
  ·rfl
theorem Z0j (rows:Nat) (xs:List Nat) (hb:∀ x∈xs,x<256) (hl:xs.length≤16777216) (hrr:rows≤65536) (h:Zc1 rows xs=true) (j:Nat) (hj:j<Zbd rows (Zaa rows xs).nulls):(vk_I (Zom rows xs j)).s.size≤1024:=by
 show ByteArray.empty.size≤1024
 decide
theorem Zw1 (rows:Nat) (xs:List Nat) (z:ZM) (hb:∀ x∈xs,x<256) (hl:xs.length≤16777216) (hrr:rows≤65536) (hz:zOk 1 rows z=true) :
  Zqf rows xs z=(rOk 1 rows xs&&sndR z 1 rows (cA (rWs rows xs)) (cB (rWs rows xs) (rPay 1 rows xs).2) (cC (rWs rows xs) (rPay 1 rows xs).2)):=by
 obtain⟨m1,m2⟩:=Z0t rows xs hrr;unfold Zqf;cases hlk:Zc1 rows xs
 ·rw[← m1,hlk];rfl
 ·rw[← m1,hlk,Bool.true_and,Bool.true_and];have m3:=m2 (by rw[← m1];exact hlk);have hn:(Zaa rows xs).nulls=rWs rows xs:=by
   cases hno:Zau 8 (rN rows) 2 xs.length
   ·exfalso;have e1:rOk 1 rows xs=false:=by unfold rOk rHd;rw[hno];simp
    rw[← m1,hlk]at e1;cases e1
   ·exact(Zmc rows xs hno).2.2.1
  have hsz:=Z0j rows xs hb hl hrr hlk;unfold Zsf;rw[Zyn rows xs hb hl hrr hlk];have hcell:∀ r,r<rows→Za0 (rWs rows xs) r=false→(⟨cA (rWs rows xs) r,cB (rWs rows xs) (rPay 1 rows xs).2 r,cC (rWs rows xs) (rPay 1 rows xs).2 r⟩:C3)=vk_I (Zom rows xs (r-Zbe (rWs rows xs) r)):=by
   intro r hr hbit;obtain⟨a1,a2,a3⟩:=m3 r hr;rw[← a1,← a2,← a3];unfold Zsl Zr6 Zrm;rw[hn,hbit,Zii _ _ hbit];rfl
  have hnull:∀ r,Za0 (rWs rows xs) r=true→cA (rWs rows xs) r=true:=fun r h=>h
  rw[hn]at *;have hcnt:Zbd rows (rWs rows xs)=rows-Zbe (rWs rows xs) rows:=rfl;rw[hcnt]at *;have hrk:=Zet (rWs rows xs) rows;unfold sndR;rw[Zo8];generalize (rPay 1 rows xs).2=vs at *;generalize rWs rows xs=ws at *;clear m1 m2 m3 hlk hn hcnt;rw[Bool.eq_iff_iff];simp only[Bool.and_eq_true,List.all_eq_true,List.mem_range,Bool.or_eq_true,Bool.not_eq_true',decide_eq_true_eq];constructor
  ·rintro⟨h1,h2⟩;refine⟨fun r hr=>?_,?_⟩
   ·cases hbit:Za0 ws r
    ·have hj:=Zm8 ws rows r hr hbit;rw[hcell r hr hbit,Zzm z rows _ (hsz _ hj) hz]
     ·exact h2 _ hj
     ·intro hrg;rcases h1 with h1 | h1
      ·rw[h1]at hrg;cases hrg
      ·omega
    ·unfold sndC;simp only;rw[hnull r hbit];rfl
   ·rcases h1 with h1 | h1
    ·exact .inl h1
    ·exact .inr (by omega)
  ·rintro⟨h1,h2⟩;refine⟨?_,fun j hj=>?_⟩
   ·rcases h2 with h2 | h2
    ·exact .inl h2
    ·exact .inr (by omega)
   ·obtain⟨r,hr,hbit,rfl⟩:=Zja ws rows j hj;have:=h1 r hr;rw[hcell r hr hbit,Zzm z rows _ (hsz _ hj) hz]at this
    ·exact this
    ·intro hrg;rcases h2 with h2 | h2
     ·rw[h2]at hrg;cases hrg
     ·omega
end Go.Proofs.YtmcjknjlihgihaaGreatDoor
