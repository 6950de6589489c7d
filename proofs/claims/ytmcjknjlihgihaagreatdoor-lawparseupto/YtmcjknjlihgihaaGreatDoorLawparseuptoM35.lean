/- A zone holds for a body as it holds for the body's cells (strings). -/
import Derived.Test.YtmcjknjlihgihaaGreatDoorLawparseuptoM32
import Derived.Test.YtmcjknjlihgihaaGreatDoorLawparseuptoM34
set_option linter.unusedVariables false
set_option linter.unusedSimpArgs false
set_option linter.unnecessarySimpa false
set_option maxRecDepth 100000
namespace Go.Proofs.YtmcjknjlihgihaaGreatDoor
open Go.RowKit
def Zs8 (rows:Nat) (xs:List Nat):List ByteArray:=yv_S (Zaa rows xs).codec (Zaa rows xs).wd (Zaj rows xs).list (Zaj rows xs).ends (Zcj rows xs) (Zaj rows xs).lanes (Za8 rows (Zaa rows xs).nulls)
def Zql (rows:Nat) (xs:List Nat) (z:ZM):Bool:=Zcg rows xs&&Ztt z rows (Za8 rows (Zaa rows xs).nulls) (Zs8 rows xs)
theorem Zwv (rows:Nat) (xs:List Nat) (z:ZM) (hb:∀ x∈xs,x<256) (hl:xs.length≤16777216) (hrr:rows≤65536) (hok:Zcg rows xs=true) (w:World) (g:Nat) (B:Option Addr) (bc:Nat)
  (hk:Ck_S w g rows (Zaa rows xs).codec (Zaa rows xs).wd (Zaa rows xs).nulls (Za8 rows (Zaa rows xs).nulls) (Zaj rows xs).list (Zaj rows xs).ends (Zcj rows xs) (Zaj rows xs).lanes)
  (hbr:Rd w (.slice B z.bl.length bc) z.bl.length 1 (u64s z.bl)) (hbv:∀ x∈z.bl,x<18446744073709551616) (hbl:z.bl.length≤64) (hhs:0≤z.hs∧z.hs≤8) :
  Calls Tryz.prog 127 #[.iface 157 (.agg #[]),.pointer (some ⟨g,0,none⟩),z.v (.slice B z.bl.length bc)] w fun e w' =>
   e=.returned (.bool (Ztt z rows (Za8 rows (Zaa rows xs).nulls) (Zs8 rows xs)))∧Below w.heap.size w w':=by
 have hV:=Zl4 rows xs hb hl hrr hok;have hw64:=Z10 rows xs hb hl hrr hok;have hk6:Za8 rows (Zaa rows xs).nulls≤65536:=by unfold Za8;omega
 refine Zxv w g rows _ _ _ _ _ _ _ _ z B bc hk hV.el hV.ll hV.lv hw64 hk6 hrr hV.ok (fun h2 j hj=>?_) hbr hbv hbl hhs ?_
 ·have:=hV.ok j hj;rw[h2]at this;unfold Zla ok_S at this;rcases this with ⟨h9,_⟩ | ⟨_,h5,_,h6⟩ | ⟨h9,_⟩
  ·omega
  ·exact⟨h5,h6⟩
  ·omega
 ·skip
  exact Z12 _ _ _ _ _ _ _ (Zup rows xs) hV.ok
set_option maxHeartbeats 8000000 in
theorem Zv7 (w:World) (v:Value) (xs:List Nat) (rows:Nat) (o l sm:Int) (cd wd:Int) (z:ZM) (B:Option Addr) (bc:Nat) (hT:Tab w) (hv:Rd w v xs.length 1 (u8s xs)) (hb:∀ x∈xs,x<256) (hl:xs.length≤16777216) (hrr:rows≤65536)
  (hbr:Rd w (.slice B z.bl.length bc) z.bl.length 1 (u64s z.bl)) (hbv:∀ x∈z.bl,x<18446744073709551616) (hbl:z.bl.length≤64) (hhs:0≤z.hs∧z.hs≤8) :
  Calls Tryz.prog 87 #[.iface 157 (.agg #[]),.int .i64 rows,v,.agg #[.int .i64 o,.int .i64 l,.int .u32 sm,.int .i64 cd,.int .i64 wd,.bool z.rg,.int .i64 z.nu,.bool z.mn.n,.int .i64 z.mn.i,.string z.mn.s,.bool z.mx.n,.int .i64 z.mx.i,.string z.mx.s,.int .i64 z.hs,.slice B z.bl.length bc]] w fun e w' =>
   Below w.heap.size w w'∧e=.returned (if Zql rows xs z=true then .tuple #[.agg #[.int .i64 o,.int .i64 l,.int .u32 sm,.int .i64 (Zaa rows xs).codec,.int .i64 (Zaa rows xs).wd,.bool z.rg,.int .i64 z.nu,.bool z.mn.n,.int .i64 z.mn.i,.string z.mn.s,.bool z.mx.n,.int .i64 z.mx.i,.string z.mx.s,.int .i64 z.hs,.slice B z.bl.length bc],.bool true]
    else .tuple #[.agg #[.int .i64 0,.int .i64 0,.int .u32 0,.int .i64 0,.int .i64 0,.bool false,.int .i64 0,.bool false,.int .i64 0,.string ⟨#[]⟩,.bool false,.int .i64 0,.string ⟨#[]⟩,.int .i64 0,.slice none 0 0],.bool false]):=by
 have Z5:=hid (fun w2 (hb2:Below w.heap.size w w2)=>Zz7 w2 v xs rows (hT.mono hb2 hT.lt) (hv.mono hb2) hb hl hrr);have Ji:=hid (fun(w2:World) (g:Nat) (hb2:Below w.heap.size w w2) (hh:Zcg rows xs=true)=>fun hk=>Zwv rows xs z hb hl hrr hh w2 g B bc hk (hbr.mono hb2) hbv hbl hhs);obtain⟨A0,c0,rfl,_,_,_⟩:=hv.form;have Y1:=hid (fun(w2:World) (nu lv ev nv bef:Value)=>@Zrn w2 rows xs nu lv ev nv bef);unfold Zql;generalize Ztt z rows (Za8 rows (Zaa rows xs).nulls) (Zs8 rows xs)=SO at *;generalize Zcg rows xs=OK at *;generalize Zaj rows xs=O at *;generalize Zcj rows xs=bs at *;generalize Zaa rows xs=H at *;obtain⟨rg,nu,mn,mx,hs,bl⟩:=z;simp only at Ji;unfold ZM.v at Ji;simp only at Ji ⊢;generalize bl.length=bn at *;clear hT hv hbr hbv hbl hhs;obtain⟨ANS,hANS⟩:∃ ANS,(if (OK&&SO)=true then Value.tuple #[.agg #[.int .i64 o,.int .i64 l,.int .u32 sm,.int .i64 H.codec,.int .i64 H.wd,.bool rg,.int .i64 nu,.bool mn.n,.int .i64 mn.i,.string mn.s,.bool mx.n,.int .i64 mx.i,.string mx.s,.int .i64 hs,.slice B bn bc],.bool true]
    else .tuple #[.agg #[.int .i64 0,.int .i64 0,.int .u32 0,.int .i64 0,.int .i64 0,.bool false,.int .i64 0,.bool false,.int .i64 0,.string ⟨#[]⟩,.bool false,.int .i64 0,.string ⟨#[]⟩,.int .i64 0,.slice none 0 0],.bool false])=ANS:=⟨_,rfl⟩
 rw[hANS];have Qj:=hid hANS;clear hANS;go_enter Tryz.func87,Tryz.ntmps87;go_upto_region 1 with fail
 obtain⟨w1,hw1⟩:∃ w1,(w.alloc (.cells #[.int .i64 o,.int .i64 l,.int .u32 sm,.int .i64 cd,.int .i64 wd,.bool rg,.int .i64 nu,.bool mn.n,.int .i64 mn.i,.string mn.s,.bool mx.n,.int .i64 mx.i,.string mx.s,.int .i64 hs,.slice B bn bc] 41)).alloc (.cells #[.int .i64 0,.int .i64 0,.int .u32 0,.int .i64 0,.int .i64 0,.bool false,.int .i64 0,.bool false,.int .i64 0,.string ⟨#[]⟩,.bool false,.int .i64 0,.string ⟨#[]⟩,.int .i64 0,.slice none 0 0] 41)=w1:=⟨_,rfl⟩;obtain⟨s,hsz⟩:∃ s,w.heap.size=s:=⟨_,rfl⟩;have HR:Hid (Row w1 s 41 [.int .i64 o,.int .i64 l,.int .u32 sm,.int .i64 cd,.int .i64 wd,.bool rg,.int .i64 nu,.bool mn.n,.int .i64 mn.i,.string mn.s,.bool mx.n,.int .i64 mx.i,.string mx.s,.int .i64 hs,.slice B bn bc]∧Row w1 (s+1) 41 [.int .i64 0,.int .i64 0,.int .u32 0,.int .i64 0,.int .i64 0,.bool false,.int .i64 0,.bool false,.int .i64 0,.string ⟨#[]⟩,.bool false,.int .i64 0,.string ⟨#[]⟩,.int .i64 0,.slice none 0 0]∧Below w.heap.size w w1∧w1.heap.size=s+2):=hid (by
  have f1:=Zbe (w:=w) (C:=#[.int .i64 o,.int .i64 l,.int .u32 sm,.int .i64 cd,.int .i64 wd,.bool rg,.int .i64 nu,.bool mn.n,.int .i64 mn.i,.string mn.s,.bool mx.n,.int .i64 mx.i,.string mx.s,.int .i64 hs,.slice B bn bc]) (e:=41);have f2:=Zbe (w:=w.alloc (.cells #[.int .i64 o,.int .i64 l,.int .u32 sm,.int .i64 cd,.int .i64 wd,.bool rg,.int .i64 nu,.bool mn.n,.int .i64 mn.i,.string mn.s,.bool mx.n,.int .i64 mx.i,.string mx.s,.int .i64 hs,.slice B bn bc] 41)) (C:=#[.int .i64 0,.int .i64 0,.int .u32 0,.int .i64 0,.int .i64 0,.bool false,.int .i64 0,.bool false,.int .i64 0,.string ⟨#[]⟩,.bool false,.int .i64 0,.string ⟨#[]⟩,.int .i64 0,.slice none 0 0]) (e:=41);rw[hw1]at f2;have r1:=f1.1.mono f2.2;have r2:=f2.1;simp only[World.size_alloc,hsz]at r1 r2;refine⟨r1,r2,Zac f1.2 f2.2,?_⟩;rw[← hw1];simp[hsz])
 rw[hw1];have Yh:=hid hsz;clear hw1;rw[hsz];clear hsz;have Vs:=hid (Z5.out w1 HR.out.2.2.1);clear Z5;go_wp2_with fail
 refine Vs.out.mono ?_;rintro e w2 ⟨hb2,⟨rfl,rfl⟩ | ⟨rfl,nu2,lv,ev,nv,bef,rfl,h1,h2,h3,h4,h5⟩⟩
 ·have hb3:Below w2.heap.size w2 (w2.alloc (.cells Zaz.toArray 198)):=(Zab w2).alloc (Nat.le_refl _) _;have hz1:=HR.out.2.2.2;have hz2:=hb2.size;have R2:=(HR.out.2.1.mono hb2).mono hb3;have Ys:=hid (Zac (Zac HR.out.2.2.1 hb2) hb3);have HA:Hid (ANS=.tuple #[.agg #[.int .i64 0,.int .i64 0,.int .u32 0,.int .i64 0,.int .i64 0,.bool false,.int .i64 0,.bool false,.int .i64 0,.string ⟨#[]⟩,.bool false,.int .i64 0,.string ⟨#[]⟩,.int .i64 0,.slice none 0 0],.bool false]):=hid (by rw[← Qj.out];simp);clear hb2 hb3 Ji Y1 Qj Vs;unfold Zaz i64 nilS at *;go_upto_region 2 with fail
  generalize w2.alloc (.cells #[.int .i64 0,.int .i64 0,.int .i64 0,.slice none 0 0,.int .i64 0,.slice none 0 0,.slice none 0 0,.int .i64 0,.slice none 0 0,.nilIface,.slice none 0 0] 198)=w3 at *;obtain⟨y0,y1,y2,y3,y4,y5,y6,y7,y8,y9,y10,y11,y12,y13,y14⟩:=Zcs R2;obtain⟨f0,f1,f2,f3,f4,f5,f6,f7,f8,f9,f10,f11,f12,f13,f14⟩:=Zgx R2;have Qm:=hid R2;clear R2;go_wp2_with fail
  change bodyPost _ _ _ _ _ (Zdn w3 (s+1) (.int .i64 0) (.int .i64 0) (.int .u32 0) (.int .i64 0) (.int .i64 0) (.bool false) (.int .i64 0) (.bool false) (.int .i64 0) (.string ⟨#[]⟩) (.bool false) (.int .i64 0) (.string ⟨#[]⟩) (.int .i64 0) (.slice none 0 0))
  have R9:=Zcy Qm.out (.int .i64 0) (.int .i64 0) (.int .u32 0) (.int .i64 0) (.int .i64 0) (.bool false) (.int .i64 0) (.bool false) (.int .i64 0) (.string ⟨#[]⟩) (.bool false) (.int .i64 0) (.string ⟨#[]⟩) (.int .i64 0) (.slice none 0 0);have hbl:=Zb2 Ys.out (show w.heap.size≤s+1 by rw[Yh.out];omega) (.int .i64 0) (.int .i64 0) (.int .u32 0) (.int .i64 0) (.int .i64 0) (.bool false) (.int .i64 0) (.bool false) (.int .i64 0) (.string ⟨#[]⟩) (.bool false) (.int .i64 0) (.string ⟨#[]⟩) (.int .i64 0) (.slice none 0 0);clear y0 y1 y2 y3 y4 y5 y6 y7 y8 y9 y10 y11 y12 y13 y14 f0 f1 f2 f3 f4 f5 f6 f7 f8 f9 f10 f11 f12 f13 f14;generalize Zdn w3 (s+1) (.int .i64 0) (.int .i64 0) (.int .u32 0) (.int .i64 0) (.int .i64 0) (.bool false) (.int .i64 0) (.bool false) (.int .i64 0) (.string ⟨#[]⟩) (.bool false) (.int .i64 0) (.string ⟨#[]⟩) (.int .i64 0) (.slice none 0 0)=wz at *;obtain⟨q0,q1,q2,q3,q4,q5,q6,q7,q8,q9,q10,q11,q12,q13,q14⟩:=Zcs R9;refine bodyPost_ret (v:=.tuple #[.agg #[.int .i64 0,.int .i64 0,.int .u32 0,.int .i64 0,.int .i64 0,.bool false,.int .i64 0,.bool false,.int .i64 0,.string ⟨#[]⟩,.bool false,.int .i64 0,.string ⟨#[]⟩,.int .i64 0,.slice none 0 0],.bool false]) ?_ rfl ?_
  ·simp[results,Tryz.results87,go_sem,q0,q1,q2,q3,q4,q5,q6,q7,q8,q9,q10,q11,q12,q13,q14]
  ·exact⟨hbl,by rw[HA.out]⟩
 ·obtain⟨A1,c1,rfl,_,_,_⟩:=(Zba h1).form;obtain⟨A2,c2,rfl,_,_,_⟩:=h2.form;obtain⟨A3,c3,rfl,_,_,_⟩:=h3.form;obtain⟨A4,c4,rfl,_,_,_⟩:=h4.form;obtain⟨A5,c5,rfl,_,_,_⟩:=h5.form;have Yj:=hid (Y1.out w2 _ _ _ _ _ (Zba h1) h2 h3 h4 h5);have Qb:=hid (Zac HR.out.2.2.1 hb2);have Qd:=hid (Zbe (w:=w2) (C:=(ck_S rows H.codec H.wd (.slice A1 H.nulls.length c1) (Za8 rows H.nulls) (.slice A2 O.list.length c2) (.slice A3 O.ends.length c3) bs (.slice A4 O.lanes.length c4) Zbv (.slice A5 H.nulls.length c5)).toArray) (e:=198));have hz1:=HR.out.2.2.2;have hz2:=hb2.size;have ZF:=hid hz2;have QH:=hid (HR.out.1.mono hb2);have Zk:=hid (HR.out.2.1.mono hb2);clear h1 h2 h3 h4 h5 hb2 Y1 Vs;have J3:=hid (Ji.out _ w2.heap.size (Zac Qb.out Qd.out.2) rfl Yj.out);clear Ji;generalize Za8 rows H.nulls=kk at *;unfold ck_S i64 Zbv at *;go_upto_region 2 with fail
  have Qe:=hid (Zac Qb.out Qd.out.2);have Yx:=hid (QH.out.mono Qd.out.2);have QT:=hid (Zk.out.mono Qd.out.2);have X5:=hid Qd.out.1;clear Qd Yj QH Zk Qb;generalize w2.alloc (.cells #[.int .i64 rows,.int .i64 H.codec,.int .i64 H.wd,.slice A1 H.nulls.length c1,.int .i64 kk,.slice A2 O.list.length c2,.slice A3 O.ends.length c3,.int .i64 bs,.slice A4 O.lanes.length c4,.iface 157 (.agg #[]),.slice A5 H.nulls.length c5] 198)=w3 at *;obtain⟨y0,y1,y2,y3,y4,y5,y6,y7,y8,y9,y10,y11,y12,y13,y14⟩:=Zcs Yx.out;have HPS:Hid (s+1<w2.heap.size):=hid (by omega);clear hz1 hz2;cases SO
  ·have HA:Hid (ANS=.tuple #[.agg #[.int .i64 0,.int .i64 0,.int .u32 0,.int .i64 0,.int .i64 0,.bool false,.int .i64 0,.bool false,.int .i64 0,.string ⟨#[]⟩,.bool false,.int .i64 0,.string ⟨#[]⟩,.int .i64 0,.slice none 0 0],.bool false]):=hid (by rw[← Qj.out];rfl);clear Qj;go_wp2_with (go_at_call 127;refine J3.out.mono ?_;rintro e w4 ⟨rfl,hb4⟩;have Qz:=hid hb4;have Yn:=hid (QT.out.mono hb4);clear hb4 y0 y1 y2 y3 y4 y5 y6 y7 y8 y9 y10 y11 y12 y13 y14;obtain⟨y0,y1,y2,y3,y4,y5,y6,y7,y8,y9,y10,y11,y12,y13,y14⟩:=Zcs Yn.out;obtain⟨f0,f1,f2,f3,f4,f5,f6,f7,f8,f9,f10,f11,f12,f13,f14⟩:=Zgx Yn.out)
   change bodyPost _ _ _ _ _ (Zdn w4 (s+1) (.int .i64 0) (.int .i64 0) (.int .u32 0) (.int .i64 0) (.int .i64 0) (.bool false) (.int .i64 0) (.bool false) (.int .i64 0) (.string ⟨#[]⟩) (.bool false) (.int .i64 0) (.string ⟨#[]⟩) (.int .i64 0) (.slice none 0 0))
   have R9:=Zcy Yn.out (.int .i64 0) (.int .i64 0) (.int .u32 0) (.int .i64 0) (.int .i64 0) (.bool false) (.int .i64 0) (.bool false) (.int .i64 0) (.string ⟨#[]⟩) (.bool false) (.int .i64 0) (.string ⟨#[]⟩) (.int .i64 0) (.slice none 0 0);have hbl:=Zb2 (Zac Qe.out Qz.out) (show w.heap.size≤s+1 by rw[Yh.out];omega) (.int .i64 0) (.int .i64 0) (.int .u32 0) (.int .i64 0) (.int .i64 0) (.bool false) (.int .i64 0) (.bool false) (.int .i64 0) (.string ⟨#[]⟩) (.bool false) (.int .i64 0) (.string ⟨#[]⟩) (.int .i64 0) (.slice none 0 0);clear y0 y1 y2 y3 y4 y5 y6 y7 y8 y9 y10 y11 y12 y13 y14 f0 f1 f2 f3 f4 f5 f6 f7 f8 f9 f10 f11 f12 f13 f14;generalize Zdn w4 (s+1) (.int .i64 0) (.int .i64 0) (.int .u32 0) (.int .i64 0) (.int .i64 0) (.bool false) (.int .i64 0) (.bool false) (.int .i64 0) (.string ⟨#[]⟩) (.bool false) (.int .i64 0) (.string ⟨#[]⟩) (.int .i64 0) (.slice none 0 0)=wz at *;obtain⟨q0,q1,q2,q3,q4,q5,q6,q7,q8,q9,q10,q11,q12,q13,q14⟩:=Zcs R9;refine bodyPost_ret (v:=.tuple #[.agg #[.int .i64 0,.int .i64 0,.int .u32 0,.int .i64 0,.int .i64 0,.bool false,.int .i64 0,.bool false,.int .i64 0,.string ⟨#[]⟩,.bool false,.int .i64 0,.string ⟨#[]⟩,.int .i64 0,.slice none 0 0],.bool false]) ?_ rfl ?_
   ·simp[results,Tryz.results87,go_sem,q0,q1,q2,q3,q4,q5,q6,q7,q8,q9,q10,q11,q12,q13,q14]
   ·exact⟨hbl,by rw[HA.out]⟩
  ·have HA:Hid (ANS=.tuple #[.agg #[.int .i64 o,.int .i64 l,.int .u32 sm,.int .i64 H.codec,.int .i64 H.wd,.bool rg,.int .i64 nu,.bool mn.n,.int .i64 mn.i,.string mn.s,.bool mx.n,.int .i64 mx.i,.string mx.s,.int .i64 hs,.slice B bn bc],.bool true]):=hid (by rw[← Qj.out];rfl);clear Qj;go_upto_region 4 with (go_at_call 127;refine J3.out.mono ?_;rintro e w4 ⟨rfl,hb4⟩;have Qz:=hid hb4;have Zd:=hid (Yx.out.mono hb4);have Yn:=hid (QT.out.mono hb4);have YV:=hid (X5.out.mono hb4);clear hb4)
   clear y0 y1 y2 y3 y4 y5 y6 y7 y8 y9 y10 y11 y12 y13 y14;obtain⟨y0,y1,y2,y3,y4,y5,y6,y7,y8,y9,y10,y11,y12,y13,y14⟩:=Zcs Zd.out;obtain⟨f0,f1,f2,f3,f4,f5,f6,f7,f8,f9,f10,f11,f12,f13,f14⟩:=Zgx Zd.out;have k1:=YV.out.cell 1;have k2:=YV.out.cell 2;simp only[List.getElem?_cons_zero,List.getElem?_cons_succ]at k1 k2;go_region
   have V0:Hid (Row ((w4.setCell ⟨s,3,none⟩ (.int .i64 H.codec)).setCell ⟨s,4,none⟩ (.int .i64 H.wd)).drew s 41 [.int .i64 o,.int .i64 l,.int .u32 sm,.int .i64 H.codec,.int .i64 H.wd,.bool rg,.int .i64 nu,.bool mn.n,.int .i64 mn.i,.string mn.s,.bool mx.n,.int .i64 mx.i,.string mx.s,.int .i64 hs,.slice B bn bc]):=hid (((Zd.out.set 3 (.int .i64 H.codec)).set 4 (.int .i64 H.wd)).mono (Zaf (Zab _) 1));have JS:Hid (Row ((w4.setCell ⟨s,3,none⟩ (.int .i64 H.codec)).setCell ⟨s,4,none⟩ (.int .i64 H.wd)).drew (s+1) 41 [.int .i64 0,.int .i64 0,.int .u32 0,.int .i64 0,.int .i64 0,.bool false,.int .i64 0,.bool false,.int .i64 0,.string ⟨#[]⟩,.bool false,.int .i64 0,.string ⟨#[]⟩,.int .i64 0,.slice none 0 0]):=hid ((Zam (w:=w4.setCell ⟨s,3,none⟩ (.int .i64 H.codec)) (i:=4) (v:=.int .i64 H.wd) (Zam (w:=w4) (i:=3) (v:=.int .i64 H.codec) Yn.out (show s+1≠s by omega)) (show s+1≠s by omega)).mono (Zaf (Zab _) 1));have Q1:Hid (Below w.heap.size w ((w4.setCell ⟨s,3,none⟩ (.int .i64 H.codec)).setCell ⟨s,4,none⟩ (.int .i64 H.wd)).drew):=hid (Zaf (Zbh (Zbh (Zac Qe.out Qz.out) s 3 (.int .i64 H.codec) (by rw[Yh.out];exact Nat.le_refl _)) s 4 (.int .i64 H.wd) (by rw[Yh.out];exact Nat.le_refl _)) 1);clear y0 y1 y2 y3 y4 y5 y6 y7 y8 y9 y10 y11 y12 y13 y14 f0 f1 f2 f3 f4 f5 f6 f7 f8 f9 f10 f11 f12 f13 f14 k1 k2;generalize ((w4.setCell ⟨s,3,none⟩ (.int .i64 H.codec)).setCell ⟨s,4,none⟩ (.int .i64 H.wd)).drew=w5 at *;obtain⟨y0,y1,y2,y3,y4,y5,y6,y7,y8,y9,y10,y11,y12,y13,y14⟩:=Zcs V0.out;obtain⟨e0,e1,e2,e3,e4,e5,e6,e7,e8,e9,e10,e11,e12,e13,e14⟩:=Zcs JS.out;obtain⟨f0,f1,f2,f3,f4,f5,f6,f7,f8,f9,f10,f11,f12,f13,f14⟩:=Zgx JS.out;go_wp2_with fail
   change bodyPost _ _ _ _ _ (Zdn w5 (s+1) (.int .i64 o) (.int .i64 l) (.int .u32 sm) (.int .i64 H.codec) (.int .i64 H.wd) (.bool rg) (.int .i64 nu) (.bool mn.n) (.int .i64 mn.i) (.string mn.s) (.bool mx.n) (.int .i64 mx.i) (.string mx.s) (.int .i64 hs) (.slice B bn bc))
   have R9:=Zcy JS.out (.int .i64 o) (.int .i64 l) (.int .u32 sm) (.int .i64 H.codec) (.int .i64 H.wd) (.bool rg) (.int .i64 nu) (.bool mn.n) (.int .i64 mn.i) (.string mn.s) (.bool mx.n) (.int .i64 mx.i) (.string mx.s) (.int .i64 hs) (.slice B bn bc);have hbl:=Zb2 Q1.out (show w.heap.size≤s+1 by rw[Yh.out];omega) (.int .i64 o) (.int .i64 l) (.int .u32 sm) (.int .i64 H.codec) (.int .i64 H.wd) (.bool rg) (.int .i64 nu) (.bool mn.n) (.int .i64 mn.i) (.string mn.s) (.bool mx.n) (.int .i64 mx.i) (.string mx.s) (.int .i64 hs) (.slice B bn bc);clear y0 y1 y2 y3 y4 y5 y6 y7 y8 y9 y10 y11 y12 y13 y14 f0 f1 f2 f3 f4 f5 f6 f7 f8 f9 f10 f11 f12 f13 f14 e0 e1 e2 e3 e4 e5 e6 e7 e8 e9 e10 e11 e12 e13 e14;generalize Zdn w5 (s+1) (.int .i64 o) (.int .i64 l) (.int .u32 sm) (.int .i64 H.codec) (.int .i64 H.wd) (.bool rg) (.int .i64 nu) (.bool mn.n) (.int .i64 mn.i) (.string mn.s) (.bool mx.n) (.int .i64 mx.i) (.string mx.s) (.int .i64 hs) (.slice B bn bc)=wz at *;obtain⟨q0,q1,q2,q3,q4,q5,q6,q7,q8,q9,q10,q11,q12,q13,q14⟩:=Zcs R9;refine bodyPost_ret (v:=.tuple #[.agg #[.int .i64 o,.int .i64 l,.int .u32 sm,.int .i64 H.codec,.int .i64 H.wd,.bool rg,.int .i64 nu,.bool mn.n,.int .i64 mn.i,.string mn.s,.bool mx.n,.int .i64 mx.i,.string mx.s,.int .i64 hs,.slice B bn bc],.bool true]) ?_ rfl ?_
   ·simp[results,Tryz.results87,go_sem,q0,q1,q2,q3,q4,q5,q6,q7,q8,q9,q10,q11,q12,q13,q14]
   ·exact⟨hbl,by rw[HA.out]⟩
set_option maxRecDepth 20000
theorem Zzy {α : Type} (ys:List α) (n:Nat) (f:Nat→α) (h1:∀ y∈ys,∃ j,j<n∧y=f j) (h2:∀ j,j<n→f j∈ys) (p : α→Bool):ys.all p=(List.range n).all fun j=>p (f j):=by
 rw[Bool.eq_iff_iff,List.all_eq_true,List.all_eq_true];constructor
 ·intro h j hj;exact h _ (h2 j (List.mem_range.1 hj))
 ·intro h y hy;obtain⟨j,hj,rfl⟩:=h1 y hy;exact h j (List.mem_range.2 hj)
theorem Zns {list:List ByteArray} {i:Nat} (h:i<list.length):list.getD i dfS∈list:=by simp[List.getD,List.getElem?_eq_getElem h]
theorem Znq {list:List ByteArray} {y:ByteArray} (h:y∈list):∃ i,i<list.length∧y=list.getD i dfS:=by
 obtain⟨i,hi,rfl⟩:=List.getElem_of_mem h;exact⟨i,hi,by simp[List.getD,List.getElem?_eq_getElem hi]⟩
theorem Ziq (f:Nat→Nat) (k:Nat) (list:List ByteArray) (y:ByteArray):∀ i,y∈Zcv f k list i↔∃ t,t<i∧Zdu f k t=true∧y=list.getD t dfS
 | 0=>by simp[Zcv]
 | i+1=>by
  unfold Zcv;rw[List.mem_append,Ziq f k list y i];constructor
  ·rintro(⟨t,h1,h2,h3⟩ | h)
   ·exact⟨t,by omega,h2,h3⟩
   ·split at h
    ·rename_i hu
     exact⟨i,by omega,hu,List.mem_singleton.1 h⟩
    ·cases h
  ·rintro⟨t,h1,h2,h3⟩;by_cases ht:t=i
   ·subst ht
    right;rw[if_pos h2];exact List.mem_singleton.2 h3
   ·exact .inl ⟨t,by omega,h2,h3⟩
theorem Zk4 (f:Nat→Nat) (k t:Nat):Zdu f k t=true↔∃ j,j<k∧f j=t:=by
 unfold Zdu;rw[List.any_eq_true];constructor
 ·rintro⟨j,hj,h⟩;exact⟨j,List.mem_range.1 hj,by simpa using h⟩
 ·rintro⟨j,hj,h⟩;exact⟨j,List.mem_range.2 hj,by simpa using h⟩
theorem Zso {es:List Nat} {k:Nat} (h:Za1 (nI es) k=true) (i:Nat) (hi:i<es.length):∃ j,j<k∧Zb7 (nI es) ((j:Int)+1)=i:=by
 have h1:Za4 0 (nI es)=some (k:Int):=by simpa [Za1]using h
 have hasc:=Ze8 h;have hgt:=Zi7 (nI es) 0 k h1 i (by rw[Zas];exact hi);have hle:=Zkf (nI es) 0 k h1 i (by rw[Zas];exact hi);have hg:(nI es).getD i 0=(es.getD i 0:Nat):=by unfold nI;simp[List.getD,List.getElem?_map,List.getElem?_eq_getElem hi]
 rw[hg]at hgt hle;refine⟨es.getD i 0-1,by omega,?_⟩;have e:(((es.getD i 0-1:Nat):Int)+1)=(nI es).getD i 0:=by rw[hg];omega
 rw[e];refine Zhv _ _ i (by rw[Zas];omega) (fun a ha=>hasc a i ha (by rw[Zas];exact hi)) (fun _=>Int.le_refl _)
theorem Zuy (rows:Nat) (xs:List Nat) (h:Zcg rows xs=true) (hok:∀ j,j<Za8 rows (Zaa rows xs).nulls→Zla (Zaa rows xs).codec (Zaa rows xs).wd (Zaj rows xs).list (Zaj rows xs).ends (Zaj rows xs).lanes j) :
  (∀ y∈Zs8 rows xs,∃ j,j<Za8 rows (Zaa rows xs).nulls∧y=Zm7 rows xs j)∧∀ j,j<Za8 rows (Zaa rows xs).nulls→Zm7 rows xs j∈Zs8 rows xs:=by
 unfold Zcg Zgu at h;simp only[Bool.and_eq_true,Bool.not_eq_true',decide_eq_true_eq]at h;obtain⟨⟨hpk,hcd⟩,hOb,hOs,hOl⟩:=h;unfold Zs8 Zm7;generalize Zcj rows xs=bs at *;unfold Zaj at *;generalize Za8 rows (Zaa rows xs).nulls=k at *;generalize (Zaa rows xs).left=x3 at *;generalize (Zaa rows xs).short=t3 at *;generalize (Zaa rows xs).codec=cd at *;generalize (Zaa rows xs).wd=wd at *;have hcdk:1≤cd∧cd≤3:=by
  unfold Zbj at hcd
  split at hcd
  ·omega
  ·simp only[decide_eq_true_eq]at hcd;unfold Zkw at hcd;omega
 unfold Zbq at *;by_cases h1:cd=1
 ·subst h1;rw[if_pos rfl]at *;unfold Zbk at *;simp only[Bool.and_eq_true,decide_eq_true_eq]at *;have hf:=Zej hOb.1 hOs;have hv:∀ j,vl_S 1 wd (rdS k x3 t3).1 [] bs [] j=(rdS k x3 t3).1.getD j dfS:=fun j=>by unfold vl_S Zil;rw[if_pos rfl]
  unfold yv_S;rw[if_pos (.inl rfl)];refine⟨fun y hy=>?_,fun j hj=>?_⟩
  ·obtain⟨i,hi,he⟩:=Znq hy;exact⟨i,by omega,by rw[hv];exact he⟩
  ·rw[hv];exact Zns (by omega)
 by_cases h2:cd=2
 ·subst h2;rw[if_neg (by decide),if_pos rfl]at *;unfold Zbp at *
  split at hOb
  ·cases hOb
  ·rename_i hc
   rw[if_neg hc]at *;generalize rdS (L.wordOf 8 (tk 4 x3)) (tkL 4 x3) (tkS 4 x3 t3)=R at *;generalize L.wordOf 8 (tk 4 x3)=d at *;have hfl:R.2.1=true→R.2.2.2=false→True:=fun _ _=>trivial
   obtain⟨vals,ok,xl,s1⟩:=R;simp only at *
   split at hOb
   ·rename_i hoa
    rw[if_pos hoa]at *;simp only at *;obtain⟨l1,l2,l3,l4⟩:=Zcd hOb;have hv:∀ j,vl_S 2 wd vals [] bs (Za7 xl) j=vals.getD (L.laneOf wd (Za7 xl) j) dfS:=fun j=>by unfold vl_S Zil;rw[if_neg (by decide),if_pos rfl]
    unfold yv_S;rw[if_neg (by omega),if_pos rfl];refine⟨fun y hy=>?_,fun j hj=>?_⟩
    ·obtain⟨t,ht,hu,he⟩:=(Ziq _ _ _ _ _).1 hy;obtain⟨j,hj,hl⟩:=(Zk4 _ _ _).1 hu;exact⟨j,hj,by rw[hv,hl];exact he⟩
    ·rw[hv];by_cases hlt:L.laneOf wd (Za7 xl) j<vals.length
     ·exact(Ziq _ _ _ _ _).2 ⟨_,hlt,(Zk4 _ _ _).2 ⟨j,hj,rfl⟩,rfl⟩
     ·exfalso;have:=hok j hj;unfold Zla ok_S at this;rcases this with ⟨h9,_⟩ | ⟨_,h5,_,h6⟩ | ⟨h9,_⟩
      ·omega
      ·exact hlt h5
      ·omega
   ·cases hOb
 by_cases h3:cd=3
 ·subst h3;rw[if_neg (by decide),if_neg (by decide)]at *;unfold Zbi at *
  split at hOb
  ·cases hOb
  ·rename_i hc
   rw[if_neg hc]at *;have hfl:=@Zej (L.wordOf 8 (tk 4 x3)) (tkL (4*L.wordOf 8 (tk 4 x3)) (tkL 4 x3)) (tkS (4*L.wordOf 8 (tk 4 x3)) (tkL 4 x3) (tkS 4 x3 t3));have hsh:=Zkd (L.wordOf 8 (tk 4 x3)) (tkL (4*L.wordOf 8 (tk 4 x3)) (tkL 4 x3)) (tkS (4*L.wordOf 8 (tk 4 x3)) (tkL 4 x3) (tkS 4 x3 t3));have hel:tkS (4*L.wordOf 8 (tk 4 x3)) (tkL 4 x3) (tkS 4 x3 t3)=false→(numL 4 (tk (4*L.wordOf 8 (tk 4 x3)) (tkL 4 x3))).length=L.wordOf 8 (tk 4 x3):=fun h=>by
    rw[Zan,Zk1 (Zb6 h).1];omega
   generalize rdS (L.wordOf 8 (tk 4 x3)) (tkL (4*L.wordOf 8 (tk 4 x3)) (tkL 4 x3)) (tkS (4*L.wordOf 8 (tk 4 x3)) (tkL 4 x3) (tkS 4 x3 t3))=R at *;generalize numL 4 (tk (4*L.wordOf 8 (tk 4 x3)) (tkL 4 x3))=es at *;generalize tkS (4*L.wordOf 8 (tk 4 x3)) (tkL 4 x3) (tkS 4 x3 t3)=s2 at *;generalize L.wordOf 8 (tk 4 x3)=d at *;obtain⟨vals,ok,xl,s1⟩:=R;simp only[Bool.and_eq_true]at *;have hvl:=hfl hOb.1 hOs;have hed:=hel (hsh hOs);have hre:Za1 (nI es) k=true:=by
    cases hx:Za1 (nI es) k with
    | true=>rfl
    | false=>exact absurd (.inr hx) hc
   have hv:∀ j,vl_S 3 wd vals es bs [] j=vals.getD (Zb7 (nI es) ((j:Int)+1)) dfS:=fun j=>by unfold vl_S Zil;rw[if_neg (by decide),if_neg (by decide)]
   unfold yv_S;rw[if_pos (.inr rfl)];refine⟨fun y hy=>?_,fun j hj=>?_⟩
   ·obtain⟨i,hi,he⟩:=Znq hy;obtain⟨j,hj,hf⟩:=Zso hre i (by omega);exact⟨j,hj,by rw[hv,hf];exact he⟩
   ·rw[hv];refine Zns ?_;have:=Ze3 hre ((j:Int)+1) (by omega) (by omega);rw[Zas,hed]at this;omega
 ·have hv:∀(l:List ByteArray) (e lanes:List Nat),yv_S cd wd l e bs lanes k=(List.range k).map (vl_S cd wd l e bs lanes):=fun l e lanes=>by unfold yv_S;rw[if_neg (by omega),if_neg h2]
  rw[hv];refine⟨fun y hy=>?_,fun j hj=>?_⟩
  ·rw[List.mem_map]at hy;obtain⟨j,hj,rfl⟩:=hy;exact⟨j,List.mem_range.1 hj,rfl⟩
  ·rw[List.mem_map];exact⟨j,List.mem_range.2 hj,rfl⟩
theorem Zzg (rows:Nat) (xs:List Nat) (hb:∀ x∈xs,x<256) (hl:xs.length≤16777216) (hrr:rows≤65536) (h:Zcg rows xs=true) (p:ByteArray→Bool):(Zs8 rows xs).all p=(List.range (Za8 rows (Zaa rows xs).nulls)).all fun j=>p (Zm7 rows xs j) :=
 Zzy _ _ _ (Zuy rows xs h (Zl4 rows xs hb hl hrr h).ok).1 (Zuy rows xs h (Zl4 rows xs hb hl hrr h).ok).2 p
theorem Zwd (x:ByteArray) (h:(vk_S x).s.size≤1024):Zdw 2 (vk_S x)=true:=by
 unfold Zdw ofK vk_S at *;rw[if_neg (by simp)];rw[if_neg (by decide)];simp only[Bool.not_false,Bool.true_and,decide_eq_true_eq];exact⟨trivial,trivial,h⟩
theorem Zz9 (z:ZM) (rows:Nat) (x:ByteArray) (hs:(vk_S x).s.size≤1024) (hz:zOk 2 rows z=true) (hnr:z.rg=true→z.nu≠(rows:Int)):sndC z 2 rows (vk_S x)=Zoa z x:=by
 unfold sndC Zoa;have e0:(vk_S x).n=false:=rfl;rw[e0,Bool.false_or];congr 1
 ·cases hr:z.rg
  ·simp
  ·have hne:=hnr hr;rcases Zn0 hz with ⟨_,_,h1,h2⟩ | ⟨h,_⟩
   ·rw[decide_eq_true hne];have e1:=Zqj h1;have e2:=Zqj h2;unfold Zqf vk_S;rw[e1,e2];simp
   ·exact absurd ⟨hr,hne⟩ h
 ·cases hbl:decide (z.bl=[])
  ·have hne:z.bl≠[]:=by simpa using hbl
   rcases Zfx hz with ⟨h,_⟩ | ⟨_,h2,h3,h4⟩
   ·exact absurd h hne
   ·rw[Bool.false_or,Bool.false_or];unfold hasR;rw[Zwd x hs];have hl:0<z.bl.length:=List.length_pos_iff.2 hne;have e:Zet (z.bl.length:Int) z.hs=true:=by unfold Zet;rw[decide_eq_true_eq];omega
    rw[e];rfl
  ·rfl
theorem Z00 (rows:Nat) (xs:List Nat) (hb:∀ x∈xs,x<256) (hl:xs.length≤16777216) (hrr:rows≤65536) (h:Zcg rows xs=true) (j:Nat) (hj:j<Za8 rows (Zaa rows xs).nulls):(vk_S (Zm7 rows xs j)).s.size≤1024:=by
 exact Z0c (base:=Zcj rows xs) (Zup rows xs) ((Zl4 rows xs hb hl hrr h).ok j hj)
theorem Zwr (rows:Nat) (xs:List Nat) (z:ZM) (hb:∀ x∈xs,x<256) (hl:xs.length≤16777216) (hrr:rows≤65536) (hz:zOk 2 rows z=true) :
  Zql rows xs z=(rOk 2 rows xs&&sndR z 2 rows (cA (rWs rows xs)) (cB (rWs rows xs) (rPay 2 rows xs).2) (cC (rWs rows xs) (rPay 2 rows xs).2)):=by
 obtain⟨m1,m2⟩:=Zx4 rows xs hrr;unfold Zql;cases hlk:Zcg rows xs
 ·rw[← m1,hlk];rfl
 ·rw[← m1,hlk,Bool.true_and,Bool.true_and];have m3:=m2 (by rw[← m1];exact hlk);have hn:(Zaa rows xs).nulls=rWs rows xs:=by
   cases hno:Zav 8 (rN rows) 2 xs.length
   ·exfalso;have e1:rOk 2 rows xs=false:=by unfold rOk rHd;rw[hno];simp
    rw[← m1,hlk]at e1;cases e1
   ·exact(Zm2 rows xs hno).2.2.1
  have hsz:=Z00 rows xs hb hl hrr hlk;unfold Ztt;rw[Zzg rows xs hb hl hrr hlk];have hcell:∀ r,r<rows→Zar (rWs rows xs) r=false→(⟨cA (rWs rows xs) r,cB (rWs rows xs) (rPay 2 rows xs).2 r,cC (rWs rows xs) (rPay 2 rows xs).2 r⟩:C3)=vk_S (Zm7 rows xs (r-Zaw (rWs rows xs) r)):=by
   intro r hr hbit;obtain⟨a1,a2,a3⟩:=m3 r hr;rw[← a1,← a2,← a3];unfold Zhi Zg0 Zhj;rw[hn,hbit,Zi1 _ _ hbit];rfl
  have hnull:∀ r,Zar (rWs rows xs) r=true→cA (rWs rows xs) r=true:=fun r h=>h
  rw[hn]at *;have hcnt:Za8 rows (rWs rows xs)=rows-Zaw (rWs rows xs) rows:=rfl;rw[hcnt]at *;have hrk:=Ze0 (rWs rows xs) rows;unfold sndR;rw[Zqm];generalize (rPay 2 rows xs).2=vs at *;generalize rWs rows xs=ws at *;clear m1 m2 m3 hlk hn hcnt;rw[Bool.eq_iff_iff];simp only[Bool.and_eq_true,List.all_eq_true,List.mem_range,Bool.or_eq_true,Bool.not_eq_true',decide_eq_true_eq];constructor
  ·rintro⟨h1,h2⟩;refine⟨fun r hr=>?_,?_⟩
   ·cases hbit:Zar ws r
    ·have hj:=Zn7 ws rows r hr hbit;rw[hcell r hr hbit,Zz9 z rows _ (hsz _ hj) hz]
     ·exact h2 _ hj
     ·intro hrg;rcases h1 with h1 | h1
      ·rw[h1]at hrg;cases hrg
      ·omega
    ·unfold sndC;simp only;rw[hnull r hbit];rfl
   ·rcases h1 with h1 | h1
    ·exact .inl h1
    ·exact .inr (by omega)
  ·rintro⟨h1,h2⟩;refine⟨?_,fun j hj=>?_⟩
   ·rcases h2 with h2 | h2
    ·exact .inl h2
    ·exact .inr (by omega)
   ·obtain⟨r,hr,hbit,rfl⟩:=Zjv ws rows j hj;have:=h1 r hr;rw[hcell r hr hbit,Zz9 z rows _ (hsz _ hj) hz]at this
    ·exact this
    ·intro hrg;rcases h2 with h2 | h2
     ·rw[h2]at hrg;cases hrg
     ·omega
end Go.Proofs.YtmcjknjlihgihaaGreatDoor
