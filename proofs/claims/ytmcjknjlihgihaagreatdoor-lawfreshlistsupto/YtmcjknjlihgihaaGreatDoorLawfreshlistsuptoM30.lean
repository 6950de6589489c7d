/- Package format: isSound (strings). -/
import Derived.Test.YtmcjknjlihgihaaGreatDoorLawfreshlistsuptoM28
set_option linter.unusedVariables false
set_option linter.unusedSimpArgs false
set_option linter.unnecessarySimpa false
set_option maxRecDepth 100000
namespace Go.Proofs.YtmcjknjlihgihaaGreatDoor
open Go.RowKit Go.Shelf
attribute [local go_sem] Oper.semAt_some
set_option maxHeartbeats 16000000 in
theorem Zw4 (w:World) (g rows codec wd:Nat) (nulls:List Nat) (cnt:Nat) (list:List ByteArray) (ends:List Nat) (base:Int) (lanes:List Nat) (z:ZM) (B:Option Addr) (bc:Nat)
  (hk:Ck_S w g rows codec wd nulls cnt list ends base lanes) (hel:ends.length≤16777216) (hll:list.length≤16777216) (hnv:∀ x∈lanes,x<18446744073709551616) (hwd:wd≤64) (hcn:cnt≤65536) (hrr:rows≤65536)
  (hok:∀ j,j<cnt→Zkz codec wd list ends lanes j) (hja:codec=2→∀ j,j<cnt→L.laneOf wd lanes j<list.length∧(0<wd→j/(64/wd)<lanes.length))
  (hbr:Rd w (.slice B z.bl.length bc) z.bl.length 1 (u64s z.bl)) (hbv:∀ x∈z.bl,x<18446744073709551616) (hbl:z.bl.length≤64) (hhs:0≤z.hs∧z.hs≤8) (hys:∀ x∈yv_S codec wd list ends base lanes cnt,(vk_S x).s.size≤1024) :
  Calls Tryz.prog 127 #[.iface 157 (.agg #[]),.pointer (some ⟨g,0,none⟩),z.v (.slice B z.bl.length bc)] w fun e w' =>
   e=.returned (.bool (Zru z rows cnt (yv_S codec wd list ends base lanes cnt)))∧Below w.heap.size w w':=by
 have HVL:=hid (fun(w1:World) (hb:Below w.heap.size w w1)=>Zyd w w1 g rows codec wd nulls cnt list ends base lanes hk hb hel hll hnv hwd hcn hok hja);have HQ:=hid (fun(w1:World) (hb:Below w.heap.size w w1)=>(show w1.cell? ⟨g,0,none⟩=some (.int .i64 (rows:Nat))∧w1.cell? ⟨g,4,none⟩=some (.int .i64 (cnt:Nat))from by
  obtain⟨nu,lv,ev,nv,bef,q1,_⟩:=(hk.mono hb).ex;exact⟨by rw[q1.cell];rfl,by rw[q1.cell];rfl⟩))
 have hgw:g<w.heap.size:=by obtain⟨nu,lv,ev,nv,bef,q1,_⟩:=hk.ex;exact q1.lt
 have Zw:=hid (fun(w1:World) (hb:Below w.heap.size w w1)=>hbr.mono hb);have Q5:=hid hbv;have HYS:=hid hys;clear hk hok hja hnv hbr hbv hys;generalize yv_S codec wd list ends base lanes cnt=ys at *;obtain⟨ANS,hANS⟩:∃ ANS,Zru z rows cnt ys=ANS:=⟨_,rfl⟩;have VC:=hid hANS;rw[hANS];clear hANS;have HM:=hid mv_S;obtain⟨rg,nu,mn,mx,hs,bl⟩:=z;simp only at Zw Q5 hbl hhs;unfold ZM.v;simp only;obtain⟨bn,hbn⟩:∃ bn,bl.length=bn:=⟨_,rfl⟩;have Yc:=hid hbn;simp only[hbn]at Zw hbl ⊢;clear hbn;obtain⟨s,hsz⟩:∃ s,w.heap.size=s:=⟨_,rfl⟩;have QY:=hid hsz;refine(callsIn_wide (n:=9)).1 ?_;refine callsIn_of_wp_marks Tryz.func127 rfl trivial ?_ rfl;simp only[Tryz.ntmps127,List.size_toArray,List.length_cons,List.length_nil,Nat.reduceAdd,Nat.reduceSub,Array.replicate_succ,Array.replicate_zero,List.push_toArray,List.append_toArray,List.nil_append,List.cons_append];refine wpIn_wide.2 ?_;go_upto_region 1 with fail
 obtain⟨w1,hw1⟩:∃ w1,((w.alloc (.cells #[.iface 157 (.agg #[])] 195)).alloc (.cells #[.bool rg,.int .i64 nu,.bool mn.n,.int .i64 mn.i,.string mn.s,.bool mx.n,.int .i64 mx.i,.string mx.s,.int .i64 hs,.slice B bn bc] 39)).alloc (.cells #[.bool false] 4)=w1:=⟨_,rfl⟩;have Yx:Hid (Row w1 s 195 [.iface 157 (.agg #[])]∧Row w1 (s+1) 39 [.bool rg,.int .i64 nu,.bool mn.n,.int .i64 mn.i,.string mn.s,.bool mx.n,.int .i64 mx.i,.string mx.s,.int .i64 hs,.slice B bn bc]∧Row w1 (s+2) 4 [.bool false]∧Below w.heap.size w w1∧w1.heap.size=s+3):=hid (by
  have f1:=Zbs (w:=w) (C:=#[.iface 157 (.agg #[])]) (e:=195);have f2:=Zbs (w:=w.alloc (.cells #[.iface 157 (.agg #[])] 195)) (C:=#[.bool rg,.int .i64 nu,.bool mn.n,.int .i64 mn.i,.string mn.s,.bool mx.n,.int .i64 mx.i,.string mx.s,.int .i64 hs,.slice B bn bc]) (e:=39);have f3:=Zbs (w:=(w.alloc (.cells #[.iface 157 (.agg #[])] 195)).alloc (.cells #[.bool rg,.int .i64 nu,.bool mn.n,.int .i64 mn.i,.string mn.s,.bool mx.n,.int .i64 mx.i,.string mx.s,.int .i64 hs,.slice B bn bc] 39)) (C:=#[.bool false]) (e:=4);rw[hw1]at f3;have r1:=(f1.1.mono f2.2).mono f3.2;have r2:=f2.1.mono f3.2;have r3:=f3.1;simp only[World.size_alloc,hsz]at r1 r2 r3;refine⟨r1,r2,r3,Zad (Zad f1.2 f2.2) f3.2,?_⟩;rw[← hw1];simp[hsz])
 rw[hw1];clear hw1 hsz;obtain⟨r1,r2,r3,hbw1,hz1⟩:=Yx.out;obtain⟨q0,q4⟩:=HQ.out w1 hbw1;have a0:=r2.cell 0;have a1:=r2.cell 1;simp only[List.getElem?_cons_zero,List.getElem?_cons_succ]at a0 a1;have hgs:g<s:=by have:=QY.out;omega
 clear r1 r2 r3 hbw1 hz1;have VD:Hid (Zru ⟨rg,nu,mn,mx,hs,bl⟩ rows cnt ys=((!rg||decide (nu=(rows:Int)-cnt))&&ys.all (Znm ⟨rg,nu,mn,mx,hs,bl⟩))):=hid rfl;obtain⟨bad,hbad⟩:∃ bad,(rg&&!decide (nu=(rows:Int)-cnt))=bad:=⟨_,rfl⟩;have QD:=hid hbad;clear hbad;go_cut [25]from 10 to 25 (fun s25 wc=>s25=.bool bad∧∃ n,wc=w1.drewN n)
 case first =>
  have hb:=QD.out;cases rg
  ·rw[Bool.false_and]at hb;subst hb;go_quiet (fail)
   go_wp2_with fail
   go_meet;exact⟨rfl,_,rfl⟩
  ·rw[Bool.true_and]at hb;by_cases hn:nu=(rows:Int)-cnt
   ·rw[decide_eq_true hn]at hb;subst hb;have hn2:(nu != (rows:Int)-cnt)=false:=by simp[hn]
    go_quiet (fail)
    go_wp2_with fail
    go_meet;exact⟨by simp[hn],_,rfl⟩
   ·rw[decide_eq_false hn]at hb;subst hb;go_quiet (fail)
    go_wp2_with fail
    go_meet;exact⟨by simp[hn],_,rfl⟩
 case rest =>
 obtain⟨rfl,nd,rfl⟩:=hcut;cases bad
 case true =>
  have hb:=QD.out;rw[Bool.and_eq_true]at hb;obtain⟨hr,hd⟩:=hb;subst hr;have hA:ANS=false:=by
   rw[← VC.out,VD.out];simp only[Bool.not_true,Bool.false_or];rw[show decide (nu=(rows:Int)-cnt)=false by simpa using hd];rfl
  have r3:=Yx.out.2.2.1.below (below_drewN (Zab w1) nd) (by have:=Yx.out.2.2.2.2;omega);have y2:=r3.cell 0;have yf:=r3.frozen 0;simp only[List.getElem?_cons_zero]at y2;go_wp2_with fail
  refine⟨.bool false,?_,by rw[hA],?_⟩
  ·have h:=(r3.set 0 (.bool false)).cell 0;simp only[List.set_cons_zero,List.getElem?_cons_zero]at h;simp[results,Tryz.results127,go_sem,h]
  ·have hb2:Below w.heap.size w (w1.drewN nd):=below_drewN Yx.out.2.2.2.1 nd;exact Zac hb2 _ _ _ (by have:=QY.out;omega)
 case false =>
 have JY:Hid (rg=true→nu=(rows:Int)-cnt):=hid (fun h=>by
  have hb:=QD.out;rw[h,Bool.true_and]at hb;simpa using hb)
 have Qc:Hid (Below w.heap.size w (w1.drewN nd)):=hid (below_drewN Yx.out.2.2.2.1 nd);have QI:Hid (Row (w1.drewN nd) s 195 [.iface 157 (.agg #[])]):=hid (Yx.out.1.below (below_drewN (Zab w1) nd) (by have:=Yx.out.2.2.2.2;omega));have Qq:Hid (Row (w1.drewN nd) (s+1) 39 [.bool rg,.int .i64 nu,.bool mn.n,.int .i64 mn.i,.string mn.s,.bool mx.n,.int .i64 mx.i,.string mx.s,.int .i64 hs,.slice B bn bc]):=hid (Yx.out.2.1.below (below_drewN (Zab w1) nd) (by have:=Yx.out.2.2.2.2;omega));have Qf:Hid (Row (w1.drewN nd) (s+1+1) 4 [.bool false]):=hid (Yx.out.2.2.1.below (below_drewN (Zab w1) nd) (by have:=Yx.out.2.2.2.2;omega));have ZX:Hid ((w1.drewN nd).heap.size=s+3):=hid (by simpa using Yx.out.2.2.2.2);clear a0 a1 q0 q4 Yx QD;generalize w1.drewN nd=w2 at *;have UL:=hid (Zi4 mn);have ZU:=hid (Zi4 mx);obtain⟨mnn,mni,mns⟩:=mn;obtain⟨mxn,mxi,mxs⟩:=mx;simp only at Qq UL ZU;unfold C3.v at UL ZU;simp only at UL ZU;have hm:=HM.out;have k0:=QI.out.cell 0;have z2:=Qq.out.cell 2;have z3:=Qq.out.cell 3;have z4:=Qq.out.cell 4;have z5:=Qq.out.cell 5;have z6:=Qq.out.cell 6;have z7:=Qq.out.cell 7;simp only[List.getElem?_cons_zero,List.getElem?_cons_succ]at k0 z2 z3 z4 z5 z6 z7;have YT:Hid (∀ w':World,Below w2.heap.size w2 w'→(w'.cell? ⟨s,0,none⟩=some (.iface 157 (.agg #[]))∧w'.cell? ⟨s+1,2,none⟩=some (.bool mnn)∧w'.cell? ⟨s+1,3,none⟩=some (.int .i64 mni)∧w'.cell? ⟨s+1,4,none⟩=some (.string mns)∧w'.cell? ⟨s+1,5,none⟩=some (.bool mxn)∧w'.cell? ⟨s+1,6,none⟩=some (.int .i64 mxi)∧w'.cell? ⟨s+1,7,none⟩=some (.string mxs))):=hid (fun w' hb=>by
  have h1:=QI.out.mono hb;have h2:=Qq.out.mono hb;exact⟨h1.cell 0,h2.cell 2,h2.cell 3,h2.cell 4,h2.cell 5,h2.cell 6,h2.cell 7⟩)
 go_upto_region 3 with fail
 go_cut [7,8]from 26 to 33 (fun s7 s8 wr=>∃ pL pG,s7=.pointer (some ⟨pL,0,none⟩)∧s8=.pointer (some ⟨pG,0,none⟩)∧Hid (VF2 w2 wr 9 (vS mns) (vS mxs) pL pG))
 case first =>
  have n1:=World.new_ne w2 _ k0;have n2:=World.new_ne w2 _ z2;simp only at n1 n2;go_region_held3 (fun w'=>w'.cell? ⟨s,0,none⟩=some (.iface 157 (.agg #[]))∧w'.cell? ⟨s+1,2,none⟩=some (.bool mnn)∧w'.cell? ⟨s+1,3,none⟩=some (.int .i64 mni)∧w'.cell? ⟨s+1,4,none⟩=some (.string mns)∧w'.cell? ⟨s+1,5,none⟩=some (.bool mxn)∧w'.cell? ⟨s+1,6,none⟩=some (.int .i64 mxi)∧w'.cell? ⟨s+1,7,none⟩=some (.string mxs)) (first | (refine YT.out _ ?_;repeat (first | exact Zab _ | (refine Zad ?_ ((Zab _).alloc (Nat.le_refl _) _)) | (refine Zad ?_ (Zag (Zab _) 1)) | (refine Zac ?_ _ _ _ (by simp[go_sem]<;>omega))))) (first | (go_at_call 314;first | (refine(UL.out _).mono ?_;rintro e wv1 ⟨rfl,rfl⟩) | (refine(ZU.out _).mono ?_;rintro e wv2 ⟨rfl,rfl⟩)))
  all_goals
   go_wp2_with fail
   go_meet;refine⟨_,_,rfl,rfl,hid (VG2.fin ?_)⟩
   repeat (first | exact VG2.start _ _ _ _ | refine VG2.drew ?_ | refine VG2.a7 (by simp) ?_ | refine VG2.a8 (by simp) ?_ | refine VG2.old ?_)
 case rest =>
 obtain⟨pL,pG,rfl,rfl,ZD⟩:=hcut;obtain⟨hn,hhn⟩:∃ hn:Nat,hs=(hn:Int):=⟨hs.toNat,by omega⟩;subst hhn;have HHN:Hid (hn≤8):=hid (by omega);have Q6:Hid (∀ x∈ys,Znm ⟨rg,nu,⟨mnn,mni,mns⟩,⟨mxn,mxi,mxs⟩,(hn:Int),bl⟩ x=false→ANS=false):=hid (fun x hx hz=>by
  rw[← VC.out,VD.out];have:ys.all (Znm ⟨rg,nu,⟨mnn,mni,mns⟩,⟨mxn,mxi,mxs⟩,(hn:Int),bl⟩)=false:=by
   rw[List.all_eq_false];exact⟨x,hx,by rw[hz];simp⟩
  rw[this,Bool.and_false])
 have HYE:Hid (ys.all (Znm ⟨rg,nu,⟨mnn,mni,mns⟩,⟨mxn,mxi,mxs⟩,(hn:Int),bl⟩)=true→ANS=true):=hid (fun h=>by
  rw[← VC.out,VD.out,h,Bool.and_true];cases hr:rg
  ·rfl
  ·rw[decide_eq_true (JY.out hr)];rfl)
 have VJ:Hid (∀ x,Znm ⟨rg,nu,⟨mnn,mni,mns⟩,⟨mxn,mxi,mxs⟩,(hn:Int),bl⟩ x=((!rg||(!ltB x mns&&!ltB mxs x))&&(decide (bl=[])||Ze8 bl (Zg4 2 (vk_S x)) hn))):=hid (fun x=>rfl);have HHA:=hid (fun(w1:World) (hb:Below w.heap.size w w1) (h0:0<bn) (h:Nat) (hh:h<18446744073709551616)=>Zl8 (.slice B bn bc) bl hn h w1 (by rw[Yc.out];exact Zw.out w1 hb) (by rw[Yc.out];exact h0) (by rw[Yc.out];exact hbl) HHN.out hh Q5.out);have Ya:Hid (decide (bl=[])=decide (bn=0)):=hid (by
  rw[← Yc.out];cases bl<;>simp)
 have Uc:Hid (Below w.heap.size w wc):=hid (Zad Qc.out ZD.out.bl);have ZJ:=hid (HVL.out wc Uc.out);have HW2:=hid ZD.out.bl.size;clear VC VD JY HVL HQ HM UL ZU hm k0 z2 z3 z4 z5 z6 z7 YT hhs;have R1:=QI.out.mono ZD.out.bl;have R2:=Qq.out.mono ZD.out.bl;have R3:=Qf.out.mono ZD.out.bl;have RL:=ZD.out.a;have RG:=ZD.out.b;have Qs:=hid (And.intro R1 (And.intro R2 (And.intro R3 (And.intro RL RG))));clear R1 R2 R3 RL RG QI Qq Qf ZD;generalize Znm ⟨rg,nu,⟨mnn,mni,mns⟩,⟨mxn,mxi,mxs⟩,(hn:Int),bl⟩=zv at *;go_wp2_with (go_at_call 159;refine ZJ.out.mono ?_;rintro e w4 ⟨gf,lb,rfl,hb4,hen,hst⟩;have Q0:=hid hb4;have Ym:=hid hen;have QE:=hid hst;clear hb4 hen hst)
 have hsz:=QY.out;have hz2:=ZX.out;have hw2:=HW2.out;have hz4:=Q0.out.size;obtain⟨R1,R2,R3,⟨hpL,RL⟩,hpG,RG⟩:=Qs.out;have Yf:=hid (And.intro (show s<w4.heap.size by omega) (And.intro (show s+1+1<w4.heap.size by omega) (And.intro (show pL<w4.heap.size by have:=RL.lt;omega) (show pG<w4.heap.size by have:=RG.lt;omega))));have YP:=hid (And.intro hpL hpG);have QV:=hid (And.intro (R1.mono Q0.out) (And.intro (R2.mono Q0.out) (And.intro (R3.mono Q0.out) (And.intro (RL.mono Q0.out) (RG.mono Q0.out)))));have Vy:Hid (Below s w w4):=hid (by have h:=Zad Uc.out Q0.out;rw[hsz]at h;exact h);clear R1 R2 R3 RL RG hpL hpG Qs;refine wpIn_wide.1 (Zm5 (n:=9) rfl (gf:=gf) (lb:=lb) rfl Ym.out
  (QE.out (fun k=>k<w4.heap.size∧k≠s+1+1) (fun k hk=>⟨by omega,by omega⟩) (fun k hk1 hk2=>⟨hk2,by omega⟩)) (Zab w4) (fun k hk=>hk.1) (fun _=>rfl)
  (fun pre W=>(∀ x∈pre,zv x=true)∧Row W s 195 [.iface 157 (.agg #[])]∧Row W (s+1) 39 [.bool rg,.int .i64 nu,.bool mnn,.int .i64 mni,.string mns,.bool mxn,.int .i64 mxi,.string mxs,.int .i64 (hn:Int),.slice B bn bc]∧Row W (s+1+1) 4 [.bool false]∧(Row W pL 9 [vS mns]∧Row W pG 9 [vS mxs])∧Below s w W)
  (fun pre A B h hb=>⟨h.1,h.2.1.below hb Yf.out.1,h.2.2.1.below hb (by have:=Yf.out.2.1;omega),h.2.2.2.1.below hb Yf.out.2.1,⟨h.2.2.2.2.1.1.below hb Yf.out.2.2.1,h.2.2.2.2.1.2.below hb Yf.out.2.2.2⟩,h.2.2.2.2.2.trans (hb.mono (by have:=Yf.out.1;omega))⟩)
  (fun W=>ANS=false∧Row W (s+1+1) 4 [.bool false]∧Below s w W)
  (fun A B h hb=>⟨h.1,h.2.1.below hb Yf.out.2.1,h.2.2.trans (hb.mono (by have:=Yf.out.1;omega))⟩)
  ⟨fun x hx=>(by cases hx),QV.out.1,QV.out.2.1,QV.out.2.2.1,⟨QV.out.2.2.2.1,QV.out.2.2.2.2⟩,Vy.out⟩
  (fun x=>{ tmps:=#[.iface 157 (.agg #[]),.pointer (some ⟨g,0,none⟩),.agg #[.bool rg,.int .i64 nu,.bool mnn,.int .i64 mni,.string mns,.bool mxn,.int .i64 mxi,.string mxs,.int .i64 (hn:Int),.slice B bn bc],.pointer (some ⟨s,0,none⟩),undef,.pointer (some ⟨s+1,0,none⟩),.pointer (some ⟨s+1+1,0,none⟩),.pointer (some ⟨pL,0,none⟩),.pointer (some ⟨pG,0,none⟩),vS x,u10,u11,u12,u13,u14,u15,u16,u17,u18,u19,u20,u21,u22,u23,u24,.bool false,u26,u27,u28,u29,u30,u31,u32,u33,.pointer (some ⟨g,0,none⟩),.func (.func gf) #[] lb,vS x,undef,undef,undef,undef,undef,undef,undef,undef,undef,undef,undef,undef,undef,undef,undef,undef,undef,undef,undef,undef,undef,undef,undef,undef,undef,undef,undef,undef,undef,undef],defers:=[] }) ?assign ?body ?done ?stop)
 case assign =>
  intro l x W K hK;unfold vS at hK ⊢
  gi_wp2
  exact hK
 case body =>
  rintro l pre x W hpre ⟨hall,r0,r1,r2,⟨rL,rG⟩,hbW⟩ hsW hmW;obtain⟨hmem,_⟩:=Zm0 hpre;have Ue:=hid (HYS.out x hmem);have YA:=hid (Q6.out x hmem);have YV:=hid (VJ.out x);have Qr:=hid hall;have hbW2:Below w.heap.size w W:=by rw[QY.out];exact hbW
  have Qg:=hid hbW;have VE:=hid (fun(w1:World) (hb:Below W.heap.size W w1) (h0:0<bn)=>HHA.out w1 (Zad hbW2 hb) h0 (Zg4 2 (vk_S x)) (Zi0 _));have UM:=hid (fun(w1:World)=>Znf 2 (vk_S x) w1 Ue.out);have U0:=hid Zhz;have XH:=hid (Zxe x);obtain⟨hc,hhc⟩:∃ hc,Zg4 2 (vk_S x)=hc:=⟨_,rfl⟩;rw[hhc]at VE UM YV;clear hhc;obtain⟨ha,hha⟩:∃ ha,Ze8 bl hc hn=ha:=⟨_,rfl⟩;rw[hha]at VE YV;clear hha;rw[Ya.out]at YV;unfold vk_S C3.v at UM;simp only at UM;have Qs:=hid (And.intro r0 (And.intro r1 (And.intro r2 (And.intro rL rG))));have y0:=r0.cell 0;have yb:=r1.cell 0;have yh:=r1.cell 8;have ys9:=r1.cell 9;have yr:=r2.cell 0;have yrf:=r2.frozen 0;have yL:=rL.cell 0;have yG:=rG.cell 0;simp only[List.getElem?_cons_zero,List.getElem?_cons_succ]at y0 yb yh ys9 yr yL yG;have hpr:=Yf.out;have hmx:Tryz.prog.follows .mixedOrders=true:=by kernel_rfl
  have hws:s≤W.heap.size:=by omega
  have Zr:=hid (fun(W2:World) (hb:Below W.heap.size W W2) (hz:zv x=false)=>And.intro (And.intro (YA.out hz) (And.intro ((Qs.out.2.2.1.mono hb).set 0 (.bool false)) (Zac (Qg.out.trans (hb.mono hws)) (s+1+1) 0 (.bool false) (by omega))))
   (Mid.trans (U:=fun k=>k<w4.heap.size∧¬ k=s+1+1) (b:=w4.heap.size) (⟨hb.mono (Nat.zero_le _),fun k hk _=>hb.block k hk⟩:Mid _ _ W W2) (Mid.set W2 (s+1+1) 0 (.bool false) (fun h=>h.2 rfl) (by omega))))
  have Yj:=hid (fun(W2:World) (hb:Below W.heap.size W W2) (hz:zv x=true)=>And.intro (And.intro (fun(y:ByteArray) (hy:y∈pre∨y=x)=>(hy.elim (Qr.out y) (fun he=>by rw[he];exact hz):zv y=true)) (And.intro (Qs.out.1.mono hb) (And.intro (Qs.out.2.1.mono hb) (And.intro (Qs.out.2.2.1.mono hb) (And.intro (And.intro (Qs.out.2.2.2.1.mono hb) (Qs.out.2.2.2.2.mono hb)) (Qg.out.trans (hb.mono hws)))))))
   (⟨hb.mono (Nat.zero_le _),fun k hk _=>hb.block k hk⟩:Mid (fun k=>k<w4.heap.size∧¬ k=s+1+1) w4.heap.size W W2))
  clear r0 r1 r2 rL rG hbW hbW2 hall Q6 VJ HHA HYS hmem hpre;unfold vS at yL yG ⊢;have Qh:Hid (∀ w':World,Below W.heap.size W w'→w'.cell? ⟨s,0,none⟩=some (.iface 157 (.agg #[]))∧w'.cell? ⟨s+1,8,none⟩=some (.int .i64 (hn:Int))∧w'.cell? ⟨s+1,9,none⟩=some (.slice B bn bc)∧Hid (Below W.heap.size W w')):=hid (fun w' hb=>⟨(Qs.out.1.mono hb).cell 0,(Qs.out.2.1.mono hb).cell 8,(Qs.out.2.1.mono hb).cell 9,hid hb⟩);by_cases hr:rg=false
  ·subst hr;by_cases hb0:bn=0
   ·subst hb0;have hzt:zv x=true:=by rw[YV.out];simp[ltB, *]
    have Yy:=hid hzt;clear hzt
    gi_wp2
    refine Zbw (S:=fun w'=>w'.cell? ⟨s,0,none⟩=some (.iface 157 (.agg #[]))∧w'.cell? ⟨s+1,8,none⟩=some (.int .i64 (hn:Int))∧w'.cell? ⟨s+1,9,none⟩=some (.slice B 0 bc)∧Hid (Below W.heap.size W w')) (by kernel_rfl) (by kernel_rfl) (by(try dsimp only);first | assumption | first | exact Qh.out _ (Zag (Zab _) 1) | exact Qh.out _ (Zad hHeld.2.2.2.out hv1) | exact Qh.out _ (Zad hHeld.2.2.2.out hv2) | exact Qh.out _ (Zad hHeld.2.2.2.out hv3)) (fun hHeld=>?_);refine tkA (v:=?_) 0 ?_ ?_;rotate_left
    ·(intro wS hSw;(try dsimp only at hSw);go_simp;try with_reducible rfl)
    try simp only[Act.put,tk1,tk2,tk3]
    refine tkA (v:=?_) 1 ?_ ?_;rotate_left
    ·(intro wS hSw;(try dsimp only at hSw);go_simp;try with_reducible rfl)
    try simp only[Act.put,tk1,tk2,tk3]
    refine tkA (v:=?_) 2 ?_ ?_;rotate_left
    ·(intro wS hSw;(try dsimp only at hSw);go_simp;try with_reducible rfl)
    try simp only[Act.put,tk1,tk2,tk3]
    refine tkA (v:=?_) 3 ?_ ?_;rotate_left
    ·(intro wS hSw;(try dsimp only at hSw);go_simp;try with_reducible rfl)
    try simp only[Act.put,tk1,tk2,tk3]
    refine tkA (v:=?_) 4 ?_ ?_;rotate_left
    ·(intro wS hSw;(try dsimp only at hSw);go_simp;try with_reducible rfl)
    try simp only[Act.put,tk1,tk2,tk3]
    refine tkB 5 ?_
    try simp only[Act.put,tk1,tk2,tk3]
    refine tkB 6 ?_
    try simp only[Act.put,tk1,tk2,tk3]
    refine tkB 7 ?_
    try simp only[Act.put,tk1,tk2,tk3]
    refine tkB 8 ?_
    try simp only[Act.put,tk1,tk2,tk3]
    refine tkB 9 ?_
    try simp only[Act.put,tk1,tk2,tk3]
    refine tkB 10 ?_
    try simp only[Act.put,tk1,tk2,tk3]
    refine tkB 11 ?_
    try simp only[Act.put,tk1,tk2,tk3]
    refine tkB 12 ?_
    try simp only[Act.put,tk1,tk2,tk3]
    refine tkB 13 ?_
    try simp only[Act.put,tk1,tk2,tk3]
    refine tkB 14 ?_
    try simp only[Act.put,tk1,tk2,tk3]
    refine tkB 15 ?_
    try simp only[Act.put,tk1,tk2,tk3]
    refine tkB 16 ?_
    try simp only[Act.put,tk1,tk2,tk3]
    refine tkA (v:=?_) 17 ?_ ?_;rotate_left
    ·(intro wS hSw;(try dsimp only at hSw);go_simp;try with_reducible rfl)
    try simp only[Act.put,tk1,tk2,tk3]
    refine wpAnyH_done (by kernel_rfl) ?_ _;simp only[Zlt];have Q9:=hid (Zag (Zab W) 1)
    gi_wp2
    exact Yj.out _ Q9.out Yy.out
   ·have hp:0<bn:=by omega
    have HP:=hid hp;have hzt:zv x=ha:=by rw[YV.out];simp[ltB, *]
    have Yy:=hid hzt;clear hzt;clear hb0;have hmN:=Zjz;have hmC:=Ztd
    gi_wp2
    refine Zbw (S:=fun w'=>w'.cell? ⟨s,0,none⟩=some (.iface 157 (.agg #[]))∧w'.cell? ⟨s+1,8,none⟩=some (.int .i64 (hn:Int))∧w'.cell? ⟨s+1,9,none⟩=some (.slice B bn bc)∧Hid (Below W.heap.size W w')) (by kernel_rfl) (by kernel_rfl) (by(try dsimp only);first | assumption | first | exact Qh.out _ (Zag (Zab _) 1) | exact Qh.out _ (Zad hHeld.2.2.2.out hv1) | exact Qh.out _ (Zad hHeld.2.2.2.out hv2) | exact Qh.out _ (Zad hHeld.2.2.2.out hv3)) (fun hHeld=>?_);refine tkA (v:=?_) 0 ?_ ?_;rotate_left
    ·(intro wS hSw;(try dsimp only at hSw);go_simp;try with_reducible rfl)
    try simp only[Act.put,tk1,tk2,tk3]
    refine tkA (v:=?_) 1 ?_ ?_;rotate_left
    ·(intro wS hSw;(try dsimp only at hSw);go_simp;try with_reducible rfl)
    try simp only[Act.put,tk1,tk2,tk3]
    refine tkA (v:=?_) 2 ?_ ?_;rotate_left
    ·(intro wS hSw;(try dsimp only at hSw);go_simp;try with_reducible rfl)
    try simp only[Act.put,tk1,tk2,tk3]
    refine tkA (v:=?_) 3 ?_ ?_;rotate_left
    ·(intro wS hSw;(try dsimp only at hSw);go_simp;try with_reducible rfl)
    try simp only[Act.put,tk1,tk2,tk3]
    refine tkA (v:=?_) 4 ?_ ?_;rotate_left
    ·(intro wS hSw;(try dsimp only at hSw);go_simp;try with_reducible rfl)
    try simp only[Act.put,tk1,tk2,tk3]
    refine tkA (v:=?_) 5 ?_ ?_;rotate_left
    ·(intro wS hSw;(try dsimp only at hSw);go_simp;try with_reducible rfl)
    try simp only[Act.put,tk1,tk2,tk3]
    refine tkA (v:=?_) 6 ?_ ?_;rotate_left
    ·(intro wS hSw;(try dsimp only at hSw);go_simp;try with_reducible rfl)
    try simp only[Act.put,tk1,tk2,tk3]
    refine tkA (v:=?_) 7 ?_ ?_;rotate_left
    ·(intro wS hSw;(try dsimp only at hSw);go_simp;try with_reducible rfl)
    try simp only[Act.put,tk1,tk2,tk3]
    refine tkA (v:=?_) 8 ?_ ?_;rotate_left
    ·(intro wS hSw;(try dsimp only at hSw);go_simp;try with_reducible rfl)
    try simp only[Act.put,tk1,tk2,tk3]
    refine tkA (v:=?_) 9 ?_ ?_;rotate_left
    ·(intro wS hSw;(try dsimp only at hSw);go_simp;try with_reducible rfl)
    try simp only[Act.put,tk1,tk2,tk3]
    refine tkA (v:=?_) 11 ?_ ?_;rotate_left
    ·(intro wS hSw;(try dsimp only at hSw);go_simp;try with_reducible rfl)
    try simp only[Act.put,tk1,tk2,tk3]
    refine tkA (v:=?_) 12 ?_ ?_;rotate_left
    ·(intro wS hSw;(try dsimp only at hSw);go_simp;try with_reducible rfl)
    try simp only[Act.put,tk1,tk2,tk3]
    refine wpAnyH_ready (rs:=[10]) (by kernel_rfl) (by simp) ?_;refine AllReadyH.cons (Zck rfl) (fun K hK=>?_) AllReadyH.nil;go_simp;go_at_call 313
    refine(U0.out _).mono ?_;rintro e wv1 ⟨rfl,hv1⟩
    (try go_wp2_with fail)
    refine hK.out _ _ ?_ (fun hHeld2=>?_)
    ·(try dsimp only)
     first | with_reducible assumption | (first | exact Qh.out _ (Zag (Zab _) 1) | exact Qh.out _ (Zad hHeld.2.2.2.out hv1) | exact Qh.out _ (Zad hHeld.2.2.2.out hv2) | exact Qh.out _ (Zad hHeld.2.2.2.out hv3))
    clear hK hHeld;clear K;have hHeld:=hHeld2;clear hHeld2
    try simp only[Act.put,tk1,tk2,tk3]
    refine wpAnyH_ready (rs:=[13]) (by kernel_rfl) (by simp) ?_;refine AllReadyH.cons (Zck rfl) (fun K hK=>?_) AllReadyH.nil;go_simp;go_at_call 312
    refine(XH.out _).mono ?_;rintro e wv2 ⟨rfl,hv2⟩
    (try go_wp2_with fail)
    refine hK.out _ _ ?_ (fun hHeld2=>?_)
    ·(try dsimp only)
     first | with_reducible assumption | (first | exact Qh.out _ (Zag (Zab _) 1) | exact Qh.out _ (Zad hHeld.2.2.2.out hv1) | exact Qh.out _ (Zad hHeld.2.2.2.out hv2) | exact Qh.out _ (Zad hHeld.2.2.2.out hv3))
    clear hK hHeld;clear K;have hHeld:=hHeld2;clear hHeld2
    try simp only[Act.put,tk1,tk2,tk3]
    refine wpAnyH_ready (rs:=[14]) (by kernel_rfl) (by simp) ?_;refine AllReadyH.cons (Zck rfl) (fun K hK=>?_) AllReadyH.nil;go_simp;go_at_call 149
    refine(UM.out _).mono ?_;rintro e wv3 ⟨rfl,hv3⟩
    (try go_wp2_with fail)
    refine hK.out _ _ ?_ (fun hHeld2=>?_)
    ·(try dsimp only)
     first | with_reducible assumption | (first | exact Qh.out _ (Zag (Zab _) 1) | exact Qh.out _ (Zad hHeld.2.2.2.out hv1) | exact Qh.out _ (Zad hHeld.2.2.2.out hv2) | exact Qh.out _ (Zad hHeld.2.2.2.out hv3))
    clear hK hHeld;clear K;have hHeld:=hHeld2;clear hHeld2
    try simp only[Act.put,tk1,tk2,tk3]
    refine wpAnyH_ready (rs:=[15]) (by kernel_rfl) (by simp) ?_;refine AllReadyH.cons (Zck rfl) (fun K hK=>?_) AllReadyH.nil;go_simp;go_at_call 160
    refine(VE.out _ hHeld.2.2.2.out HP.out).mono ?_;rintro e wv4 ⟨rfl,hv4⟩;replace hv4:=hv4.symm;subst hv4
    (try go_wp2_with fail)
    refine hK.out _ _ ?_ (fun hHeld2=>?_)
    ·(try dsimp only)
     first | with_reducible assumption | (first | exact Qh.out _ (Zag (Zab _) 1) | exact Qh.out _ (Zad hHeld.2.2.2.out hv1) | exact Qh.out _ (Zad hHeld.2.2.2.out hv2) | exact Qh.out _ (Zad hHeld.2.2.2.out hv3))
    clear hK hHeld;clear K;have hHeld:=hHeld2;clear hHeld2
    try simp only[Act.put,tk1,tk2,tk3]
    refine tkA (v:=?_) 16 ?_ ?_;rotate_left
    ·(intro wS hSw;(try dsimp only at hSw);go_simp;try with_reducible rfl)
    try simp only[Act.put,tk1,tk2,tk3]
    refine tkA (v:=?_) 17 ?_ ?_;rotate_left
    ·(intro wS hSw;(try dsimp only at hSw);go_simp;try with_reducible rfl)
    try simp only[Act.put,tk1,tk2,tk3]
    refine wpAnyH_done (by kernel_rfl) ?_ _;simp only[Zlt];have Q9:=hid hHeld.2.2.2.out;have yr2:=(Qs.out.2.2.1.mono Q9.out).cell 0;have yf2:=(Qs.out.2.2.1.mono Q9.out).frozen 0;simp only[List.getElem?_cons_zero]at yr2;clear hHeld;cases ha
    ·gi_wp2
     exact Zr.out _ Q9.out Yy.out
    ·gi_wp2
     exact Yj.out _ Q9.out Yy.out
  ·have hr:rg=true:=by simpa using hr
   subst hr;by_cases hl:Op.bytesLess x.toList mns.toList=true
   ·have hzt:zv x=false:=by rw[YV.out];simp[ltB, *]
    have Yy:=hid hzt;clear hzt
    gi_wp2
    exact Zr.out _ (Zab _) Yy.out
   ·skip
    have hl:=Bool.eq_false_iff.2 hl;have HGT:=hid (gtS x mxs);by_cases hg:(!Op.bytesLess x.toList mxs.toList&&!x.toList==mxs.toList)=true
    ·skip
     have hzt:zv x=false:=by
      rw[YV.out,← HGT.out,hg];simp
     have Yy:=hid hzt;clear hzt
     gi_wp2
     exact Zr.out _ (Zab _) Yy.out
    ·skip
     have hg:=Bool.eq_false_iff.2 hg;rw[← HGT.out,hg]at YV;have hl2:ltB x mns=false:=hl;rw[hl2]at YV;clear hl2;by_cases hb0:bn=0
     ·subst hb0;have hzt:zv x=true:=by rw[YV.out];simp[ltB, *]
      have Yy:=hid hzt;clear hzt
      gi_wp2
      refine Zbw (S:=fun w'=>w'.cell? ⟨s,0,none⟩=some (.iface 157 (.agg #[]))∧w'.cell? ⟨s+1,8,none⟩=some (.int .i64 (hn:Int))∧w'.cell? ⟨s+1,9,none⟩=some (.slice B 0 bc)∧Hid (Below W.heap.size W w')) (by kernel_rfl) (by kernel_rfl) (by(try dsimp only);first | assumption | first | exact Qh.out _ (Zag (Zab _) 1) | exact Qh.out _ (Zad hHeld.2.2.2.out hv1) | exact Qh.out _ (Zad hHeld.2.2.2.out hv2) | exact Qh.out _ (Zad hHeld.2.2.2.out hv3)) (fun hHeld=>?_);refine tkA (v:=?_) 0 ?_ ?_;rotate_left
      ·(intro wS hSw;(try dsimp only at hSw);go_simp;try with_reducible rfl)
      try simp only[Act.put,tk1,tk2,tk3]
      refine tkA (v:=?_) 1 ?_ ?_;rotate_left
      ·(intro wS hSw;(try dsimp only at hSw);go_simp;try with_reducible rfl)
      try simp only[Act.put,tk1,tk2,tk3]
      refine tkA (v:=?_) 2 ?_ ?_;rotate_left
      ·(intro wS hSw;(try dsimp only at hSw);go_simp;try with_reducible rfl)
      try simp only[Act.put,tk1,tk2,tk3]
      refine tkA (v:=?_) 3 ?_ ?_;rotate_left
      ·(intro wS hSw;(try dsimp only at hSw);go_simp;try with_reducible rfl)
      try simp only[Act.put,tk1,tk2,tk3]
      refine tkA (v:=?_) 4 ?_ ?_;rotate_left
      ·(intro wS hSw;(try dsimp only at hSw);go_simp;try with_reducible rfl)
      try simp only[Act.put,tk1,tk2,tk3]
      refine tkB 5 ?_
      try simp only[Act.put,tk1,tk2,tk3]
      refine tkB 6 ?_
      try simp only[Act.put,tk1,tk2,tk3]
      refine tkB 7 ?_
      try simp only[Act.put,tk1,tk2,tk3]
      refine tkB 8 ?_
      try simp only[Act.put,tk1,tk2,tk3]
      refine tkB 9 ?_
      try simp only[Act.put,tk1,tk2,tk3]
      refine tkB 10 ?_
      try simp only[Act.put,tk1,tk2,tk3]
      refine tkB 11 ?_
      try simp only[Act.put,tk1,tk2,tk3]
      refine tkB 12 ?_
      try simp only[Act.put,tk1,tk2,tk3]
      refine tkB 13 ?_
      try simp only[Act.put,tk1,tk2,tk3]
      refine tkB 14 ?_
      try simp only[Act.put,tk1,tk2,tk3]
      refine tkB 15 ?_
      try simp only[Act.put,tk1,tk2,tk3]
      refine tkB 16 ?_
      try simp only[Act.put,tk1,tk2,tk3]
      refine tkA (v:=?_) 17 ?_ ?_;rotate_left
      ·(intro wS hSw;(try dsimp only at hSw);go_simp;try with_reducible rfl)
      try simp only[Act.put,tk1,tk2,tk3]
      refine wpAnyH_done (by kernel_rfl) ?_ _;simp only[Zlt];have Q9:=hid (Zag (Zab W) 1)
      gi_wp2
      exact Yj.out _ Q9.out Yy.out
     ·have hp:0<bn:=by omega
      have HP:=hid hp;have hzt:zv x=ha:=by rw[YV.out];simp[ltB, *]
      have Yy:=hid hzt;clear hzt;clear hb0;have hmN:=Zjz;have hmC:=Ztd
      gi_wp2
      refine Zbw (S:=fun w'=>w'.cell? ⟨s,0,none⟩=some (.iface 157 (.agg #[]))∧w'.cell? ⟨s+1,8,none⟩=some (.int .i64 (hn:Int))∧w'.cell? ⟨s+1,9,none⟩=some (.slice B bn bc)∧Hid (Below W.heap.size W w')) (by kernel_rfl) (by kernel_rfl) (by(try dsimp only);first | assumption | first | exact Qh.out _ (Zag (Zab _) 1) | exact Qh.out _ (Zad hHeld.2.2.2.out hv1) | exact Qh.out _ (Zad hHeld.2.2.2.out hv2) | exact Qh.out _ (Zad hHeld.2.2.2.out hv3)) (fun hHeld=>?_);refine tkA (v:=?_) 0 ?_ ?_;rotate_left
      ·(intro wS hSw;(try dsimp only at hSw);go_simp;try with_reducible rfl)
      try simp only[Act.put,tk1,tk2,tk3]
      refine tkA (v:=?_) 1 ?_ ?_;rotate_left
      ·(intro wS hSw;(try dsimp only at hSw);go_simp;try with_reducible rfl)
      try simp only[Act.put,tk1,tk2,tk3]
      refine tkA (v:=?_) 2 ?_ ?_;rotate_left
      ·(intro wS hSw;(try dsimp only at hSw);go_simp;try with_reducible rfl)
      try simp only[Act.put,tk1,tk2,tk3]
      refine tkA (v:=?_) 3 ?_ ?_;rotate_left
      ·(intro wS hSw;(try dsimp only at hSw);go_simp;try with_reducible rfl)
      try simp only[Act.put,tk1,tk2,tk3]
      refine tkA (v:=?_) 4 ?_ ?_;rotate_left
      ·(intro wS hSw;(try dsimp only at hSw);go_simp;try with_reducible rfl)
      try simp only[Act.put,tk1,tk2,tk3]
      refine tkA (v:=?_) 5 ?_ ?_;rotate_left
      ·(intro wS hSw;(try dsimp only at hSw);go_simp;try with_reducible rfl)
      try simp only[Act.put,tk1,tk2,tk3]
      refine tkA (v:=?_) 6 ?_ ?_;rotate_left
      ·(intro wS hSw;(try dsimp only at hSw);go_simp;try with_reducible rfl)
      try simp only[Act.put,tk1,tk2,tk3]
      refine tkA (v:=?_) 7 ?_ ?_;rotate_left
      ·(intro wS hSw;(try dsimp only at hSw);go_simp;try with_reducible rfl)
      try simp only[Act.put,tk1,tk2,tk3]
      refine tkA (v:=?_) 8 ?_ ?_;rotate_left
      ·(intro wS hSw;(try dsimp only at hSw);go_simp;try with_reducible rfl)
      try simp only[Act.put,tk1,tk2,tk3]
      refine tkA (v:=?_) 9 ?_ ?_;rotate_left
      ·(intro wS hSw;(try dsimp only at hSw);go_simp;try with_reducible rfl)
      try simp only[Act.put,tk1,tk2,tk3]
      refine tkA (v:=?_) 11 ?_ ?_;rotate_left
      ·(intro wS hSw;(try dsimp only at hSw);go_simp;try with_reducible rfl)
      try simp only[Act.put,tk1,tk2,tk3]
      refine tkA (v:=?_) 12 ?_ ?_;rotate_left
      ·(intro wS hSw;(try dsimp only at hSw);go_simp;try with_reducible rfl)
      try simp only[Act.put,tk1,tk2,tk3]
      refine wpAnyH_ready (rs:=[10]) (by kernel_rfl) (by simp) ?_;refine AllReadyH.cons (Zck rfl) (fun K hK=>?_) AllReadyH.nil;go_simp;go_at_call 313
      refine(U0.out _).mono ?_;rintro e wv1 ⟨rfl,hv1⟩
      (try go_wp2_with fail)
      refine hK.out _ _ ?_ (fun hHeld2=>?_)
      ·(try dsimp only)
       first | with_reducible assumption | (first | exact Qh.out _ (Zag (Zab _) 1) | exact Qh.out _ (Zad hHeld.2.2.2.out hv1) | exact Qh.out _ (Zad hHeld.2.2.2.out hv2) | exact Qh.out _ (Zad hHeld.2.2.2.out hv3))
      clear hK hHeld;clear K;have hHeld:=hHeld2;clear hHeld2
      try simp only[Act.put,tk1,tk2,tk3]
      refine wpAnyH_ready (rs:=[13]) (by kernel_rfl) (by simp) ?_;refine AllReadyH.cons (Zck rfl) (fun K hK=>?_) AllReadyH.nil;go_simp;go_at_call 312
      refine(XH.out _).mono ?_;rintro e wv2 ⟨rfl,hv2⟩
      (try go_wp2_with fail)
      refine hK.out _ _ ?_ (fun hHeld2=>?_)
      ·(try dsimp only)
       first | with_reducible assumption | (first | exact Qh.out _ (Zag (Zab _) 1) | exact Qh.out _ (Zad hHeld.2.2.2.out hv1) | exact Qh.out _ (Zad hHeld.2.2.2.out hv2) | exact Qh.out _ (Zad hHeld.2.2.2.out hv3))
      clear hK hHeld;clear K;have hHeld:=hHeld2;clear hHeld2
      try simp only[Act.put,tk1,tk2,tk3]
      refine wpAnyH_ready (rs:=[14]) (by kernel_rfl) (by simp) ?_;refine AllReadyH.cons (Zck rfl) (fun K hK=>?_) AllReadyH.nil;go_simp;go_at_call 149
      refine(UM.out _).mono ?_;rintro e wv3 ⟨rfl,hv3⟩
      (try go_wp2_with fail)
      refine hK.out _ _ ?_ (fun hHeld2=>?_)
      ·(try dsimp only)
       first | with_reducible assumption | (first | exact Qh.out _ (Zag (Zab _) 1) | exact Qh.out _ (Zad hHeld.2.2.2.out hv1) | exact Qh.out _ (Zad hHeld.2.2.2.out hv2) | exact Qh.out _ (Zad hHeld.2.2.2.out hv3))
      clear hK hHeld;clear K;have hHeld:=hHeld2;clear hHeld2
      try simp only[Act.put,tk1,tk2,tk3]
      refine wpAnyH_ready (rs:=[15]) (by kernel_rfl) (by simp) ?_;refine AllReadyH.cons (Zck rfl) (fun K hK=>?_) AllReadyH.nil;go_simp;go_at_call 160
      refine(VE.out _ hHeld.2.2.2.out HP.out).mono ?_;rintro e wv4 ⟨rfl,hv4⟩;replace hv4:=hv4.symm;subst hv4
      (try go_wp2_with fail)
      refine hK.out _ _ ?_ (fun hHeld2=>?_)
      ·(try dsimp only)
       first | with_reducible assumption | (first | exact Qh.out _ (Zag (Zab _) 1) | exact Qh.out _ (Zad hHeld.2.2.2.out hv1) | exact Qh.out _ (Zad hHeld.2.2.2.out hv2) | exact Qh.out _ (Zad hHeld.2.2.2.out hv3))
      clear hK hHeld;clear K;have hHeld:=hHeld2;clear hHeld2
      try simp only[Act.put,tk1,tk2,tk3]
      refine tkA (v:=?_) 16 ?_ ?_;rotate_left
      ·(intro wS hSw;(try dsimp only at hSw);go_simp;try with_reducible rfl)
      try simp only[Act.put,tk1,tk2,tk3]
      refine tkA (v:=?_) 17 ?_ ?_;rotate_left
      ·(intro wS hSw;(try dsimp only at hSw);go_simp;try with_reducible rfl)
      try simp only[Act.put,tk1,tk2,tk3]
      refine wpAnyH_done (by kernel_rfl) ?_ _;simp only[Zlt];have Q9:=hid hHeld.2.2.2.out;have yr2:=(Qs.out.2.2.1.mono Q9.out).cell 0;have yf2:=(Qs.out.2.2.1.mono Q9.out).frozen 0;simp only[List.getElem?_cons_zero]at yr2;clear hHeld;cases ha
      ·gi_wp2
       exact Zr.out _ Q9.out Yy.out
      ·gi_wp2
       exact Yj.out _ Q9.out Yy.out
 case done =>
  rintro W ⟨hall,r1,r2,r3,r4,hbW⟩ hmW hK;have y2:=r3.cell 0;have yf:=r3.frozen 0;simp only[List.getElem?_cons_zero]at y2;have Qf:=hid r3;have Qg:=hid hbW;have Z7:=hid hK;have Qr:=hid hall;clear hall r1 r2 r3 r4 hbW;have hpr:=Yf.out;go_wp2_with fail
  have hKs:(W.setCell ⟨s+1+1,0,none⟩ (.bool true)).heap[w4.heap.size]? = some (.deferred (some [])):=by
   rw[heap_setCell_other];exact Z7.out;simp only;omega
  have hput:Below w4.heap.size (W.setCell ⟨s+1+1,0,none⟩ (.bool true)) ((W.setCell ⟨s+1+1,0,none⟩ (.bool true)).putObj w4.heap.size (.deferred none)):=Zcy hKs (Nat.le_refl _);refine⟨by simp,.inl ⟨_,_,rfl,run_takeDeferred hKs,?_⟩⟩;have hr:=(Qf.out.set 0 (.bool true)).below hput (by omega);have h:=hr.cell 0;simp only[List.set_cons_zero,List.getElem?_cons_zero]at h;refine⟨.bool true,?_,by rw[HYE.out (List.all_eq_true.2 Qr.out)],?_⟩
  ·simp[results,Tryz.results127,go_sem,h]
  ·rw[QY.out];exact(Zac Qg.out _ _ _ (by omega)).trans (hput.mono (by omega))
 case stop =>
  rintro W ⟨hans,r3,hbW⟩ hmW hK;have hpr:=Yf.out;have Qf:=hid r3;have Qg:=hid hbW;have Z7:=hid hK;clear r3 hbW
  gi_wp2
  have hput:Below w4.heap.size W (W.putObj w4.heap.size (.deferred none)):=Zcy Z7.out (Nat.le_refl _);refine⟨by simp,.inl ⟨_,_,rfl,run_takeDeferred Z7.out,?_⟩⟩;have h:=(Qf.out.below hput (by omega)).cell 0;simp only[List.getElem?_cons_zero]at h;refine⟨.bool false,?_,by rw[hans],?_⟩
  ·simp[results,Tryz.results127,go_sem,h]
  ·rw[QY.out];exact Qg.out.trans (hput.mono (by omega))
end Go.Proofs.YtmcjknjlihgihaaGreatDoor
