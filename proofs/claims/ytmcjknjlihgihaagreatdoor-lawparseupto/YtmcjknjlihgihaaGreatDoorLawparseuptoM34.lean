/- Package format: isSound (strings). -/
import Derived.Deep.RegionLaw
import Derived.Test.YtmcjknjlihgihaaGreatDoorLawparseuptoM29
import Derived.Test.YtmcjknjlihgihaaGreatDoorLawparseuptoM31
set_option linter.unusedVariables false
set_option linter.unusedSimpArgs false
set_option linter.unnecessarySimpa false
set_option maxRecDepth 100000
namespace Go.Proofs.YtmcjknjlihgihaaGreatDoor
open Go.RowKit Go.Shelf
attribute [local go_sem] Oper.semAt_some
set_option maxHeartbeats 16000000 in
theorem Zxv (w:World) (g rows codec wd:Nat) (nulls:List Nat) (cnt:Nat) (list:List ByteArray) (ends:List Nat) (base:Int) (lanes:List Nat) (z:ZM) (B:Option Addr) (bc:Nat)
  (hk:Ck_S w g rows codec wd nulls cnt list ends base lanes) (hel:ends.length≤16777216) (hll:list.length≤16777216) (hnv:∀ x∈lanes,x<18446744073709551616) (hwd:wd≤64) (hcn:cnt≤65536) (hrr:rows≤65536)
  (hok:∀ j,j<cnt→Zla codec wd list ends lanes j) (hja:codec=2→∀ j,j<cnt→L.laneOf wd lanes j<list.length∧(0<wd→j/(64/wd)<lanes.length))
  (hbr:Rd w (.slice B z.bl.length bc) z.bl.length 1 (u64s z.bl)) (hbv:∀ x∈z.bl,x<18446744073709551616) (hbl:z.bl.length≤64) (hhs:0≤z.hs∧z.hs≤8) (hys:∀ x∈yv_S codec wd list ends base lanes cnt,(vk_S x).s.size≤1024) :
  Calls Tryz.prog 127 #[.iface 157 (.agg #[]),.pointer (some ⟨g,0,none⟩),z.v (.slice B z.bl.length bc)] w fun e w' =>
   e=.returned (.bool (Ztt z rows cnt (yv_S codec wd list ends base lanes cnt)))∧Below w.heap.size w w':=by
 have HVL:=hid (fun(w1:World) (hb:Below w.heap.size w w1)=>Zzk w w1 g rows codec wd nulls cnt list ends base lanes hk hb hel hll hnv hwd hcn hok hja);have HQ:=hid (fun(w1:World) (hb:Below w.heap.size w w1)=>(show w1.cell? ⟨g,0,none⟩=some (.int .i64 (rows:Nat))∧w1.cell? ⟨g,4,none⟩=some (.int .i64 (cnt:Nat))from by
  obtain⟨nu,lv,ev,nv,bef,q1,_⟩:=(hk.mono hb).ex;exact⟨by rw[q1.cell];rfl,by rw[q1.cell];rfl⟩))
 have hgw:g<w.heap.size:=by obtain⟨nu,lv,ev,nv,bef,q1,_⟩:=hk.ex;exact q1.lt
 have QX:=hid (fun(w1:World) (hb:Below w.heap.size w w1)=>hbr.mono hb);have QW:=hid hbv;have HYS:=hid hys;clear hk hok hja hnv hbr hbv hys;generalize yv_S codec wd list ends base lanes cnt=ys at *;obtain⟨ANS,hANS⟩:∃ ANS,Ztt z rows cnt ys=ANS:=⟨_,rfl⟩;have VI:=hid hANS;rw[hANS];clear hANS;have HM:=hid mv_S;obtain⟨rg,nu,mn,mx,hs,bl⟩:=z;simp only at QX QW hbl hhs;unfold ZM.v;simp only;obtain⟨bn,hbn⟩:∃ bn,bl.length=bn:=⟨_,rfl⟩;have Yl:=hid hbn;simp only[hbn]at QX hbl ⊢;clear hbn;obtain⟨s,hsz⟩:∃ s,w.heap.size=s:=⟨_,rfl⟩;have Yh:=hid hsz;refine(callsIn_wide (n:=9)).1 ?_;refine callsIn_of_wp_marks Tryz.func127 rfl trivial ?_ rfl;simp only[Tryz.ntmps127,List.size_toArray,List.length_cons,List.length_nil,Nat.reduceAdd,Nat.reduceSub,Array.replicate_succ,Array.replicate_zero,List.push_toArray,List.append_toArray,List.nil_append,List.cons_append];refine wpIn_wide.2 ?_;go_upto_region 1 with fail
 obtain⟨w1,hw1⟩:∃ w1,((w.alloc (.cells #[.iface 157 (.agg #[])] 195)).alloc (.cells #[.bool rg,.int .i64 nu,.bool mn.n,.int .i64 mn.i,.string mn.s,.bool mx.n,.int .i64 mx.i,.string mx.s,.int .i64 hs,.slice B bn bc] 39)).alloc (.cells #[.bool false] 4)=w1:=⟨_,rfl⟩;have Y4:Hid (Row w1 s 195 [.iface 157 (.agg #[])]∧Row w1 (s+1) 39 [.bool rg,.int .i64 nu,.bool mn.n,.int .i64 mn.i,.string mn.s,.bool mx.n,.int .i64 mx.i,.string mx.s,.int .i64 hs,.slice B bn bc]∧Row w1 (s+2) 4 [.bool false]∧Below w.heap.size w w1∧w1.heap.size=s+3):=hid (by
  have f1:=Zbe (w:=w) (C:=#[.iface 157 (.agg #[])]) (e:=195);have f2:=Zbe (w:=w.alloc (.cells #[.iface 157 (.agg #[])] 195)) (C:=#[.bool rg,.int .i64 nu,.bool mn.n,.int .i64 mn.i,.string mn.s,.bool mx.n,.int .i64 mx.i,.string mx.s,.int .i64 hs,.slice B bn bc]) (e:=39);have f3:=Zbe (w:=(w.alloc (.cells #[.iface 157 (.agg #[])] 195)).alloc (.cells #[.bool rg,.int .i64 nu,.bool mn.n,.int .i64 mn.i,.string mn.s,.bool mx.n,.int .i64 mx.i,.string mx.s,.int .i64 hs,.slice B bn bc] 39)) (C:=#[.bool false]) (e:=4);rw[hw1]at f3;have r1:=(f1.1.mono f2.2).mono f3.2;have r2:=f2.1.mono f3.2;have r3:=f3.1;simp only[World.size_alloc,hsz]at r1 r2 r3;refine⟨r1,r2,r3,Zac (Zac f1.2 f2.2) f3.2,?_⟩;rw[← hw1];simp[hsz])
 rw[hw1];clear hw1 hsz;obtain⟨r1,r2,r3,hbw1,hz1⟩:=Y4.out;obtain⟨q0,q4⟩:=HQ.out w1 hbw1;have a0:=r2.cell 0;have a1:=r2.cell 1;simp only[List.getElem?_cons_zero,List.getElem?_cons_succ]at a0 a1;have hgs:g<s:=by have:=Yh.out;omega
 clear r1 r2 r3 hbw1 hz1;have VJ:Hid (Ztt ⟨rg,nu,mn,mx,hs,bl⟩ rows cnt ys=((!rg||decide (nu=(rows:Int)-cnt))&&ys.all (Zoa ⟨rg,nu,mn,mx,hs,bl⟩))):=hid rfl;obtain⟨bad,hbad⟩:∃ bad,(rg&&!decide (nu=(rows:Int)-cnt))=bad:=⟨_,rfl⟩;have QG:=hid hbad;clear hbad;go_cut [25]from 10 to 25 (fun s25 wc=>s25=.bool bad∧∃ n,wc=w1.drewN n)
 case first =>
  have hb:=QG.out;cases rg
  ·rw[Bool.false_and]at hb;subst hb;go_quiet (fail)
   go_wp2_with fail
   go_meet;exact⟨rfl,_,rfl⟩
  ·rw[Bool.true_and]at hb;by_cases hn:nu=(rows:Int)-cnt
   ·rw[decide_eq_true hn]at hb;subst hb;have hn2:(nu != (rows:Int)-cnt)=false:=by simp[hn]
    go_quiet (fail)
    go_wp2_with fail
    go_meet;exact⟨by simp[hn],_,rfl⟩
   ·rw[decide_eq_false hn]at hb;subst hb;go_quiet (fail)
    go_wp2_with fail
    go_meet;exact⟨by simp[hn],_,rfl⟩
 case rest =>
 obtain⟨rfl,nd,rfl⟩:=hcut;cases bad
 case true =>
  have hb:=QG.out;rw[Bool.and_eq_true]at hb;obtain⟨hr,hd⟩:=hb;subst hr;have hA:ANS=false:=by
   rw[← VI.out,VJ.out];simp only[Bool.not_true,Bool.false_or];rw[show decide (nu=(rows:Int)-cnt)=false by simpa using hd];rfl
  have r3:=Y4.out.2.2.1.below (below_drewN (Zab w1) nd) (by have:=Y4.out.2.2.2.2;omega);have y2:=r3.cell 0;have yf:=r3.frozen 0;simp only[List.getElem?_cons_zero]at y2;go_wp2_with fail
  refine⟨.bool false,?_,by rw[hA],?_⟩
  ·have h:=(r3.set 0 (.bool false)).cell 0;simp only[List.set_cons_zero,List.getElem?_cons_zero]at h;simp[results,Tryz.results127,go_sem,h]
  ·have hb2:Below w.heap.size w (w1.drewN nd):=below_drewN Y4.out.2.2.2.1 nd;exact Zad hb2 _ _ _ (by have:=Yh.out;omega)
 case false =>
 have Uj:Hid (rg=true→nu=(rows:Int)-cnt):=hid (fun h=>by
  have hb:=QG.out;rw[h,Bool.true_and]at hb;simpa using hb)
 have Qb:Hid (Below w.heap.size w (w1.drewN nd)):=hid (below_drewN Y4.out.2.2.2.1 nd);have QD:Hid (Row (w1.drewN nd) s 195 [.iface 157 (.agg #[])]):=hid (Y4.out.1.below (below_drewN (Zab w1) nd) (by have:=Y4.out.2.2.2.2;omega));have Qm:Hid (Row (w1.drewN nd) (s+1) 39 [.bool rg,.int .i64 nu,.bool mn.n,.int .i64 mn.i,.string mn.s,.bool mx.n,.int .i64 mx.i,.string mx.s,.int .i64 hs,.slice B bn bc]):=hid (Y4.out.2.1.below (below_drewN (Zab w1) nd) (by have:=Y4.out.2.2.2.2;omega));have Qd:Hid (Row (w1.drewN nd) (s+1+1) 4 [.bool false]):=hid (Y4.out.2.2.1.below (below_drewN (Zab w1) nd) (by have:=Y4.out.2.2.2.2;omega));have ZF:Hid ((w1.drewN nd).heap.size=s+3):=hid (by simpa using Y4.out.2.2.2.2);clear a0 a1 q0 q4 Y4 QG;generalize w1.drewN nd=w2 at *;have US:=hid (Zjz mn);have Jj:=hid (Zjz mx);obtain⟨mnn,mni,mns⟩:=mn;obtain⟨mxn,mxi,mxs⟩:=mx;simp only at Qm US Jj;unfold C3.v at US Jj;simp only at US Jj;have hm:=HM.out;have k0:=QD.out.cell 0;have z2:=Qm.out.cell 2;have z3:=Qm.out.cell 3;have z4:=Qm.out.cell 4;have z5:=Qm.out.cell 5;have z6:=Qm.out.cell 6;have z7:=Qm.out.cell 7;simp only[List.getElem?_cons_zero,List.getElem?_cons_succ]at k0 z2 z3 z4 z5 z6 z7;have YE:Hid (∀ w':World,Below w2.heap.size w2 w'→(w'.cell? ⟨s,0,none⟩=some (.iface 157 (.agg #[]))∧w'.cell? ⟨s+1,2,none⟩=some (.bool mnn)∧w'.cell? ⟨s+1,3,none⟩=some (.int .i64 mni)∧w'.cell? ⟨s+1,4,none⟩=some (.string mns)∧w'.cell? ⟨s+1,5,none⟩=some (.bool mxn)∧w'.cell? ⟨s+1,6,none⟩=some (.int .i64 mxi)∧w'.cell? ⟨s+1,7,none⟩=some (.string mxs))):=hid (fun w' hb=>by
  have h1:=QD.out.mono hb;have h2:=Qm.out.mono hb;exact⟨h1.cell 0,h2.cell 2,h2.cell 3,h2.cell 4,h2.cell 5,h2.cell 6,h2.cell 7⟩)
 go_upto_region 3 with fail
 go_cut [7,8]from 26 to 33 (fun s7 s8 wr=>∃ pL pG,s7=.pointer (some ⟨pL,0,none⟩)∧s8=.pointer (some ⟨pG,0,none⟩)∧Hid (VF2 w2 wr 9 (vS mns) (vS mxs) pL pG))
 case first =>
  have n1:=World.new_ne w2 _ k0;have n2:=World.new_ne w2 _ z2;simp only at n1 n2;go_region_held3 (fun w'=>w'.cell? ⟨s,0,none⟩=some (.iface 157 (.agg #[]))∧w'.cell? ⟨s+1,2,none⟩=some (.bool mnn)∧w'.cell? ⟨s+1,3,none⟩=some (.int .i64 mni)∧w'.cell? ⟨s+1,4,none⟩=some (.string mns)∧w'.cell? ⟨s+1,5,none⟩=some (.bool mxn)∧w'.cell? ⟨s+1,6,none⟩=some (.int .i64 mxi)∧w'.cell? ⟨s+1,7,none⟩=some (.string mxs)) (first | (refine YE.out _ ?_;repeat (first | exact Zab _ | (refine Zac ?_ ((Zab _).alloc (Nat.le_refl _) _)) | (refine Zac ?_ (Zaf (Zab _) 1)) | (refine Zad ?_ _ _ _ (by simp[go_sem]<;>omega))))) (first | (go_at_call 314;first | (refine(US.out _).mono ?_;rintro e wv1 ⟨rfl,rfl⟩) | (refine(Jj.out _).mono ?_;rintro e wv2 ⟨rfl,rfl⟩)))
  all_goals
   go_wp2_with fail
   go_meet;refine⟨_,_,rfl,rfl,hid (VG2.fin ?_)⟩
   repeat (first | exact VG2.start _ _ _ _ | refine VG2.drew ?_ | refine VG2.a7 (by simp) ?_ | refine VG2.a8 (by simp) ?_ | refine VG2.old ?_)
 case rest =>
 obtain⟨pL,pG,rfl,rfl,ZX⟩:=hcut;obtain⟨hn,hhn⟩:∃ hn:Nat,hs=(hn:Int):=⟨hs.toNat,by omega⟩;subst hhn;have HHN:Hid (hn≤8):=hid (by omega);have Q8:Hid (∀ x∈ys,Zoa ⟨rg,nu,⟨mnn,mni,mns⟩,⟨mxn,mxi,mxs⟩,(hn:Int),bl⟩ x=false→ANS=false):=hid (fun x hx hz=>by
  rw[← VI.out,VJ.out];have:ys.all (Zoa ⟨rg,nu,⟨mnn,mni,mns⟩,⟨mxn,mxi,mxs⟩,(hn:Int),bl⟩)=false:=by
   rw[List.all_eq_false];exact⟨x,hx,by rw[hz];simp⟩
  rw[this,Bool.and_false])
 have HYE:Hid (ys.all (Zoa ⟨rg,nu,⟨mnn,mni,mns⟩,⟨mxn,mxi,mxs⟩,(hn:Int),bl⟩)=true→ANS=true):=hid (fun h=>by
  rw[← VI.out,VJ.out,h,Bool.and_true];cases hr:rg
  ·rfl
  ·rw[decide_eq_true (Uj.out hr)];rfl)
 have Xb:Hid (∀ x,Zoa ⟨rg,nu,⟨mnn,mni,mns⟩,⟨mxn,mxi,mxs⟩,(hn:Int),bl⟩ x=((!rg||(!ltB x mns&&!ltB mxs x))&&(decide (bl=[])||Zfe bl (Zhr 2 (vk_S x)) hn))):=hid (fun x=>rfl);have HHA:=hid (fun(w1:World) (hb:Below w.heap.size w w1) (h0:0<bn) (h:Nat) (hh:h<18446744073709551616)=>Zl5 (.slice B bn bc) bl hn h w1 (by rw[Yl.out];exact QX.out w1 hb) (by rw[Yl.out];exact h0) (by rw[Yl.out];exact hbl) HHN.out hh QW.out);have Y8:Hid (decide (bl=[])=decide (bn=0)):=hid (by
  rw[← Yl.out];cases bl<;>simp)
 have Um:Hid (Below w.heap.size w wc):=hid (Zac Qb.out ZX.out.bl);have Zc:=hid (HVL.out wc Um.out);have HW2:=hid ZX.out.bl.size;clear VI VJ Uj HVL HQ HM US Jj hm k0 z2 z3 z4 z5 z6 z7 YE hhs;have R1:=QD.out.mono ZX.out.bl;have R2:=Qm.out.mono ZX.out.bl;have R3:=Qd.out.mono ZX.out.bl;have RL:=ZX.out.a;have RG:=ZX.out.b;have Qo:=hid (And.intro R1 (And.intro R2 (And.intro R3 (And.intro RL RG))));clear R1 R2 R3 RL RG QD Qm Qd ZX;generalize Zoa ⟨rg,nu,⟨mnn,mni,mns⟩,⟨mxn,mxi,mxs⟩,(hn:Int),bl⟩=zv at *;go_wp2_with (go_at_call 159;refine Zc.out.mono ?_;rintro e w4 ⟨gf,lb,rfl,hb4,hen,hst⟩;have Qz:=hid hb4;have Yr:=hid hen;have QC:=hid hst;clear hb4 hen hst)
 have hsz:=Yh.out;have hz2:=ZF.out;have hw2:=HW2.out;have hz4:=Qz.out.size;obtain⟨R1,R2,R3,⟨hpL,RL⟩,hpG,RG⟩:=Qo.out;have Yf:=hid (And.intro (show s<w4.heap.size by omega) (And.intro (show s+1+1<w4.heap.size by omega) (And.intro (show pL<w4.heap.size by have:=RL.lt;omega) (show pG<w4.heap.size by have:=RG.lt;omega))));have Zp:=hid (And.intro hpL hpG);have Yu:=hid (And.intro (R1.mono Qz.out) (And.intro (R2.mono Qz.out) (And.intro (R3.mono Qz.out) (And.intro (RL.mono Qz.out) (RG.mono Qz.out)))));have VF:Hid (Below s w w4):=hid (by have h:=Zac Um.out Qz.out;rw[hsz]at h;exact h);clear R1 R2 R3 RL RG hpL hpG Qo;refine wpIn_wide.1 (Zn5 (n:=9) rfl (gf:=gf) (lb:=lb) rfl Yr.out
  (QC.out (fun k=>k<w4.heap.size∧k≠s+1+1) (fun k hk=>⟨by omega,by omega⟩) (fun k hk1 hk2=>⟨hk2,by omega⟩)) (Zab w4) (fun k hk=>hk.1) (fun _=>rfl)
  (fun pre W=>(∀ x∈pre,zv x=true)∧Row W s 195 [.iface 157 (.agg #[])]∧Row W (s+1) 39 [.bool rg,.int .i64 nu,.bool mnn,.int .i64 mni,.string mns,.bool mxn,.int .i64 mxi,.string mxs,.int .i64 (hn:Int),.slice B bn bc]∧Row W (s+1+1) 4 [.bool false]∧(Row W pL 9 [vS mns]∧Row W pG 9 [vS mxs])∧Below s w W)
  (fun pre A B h hb=>⟨h.1,h.2.1.below hb Yf.out.1,h.2.2.1.below hb (by have:=Yf.out.2.1;omega),h.2.2.2.1.below hb Yf.out.2.1,⟨h.2.2.2.2.1.1.below hb Yf.out.2.2.1,h.2.2.2.2.1.2.below hb Yf.out.2.2.2⟩,h.2.2.2.2.2.trans (hb.mono (by have:=Yf.out.1;omega))⟩)
  (fun W=>ANS=false∧Row W (s+1+1) 4 [.bool false]∧Below s w W)
  (fun A B h hb=>⟨h.1,h.2.1.below hb Yf.out.2.1,h.2.2.trans (hb.mono (by have:=Yf.out.1;omega))⟩)
  ⟨fun x hx=>(by cases hx),Yu.out.1,Yu.out.2.1,Yu.out.2.2.1,⟨Yu.out.2.2.2.1,Yu.out.2.2.2.2⟩,VF.out⟩
  (fun x=>{ tmps:=#[.iface 157 (.agg #[]),.pointer (some ⟨g,0,none⟩),.agg #[.bool rg,.int .i64 nu,.bool mnn,.int .i64 mni,.string mns,.bool mxn,.int .i64 mxi,.string mxs,.int .i64 (hn:Int),.slice B bn bc],.pointer (some ⟨s,0,none⟩),undef,.pointer (some ⟨s+1,0,none⟩),.pointer (some ⟨s+1+1,0,none⟩),.pointer (some ⟨pL,0,none⟩),.pointer (some ⟨pG,0,none⟩),vS x,u10,u11,u12,u13,u14,u15,u16,u17,u18,u19,u20,u21,u22,u23,u24,.bool false,u26,u27,u28,u29,u30,u31,u32,u33,.pointer (some ⟨g,0,none⟩),.func (.func gf) #[] lb,vS x,undef,undef,undef,undef,undef,undef,undef,undef,undef,undef,undef,undef,undef,undef,undef,undef,undef,undef,undef,undef,undef,undef,undef,undef,undef,undef,undef,undef,undef,undef],defers:=[] }) ?assign ?body ?done ?stop)
 case assign =>
  intro l x W K hK;unfold vS at hK ⊢
  gi_wp2
  exact hK
 case body =>
  rintro l pre x W hpre ⟨hall,r0,r1,r2,⟨rL,rG⟩,hbW⟩ hsW hmW;obtain⟨hmem,_⟩:=Znw hpre;have Up:=hid (HYS.out x hmem);have YH:=hid (Q8.out x hmem);have Zj:=hid (Xb.out x);have Qs:=hid hall;have hbW2:Below w.heap.size w W:=by rw[Yh.out];exact hbW
  have Ql:=hid hbW;have VK:=hid (fun(w1:World) (hb:Below W.heap.size W w1) (h0:0<bn)=>HHA.out w1 (Zac hbW2 hb) h0 (Zhr 2 (vk_S x)) (Zjn _));have UT:=hid (fun(w1:World)=>Znu 2 (vk_S x) w1 Up.out);have UF:=hid Zib;have Uk:=hid (Zrs x);obtain⟨hc,hhc⟩:∃ hc,Zhr 2 (vk_S x)=hc:=⟨_,rfl⟩;rw[hhc]at VK UT Zj;clear hhc;obtain⟨ha,hha⟩:∃ ha,Zfe bl hc hn=ha:=⟨_,rfl⟩;rw[hha]at VK Zj;clear hha;rw[Y8.out]at Zj;unfold vk_S C3.v at UT;simp only at UT;have Qo:=hid (And.intro r0 (And.intro r1 (And.intro r2 (And.intro rL rG))));have y0:=r0.cell 0;have yb:=r1.cell 0;have yh:=r1.cell 8;have ys9:=r1.cell 9;have yr:=r2.cell 0;have yrf:=r2.frozen 0;have yL:=rL.cell 0;have yG:=rG.cell 0;simp only[List.getElem?_cons_zero,List.getElem?_cons_succ]at y0 yb yh ys9 yr yL yG;have hpr:=Yf.out;have hmx:Tryz.prog.follows .mixedOrders=true:=by kernel_rfl
  have hws:s≤W.heap.size:=by omega
  have ZC:=hid (fun(W2:World) (hb:Below W.heap.size W W2) (hz:zv x=false)=>And.intro (And.intro (YH.out hz) (And.intro ((Qo.out.2.2.1.mono hb).set 0 (.bool false)) (Zad (Ql.out.trans (hb.mono hws)) (s+1+1) 0 (.bool false) (by omega))))
   (Mid.trans (U:=fun k=>k<w4.heap.size∧¬ k=s+1+1) (b:=w4.heap.size) (⟨hb.mono (Nat.zero_le _),fun k hk _=>hb.block k hk⟩:Mid _ _ W W2) (Mid.set W2 (s+1+1) 0 (.bool false) (fun h=>h.2 rfl) (by omega))))
  have Yp:=hid (fun(W2:World) (hb:Below W.heap.size W W2) (hz:zv x=true)=>And.intro (And.intro (fun(y:ByteArray) (hy:y∈pre∨y=x)=>(hy.elim (Qs.out y) (fun he=>by rw[he];exact hz):zv y=true)) (And.intro (Qo.out.1.mono hb) (And.intro (Qo.out.2.1.mono hb) (And.intro (Qo.out.2.2.1.mono hb) (And.intro (And.intro (Qo.out.2.2.2.1.mono hb) (Qo.out.2.2.2.2.mono hb)) (Ql.out.trans (hb.mono hws)))))))
   (⟨hb.mono (Nat.zero_le _),fun k hk _=>hb.block k hk⟩:Mid (fun k=>k<w4.heap.size∧¬ k=s+1+1) w4.heap.size W W2))
  clear r0 r1 r2 rL rG hbW hbW2 hall Q8 Xb HHA HYS hmem hpre;unfold vS at yL yG ⊢;have Qk:Hid (∀ w':World,Below W.heap.size W w'→w'.cell? ⟨s,0,none⟩=some (.iface 157 (.agg #[]))∧w'.cell? ⟨s+1,8,none⟩=some (.int .i64 (hn:Int))∧w'.cell? ⟨s+1,9,none⟩=some (.slice B bn bc)∧Hid (Below W.heap.size W w')):=hid (fun w' hb=>⟨(Qo.out.1.mono hb).cell 0,(Qo.out.2.1.mono hb).cell 8,(Qo.out.2.1.mono hb).cell 9,hid hb⟩);by_cases hr:rg=false
  ·subst hr;by_cases hb0:bn=0
   ·subst hb0;have hzt:zv x=true:=by rw[Zj.out];simp[ltB, *]
    have Y5:=hid hzt;clear hzt
    gi_wp2
    refine Zbr (S:=fun w'=>w'.cell? ⟨s,0,none⟩=some (.iface 157 (.agg #[]))∧w'.cell? ⟨s+1,8,none⟩=some (.int .i64 (hn:Int))∧w'.cell? ⟨s+1,9,none⟩=some (.slice B 0 bc)∧Hid (Below W.heap.size W w')) (by kernel_rfl) (by kernel_rfl) (by(try dsimp only);first | assumption | first | exact Qk.out _ (Zaf (Zab _) 1) | exact Qk.out _ (Zac hHeld.2.2.2.out hv1) | exact Qk.out _ (Zac hHeld.2.2.2.out hv2) | exact Qk.out _ (Zac hHeld.2.2.2.out hv3)) (fun hHeld=>?_);refine tkA (v:=?_) 0 ?_ ?_;rotate_left
    ·(intro wS hSw;(try dsimp only at hSw);go_simp;try with_reducible rfl)
    try simp only[Act.put,tk1,tk2,tk3]
    refine tkA (v:=?_) 1 ?_ ?_;rotate_left
    ·(intro wS hSw;(try dsimp only at hSw);go_simp;try with_reducible rfl)
    try simp only[Act.put,tk1,tk2,tk3]
    refine tkA (v:=?_) 2 ?_ ?_;rotate_left
    ·(intro wS hSw;(try dsimp only at hSw);go_simp;try with_reducible rfl)
    try simp only[Act.put,tk1,tk2,tk3]
    refine tkA (v:=?_) 3 ?_ ?_;rotate_left
    ·(intro wS hSw;(try dsimp only at hSw);go_simp;try with_reducible rfl)
    try simp only[Act.put,tk1,tk2,tk3]
    refine tkA (v:=?_) 4 ?_ ?_;rotate_left
    ·(intro wS hSw;(try dsimp only at hSw);go_simp;try with_reducible rfl)
    try simp only[Act.put,tk1,tk2,tk3]
    refine tkB 5 ?_
    try simp only[Act.put,tk1,tk2,tk3]
    refine tkB 6 ?_
    try simp only[Act.put,tk1,tk2,tk3]
    refine tkB 7 ?_
    try simp only[Act.put,tk1,tk2,tk3]
    refine tkB 8 ?_
    try simp only[Act.put,tk1,tk2,tk3]
    refine tkB 9 ?_
    try simp only[Act.put,tk1,tk2,tk3]
    refine tkB 10 ?_
    try simp only[Act.put,tk1,tk2,tk3]
    refine tkB 11 ?_
    try simp only[Act.put,tk1,tk2,tk3]
    refine tkB 12 ?_
    try simp only[Act.put,tk1,tk2,tk3]
    refine tkB 13 ?_
    try simp only[Act.put,tk1,tk2,tk3]
    refine tkB 14 ?_
    try simp only[Act.put,tk1,tk2,tk3]
    refine tkB 15 ?_
    try simp only[Act.put,tk1,tk2,tk3]
    refine tkB 16 ?_
    try simp only[Act.put,tk1,tk2,tk3]
    refine tkA (v:=?_) 17 ?_ ?_;rotate_left
    ·(intro wS hSw;(try dsimp only at hSw);go_simp;try with_reducible rfl)
    try simp only[Act.put,tk1,tk2,tk3]
    refine wpAnyH_done (by kernel_rfl) ?_ _;simp only[Zms];have QA:=hid (Zaf (Zab W) 1)
    gi_wp2
    exact Yp.out _ QA.out Y5.out
   ·have hp:0<bn:=by omega
    have HP:=hid hp;have hzt:zv x=ha:=by rw[Zj.out];simp[ltB, *]
    have Y5:=hid hzt;clear hzt;clear hb0;have hmN:=Zj8;have hmC:=Zph
    gi_wp2
    refine Zbr (S:=fun w'=>w'.cell? ⟨s,0,none⟩=some (.iface 157 (.agg #[]))∧w'.cell? ⟨s+1,8,none⟩=some (.int .i64 (hn:Int))∧w'.cell? ⟨s+1,9,none⟩=some (.slice B bn bc)∧Hid (Below W.heap.size W w')) (by kernel_rfl) (by kernel_rfl) (by(try dsimp only);first | assumption | first | exact Qk.out _ (Zaf (Zab _) 1) | exact Qk.out _ (Zac hHeld.2.2.2.out hv1) | exact Qk.out _ (Zac hHeld.2.2.2.out hv2) | exact Qk.out _ (Zac hHeld.2.2.2.out hv3)) (fun hHeld=>?_);refine tkA (v:=?_) 0 ?_ ?_;rotate_left
    ·(intro wS hSw;(try dsimp only at hSw);go_simp;try with_reducible rfl)
    try simp only[Act.put,tk1,tk2,tk3]
    refine tkA (v:=?_) 1 ?_ ?_;rotate_left
    ·(intro wS hSw;(try dsimp only at hSw);go_simp;try with_reducible rfl)
    try simp only[Act.put,tk1,tk2,tk3]
    refine tkA (v:=?_) 2 ?_ ?_;rotate_left
    ·(intro wS hSw;(try dsimp only at hSw);go_simp;try with_reducible rfl)
    try simp only[Act.put,tk1,tk2,tk3]
    refine tkA (v:=?_) 3 ?_ ?_;rotate_left
    ·(intro wS hSw;(try dsimp only at hSw);go_simp;try with_reducible rfl)
    try simp only[Act.put,tk1,tk2,tk3]
    refine tkA (v:=?_) 4 ?_ ?_;rotate_left
    ·(intro wS hSw;(try dsimp only at hSw);go_simp;try with_reducible rfl)
    try simp only[Act.put,tk1,tk2,tk3]
    refine tkA (v:=?_) 5 ?_ ?_;rotate_left
    ·(intro wS hSw;(try dsimp only at hSw);go_simp;try with_reducible rfl)
    try simp only[Act.put,tk1,tk2,tk3]
    refine tkA (v:=?_) 6 ?_ ?_;rotate_left
    ·(intro wS hSw;(try dsimp only at hSw);go_simp;try with_reducible rfl)
    try simp only[Act.put,tk1,tk2,tk3]
    refine tkA (v:=?_) 7 ?_ ?_;rotate_left
    ·(intro wS hSw;(try dsimp only at hSw);go_simp;try with_reducible rfl)
    try simp only[Act.put,tk1,tk2,tk3]
    refine tkA (v:=?_) 8 ?_ ?_;rotate_left
    ·(intro wS hSw;(try dsimp only at hSw);go_simp;try with_reducible rfl)
    try simp only[Act.put,tk1,tk2,tk3]
    refine tkA (v:=?_) 9 ?_ ?_;rotate_left
    ·(intro wS hSw;(try dsimp only at hSw);go_simp;try with_reducible rfl)
    try simp only[Act.put,tk1,tk2,tk3]
    refine tkA (v:=?_) 11 ?_ ?_;rotate_left
    ·(intro wS hSw;(try dsimp only at hSw);go_simp;try with_reducible rfl)
    try simp only[Act.put,tk1,tk2,tk3]
    refine tkA (v:=?_) 12 ?_ ?_;rotate_left
    ·(intro wS hSw;(try dsimp only at hSw);go_simp;try with_reducible rfl)
    try simp only[Act.put,tk1,tk2,tk3]
    refine wpAnyH_ready (rs:=[10]) (by kernel_rfl) (by simp) ?_;refine AllReadyH.cons (Zc6 rfl) (fun K hK=>?_) AllReadyH.nil;go_simp;go_at_call 313
    refine(UF.out _).mono ?_;rintro e wv1 ⟨rfl,hv1⟩
    (try go_wp2_with fail)
    refine hK.out _ _ ?_ (fun hHeld2=>?_)
    ·(try dsimp only)
     first | with_reducible assumption | (first | exact Qk.out _ (Zaf (Zab _) 1) | exact Qk.out _ (Zac hHeld.2.2.2.out hv1) | exact Qk.out _ (Zac hHeld.2.2.2.out hv2) | exact Qk.out _ (Zac hHeld.2.2.2.out hv3))
    clear hK hHeld;clear K;have hHeld:=hHeld2;clear hHeld2
    try simp only[Act.put,tk1,tk2,tk3]
    refine wpAnyH_ready (rs:=[13]) (by kernel_rfl) (by simp) ?_;refine AllReadyH.cons (Zc6 rfl) (fun K hK=>?_) AllReadyH.nil;go_simp;go_at_call 312
    refine(Uk.out _).mono ?_;rintro e wv2 ⟨rfl,hv2⟩
    (try go_wp2_with fail)
    refine hK.out _ _ ?_ (fun hHeld2=>?_)
    ·(try dsimp only)
     first | with_reducible assumption | (first | exact Qk.out _ (Zaf (Zab _) 1) | exact Qk.out _ (Zac hHeld.2.2.2.out hv1) | exact Qk.out _ (Zac hHeld.2.2.2.out hv2) | exact Qk.out _ (Zac hHeld.2.2.2.out hv3))
    clear hK hHeld;clear K;have hHeld:=hHeld2;clear hHeld2
    try simp only[Act.put,tk1,tk2,tk3]
    refine wpAnyH_ready (rs:=[14]) (by kernel_rfl) (by simp) ?_;refine AllReadyH.cons (Zc6 rfl) (fun K hK=>?_) AllReadyH.nil;go_simp;go_at_call 149
    refine(UT.out _).mono ?_;rintro e wv3 ⟨rfl,hv3⟩
    (try go_wp2_with fail)
    refine hK.out _ _ ?_ (fun hHeld2=>?_)
    ·(try dsimp only)
     first | with_reducible assumption | (first | exact Qk.out _ (Zaf (Zab _) 1) | exact Qk.out _ (Zac hHeld.2.2.2.out hv1) | exact Qk.out _ (Zac hHeld.2.2.2.out hv2) | exact Qk.out _ (Zac hHeld.2.2.2.out hv3))
    clear hK hHeld;clear K;have hHeld:=hHeld2;clear hHeld2
    try simp only[Act.put,tk1,tk2,tk3]
    refine wpAnyH_ready (rs:=[15]) (by kernel_rfl) (by simp) ?_;refine AllReadyH.cons (Zc6 rfl) (fun K hK=>?_) AllReadyH.nil;go_simp;go_at_call 160
    refine(VK.out _ hHeld.2.2.2.out HP.out).mono ?_;rintro e wv4 ⟨rfl,hv4⟩;replace hv4:=hv4.symm;subst hv4
    (try go_wp2_with fail)
    refine hK.out _ _ ?_ (fun hHeld2=>?_)
    ·(try dsimp only)
     first | with_reducible assumption | (first | exact Qk.out _ (Zaf (Zab _) 1) | exact Qk.out _ (Zac hHeld.2.2.2.out hv1) | exact Qk.out _ (Zac hHeld.2.2.2.out hv2) | exact Qk.out _ (Zac hHeld.2.2.2.out hv3))
    clear hK hHeld;clear K;have hHeld:=hHeld2;clear hHeld2
    try simp only[Act.put,tk1,tk2,tk3]
    refine tkA (v:=?_) 16 ?_ ?_;rotate_left
    ·(intro wS hSw;(try dsimp only at hSw);go_simp;try with_reducible rfl)
    try simp only[Act.put,tk1,tk2,tk3]
    refine tkA (v:=?_) 17 ?_ ?_;rotate_left
    ·(intro wS hSw;(try dsimp only at hSw);go_simp;try with_reducible rfl)
    try simp only[Act.put,tk1,tk2,tk3]
    refine wpAnyH_done (by kernel_rfl) ?_ _;simp only[Zms];have QA:=hid hHeld.2.2.2.out;have yr2:=(Qo.out.2.2.1.mono QA.out).cell 0;have yf2:=(Qo.out.2.2.1.mono QA.out).frozen 0;simp only[List.getElem?_cons_zero]at yr2;clear hHeld;cases ha
    ·gi_wp2
     exact ZC.out _ QA.out Y5.out
    ·gi_wp2
     exact Yp.out _ QA.out Y5.out
  ·have hr:rg=true:=by simpa using hr
   subst hr;by_cases hl:Op.bytesLess x.toList mns.toList=true
   ·have hzt:zv x=false:=by rw[Zj.out];simp[ltB, *]
    have Y5:=hid hzt;clear hzt
    gi_wp2
    exact ZC.out _ (Zab _) Y5.out
   ·skip
    have hl:=Bool.eq_false_iff.2 hl;have HGT:=hid (gtS x mxs);by_cases hg:(!Op.bytesLess x.toList mxs.toList&&!x.toList==mxs.toList)=true
    ·skip
     have hzt:zv x=false:=by
      rw[Zj.out,← HGT.out,hg];simp
     have Y5:=hid hzt;clear hzt
     gi_wp2
     exact ZC.out _ (Zab _) Y5.out
    ·skip
     have hg:=Bool.eq_false_iff.2 hg;rw[← HGT.out,hg]at Zj;have hl2:ltB x mns=false:=hl;rw[hl2]at Zj;clear hl2;by_cases hb0:bn=0
     ·subst hb0;have hzt:zv x=true:=by rw[Zj.out];simp[ltB, *]
      have Y5:=hid hzt;clear hzt
      gi_wp2
      refine Zbr (S:=fun w'=>w'.cell? ⟨s,0,none⟩=some (.iface 157 (.agg #[]))∧w'.cell? ⟨s+1,8,none⟩=some (.int .i64 (hn:Int))∧w'.cell? ⟨s+1,9,none⟩=some (.slice B 0 bc)∧Hid (Below W.heap.size W w')) (by kernel_rfl) (by kernel_rfl) (by(try dsimp only);first | assumption | first | exact Qk.out _ (Zaf (Zab _) 1) | exact Qk.out _ (Zac hHeld.2.2.2.out hv1) | exact Qk.out _ (Zac hHeld.2.2.2.out hv2) | exact Qk.out _ (Zac hHeld.2.2.2.out hv3)) (fun hHeld=>?_);refine tkA (v:=?_) 0 ?_ ?_;rotate_left
      ·(intro wS hSw;(try dsimp only at hSw);go_simp;try with_reducible rfl)
      try simp only[Act.put,tk1,tk2,tk3]
      refine tkA (v:=?_) 1 ?_ ?_;rotate_left
      ·(intro wS hSw;(try dsimp only at hSw);go_simp;try with_reducible rfl)
      try simp only[Act.put,tk1,tk2,tk3]
      refine tkA (v:=?_) 2 ?_ ?_;rotate_left
      ·(intro wS hSw;(try dsimp only at hSw);go_simp;try with_reducible rfl)
      try simp only[Act.put,tk1,tk2,tk3]
      refine tkA (v:=?_) 3 ?_ ?_;rotate_left
      ·(intro wS hSw;(try dsimp only at hSw);go_simp;try with_reducible rfl)
      try simp only[Act.put,tk1,tk2,tk3]
      refine tkA (v:=?_) 4 ?_ ?_;rotate_left
      ·(intro wS hSw;(try dsimp only at hSw);go_simp;try with_reducible rfl)
      try simp only[Act.put,tk1,tk2,tk3]
      refine tkB 5 ?_
      try simp only[Act.put,tk1,tk2,tk3]
      refine tkB 6 ?_
      try simp only[Act.put,tk1,tk2,tk3]
      refine tkB 7 ?_
      try simp only[Act.put,tk1,tk2,tk3]
      refine tkB 8 ?_
      try simp only[Act.put,tk1,tk2,tk3]
      refine tkB 9 ?_
      try simp only[Act.put,tk1,tk2,tk3]
      refine tkB 10 ?_
      try simp only[Act.put,tk1,tk2,tk3]
      refine tkB 11 ?_
      try simp only[Act.put,tk1,tk2,tk3]
      refine tkB 12 ?_
      try simp only[Act.put,tk1,tk2,tk3]
      refine tkB 13 ?_
      try simp only[Act.put,tk1,tk2,tk3]
      refine tkB 14 ?_
      try simp only[Act.put,tk1,tk2,tk3]
      refine tkB 15 ?_
      try simp only[Act.put,tk1,tk2,tk3]
      refine tkB 16 ?_
      try simp only[Act.put,tk1,tk2,tk3]
      refine tkA (v:=?_) 17 ?_ ?_;rotate_left
      ·(intro wS hSw;(try dsimp only at hSw);go_simp;try with_reducible rfl)
      try simp only[Act.put,tk1,tk2,tk3]
      refine wpAnyH_done (by kernel_rfl) ?_ _;simp only[Zms];have QA:=hid (Zaf (Zab W) 1)
      gi_wp2
      exact Yp.out _ QA.out Y5.out
     ·have hp:0<bn:=by omega
      have HP:=hid hp;have hzt:zv x=ha:=by rw[Zj.out];simp[ltB, *]
      have Y5:=hid hzt;clear hzt;clear hb0;have hmN:=Zj8;have hmC:=Zph
      gi_wp2
      refine Zbr (S:=fun w'=>w'.cell? ⟨s,0,none⟩=some (.iface 157 (.agg #[]))∧w'.cell? ⟨s+1,8,none⟩=some (.int .i64 (hn:Int))∧w'.cell? ⟨s+1,9,none⟩=some (.slice B bn bc)∧Hid (Below W.heap.size W w')) (by kernel_rfl) (by kernel_rfl) (by(try dsimp only);first | assumption | first | exact Qk.out _ (Zaf (Zab _) 1) | exact Qk.out _ (Zac hHeld.2.2.2.out hv1) | exact Qk.out _ (Zac hHeld.2.2.2.out hv2) | exact Qk.out _ (Zac hHeld.2.2.2.out hv3)) (fun hHeld=>?_);refine tkA (v:=?_) 0 ?_ ?_;rotate_left
      ·(intro wS hSw;(try dsimp only at hSw);go_simp;try with_reducible rfl)
      try simp only[Act.put,tk1,tk2,tk3]
      refine tkA (v:=?_) 1 ?_ ?_;rotate_left
      ·(intro wS hSw;(try dsimp only at hSw);go_simp;try with_reducible rfl)
      try simp only[Act.put,tk1,tk2,tk3]
      refine tkA (v:=?_) 2 ?_ ?_;rotate_left
      ·(intro wS hSw;(try dsimp only at hSw);go_simp;try with_reducible rfl)
      try simp only[Act.put,tk1,tk2,tk3]
      refine tkA (v:=?_) 3 ?_ ?_;rotate_left
      ·(intro wS hSw;(try dsimp only at hSw);go_simp;try with_reducible rfl)
      try simp only[Act.put,tk1,tk2,tk3]
      refine tkA (v:=?_) 4 ?_ ?_;rotate_left
      ·(intro wS hSw;(try dsimp only at hSw);go_simp;try with_reducible rfl)
      try simp only[Act.put,tk1,tk2,tk3]
      refine tkA (v:=?_) 5 ?_ ?_;rotate_left
      ·(intro wS hSw;(try dsimp only at hSw);go_simp;try with_reducible rfl)
      try simp only[Act.put,tk1,tk2,tk3]
      refine tkA (v:=?_) 6 ?_ ?_;rotate_left
      ·(intro wS hSw;(try dsimp only at hSw);go_simp;try with_reducible rfl)
      try simp only[Act.put,tk1,tk2,tk3]
      refine tkA (v:=?_) 7 ?_ ?_;rotate_left
      ·(intro wS hSw;(try dsimp only at hSw);go_simp;try with_reducible rfl)
      try simp only[Act.put,tk1,tk2,tk3]
      refine tkA (v:=?_) 8 ?_ ?_;rotate_left
      ·(intro wS hSw;(try dsimp only at hSw);go_simp;try with_reducible rfl)
      try simp only[Act.put,tk1,tk2,tk3]
      refine tkA (v:=?_) 9 ?_ ?_;rotate_left
      ·(intro wS hSw;(try dsimp only at hSw);go_simp;try with_reducible rfl)
      try simp only[Act.put,tk1,tk2,tk3]
      refine tkA (v:=?_) 11 ?_ ?_;rotate_left
      ·(intro wS hSw;(try dsimp only at hSw);go_simp;try with_reducible rfl)
      try simp only[Act.put,tk1,tk2,tk3]
      refine tkA (v:=?_) 12 ?_ ?_;rotate_left
      ·(intro wS hSw;(try dsimp only at hSw);go_simp;try with_reducible rfl)
      try simp only[Act.put,tk1,tk2,tk3]
      refine wpAnyH_ready (rs:=[10]) (by kernel_rfl) (by simp) ?_;refine AllReadyH.cons (Zc6 rfl) (fun K hK=>?_) AllReadyH.nil;go_simp;go_at_call 313
      refine(UF.out _).mono ?_;rintro e wv1 ⟨rfl,hv1⟩
      (try go_wp2_with fail)
      refine hK.out _ _ ?_ (fun hHeld2=>?_)
      ·(try dsimp only)
       first | with_reducible assumption | (first | exact Qk.out _ (Zaf (Zab _) 1) | exact Qk.out _ (Zac hHeld.2.2.2.out hv1) | exact Qk.out _ (Zac hHeld.2.2.2.out hv2) | exact Qk.out _ (Zac hHeld.2.2.2.out hv3))
      clear hK hHeld;clear K;have hHeld:=hHeld2;clear hHeld2
      try simp only[Act.put,tk1,tk2,tk3]
      refine wpAnyH_ready (rs:=[13]) (by kernel_rfl) (by simp) ?_;refine AllReadyH.cons (Zc6 rfl) (fun K hK=>?_) AllReadyH.nil;go_simp;go_at_call 312
      refine(Uk.out _).mono ?_;rintro e wv2 ⟨rfl,hv2⟩
      (try go_wp2_with fail)
      refine hK.out _ _ ?_ (fun hHeld2=>?_)
      ·(try dsimp only)
       first | with_reducible assumption | (first | exact Qk.out _ (Zaf (Zab _) 1) | exact Qk.out _ (Zac hHeld.2.2.2.out hv1) | exact Qk.out _ (Zac hHeld.2.2.2.out hv2) | exact Qk.out _ (Zac hHeld.2.2.2.out hv3))
      clear hK hHeld;clear K;have hHeld:=hHeld2;clear hHeld2
      try simp only[Act.put,tk1,tk2,tk3]
      refine wpAnyH_ready (rs:=[14]) (by kernel_rfl) (by simp) ?_;refine AllReadyH.cons (Zc6 rfl) (fun K hK=>?_) AllReadyH.nil;go_simp;go_at_call 149
      refine(UT.out _).mono ?_;rintro e wv3 ⟨rfl,hv3⟩
      (try go_wp2_with fail)
      refine hK.out _ _ ?_ (fun hHeld2=>?_)
      ·(try dsimp only)
       first | with_reducible assumption | (first | exact Qk.out _ (Zaf (Zab _) 1) | exact Qk.out _ (Zac hHeld.2.2.2.out hv1) | exact Qk.out _ (Zac hHeld.2.2.2.out hv2) | exact Qk.out _ (Zac hHeld.2.2.2.out hv3))
      clear hK hHeld;clear K;have hHeld:=hHeld2;clear hHeld2
      try simp only[Act.put,tk1,tk2,tk3]
      refine wpAnyH_ready (rs:=[15]) (by kernel_rfl) (by simp) ?_;refine AllReadyH.cons (Zc6 rfl) (fun K hK=>?_) AllReadyH.nil;go_simp;go_at_call 160
      refine(VK.out _ hHeld.2.2.2.out HP.out).mono ?_;rintro e wv4 ⟨rfl,hv4⟩;replace hv4:=hv4.symm;subst hv4
      (try go_wp2_with fail)
      refine hK.out _ _ ?_ (fun hHeld2=>?_)
      ·(try dsimp only)
       first | with_reducible assumption | (first | exact Qk.out _ (Zaf (Zab _) 1) | exact Qk.out _ (Zac hHeld.2.2.2.out hv1) | exact Qk.out _ (Zac hHeld.2.2.2.out hv2) | exact Qk.out _ (Zac hHeld.2.2.2.out hv3))
      clear hK hHeld;clear K;have hHeld:=hHeld2;clear hHeld2
      try simp only[Act.put,tk1,tk2,tk3]
      refine tkA (v:=?_) 16 ?_ ?_;rotate_left
      ·(intro wS hSw;(try dsimp only at hSw);go_simp;try with_reducible rfl)
      try simp only[Act.put,tk1,tk2,tk3]
      refine tkA (v:=?_) 17 ?_ ?_;rotate_left
      ·(intro wS hSw;(try dsimp only at hSw);go_simp;try with_reducible rfl)
      try simp only[Act.put,tk1,tk2,tk3]
      refine wpAnyH_done (by kernel_rfl) ?_ _;simp only[Zms];have QA:=hid hHeld.2.2.2.out;have yr2:=(Qo.out.2.2.1.mono QA.out).cell 0;have yf2:=(Qo.out.2.2.1.mono QA.out).frozen 0;simp only[List.getElem?_cons_zero]at yr2;clear hHeld;cases ha
      ·gi_wp2
       exact ZC.out _ QA.out Y5.out
      ·gi_wp2
       exact Yp.out _ QA.out Y5.out
 case done =>
  rintro W ⟨hall,r1,r2,r3,r4,hbW⟩ hmW hK;have y2:=r3.cell 0;have yf:=r3.frozen 0;simp only[List.getElem?_cons_zero]at y2;have Qd:=hid r3;have Ql:=hid hbW;have YO:=hid hK;have Qs:=hid hall;clear hall r1 r2 r3 r4 hbW;have hpr:=Yf.out;go_wp2_with fail
  have hKs:(W.setCell ⟨s+1+1,0,none⟩ (.bool true)).heap[w4.heap.size]? = some (.deferred (some [])):=by
   rw[heap_setCell_other];exact YO.out;simp only;omega
  have hput:Below w4.heap.size (W.setCell ⟨s+1+1,0,none⟩ (.bool true)) ((W.setCell ⟨s+1+1,0,none⟩ (.bool true)).putObj w4.heap.size (.deferred none)):=Zc7 hKs (Nat.le_refl _);refine⟨by simp,.inl ⟨_,_,rfl,run_takeDeferred hKs,?_⟩⟩;have hr:=(Qd.out.set 0 (.bool true)).below hput (by omega);have h:=hr.cell 0;simp only[List.set_cons_zero,List.getElem?_cons_zero]at h;refine⟨.bool true,?_,by rw[HYE.out (List.all_eq_true.2 Qs.out)],?_⟩
  ·simp[results,Tryz.results127,go_sem,h]
  ·rw[Yh.out];exact(Zad Ql.out _ _ _ (by omega)).trans (hput.mono (by omega))
 case stop =>
  rintro W ⟨hans,r3,hbW⟩ hmW hK;have hpr:=Yf.out;have Qd:=hid r3;have Ql:=hid hbW;have YO:=hid hK;clear r3 hbW
  gi_wp2
  have hput:Below w4.heap.size W (W.putObj w4.heap.size (.deferred none)):=Zc7 YO.out (Nat.le_refl _);refine⟨by simp,.inl ⟨_,_,rfl,run_takeDeferred YO.out,?_⟩⟩;have h:=(Qd.out.below hput (by omega)).cell 0;simp only[List.getElem?_cons_zero]at h;refine⟨.bool false,?_,by rw[hans],?_⟩
  ·simp[results,Tryz.results127,go_sem,h]
  ·rw[Yh.out];exact Ql.out.trans (hput.mono (by omega))
end Go.Proofs.YtmcjknjlihgihaaGreatDoor
