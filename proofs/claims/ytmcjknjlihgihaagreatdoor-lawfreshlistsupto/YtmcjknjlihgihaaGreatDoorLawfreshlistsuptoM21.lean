/- Package format, and the plain answer: the checksum. -/
import Derived.Laws.Externs
import Derived.Lib.EndianBits
import Derived.Test.YtmcjknjlihgihaaGreatDoorLawfreshlistsuptoM19
import Derived.Test.YtmcjknjlihgihaaGreatDoorLawfreshlistsuptoM20
set_option linter.unusedVariables false
set_option linter.unusedSimpArgs false
set_option linter.unnecessarySimpa false
set_option maxRecDepth 100000
namespace Go.Proofs.YtmcjknjlihgihaaGreatDoor
open Go.RowKit Go.Shelf
attribute [local go_sem] Oper.semAt_some
def yv_I (cd wd:Nat) (list:List Int) (ends:List Nat) (base:Int) (lanes:List Nat) (cnt:Nat):List Int :=
 if cd=1∨cd=3 then list else if cd=2 then Zc0 (L.laneOf wd lanes) cnt list list.length else (List.range cnt).map (vl_I cd wd list ends base lanes)
set_option maxHeartbeats 8000000 in
theorem Zl6 (w0:World) (lv:Value) (list:List Int) (sb:Nat) (U:Nat→Prop) (hr:∀ W w1:World,Below w0.heap.size w0 W→Mid U W.heap.size W w1→Rd w1 lv list.length 1 (lstI list)) (hll:list.length≤16777216)
  (hs:w0.cell? ⟨sb,0,none⟩=some lv) (hsb:sb<w0.heap.size) (hUs:U sb) :
  Zr4 Tryz.prog 236 #[.pointer (some ⟨sb,0,none⟩)] (fun x:Int=>#[vI x]) U list w0:=by
 intro l J K W hW hJ hK hY h0;have Qu:=hid (fun(w1:World) (hm:Mid U W.heap.size W w1)=>hr W w1 hW hm);have hcs:W.cell? ⟨sb,0,none⟩=some lv:=by rw[Zj0 (hW.block sb hsb)];exact hs
 obtain⟨Al,cl,rfl,hlc,hlm,_⟩:=(Qu.out W (Mid.refl _ _ _)).form;have HY:=hid hY;obtain⟨n,hn⟩:∃ n,list.length=n:=⟨_,rfl⟩;have HN:=hid hn;simp only[hn]at Qu hcs hll hlc;clear hr hs hUs hY hn;refine(callsIn_wide (n:=9)).1 ?_;refine callsIn_of_wp Tryz.func236 rfl trivial ?_ rfl;simp only[Tryz.ntmps236,List.size_toArray,List.length_cons,List.length_nil,Nat.reduceAdd,Nat.reduceSub,Array.replicate_succ,Array.replicate_zero,List.push_toArray,List.append_toArray,List.nil_append,List.cons_append]
 gi_wp2
 gi_loopw [7] (fun i wr=>∃ k:Nat,k≤n∧i=.int .i64 k∧Hid (J (list.take k) wr)∧Hid (Mid U W.heap.size W wr)) (fun i _=>n-(intOf i).toNat)
 case atStart=>exact⟨0,Nat.zero_le _,rfl,hid h0,hid (Mid.refl _ _ _)⟩
 case round =>
  obtain⟨k,hk,rfl,HJ,HM⟩:=hrel;by_cases hlt:k<n
  ·obtain⟨b1,o1,rfl,hs1⟩:=(Qu.out wr HM.out).at (by omega);have hkl:k<list.length:=by rw[HN.out];exact hlt
   have x1:=hs1 k _ (Zi7 list k hkl);have htk:list.take (k+1)=list.take k++[list.getD k dfI]:=by
    rw[List.take_succ_eq_append_getElem hkl];simp[List.getD,List.getElem?_eq_getElem hkl]
   have hpre:list.take k++[list.getD k dfI] <+: list:=by rw[← htk];exact List.take_prefix _ _
   obtain⟨fn,tmps,assign,body,hy,hR⟩:=Zg2 (m':=8) (HY.out _ _ wr hpre HJ.out HM.out.low.size HM.out);have Jz:=hid htk;unfold vI at x1 hy;clear hs1 hpre htk;generalize list.getD k dfI=x at *
   gi_wp2
   refine hR.mono ?_;rintro e w5 ⟨(⟨rfl,hj5⟩ | ⟨rfl,hk5⟩),hm5⟩
   ·have X7:=hid hj5;have Jq:=hid (HM.out.trans hm5);clear hj5 hm5
    gi_wp2
    go_roundw
    case rel=>exact⟨k+1,by omega,by go_num,hid (by rw[Jz.out];exact X7.out),Jq⟩
    case measure=>simp[intOf];omega
   ·have X8:=hid hk5;have Jq:=hid (HM.out.trans hm5);clear hk5 hm5
    gi_wp2
    refine bodyPost_ret (results_none rfl _ _ _) rfl ⟨⟨_,rfl⟩,.inr X8.out,Jq.out⟩
  ·obtain rfl:k=n:=by omega
   have HJ2:=hid HJ.out;rw[List.take_of_length_le (by rw[HN.out];exact Nat.le_refl _)]at HJ2
   gi_wp2
   go_end0
   exact⟨⟨_,rfl⟩,.inl HJ2.out,HM.out⟩
theorem Zot (f:Nat→Int) (n k:Nat) (h:k<n):(List.range k).map f++[f k] <+: (List.range n).map f:=by
 have:(List.range k).map f++[f k]=(List.range (k+1)).map f:=by simp[List.range_succ]
 rw[this];have e:List.range (k+1)=(List.range n).take (k+1):=by rw[List.take_range,Nat.min_eq_left h]
 rw[e];exact(List.take_prefix _ _).map f
set_option maxHeartbeats 8000000 in
theorem Zvn (wc w0:World) (g:Nat) (rows:Int) (codec wd:Nat) (nulls:List Nat) (cnt:Nat) (list:List Int) (ends:List Nat) (base:Int) (lanes:List Nat) (cb:Nat) (U:Nat→Prop)
  (hk:Ck_I wc g rows codec wd nulls cnt list ends base lanes) (hb:Below wc.heap.size wc w0) (hel:ends.length≤16777216) (hll:list.length≤16777216) (hnv:∀ x∈lanes,x<18446744073709551616) (hcn:cnt≤65536)
  (hok:∀ j,j<cnt→Zox codec wd list ends lanes j) (hs:w0.cell? ⟨cb,0,none⟩=some (.pointer (some ⟨g,0,none⟩))) (hsb:cb<w0.heap.size) (hU:∀ k,k<wc.heap.size→U k) (hUs:U cb) :
  Zr4 Tryz.prog 204 #[.pointer (some ⟨cb,0,none⟩)] (fun x:Int=>#[vI x]) U ((List.range cnt).map (vl_I codec wd list ends base lanes)) w0:=by
 intro l J K W hW hJ hK hY h0;have QQ:=hid (fun(w1:World) (hm:Mid U W.heap.size W w1)=>(show Below wc.heap.size wc w1 from
  (hb.trans (hW.mono hb.size)).trans (hm.below (by have:=hb.size;have:=hW.size;omega) hU)))
 have ZL:=hid (fun(w1:World) (hm:Mid U W.heap.size W w1)=>(show w1.cell? ⟨cb,0,none⟩=some (.pointer (some ⟨g,0,none⟩))from by
  rw[Zj0 (hm.keep cb (Nat.lt_of_lt_of_le hsb hW.size) (.inl hUs)),Zj0 (hW.block cb hsb)];exact hs))
 have Jp:=hid (fun(w1:World) (h1:Below wc.heap.size wc w1) (j:Nat) (hj:j<cnt)=>Zuf w1 g rows codec wd nulls cnt list ends base lanes j (hk.mono h1) hel hll hnv (by omega) (hok j hj));have Yg:=hid (fun(w1:World) (h1:Below wc.heap.size wc w1)=>(show w1.cell? ⟨g,4,none⟩=some (.int .i64 (cnt:Nat))from by
  obtain⟨nu,lv,ev,nv,bef,q1,_⟩:=(hk.mono h1).ex;rw[q1.cell];rfl))
 have x4:=Yg.out W (QQ.out W (Mid.refl _ _ _));have xb:=ZL.out W (Mid.refl _ _ _);have HY:=hid hY;have HWC:Hid (wc.heap.size≤W.heap.size):=hid (Nat.le_trans hb.size hW.size);obtain⟨f,hf⟩:∃ f,vl_I codec wd list ends base lanes=f:=⟨_,rfl⟩;rw[hf]at Jp HY ⊢;have Yf:=hid (fun k (h:k<cnt)=>Zot f cnt k h);clear hk hb hs hU hUs hY hnv hok hf;refine(callsIn_wide (n:=9)).1 ?_;refine callsIn_of_wp Tryz.func204 rfl trivial ?_ rfl;simp only[Tryz.ntmps204,List.size_toArray,List.length_cons,List.length_nil,Nat.reduceAdd,Nat.reduceSub,Array.replicate_succ,Array.replicate_zero,List.push_toArray,List.append_toArray,List.nil_append,List.cons_append]
 gi_wp2
 clear x4 xb
 gi_loopw [8] (fun i wr=>∃ k:Nat,k≤cnt∧i=.int .i64 k∧Hid (J ((List.range k).map f) wr)∧Hid (Mid U W.heap.size W wr)) (fun i _=>cnt-(intOf i).toNat)
 case atStart=>exact⟨0,Nat.zero_le _,rfl,hid h0,hid (Mid.refl _ _ _)⟩
 case round =>
  obtain⟨k,hk,rfl,HJ,HM⟩:=hrel;by_cases hlt:k<cnt
  ·have Ys:=hid (QQ.out wr HM.out);have HV9:=hid (Jp.out wr Ys.out k hlt);have xb:=ZL.out wr HM.out;have htk:(List.range (k+1)).map f=(List.range k).map f++[f k]:=by simp[List.range_succ]
   have Jz:=hid htk;have HYR:=hid (fun(w2:World) (h2:Below wr.heap.size wr w2)=>HY.out _ _ w2 (Yf.out k hlt) (hJ _ _ _ HJ.out (h2.mono HM.out.low.size)) (Nat.le_trans HM.out.low.size h2.size) (HM.out.trans (Mid.of_below h2)));clear htk;generalize f k=x at *;unfold vI at HV9 HYR
   gi_wp2
   refine⟨trivial,(callsIn_wide.2 HV9.out).mono ?_⟩;rintro e w4 ⟨rfl,hb4⟩;obtain⟨fn,tmps,assign,body,hy,hR⟩:=Zg2 (m':=8) (HYR.out w4 hb4);have Q0:=hid hb4;clear hb4
   gi_wp2
   refine hR.mono ?_;rintro e w5 ⟨(⟨rfl,hj5⟩ | ⟨rfl,hk5⟩),hm5⟩
   ·have X7:=hid hj5;have Jq:=hid (HM.out.trans ((Mid.of_below Q0.out).trans hm5));clear hj5 hm5
    gi_wp2
    go_roundw
    case rel=>exact⟨k+1,by omega,by go_num,hid (by rw[Jz.out];exact X7.out),Jq⟩
    case measure=>simp[intOf];omega
   ·have X8:=hid hk5;have Jq:=hid (HM.out.trans ((Mid.of_below Q0.out).trans hm5));clear hk5 hm5
    gi_wp2
    refine bodyPost_ret (results_none rfl _ _ _) rfl ⟨⟨_,rfl⟩,.inr X8.out,Jq.out⟩
  ·obtain rfl:k=cnt:=by omega
   gi_wp2
   go_end0
   exact⟨⟨_,rfl⟩,.inl HJ.out,HM.out⟩
theorem Zkn (w:World) (A:Option Addr) (n c:Nat):Calls Tryz.prog 202 #[.slice A n c] w fun e w' =>
  e=.returned (.func (.func 236) #[] #[.pointer (some ⟨w.heap.size,0,none⟩)])∧w'=w.alloc (.cells #[.slice A n c] 205):=by
 go_enter Tryz.func202,Tryz.ntmps202;go_wp2_with fail
 go_ret;exact⟨rfl,rfl⟩
set_option maxHeartbeats 8000000 in
theorem Zyw (wc w:World) (g:Nat) (rows codec wd:Nat) (nulls:List Nat) (cnt:Nat) (list:List Int) (ends:List Nat) (base:Int) (lanes:List Nat)
  (hk:Ck_I wc g rows codec wd nulls cnt list ends base lanes) (hb:Below wc.heap.size wc w) (hel:ends.length≤16777216) (hll:list.length≤16777216) (hnv:∀ x∈lanes,x<18446744073709551616) (hwd:wd≤64) (hcn:cnt≤65536)
  (hok:∀ j,j<cnt→Zox codec wd list ends lanes j) (hja:codec=2→∀ j,j<cnt→L.laneOf wd lanes j<list.length∧(0<wd→j/(64/wd)<lanes.length)) :
  Calls Tryz.prog 162 #[.pointer (some ⟨g,0,none⟩)] w fun e w'=>∃ gf lb,e=.returned (.func (.func gf) #[] lb)∧Below w.heap.size w w'∧(∀(args:Array Value) (w2:World),(callFunc gf args).run Tryz.prog w2=.ok (.enter gf args) w2) ∧
   ∀ U:Nat→Prop,(∀ k,k<wc.heap.size→U k)→(∀ k,w.heap.size≤k→k<w'.heap.size→U k)→Zr4 Tryz.prog gf lb (fun x:Int=>#[vI x]) U (yv_I codec wd list ends base lanes cnt) w':=by
 have HUE:=hid (fun(h2:codec=2) (w1:World) (h1:Below wc.heap.size wc w1)=>Zn1 w1 g rows codec wd nulls cnt list ends base lanes (hk.mono h1) hll hnv hwd hcn (hja h2));have HVS:=hid (fun(w1:World) (cb:Nat) (U:Nat→Prop) (h1:Below wc.heap.size wc w1)=>Zvn wc w1 g rows codec wd nulls cnt list ends base lanes cb U hk h1 hel hll hnv hcn hok);have HQ:=hid (fun(w1:World) (h1:Below wc.heap.size wc w1)=>(hk.mono h1).ex);obtain⟨nu,lv,ev,nv,bef,q1,q2,q3,q4,q5,q6⟩:=hk.ex;have Yn:=hid q3;have YR:=hid q1;obtain⟨Al,cl,rfl,hlc,hlm,_⟩:=q3.form;have HB:=hid hb;have Y9:=hid hll;have Zd:=hid (fun(w1:World) (sb:Nat) (U:Nat→Prop) (h1:Below wc.heap.size wc w1) (hU:∀ k,k<wc.heap.size→U k)=>Zl6 w1 (.slice Al list.length cl) list sb U (fun W w2 hW hm =>
  Yn.out.mono ((h1.trans (hW.mono h1.size)).trans (hm.below (by have:=h1.size;have:=hW.size;omega) hU))) hll)
 have HLU:=hid (fun(w1:World) (lv:Value) (ys:List Int) (sb:Nat) (U:Nat→Prop) (B:Nat) (h1:w1.ownsRow B 2 1 lv ys.length (lstI ys)) (hU:∀ k,B≤k→k<w1.heap.size→U k) (h2:ys.length≤16777216)=>Zl6 w1 lv ys sb U (fun W w2 hW hm =>
  Zba (Zav (Zai h1 hW) (fun k hk=>hm.keep k (Nat.lt_of_lt_of_le (h1.lt k hk).2 hW.size) (.inl (hU k (h1.lt k hk).1 (h1.lt k hk).2))))) h2)
 have hgw:g<wc.heap.size:=q1.lt;clear hk hb hja hok hnv q1 q2 q3 q4 q5 q6 HQ;obtain⟨n,hn⟩:∃ n,list.length=n:=⟨_,rfl⟩;have HN:=hid hn;have JX:=hid (fun(w1:World) (h1:Below wc.heap.size wc w1)=>(show w1.cell? ⟨g,1,none⟩=some (.int .i64 (codec:Nat))∧w1.cell? ⟨g,5,none⟩=some (.slice Al list.length cl)from by
  have h:=YR.out.mono h1;exact⟨by rw[h.cell];rfl,by rw[h.cell];rfl⟩))
 simp only[hn]at JX Zd Yn hll hlc;clear hn;go_enter Tryz.func162,Tryz.ntmps162;go_upto_region 1 with fail
 have hf:=Zbs (w:=w) (C:=#[.pointer (some ⟨g,0,none⟩)]) (e:=211);have QI:=hid hf.1;have Qa:=hid hf.2;have hz1:(w.alloc (.cells #[.pointer (some ⟨g,0,none⟩)] 211)).heap.size=w.heap.size+1:=by simp
 have Qx:=hid hz1;have QB:=hid (HB.out.trans (hf.2.mono HB.out.size));clear hf hz1;generalize w.alloc (.cells #[.pointer (some ⟨g,0,none⟩)] 211)=w1 at *;obtain⟨x1,x5⟩:=JX.out w1 QB.out;have x0:=QI.out.cell 0;have h13:(codec=1∨codec=3)∨codec=2∨(codec≠1∧codec≠3∧codec≠2):=by omega
 rcases h13 with h13 | h2 | h45
 ·have HY:Hid (yv_I codec wd list ends base lanes cnt=list):=hid (by unfold yv_I;rw[if_pos h13]);rcases h13 with rfl | rfl
  all_goals
   go_wp2_with (go_at_call 202;refine(Zkn w1 Al n cl).mono ?_;rintro e w2 ⟨rfl,hw⟩;have HW:=hid hw;clear hw)
   go_ret;have hf2:=Zbs (w:=w1) (C:=#[.slice Al n cl]) (e:=205);refine⟨_,_,rfl,?_,enters_of Tryz.func236 (by kernel_rfl) rfl,fun U hU1 hU2=>?_⟩
   ·rw[HW.out];exact Zad Qa.out hf2.2
   ·rw[HY.out];rw[HW.out]at hU2 ⊢;have hs2:(w1.alloc (.cells #[.slice Al n cl] 205)).heap.size=w1.heap.size+1:=by simp
    exact Zd.out _ w1.heap.size U (QB.out.trans (hf2.2.mono QB.out.size)) hU1 (by rw[hf2.1.cell];rfl) (by omega) (hU2 _ Qa.out.size (by omega))
 ·subst h2;have HY:Hid (yv_I 2 wd list ends base lanes cnt=Zc0 (L.laneOf wd lanes) cnt list list.length):=hid (by unfold yv_I;rw[if_neg (by omega),if_pos rfl]);have HU2:=hid (HUE.out rfl w1 QB.out);have hul:=Zih (L.laneOf wd lanes) cnt list list.length;have hul2:(Zc0 (L.laneOf wd lanes) cnt list list.length).length≤16777216:=by have:=Y9.out;omega
  generalize Zc0 (L.laneOf wd lanes) cnt list list.length=ys at *;clear hul;go_wp2_with (first
   | (go_at_call 203;refine HU2.out.mono ?_;rintro e w2 ⟨v2,rfl,ho2,hb2⟩;obtain⟨A2,c2,rfl⟩:=Zah ho2;have Yb:=hid ho2;have Qc:=hid hb2;clear ho2 hb2)
   | (go_at_call 202;refine(Zkn w2 _ _ _).mono ?_;rintro e w3 ⟨rfl,hw⟩;have HW:=hid hw;clear hw))
  go_ret;have hf2:=Zbs (w:=w2) (C:=#[.slice A2 ys.length c2]) (e:=205);refine⟨_,_,rfl,?_,enters_of Tryz.func236 (by kernel_rfl) rfl,fun U hU1 hU2=>?_⟩
  ·rw[HW.out];exact Zad (Zad Qa.out Qc.out) hf2.2
  ·rw[HY.out];rw[HW.out]at hU2 ⊢;have hs2:(w2.alloc (.cells #[.slice A2 ys.length c2] 205)).heap.size=w2.heap.size+1:=by simp
   have ho3:=Zai Yb.out hf2.2;exact HLU.out _ (.slice A2 ys.length c2) ys w2.heap.size U w1.heap.size ho3 (fun k h1 h3=>hU2 k (by have:=Qa.out.size;omega) h3) hul2 (by rw[hf2.1.cell];rfl) (by omega) (hU2 _ (Nat.le_trans Qa.out.size Qc.out.size) (by omega))
 ·have HY:Hid (yv_I codec wd list ends base lanes cnt=(List.range cnt).map (vl_I codec wd list ends base lanes)):=hid (by unfold yv_I;rw[if_neg (by omega),if_neg (by omega)]);have e1:((codec:Int)==1)=false:=by simp;omega
  have e3:((codec:Int)==3)=false:=by simp;omega
  have e2:((codec:Int)==2)=false:=by simp;omega
  clear h45;go_wp2_with fail
  go_ret;refine⟨_,_,rfl,Qa.out,enters_of Tryz.func204 (by kernel_rfl) rfl,fun U hU1 hU2=>?_⟩;rw[HY.out];exact HVS.out w1 w.heap.size U QB.out (by rw[QI.out.cell];rfl) (by rw[Qx.out];omega) hU1 (hU2 _ (Nat.le_refl _) (by rw[Qx.out];omega))
end Go.Proofs.YtmcjknjlihgihaaGreatDoor
set_option maxRecDepth 200000
namespace Go.Proofs.YtmcjknjlihgihaaGreatDoor
open Go.RowKit
def ltB (a b:ByteArray):Bool:=Op.bytesLess a.toList b.toList
def Zqz (a b:C3):Bool:=decide (a.i<b.i)||(decide (a.i=b.i)&&ltB a.s b.s)
def ordC (a b:C3):Int:=if a.i<b.i then -1 else if b.i<a.i then 1 else if ltB a.s b.s=true then -1 else if (!(ltB a.s b.s||(a.s.toList==b.s.toList)))=true then 1 else 0
theorem Zzr (a b:C3):decide (ordC a b<0)=Zqz a b:=by
 unfold ordC Zqz;by_cases h1:a.i<b.i
 ·simp[h1]
 ·by_cases h2:b.i<a.i
  ·have:¬ a.i=b.i:=by omega
   simp[h1,h2,this]
  ·have:a.i=b.i:=by omega
   simp only[h1,h2,if_false,this,decide_true,Bool.true_and,decide_false,Bool.false_or];cases ltB a.s b.s
   ·simp
    split<;>simp
   ·simp
set_option maxHeartbeats 1000000 in
theorem Zzs (a b:C3) (w:World):Calls Tryz.prog 119 #[a.v,b.v] w fun e w'=>e=.returned (.int .i64 (ordC a b))∧Below w.heap.size w w':=by
 obtain⟨an,ai,sa⟩:=a;obtain⟨bn,bi,sb⟩:=b;unfold C3.v ordC;simp only;obtain⟨lt,hlt⟩:∃ lt,Op.bytesLess sa.toList sb.toList=lt:=⟨_,rfl⟩;obtain⟨eq,heq⟩:∃ eq,(sa.toList==sb.toList)=eq:=⟨_,rfl⟩;have hl:ltB sa sb=lt:=hlt;rw[hl,heq];have hb:Below w.heap.size w ((w.alloc (.cells #[.bool an,.int .i64 ai,.string sa] 36)).alloc (.cells #[.bool bn,.int .i64 bi,.string sb] 36)):=((Zab w).alloc (Nat.le_refl _) _).alloc (by simp) _;have HB:=hid hb;clear hb hl;go_enter Tryz.func119,Tryz.ntmps119;by_cases h1:ai<bi
 ·go_wp2;go_ret;exact⟨by simp[h1],HB.out⟩
 ·by_cases h2:bi<ai
  ·have h2':ai > bi:=h2;go_wp2;go_ret;exact⟨by simp[h1,h2],HB.out⟩
  ·have h2':¬ ai > bi:=h2;have h3:ai=bi:=by omega
   subst h3;cases lt
   ·cases eq
    ·go_wp2;go_ret;exact⟨by simp,HB.out⟩
    ·go_wp2;go_ret;exact⟨by simp,HB.out⟩
   ·go_wp2;go_ret;exact⟨by simp,HB.out⟩
set_option maxRecDepth 20000
theorem Zxu {a b c:ByteArray} (h1:ltS a b=true) (h2:ltS b c=true):ltS a c=true:=Zg5 _ _ _ h1 h2
theorem Zze {x t:ByteArray} (h:x.toList=t.toList):x=t:=by
 rw[ByteArray.toList_eq,ByteArray.toList_eq]at h;obtain⟨x⟩:=x;obtain⟨t⟩:=t;simp only at h;rw[Array.toList_inj.1 h]
set_option maxRecDepth 512
theorem Zqm {a b:ByteArray} (h:ltB a b=true):ltB b a=false:=by
 cases h2:ltB b a with
 | false=>rfl
 | true =>
  have h3:=Zg5 _ _ _ h h2;rw[Zfr]at h3;cases h3
theorem Z0h {a b:ByteArray} (h:ltB a b=false) (h2:ltB b a=false):a=b:=by
 by_cases e:a.toList=b.toList
 ·exact Zze e
 ·have:=Zo5 _ _ h e;have h3:ltB b a=true:=this;rw[h2]at h3;cases h3
set_option maxRecDepth 20000
structure VF2 (w0 w:World) (e:TypeId) (x y:Value) (p q:Nat):Prop where
 bl:Below w0.heap.size w0 w
 a:w0.heap.size≤p∧Row w p e [x]
 b:w0.heap.size≤q∧Row w q e [y]
structure VG2 (w0 w:World) (e:TypeId) (x y:Value) (s7 s8:Option Nat):Prop where
 bl:Below w0.heap.size w0 w
 a:∀ p,s7=some p→w0.heap.size≤p∧Row w p e [x]
 b:∀ p,s8=some p→w0.heap.size≤p∧Row w p e [y]
theorem VG2.start (w:World) (e:TypeId) (x y:Value):VG2 w w e x y none none:=⟨Zab w,fun p h=>(by cases h),fun p h=>(by cases h)⟩
theorem VG2.call {w0 w w':World} {e:TypeId} {x y:Value} {s7 s8:Option Nat} (h:VG2 w0 w e x y s7 s8) (hb:Below w.heap.size w w'):VG2 w0 w' e x y s7 s8 :=
 ⟨Zad h.bl hb,fun p hp=>⟨(h.a p hp).1,(h.a p hp).2.mono hb⟩,fun p hp=>⟨(h.b p hp).1,(h.b p hp).2.mono hb⟩⟩
theorem VG2.old {w0 w:World} {e:TypeId} {x y:Value} {s7 s8:Option Nat} {o:Obj} (h:VG2 w0 w e x y s7 s8):VG2 w0 (w.alloc o) e x y s7 s8:=h.call ((Zab w).alloc (Nat.le_refl _) _)
theorem VG2.drew {w0 w:World} {e:TypeId} {x y:Value} {s7 s8:Option Nat} (h:VG2 w0 w e x y s7 s8):VG2 w0 w.drew e x y s7 s8:=h.call (Zag (Zab w) 1)
theorem VG2.a7 {w0 w:World} {e:TypeId} {x y:Value} {s8:Option Nat} {p:Nat} (hp:p=w.heap.size) (h:VG2 w0 w e x y none s8):VG2 w0 (w.alloc (.cells #[x] e)) e x y (some p) s8:=by
 subst hp;refine⟨h.old.bl,fun p hp=>?_,h.old.b⟩;cases hp;refine⟨h.bl.size,?_⟩;unfold Row;rw[heap_alloc_new]
theorem VG2.a8 {w0 w:World} {e:TypeId} {x y:Value} {s7:Option Nat} {p:Nat} (hp:p=w.heap.size) (h:VG2 w0 w e x y s7 none):VG2 w0 (w.alloc (.cells #[y] e)) e x y s7 (some p):=by
 subst hp;refine⟨h.old.bl,h.old.a,fun p hp=>?_⟩;cases hp;refine⟨h.bl.size,?_⟩;unfold Row;rw[heap_alloc_new]
theorem VG2.fin {w0 w:World} {e:TypeId} {x y:Value} {p q:Nat} (h:VG2 w0 w e x y (some p) (some q)):VF2 w0 w e x y p q:=⟨h.bl,h.a p rfl,h.b q rfl⟩
def vk_I (x:Int):C3:=⟨false,x,ByteArray.empty⟩
def vk_S (x:ByteArray):C3:=⟨false,0,x⟩
def Znq (z:ZM) (x:Int):Bool:=(!z.rg||(!decide (x<z.mn.i)&&!decide (z.mx.i<x)))&&(decide (z.bl=[])||Ze8 z.bl (Zg4 1 (vk_I x)) z.hs.toNat)
def Znm (z:ZM) (x:ByteArray):Bool:=(!z.rg||(!ltB x z.mn.s&&!ltB z.mx.s x))&&(decide (z.bl=[])||Ze8 z.bl (Zg4 2 (vk_S x)) z.hs.toNat)
def Zsf (z:ZM) (rows cnt:Nat) (ys:List Int):Bool:=(!z.rg||decide (z.nu=(rows:Int)-cnt))&&ys.all (Znq z)
def Zru (z:ZM) (rows cnt:Nat) (ys:List ByteArray):Bool:=(!z.rg||decide (z.nu=(rows:Int)-cnt))&&ys.all (Znm z)
theorem gtS (sa sb:ByteArray):(!Op.bytesLess sa.toList sb.toList&&!sa.toList==sb.toList)=ltB sb sa:=by
 cases h3:ltB sb sa with
 | true =>
  have h4:Op.bytesLess sa.toList sb.toList=false:=Zqm h3;have h5:(sa.toList==sb.toList)=false:=by
   rw[beq_eq_false_iff_ne];intro e;rw[Zze e]at h3;have:ltB sb sb=false:=Zfr _;rw[this]at h3;cases h3
  simp[h4,h5]
 | false =>
  cases h4:ltB sa sb with
  | true =>
   have h4:Op.bytesLess sa.toList sb.toList=true:=h4;simp[h4]
  | false =>
   have:sa=sb:=Z0h h4 h3;subst this;simp
theorem Zip (c:C3) (w:World):Calls Tryz.prog 320 #[.agg #[],c.v] w fun e w'=>e=.returned (.int .i64 c.i)∧w'=(w.alloc (.cells #[] 159)).alloc (.cells #[.bool c.n,.int .i64 c.i,.string c.s] 36):=by
 obtain⟨n,i,s⟩:=c;unfold C3.v;go_enter Tryz.func320,Tryz.ntmps320;go_wp2;go_ret;exact⟨rfl,rfl⟩
theorem Zi4 (c:C3) (w:World):Calls Tryz.prog 314 #[.agg #[],c.v] w fun e w'=>e=.returned (.string c.s)∧w'=(w.alloc (.cells #[] 157)).alloc (.cells #[.bool c.n,.int .i64 c.i,.string c.s] 36):=by
 obtain⟨n,i,s⟩:=c;unfold C3.v;go_enter Tryz.func314,Tryz.ntmps314;go_wp2;go_ret;exact⟨rfl,rfl⟩
theorem mv_I:∀ w:World,(method 457 159 (.agg #[]) "Value").run Tryz.prog w=.ok (320,.agg #[]) w:=fun _=>by kernel_rfl
theorem mv_S:∀ w:World,(method 457 157 (.agg #[]) "Value").run Tryz.prog w=.ok (314,.agg #[]) w:=fun _=>by kernel_rfl
theorem Zyc {k:Int} {c:C3} (h:ofK k c=true):c.s.size≤1024:=by
 have h0:c.s.toList.isEmpty=true→c.s.size≤1024:=by
  intro he;rw[ByteArray.toList_eq]at he;have:c.s.data.toList=[]:=by simpa using he
  have h2:c.s.data.toList.length=0:=by rw[this];rfl
  have h3:c.s.size=c.s.data.toList.length:=by rw[Array.length_toList];rfl
  omega
 unfold ofK at h
 split at h
 ·simp only[Bool.and_eq_true]at h;exact h0 h.2.2
 ·split at h
  ·exact h0 h
  ·simp only[decide_eq_true_eq]at h;exact h.2.2
def Zfo (h k n:Nat):List Int:=(Zc5 h k n).map fun p:Nat=>(p:Int)
theorem Zmr (h k n:Nat):(Zfo h k n).length=k:=by simp[Zfo,Zc5]
theorem Zpq (h k n:Nat):Zfo h (k+1) n=Zfo h k n++[(Zco h k n:Int)]:=by rw[Zfo,Zg8];simp[Zfo]
theorem Zsy (h k n t:Nat) (ht:t<k):(Zfo h k n).getD t 0=(Zco h t n:Int):=by
 simp[Zfo,Zc5,List.getD,List.getElem?_range ht]
theorem Zv8 (xs:List Int) (n:Int):i64s (xs++[n])=i64s xs++[.int .i64 n]:=by simp[i64s,i64]
theorem Zur (k:Int) (c:C3) (h:c.s.size≤maxLen):(Zgs k c).length≤maxLen:=by
 unfold Zgs;split
 ·rw[Zca];exact h
 ·rw[Zak];unfold maxLen;omega
set_option maxHeartbeats 2000000 in
theorem Zqv (k:Int) (c:C3) (hs ws:Nat) (w:World) (hk:k=1∨k=2) (hsz:c.s.size≤maxLen) (hh:hs≤8) (hw:0<ws) (hw2:ws≤64) :
  Calls Tryz.prog 120 #[c.v,.int .i64 k,.int .i64 hs,.int .i64 ws] w fun e w'=>∃ r,e=.returned r∧w'.ownsRow w.heap.size 3 1 r hs (i64s (Zfo (Zg4 k c) hs ws))∧Below w.heap.size w w':=by
 have ZV:=hid (fun w2:World=>Zsq k c w2 hk hsz);unfold Zg4;have hbl2:(Zgs k c).length≤maxLen:=Zur k c hsz;have hbl:=hid (Zwa k c);generalize Zgs k c=bs at *;unfold maxLen at hbl2;obtain⟨n,hn⟩:∃ n,bs.length=n:=⟨_,rfl⟩;have HN:=hid hn;rw[hn]at hbl2 ZV;clear hn;obtain⟨b,i,s⟩:=c;unfold C3.v at *;simp only at *;clear hsz hk;go_enter Tryz.func120,Tryz.ntmps120;go_wp2_with (go_at_call 151;refine(ZV.out _).mono ?_;rintro e w1 ⟨r,rfl,ho,hb1⟩;obtain⟨A,ca,rfl,_,_,hA⟩:=ho.form;have HA:=hid hA;have Qa:=hid hb1;have hs1:=hb1.size;clear ho hb1 hA)
 go_loopw [9,19] (fun h i wr=>∃ t:Nat,t≤n∧i=.int .i64 t∧h=.int .u64 (Zfp (bs.take t):Nat)∧wr=w1) (fun _ i _=>n-(intOf i).toNat)
 case atStart=>exact⟨0,by omega,rfl,rfl,rfl⟩
 case round =>
  obtain⟨t,ht,rfl,rfl,rfl⟩:=hrel;have hlt64:=Zi0 (bs.take t);by_cases hlt:t<n
  ·obtain⟨b,o,rfl,hs'⟩:=HA.out (by omega);have htl:t<bs.length:=by rw[HN.out];exact hlt
   have hc:=hs'.byte t htl;have hb256:=hbl.out (bs.getD t 0) (by simp[List.getD,List.getElem?_eq_getElem htl]);have HS:Hid (Zfp (bs.take (t+1))=Zks (Zfp (bs.take t)) (bs.getD t 0)):=by
    refine hid ?_;rw[List.take_succ_eq_append_getElem htl,Zjq];simp[List.getD,List.getElem?_eq_getElem htl]
   generalize bs.getD t 0=y at *;generalize Zfp (bs.take t)=h at *;have hx:bits BinOp.xor IntKind.u64 (h:Int) (y:Int)=((h ^^^ y:Nat):Int):=u64_xor_nat _ _ hlt64 (by omega);have hr:IntKind.u64.wrap (((h ^^^ y:Nat):Int)*1099511628211)=((Zks h y:Nat):Int):=by rw[IntKind.wrap_u64];unfold Zks;omega
   generalize (h ^^^ y:Nat)=x at *;clear hs' htl;go_wp2;go_roundw
   case rel=>exact⟨t+1,by omega,by go_num,by rw[HS.out],by first | rfl | trivial⟩
   case measure=>simp[intOf];omega
  ·obtain rfl:t=n:=by omega
   have e8:bs.take t=bs:=List.take_of_length_le (by rw[HN.out];exact Nat.le_refl _);obtain⟨h,hh⟩:∃ h,Zfp bs=h:=⟨_,rfl⟩;rw[e8,hh]at hlt64 ⊢;have HH:=hid hh;clear e8 HN hh;obtain⟨lo,hlo⟩:∃ lo,h%4294967296=lo:=⟨_,rfl⟩;have hloi:(h:Int)%4294967296=(lo:Int):=by omega
   have hlo2:lo<4294967296:=by omega
   have hor:bits BinOp.or IntKind.u64 ((h:Int)/4294967296) 1=((h/4294967296 ||| 1:Nat):Int):=by
    have:=u64_or_nat (h/4294967296) 1 (by omega) (by decide);rw[← this];congr 1
   have hor2:(h/4294967296 ||| 1)<4294967296:=Nat.or_lt_two_pow (n:=32) (by omega) (by decide);have HPN:Hid (∀ t,Zco h t ws=(lo+t*(h/4294967296 ||| 1))%(64*ws)):=hid (fun t=>by rw[Zco,hlo]);have Zp:=hid (fun t=>Zpq h t ws);clear hlo;generalize (h/4294967296 ||| 1)=st at *;have hws0:((64:Int)*(ws:Int)==0)=false:=by simp;omega
   have Qc:Hid (Below w.heap.size w wr):=hid (Below.then' ((Zab w).alloc (Nat.le_refl _) _) Qa.out (by simp));clear Qa hs1;go_wp2;go_loopw [12,14] (fun l i wv=>∃ t:Nat,t≤hs∧i=.int .i64 t∧Hid (wv.ownsRow w.heap.size 3 1 l t (i64s (Zfo h t ws)))∧Hid (Below w.heap.size w wv)) (fun _ i _=>hs-(intOf i).toNat)
   case atStart=>exact⟨0,by omega,rfl,hid (World.ownsRow_nil _ _ _ _),Qc⟩
   case round =>
    obtain⟨t,ht,rfl,hown,hb⟩:=hrel;by_cases hlt:t<hs
    ·obtain⟨pr,hpr⟩:∃ pr:Nat,t*st=pr:=⟨_,rfl⟩;have hpri:(t:Int)*(st:Int)=(pr:Int):=by rw[← hpr];simp
     have hpr1:pr≤8*4294967296:=by
      rw[← hpr];exact Nat.mul_le_mul (by omega) (by omega)
     obtain⟨q,hq⟩:∃ q:Nat,(lo+pr)%(64*ws)=q:=⟨_,rfl⟩;have hqi:((lo:Int)+(pr:Int))%(64*(ws:Int))=(q:Int):=by rw[← hq];simp
     have hq1:q<4096:=by rw[← hq];have:=Nat.mod_lt (lo+pr) (show 0<64*ws by omega);omega
     have HQ:Hid (Zco h t ws=q):=hid (by rw[HPN.out,hpr,hq]);have Yi:=hid hb.out.size;clear hpr hq;go_wp2_with (at_builtin;refine Zdk rfl (.tmp 39) (.tmp 52) rfl 3 (.int .i64 0) 8 Tryz.underlying23 Tryz.infoI64 rfl rfl rfl hown.out Yi.out (by rfl) (by unfold maxLen;omega) (by omega) ?_;intro v' w' ho hb3 _)
     go_roundw
     case rel =>
      refine⟨t+1,by omega,by go_num,hid ?_,hid (hb.out.trans hb3)⟩;rw[Zp.out,HQ.out,Zv8];exact ho
     case measure=>simp[intOf];omega
    ·obtain rfl:t=hs:=by omega
     go_wp2;go_ret;rw[HH.out];exact⟨_,rfl,hown.out,hb.out⟩
def hasR (xs:List Nat) (hs k:Int) (c:C3):Bool:=Zej xs.length hs&&Zdx k c&&Ze8 xs (Zg4 k c) hs.toNat
theorem Zun {k:Int} {c:C3} (h:Zdx k c=true):(k=1∨k=2)∧c.s.size≤1024∧c.n=false:=by
 unfold Zdx at h;simp only[Bool.and_eq_true,Bool.not_eq_true']at h;refine⟨?_,Zyc h.2,h.1⟩;have h2:=h.2;unfold ofK at h2;rw[if_neg (by rw[h.1];simp)]at h2;by_cases h1:k=1
 ·exact .inl h1
 ·rw[if_neg h1]at h2;simp only[decide_eq_true_eq]at h2;exact .inr h2.1
def sndC (z:ZM) (k:Int) (n:Nat) (c:C3):Bool:=c.n||((!(z.rg&&decide (z.nu≠(n:Int)))||(!Zqz c z.mn&&!Zqz z.mx c))&&(decide (z.bl=[])||hasR z.bl z.hs k c))
def nulN (A:Nat→Bool) (n:Nat):Nat:=((List.range n).filter A).length
theorem Zx1 (A:Nat→Bool) (n:Nat):nulN A (n+1)=nulN A n+if A n=true then 1 else 0:=by
 unfold nulN;rw[List.range_succ,List.filter_append,List.length_append];congr 1
 cases h:A n<;>simp[List.filter_cons,h]
theorem Zz8 (A:Nat→Bool) (n:Nat):nulN A n≤n:=by
 unfold nulN;have:=List.length_filter_le A (List.range n);rwa [List.length_range]at this
def sndR (z:ZM) (k:Int) (n:Nat) (A:Nat→Bool) (B:Nat→Int) (C:Nat→ByteArray):Bool :=
 ((List.range n).all fun r=>sndC z k n ⟨A r,B r,C r⟩)&&(!z.rg||decide ((nulN A n:Int)=z.nu))
theorem Zo8 (ws:List Nat) (n:Nat):nulN (cA ws) n=Zbe ws n:=rfl
theorem Zja (ws:List Nat):∀(n j:Nat),j<n-Zbe ws n→∃ r,r<n∧Za0 ws r=false∧r-Zbe ws r=j
 | 0,j,h=>by omega
 | n+1,j,h=>by
  rw[Ze3]at h;cases hb:Za0 ws n
  ·rw[hb]at h;have hle:=Zet ws n;by_cases hj:j<n-Zbe ws n
   ·obtain⟨r,h1,h2,h3⟩:=Zja ws n j hj;exact⟨r,by omega,h2,h3⟩
   ·refine⟨n,by omega,hb,?_⟩;simp only[Bool.false_eq_true,if_false]at h;omega
  ·rw[hb]at h;simp only[if_true]at h;obtain⟨r,h1,h2,h3⟩:=Zja ws n j (by omega);exact⟨r,by omega,h2,h3⟩
theorem Zm8 (ws:List Nat) (n r:Nat) (hr:r<n) (hb:Za0 ws r=false):r-Zbe ws r<n-Zbe ws n:=by
 have:=Zjf ws (r+1) n (by omega);have h2:=Zet ws r;rw[Zii _ _ hb]at this;omega
theorem Zp1 {c:C3} (h:Zdx 1 c=true):c.s=ByteArray.empty:=by
 unfold Zdx ofK at h;simp only[Bool.and_eq_true,Bool.not_eq_true']at h;obtain⟨h1,h2⟩:=h;rw[if_neg (by rw[h1];decide),if_pos trivial]at h2;exact Zfg h2
theorem Zpe {c:C3} (h:Zdx 2 c=true):c.i=0:=by
 unfold Zdx ofK at h;simp only[Bool.and_eq_true,Bool.not_eq_true']at h;obtain⟨h1,h2⟩:=h;rw[if_neg (by rw[h1];decide),if_neg (by decide)]at h2;simp only[decide_eq_true_eq]at h2;exact h2.2.1
theorem Zyf (a:ByteArray):ltB a a=false:=Zfr _
theorem Zx3 {a b:Int} (h:a=b):Ending.returned (.int .u32 a)=.returned (.int .u32 b):=by rw[h]
def Zgt (r:Nat):Nat:=(r/2) ^^^ (if r%2=1 then 3988292384 else 0)
def fsT:List Nat:=[0,498536548,997073096,651767980,1994146192,1802195444,1303535960,1342533948,3988292384,4027552580,3604390888,3412177804,2607071920,2262029012,2685067896,3183342108]
def four (r:Nat):Nat:=(r/16) ^^^ fsT.getD (r%16) 0
theorem Zjc (a b:Nat):Zgt (a ^^^ b)=Zgt a ^^^ Zgt b:=by
 unfold Zgt;rw[Nat.xor_div_two];have hc:∀ x y p q:Nat,(x ^^^ p) ^^^ (y ^^^ q)=x ^^^ y ^^^ (p ^^^ q):=fun x y p q=>by
  rw[Nat.xor_assoc,← Nat.xor_assoc p,Nat.xor_comm p y,Nat.xor_assoc y,← Nat.xor_assoc]
 rw[hc];have hm:=@Nat.xor_mod_two_eq_one a b;by_cases ha:a%2=1<;>by_cases hb:b%2=1
 ·rw[if_neg (fun h=>hm.1 h (by simp[ha,hb])),if_pos ha,if_pos hb];simp
 ·rw[if_pos (hm.2 (by simp[ha,hb])),if_pos ha,if_neg hb];simp
 ·rw[if_pos (hm.2 (by simp[ha,hb])),if_neg ha,if_pos hb];simp
 ·rw[if_neg (fun h=>hm.1 h (by simp[ha,hb])),if_neg ha,if_neg hb];simp
theorem Zzo (r:Nat):r=(16*(r/16)) ^^^ (r%16):=by
 have h:=Nat.two_pow_add_eq_or_of_lt (i:=4) (b:=r%16) (by omega) (r/16);apply Nat.eq_of_testBit_eq;intro i;have e:r=2^4*(r/16)+r%16:=by omega
 rw[Nat.testBit_xor]
 conv=>lhs;rw[e]
 rw[Nat.testBit_two_pow_mul_add _ (by omega:r%16<2^4),show 16*(r/16)=2^4*(r/16)from rfl,Nat.testBit_two_pow_mul];by_cases hi:i<4
 ·rw[if_pos hi];simp[show ¬ 4≤i by omega]
 ·rw[if_neg hi];have hz:(r%16).testBit i=false:=Nat.testBit_lt_two_pow (Nat.lt_of_lt_of_le (by omega:r%16<2^4) (Nat.pow_le_pow_right (by decide) (by omega)));simp[show 4≤i by omega,hz]
theorem Zha (m:Nat):Zgt (2*m)=m:=by
 unfold Zgt;rw[if_neg (by omega),Nat.xor_zero];omega
theorem Zx5:∀ j,j<16→Zgt (Zgt (Zgt (Zgt j)))=fsT.getD j 0:=by decide +kernel
theorem Zr0 (r:Nat):four r=Zgt (Zgt (Zgt (Zgt r))):=by
 conv=>rhs;rw[Zzo r]
 rw[Zjc,Zjc,Zjc,Zjc,Zx5 _ (Nat.mod_lt _ (by decide))];rw[show 16*(r/16)=2*(2*(2*(2*(r/16)))) by omega,Zha,Zha,Zha,Zha];rfl
theorem Z1d:∀ j,j<16→fsT.getD j 0<4294967296:=by decide +kernel
theorem Ziz {r:Nat} (h:r<4294967296):Zgt r<4294967296:=by
 unfold Zgt;exact Nat.xor_lt_two_pow (n:=32) (by omega) (by split<;>omega)
theorem Zsh {r:Nat} (h:r<4294967296):four r<4294967296:=by
 rw[Zr0];exact Ziz (Ziz (Ziz (Ziz h)))
def regC (bs:List Nat):Nat:=bs.foldl (fun r b=>four (four (r ^^^ b))) 4294967295
def crc (bs:List Nat):Nat:=4294967295-regC bs
theorem Zqr (bs:List Nat) (b:Nat):regC (bs++[b])=four (four (regC bs ^^^ b)):=by unfold regC;rw[List.foldl_append];rfl
theorem Zxi {bs:List Nat} (h:∀ b∈bs,b<256):regC bs<4294967296:=by
 unfold regC;have:∀(bs:List Nat) (a:Nat),(∀ b∈bs,b<256)→a<4294967296→bs.foldl (fun r b=>four (four (r ^^^ b))) a<4294967296:=by
  intro bs;induction bs with
  | nil=>intro a _ h;exact h
  | cons b r ih =>
   intro a hb h;refine ih _ (fun x hx=>hb x (List.mem_cons_of_mem _ hx)) (Zsh (Zsh (Nat.xor_lt_two_pow (n:=32) h ?_)));have:=hb b (List.mem_cons_self ..);omega
 exact this bs _ h (by decide)
theorem Zfd (a b:Nat) (ha:a<4294967296) (hb:b<4294967296):bits BinOp.xor IntKind.u32 (a:Int) (b:Int)=((a ^^^ b:Nat):Int):=by
 have hx:a ^^^ b<2^32:=Nat.xor_lt_two_pow (by omega) (by omega);have h1:(BitVec.ofInt 32 (a:Int)).toNat=a:=by
  rw[BitVec.ofInt_natCast,BitVec.toNat_ofNat];exact Nat.mod_eq_of_lt (by omega)
 have h2:(BitVec.ofInt 32 (b:Int)).toNat=b:=by
  rw[BitVec.ofInt_natCast,BitVec.toNat_ofNat];exact Nat.mod_eq_of_lt (by omega)
 show IntKind.u32.wrap ((BitVec.ofInt 32 (a:Int) ^^^ BitVec.ofInt 32 (b:Int)).toNat:Int)=_
 rw[BitVec.toNat_xor,h1,h2,IntKind.wrap_u32];omega
theorem Zv0 (a:Nat) (ha:a<4294967296):bits BinOp.and IntKind.u32 (a:Int) 15=((a%16:Nat):Int):=by
 have:=bits_mask .u32 32 (by decide) (fun n h0 h1=>by rw[IntKind.wrap_u32];omega) 4 (by decide) (a:Int) (by omega) (by omega);rw[show ((2:Int)^4-1)=15 by decide]at this;rw[this];omega
theorem Zzb (a:Nat) (ha:a<4294967296):bits BinOp.and IntKind.u32 (a:Int) 1=((a%2:Nat):Int):=by
 have:=bits_mask .u32 32 (by decide) (fun n h0 h1=>by rw[IntKind.wrap_u32];omega) 1 (by decide) (a:Int) (by omega) (by omega);rw[show ((2:Int)^1-1)=1 by decide]at this;rw[this];omega
theorem Zwp (a:Nat) (ha:a<4294967296):bits BinOp.xor IntKind.u32 4294967295 (a:Int)=((4294967295-a:Nat):Int):=by
 have h:=Zfd 4294967295 a (by decide) ha;rw[show ((4294967295:Nat):Int)=4294967295 from rfl]at h;rw[h];congr 1
 have e:(4294967295:Nat)=2^32-1:=rfl;apply Nat.eq_of_testBit_eq;intro i;have e2:4294967295-a=2^32-(a+1):=by omega
 rw[Nat.testBit_xor,e2,Nat.testBit_two_pow_sub_succ (by omega),e,Nat.testBit_two_pow_sub_one];by_cases hi:i<32
 ·simp[hi]
 ·have hz:a.testBit i=false:=Nat.testBit_lt_two_pow (Nat.lt_of_lt_of_le (show a<2^32 by omega) (Nat.pow_le_pow_right (by decide) (by omega)));simp[hi,hz]
def TabF (w:World):Prop:=∀ j,j<16→w.cell? ⟨0,j,none⟩=some (.int .u32 ((fsT.getD j 0:Nat):Int))
theorem TabF.mono {w w':World} {B:Nat} (h:TabF w) (hb:Below B w w') (hB:0<B):TabF w':=fun j hj=>by rw[← h j hj];exact hb.cell (p:=⟨0,j,none⟩) hB
theorem TabF.lt {w:World} (h:TabF w):0<w.heap.size:=World.block_lt_of_cell? w _ (h 0 (by omega))
set_option maxHeartbeats 1000000 in
theorem Zoj (r:Nat) (w:World) (hT:TabF w) (hr:r<4294967296):Calls Tryz.prog 32 #[.int .u32 r] w fun e w'=>e=.returned (.int .u32 (four r:Nat))∧w'=w:=by
 have ht:=hT (r%16) (Nat.mod_lt _ (by decide));have hlt:=Z1d (r%16) (Nat.mod_lt _ (by decide));have ha:=Zv0 r hr;have hx:=Zfd (r/16) (fsT.getD (r%16) 0) (by omega) hlt;have HF:Hid (four r=(r/16) ^^^ fsT.getD (r%16) 0):=hid rfl;have hj:r%16<16:=Nat.mod_lt _ (by decide);have hq:(r:Int)/16=((r/16:Nat):Int):=by omega
 clear hT;rw[HF.out];generalize fsT.getD (r%16) 0=t at *;generalize r%16=j at *;generalize r/16=q at *;generalize (q ^^^ t:Nat)=y at *;clear HF;go_enter Tryz.func32,Tryz.ntmps32;go_wp2;go_ret;exact⟨rfl,rfl⟩
set_option maxHeartbeats 2000000 in
theorem Zkk (v:Value) (xs:List Nat) (w:World) (hT:TabF w) (hv:Rd w v xs.length 1 (u8s xs)) (hb:∀ x∈xs,x<256) :
  Calls Tryz.prog 16 #[v] w fun e w'=>e=.returned (.int .u32 (crc xs:Nat))∧w'=w:=by
 have ZH:=hid (fun(r:Nat) (hr:r<4294967296)=>Zoj r w hT hr);obtain⟨A0,c0,rfl,hc1,hc2,hs⟩:=hv.form;unfold maxLen at hc2;have HS:=hid hs;have HB:=hid hb;clear hv hs hb hT;obtain⟨CR,hCR⟩:∃ CR,crc xs=CR:=⟨_,rfl⟩;have HC:Hid (4294967295-regC xs=CR):=hid hCR;rw[hCR];clear hCR;obtain⟨n,hn⟩:∃ n,xs.length=n:=⟨_,rfl⟩;have HN:=hid hn;rw[hn]at hc1 HS ⊢;clear hn;go_enter Tryz.func16,Tryz.ntmps16;go_wp2;go_loop [3,8] (fun r i=>∃ k:Nat,k≤n∧i=.int .i64 k∧r=.int .u32 (regC (xs.take k):Nat)) (fun _ i=>n-(intOf i).toNat)
 case atStart=>exact⟨0,by omega,rfl,rfl⟩
 case round =>
  obtain⟨k,hk,rfl,rfl⟩:=hrel;have hlt:=Zxi (bs:=xs.take k) (fun b hb=>HB.out b (List.mem_of_mem_take hb));by_cases hkn:k<n
  ·obtain⟨b,o,rfl,hseg⟩:=HS.out (by omega);have hkx:k<xs.length:=by rw[HN.out];exact hkn
   have c0':=hseg.byte k hkx;have hx:xs.getD k 0<256:=by
    have:=HB.out (xs.getD k 0) (by simp[List.getD,hkx]);exact this
   have HR:Hid (regC (xs.take (k+1))=four (four (regC (xs.take k) ^^^ xs.getD k 0))):=hid (by
    rw[List.take_succ_eq_append_getElem hkx,Zqr];simp[List.getD,hkx])
   clear hseg;generalize regC (xs.take k)=a at *;generalize xs.getD k 0=x at *;have hxx:=Zfd a x hlt (by omega);have hy:a ^^^ x<4294967296:=Nat.xor_lt_two_pow (n:=32) hlt (by omega);have H1:=hid (ZH.out (a ^^^ x) hy);have H2:=hid (ZH.out (four (a ^^^ x)) (Zsh hy));generalize (a ^^^ x:Nat)=y at *;generalize four (four y)=z at *;generalize four y=u at *;go_wp2_with (first
    | (go_at_call_of 32 (Value.int IntKind.u32 (y:Int));refine H1.out.mono ?_;rintro e w1 ⟨rfl,hw⟩;replace hw:=hw.symm;subst hw)
    | (go_at_call 32;refine H2.out.mono ?_;rintro e w1 ⟨rfl,hw⟩;replace hw:=hw.symm;subst hw))
   go_round
   case rel=>exact⟨k+1,by omega,by go_num,by rw[HR.out]⟩
   case measure=>simp[intOf];omega
  ·obtain rfl:k=n:=by omega
   have e8:xs.take k=xs:=List.take_of_length_le (by rw[HN.out];exact Nat.le_refl _);rw[e8]at hlt ⊢;have hnot:=Zwp (regC xs) hlt;generalize regC xs=a at *;rw[HC.out]at hnot;go_wp2;go_ret;exact⟨Zx3 hnot,rfl⟩
def Zod:Nat→Nat→Nat
 | 0,r=>r
 | n+1,r=>Zgt (Zod n r)
theorem Zt0 {r:Nat} (h:r<4294967296):∀ n,Zod n r<4294967296
 | 0=>h
 | n+1=>Ziz (Zt0 h n)
theorem Zrh (r:Nat):Zod 8 r=four (four r):=by rw[Zr0,Zr0];rfl
set_option maxHeartbeats 2000000 in
theorem Zla (v:Value) (xs:List Nat) (w:World) (hv:Rd w v xs.length 1 (u8s xs)) (hb:∀ x∈xs,x<256) :
  Calls Tryz.prog 17 #[v] w fun e w'=>e=.returned (.int .u32 (crc xs:Nat))∧w'=w:=by
 obtain⟨A0,c0,rfl,hc1,hc2,hs⟩:=hv.form;unfold maxLen at hc2;have HS:=hid hs;have HB:=hid hb;clear hv hs hb;obtain⟨CR,hCR⟩:∃ CR,crc xs=CR:=⟨_,rfl⟩;have HC:Hid (4294967295-regC xs=CR):=hid hCR;rw[hCR];clear hCR;obtain⟨n,hn⟩:∃ n,xs.length=n:=⟨_,rfl⟩;have HN:=hid hn;rw[hn]at hc1 HS ⊢;clear hn;go_enter Tryz.func17,Tryz.ntmps17;go_wp2;go_loop [3,10] (fun r i=>∃ k:Nat,k≤n∧i=.int .i64 k∧r=.int .u32 (regC (xs.take k):Nat)) (fun _ i=>n-(intOf i).toNat)
 case atStart=>exact⟨0,by omega,rfl,rfl⟩
 case round =>
  obtain⟨k,hk,rfl,rfl⟩:=hrel;have hlt:=Zxi (bs:=xs.take k) (fun b hb=>HB.out b (List.mem_of_mem_take hb));by_cases hkn:k<n
  ·obtain⟨b,o,rfl,hseg⟩:=HS.out (by omega);have hkx:k<xs.length:=by rw[HN.out];exact hkn
   have c0':=hseg.byte k hkx;have hx:xs.getD k 0<256:=by
    have:=HB.out (xs.getD k 0) (by simp[List.getD,hkx]);exact this
   have HR:Hid (regC (xs.take (k+1))=Zod 8 (regC (xs.take k) ^^^ xs.getD k 0)):=hid (by
    rw[List.take_succ_eq_append_getElem hkx,Zqr,Zrh];simp[List.getD,hkx])
   clear hseg;generalize regC (xs.take k)=a at *;generalize xs.getD k 0=x at *;have hxx:=Zfd a x hlt (by omega);have hy:a ^^^ x<4294967296:=Nat.xor_lt_two_pow (n:=32) hlt (by omega);generalize (a ^^^ x:Nat)=y at *;have HY:=hid hy;go_wp2;clear hxx hy;go_loop [3,6] (fun r i=>∃ j:Nat,j≤8∧i=.int .i64 j∧r=.int .u32 (Zod j y:Nat)) (fun _ i=>8-(intOf i).toNat)
   case atStart=>exact⟨0,by omega,rfl,rfl⟩
   case round =>
    obtain⟨j,hj,rfl,rfl⟩:=hrel;by_cases hj8:j<8
    ·have hlt2:=Zt0 HY.out j;have YX:Hid (Zod (j+1) y=(Zod j y/2) ^^^ (if Zod j y%2=1 then 3988292384 else 0)):=hid rfl;generalize Zod j y=z at *;have ha:=Zzb z hlt2;have hq:(z:Int)/2=((z/2:Nat):Int):=by omega
     have hxq:=Zfd (z/2) 3988292384 (by omega) (by decide);rw[show ((3988292384:Nat):Int)=3988292384 from rfl]at hxq;have hz2:z/2<2147483648:=by omega
     by_cases hodd:z%2=1
     ·rw[hodd]at ha;rw[hodd,if_pos rfl]at YX;have hq2:=hid hq;generalize (z/2 ^^^ 3988292384:Nat)=p at *;generalize z/2=q at *;go_wp2;go_round
      case rel=>exact⟨j+1,by omega,by go_num,by rw[YX.out]⟩
      case measure=>simp[intOf];omega
     ·have h0:z%2=0:=by omega
      rw[h0]at ha;rw[h0,if_neg (by decide),Nat.xor_zero]at YX;clear hxq;generalize z/2=q at *;go_wp2;go_round
      case rel=>exact⟨j+1,by omega,by go_num,by rw[YX.out]⟩
      case measure=>simp[intOf];omega
    ·obtain rfl:j=8:=by omega
     go_wp2;go_round
     case rel=>exact⟨k+1,by omega,by go_num,by rw[HR.out]⟩
     case measure=>simp[intOf];omega
  ·obtain rfl:k=n:=by omega
   have e8:xs.take k=xs:=List.take_of_length_le (by rw[HN.out];exact Nat.le_refl _);rw[e8]at hlt ⊢;have hnot:=Zwp (regC xs) hlt;generalize regC xs=a at *;rw[HC.out]at hnot;go_wp2;go_ret;exact⟨Zx3 hnot,rfl⟩
end Go.Proofs.YtmcjknjlihgihaaGreatDoor
