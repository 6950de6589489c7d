/- Package chunk: the values that Values goes through are no longer than a string may be. -/
import Derived.Deep.DeepMust
import Derived.Ground.SlgnProg
import Derived.Shelf.SlicesG.Turned
import Derived.Shelf.SlicesG.Clone
import Derived.Shelf.SlicesG.CompactI
import Derived.Shelf.SlicesG.CompactS
import Derived.Ground.SlgmProg
import Derived.Shelf.SortM.Plain
import Derived.Shelf.SortM.SortNone
import Derived.Lib.OwnBridge
import Derived.Sort.OwnSortedInts
import Derived.Deep.Onto
import Derived.Test.YtmcjknjlihgihaaGreatDoorLawfreshlistsuptoM27
set_option linter.unusedVariables false
set_option linter.unusedSimpArgs false
set_option linter.unnecessarySimpa false
set_option maxRecDepth 100000
namespace Go.Proofs.YtmcjknjlihgihaaGreatDoor
open Go.RowKit Go.Shelf
attribute [local go_sem] Oper.semAt_some
def yv_S (cd wd:Nat) (list:List ByteArray) (ends:List Nat) (base:Int) (lanes:List Nat) (cnt:Nat):List ByteArray :=
 if cd=1∨cd=3 then list else if cd=2 then Zcq (L.laneOf wd lanes) cnt list list.length else (List.range cnt).map (vl_S cd wd list ends base lanes)
set_option maxHeartbeats 8000000 in
theorem Zme (w0:World) (lv:Value) (list:List ByteArray) (sb:Nat) (U:Nat→Prop) (hr:∀ W w1:World,Below w0.heap.size w0 W→Mid U W.heap.size W w1→Rd w1 lv list.length 1 (lstS list)) (hll:list.length≤16777216)
  (hs:w0.cell? ⟨sb,0,none⟩=some lv) (hsb:sb<w0.heap.size) (hUs:U sb) :
  Zr4 Tryz.prog 230 #[.pointer (some ⟨sb,0,none⟩)] (fun x:ByteArray=>#[vS x]) U list w0:=by
 intro l J K W hW hJ hK hY h0;have Qu:=hid (fun(w1:World) (hm:Mid U W.heap.size W w1)=>hr W w1 hW hm);have hcs:W.cell? ⟨sb,0,none⟩=some lv:=by rw[Zj0 (hW.block sb hsb)];exact hs
 obtain⟨Al,cl,rfl,hlc,hlm,_⟩:=(Qu.out W (Mid.refl _ _ _)).form;have HY:=hid hY;obtain⟨n,hn⟩:∃ n,list.length=n:=⟨_,rfl⟩;have HN:=hid hn;simp only[hn]at Qu hcs hll hlc;clear hr hs hUs hY hn;refine(callsIn_wide (n:=9)).1 ?_;refine callsIn_of_wp Tryz.func230 rfl trivial ?_ rfl;simp only[Tryz.ntmps230,List.size_toArray,List.length_cons,List.length_nil,Nat.reduceAdd,Nat.reduceSub,Array.replicate_succ,Array.replicate_zero,List.push_toArray,List.append_toArray,List.nil_append,List.cons_append]
 gi_wp2
 gi_loopw [7] (fun i wr=>∃ k:Nat,k≤n∧i=.int .i64 k∧Hid (J (list.take k) wr)∧Hid (Mid U W.heap.size W wr)) (fun i _=>n-(intOf i).toNat)
 case atStart=>exact⟨0,Nat.zero_le _,rfl,hid h0,hid (Mid.refl _ _ _)⟩
 case round =>
  obtain⟨k,hk,rfl,HJ,HM⟩:=hrel;by_cases hlt:k<n
  ·obtain⟨b1,o1,rfl,hs1⟩:=(Qu.out wr HM.out).at (by omega);have hkl:k<list.length:=by rw[HN.out];exact hlt
   have x1:=hs1 k _ (Zim list k hkl);have htk:list.take (k+1)=list.take k++[list.getD k dfS]:=by
    rw[List.take_succ_eq_append_getElem hkl];simp[List.getD,List.getElem?_eq_getElem hkl]
   have hpre:list.take k++[list.getD k dfS] <+: list:=by rw[← htk];exact List.take_prefix _ _
   obtain⟨fn,tmps,assign,body,hy,hR⟩:=Zg2 (m':=8) (HY.out _ _ wr hpre HJ.out HM.out.low.size HM.out);have Jz:=hid htk;unfold vS at x1 hy;clear hs1 hpre htk;generalize list.getD k dfS=x at *
   gi_wp2
   refine hR.mono ?_;rintro e w5 ⟨(⟨rfl,hj5⟩ | ⟨rfl,hk5⟩),hm5⟩
   ·have X7:=hid hj5;have Jq:=hid (HM.out.trans hm5);clear hj5 hm5
    gi_wp2
    go_roundw
    case rel=>exact⟨k+1,by omega,by go_num,hid (by rw[Jz.out];exact X7.out),Jq⟩
    case measure=>simp[intOf];omega
   ·have X8:=hid hk5;have Jq:=hid (HM.out.trans hm5);clear hk5 hm5
    gi_wp2
    refine bodyPost_ret (results_none rfl _ _ _) rfl ⟨⟨_,rfl⟩,.inr X8.out,Jq.out⟩
  ·obtain rfl:k=n:=by omega
   have HJ2:=hid HJ.out;rw[List.take_of_length_le (by rw[HN.out];exact Nat.le_refl _)]at HJ2
   gi_wp2
   go_end0
   exact⟨⟨_,rfl⟩,.inl HJ2.out,HM.out⟩
theorem Zok (f:Nat→ByteArray) (n k:Nat) (h:k<n):(List.range k).map f++[f k] <+: (List.range n).map f:=by
 have:(List.range k).map f++[f k]=(List.range (k+1)).map f:=by simp[List.range_succ]
 rw[this];have e:List.range (k+1)=(List.range n).take (k+1):=by rw[List.take_range,Nat.min_eq_left h]
 rw[e];exact(List.take_prefix _ _).map f
set_option maxHeartbeats 8000000 in
theorem Zva (wc w0:World) (g:Nat) (rows:Int) (codec wd:Nat) (nulls:List Nat) (cnt:Nat) (list:List ByteArray) (ends:List Nat) (base:Int) (lanes:List Nat) (cb:Nat) (U:Nat→Prop)
  (hk:Ck_S wc g rows codec wd nulls cnt list ends base lanes) (hb:Below wc.heap.size wc w0) (hel:ends.length≤16777216) (hll:list.length≤16777216) (hnv:∀ x∈lanes,x<18446744073709551616) (hcn:cnt≤65536)
  (hok:∀ j,j<cnt→Zkz codec wd list ends lanes j) (hs:w0.cell? ⟨cb,0,none⟩=some (.pointer (some ⟨g,0,none⟩))) (hsb:cb<w0.heap.size) (hU:∀ k,k<wc.heap.size→U k) (hUs:U cb) :
  Zr4 Tryz.prog 196 #[.pointer (some ⟨cb,0,none⟩)] (fun x:ByteArray=>#[vS x]) U ((List.range cnt).map (vl_S codec wd list ends base lanes)) w0:=by
 intro l J K W hW hJ hK hY h0;have QQ:=hid (fun(w1:World) (hm:Mid U W.heap.size W w1)=>(show Below wc.heap.size wc w1 from
  (hb.trans (hW.mono hb.size)).trans (hm.below (by have:=hb.size;have:=hW.size;omega) hU)))
 have ZL:=hid (fun(w1:World) (hm:Mid U W.heap.size W w1)=>(show w1.cell? ⟨cb,0,none⟩=some (.pointer (some ⟨g,0,none⟩))from by
  rw[Zj0 (hm.keep cb (Nat.lt_of_lt_of_le hsb hW.size) (.inl hUs)),Zj0 (hW.block cb hsb)];exact hs))
 have Jp:=hid (fun(w1:World) (h1:Below wc.heap.size wc w1) (j:Nat) (hj:j<cnt)=>Zuz w1 g rows codec wd nulls cnt list ends base lanes j (hk.mono h1) hel hll hnv (by omega) (hok j hj));have Yg:=hid (fun(w1:World) (h1:Below wc.heap.size wc w1)=>(show w1.cell? ⟨g,4,none⟩=some (.int .i64 (cnt:Nat))from by
  obtain⟨nu,lv,ev,nv,bef,q1,_⟩:=(hk.mono h1).ex;rw[q1.cell];rfl))
 have x4:=Yg.out W (QQ.out W (Mid.refl _ _ _));have xb:=ZL.out W (Mid.refl _ _ _);have HY:=hid hY;have HWC:Hid (wc.heap.size≤W.heap.size):=hid (Nat.le_trans hb.size hW.size);obtain⟨f,hf⟩:∃ f,vl_S codec wd list ends base lanes=f:=⟨_,rfl⟩;rw[hf]at Jp HY ⊢;have Yf:=hid (fun k (h:k<cnt)=>Zok f cnt k h);clear hk hb hs hU hUs hY hnv hok hf;refine(callsIn_wide (n:=9)).1 ?_;refine callsIn_of_wp Tryz.func196 rfl trivial ?_ rfl;simp only[Tryz.ntmps196,List.size_toArray,List.length_cons,List.length_nil,Nat.reduceAdd,Nat.reduceSub,Array.replicate_succ,Array.replicate_zero,List.push_toArray,List.append_toArray,List.nil_append,List.cons_append]
 gi_wp2
 clear x4 xb
 gi_loopw [8] (fun i wr=>∃ k:Nat,k≤cnt∧i=.int .i64 k∧Hid (J ((List.range k).map f) wr)∧Hid (Mid U W.heap.size W wr)) (fun i _=>cnt-(intOf i).toNat)
 case atStart=>exact⟨0,Nat.zero_le _,rfl,hid h0,hid (Mid.refl _ _ _)⟩
 case round =>
  obtain⟨k,hk,rfl,HJ,HM⟩:=hrel;by_cases hlt:k<cnt
  ·have Ys:=hid (QQ.out wr HM.out);have HV9:=hid (Jp.out wr Ys.out k hlt);have xb:=ZL.out wr HM.out;have htk:(List.range (k+1)).map f=(List.range k).map f++[f k]:=by simp[List.range_succ]
   have Jz:=hid htk;have HYR:=hid (fun(w2:World) (h2:Below wr.heap.size wr w2)=>HY.out _ _ w2 (Yf.out k hlt) (hJ _ _ _ HJ.out (h2.mono HM.out.low.size)) (Nat.le_trans HM.out.low.size h2.size) (HM.out.trans (Mid.of_below h2)));clear htk;generalize f k=x at *;unfold vS at HV9 HYR
   gi_wp2
   refine⟨trivial,(callsIn_wide.2 HV9.out).mono ?_⟩;rintro e w4 ⟨rfl,hb4⟩;obtain⟨fn,tmps,assign,body,hy,hR⟩:=Zg2 (m':=8) (HYR.out w4 hb4);have Q0:=hid hb4;clear hb4
   gi_wp2
   refine hR.mono ?_;rintro e w5 ⟨(⟨rfl,hj5⟩ | ⟨rfl,hk5⟩),hm5⟩
   ·have X7:=hid hj5;have Jq:=hid (HM.out.trans ((Mid.of_below Q0.out).trans hm5));clear hj5 hm5
    gi_wp2
    go_roundw
    case rel=>exact⟨k+1,by omega,by go_num,hid (by rw[Jz.out];exact X7.out),Jq⟩
    case measure=>simp[intOf];omega
   ·have X8:=hid hk5;have Jq:=hid (HM.out.trans ((Mid.of_below Q0.out).trans hm5));clear hk5 hm5
    gi_wp2
    refine bodyPost_ret (results_none rfl _ _ _) rfl ⟨⟨_,rfl⟩,.inr X8.out,Jq.out⟩
  ·obtain rfl:k=cnt:=by omega
   gi_wp2
   go_end0
   exact⟨⟨_,rfl⟩,.inl HJ.out,HM.out⟩
theorem Zkf (w:World) (A:Option Addr) (n c:Nat):Calls Tryz.prog 194 #[.slice A n c] w fun e w' =>
  e=.returned (.func (.func 230) #[] #[.pointer (some ⟨w.heap.size,0,none⟩)])∧w'=w.alloc (.cells #[.slice A n c] 196):=by
 go_enter Tryz.func194,Tryz.ntmps194;go_wp2_with fail
 go_ret;exact⟨rfl,rfl⟩
set_option maxHeartbeats 8000000 in
theorem Zyd (wc w:World) (g:Nat) (rows codec wd:Nat) (nulls:List Nat) (cnt:Nat) (list:List ByteArray) (ends:List Nat) (base:Int) (lanes:List Nat)
  (hk:Ck_S wc g rows codec wd nulls cnt list ends base lanes) (hb:Below wc.heap.size wc w) (hel:ends.length≤16777216) (hll:list.length≤16777216) (hnv:∀ x∈lanes,x<18446744073709551616) (hwd:wd≤64) (hcn:cnt≤65536)
  (hok:∀ j,j<cnt→Zkz codec wd list ends lanes j) (hja:codec=2→∀ j,j<cnt→L.laneOf wd lanes j<list.length∧(0<wd→j/(64/wd)<lanes.length)) :
  Calls Tryz.prog 159 #[.pointer (some ⟨g,0,none⟩)] w fun e w'=>∃ gf lb,e=.returned (.func (.func gf) #[] lb)∧Below w.heap.size w w'∧(∀(args:Array Value) (w2:World),(callFunc gf args).run Tryz.prog w2=.ok (.enter gf args) w2) ∧
   ∀ U:Nat→Prop,(∀ k,k<wc.heap.size→U k)→(∀ k,w.heap.size≤k→k<w'.heap.size→U k)→Zr4 Tryz.prog gf lb (fun x:ByteArray=>#[vS x]) U (yv_S codec wd list ends base lanes cnt) w':=by
 have HUE:=hid (fun(h2:codec=2) (w1:World) (h1:Below wc.heap.size wc w1)=>Zn7 w1 g rows codec wd nulls cnt list ends base lanes (hk.mono h1) hll hnv hwd hcn (hja h2));have HVS:=hid (fun(w1:World) (cb:Nat) (U:Nat→Prop) (h1:Below wc.heap.size wc w1)=>Zva wc w1 g rows codec wd nulls cnt list ends base lanes cb U hk h1 hel hll hnv hcn hok);have HQ:=hid (fun(w1:World) (h1:Below wc.heap.size wc w1)=>(hk.mono h1).ex);obtain⟨nu,lv,ev,nv,bef,q1,q2,q3,q4,q5,q6⟩:=hk.ex;have Yn:=hid q3;have YR:=hid q1;obtain⟨Al,cl,rfl,hlc,hlm,_⟩:=q3.form;have HB:=hid hb;have Y9:=hid hll;have Zd:=hid (fun(w1:World) (sb:Nat) (U:Nat→Prop) (h1:Below wc.heap.size wc w1) (hU:∀ k,k<wc.heap.size→U k)=>Zme w1 (.slice Al list.length cl) list sb U (fun W w2 hW hm =>
  Yn.out.mono ((h1.trans (hW.mono h1.size)).trans (hm.below (by have:=h1.size;have:=hW.size;omega) hU))) hll)
 have HLU:=hid (fun(w1:World) (lv:Value) (ys:List ByteArray) (sb:Nat) (U:Nat→Prop) (B:Nat) (h1:w1.ownsRow B 9 1 lv ys.length (lstS ys)) (hU:∀ k,B≤k→k<w1.heap.size→U k) (h2:ys.length≤16777216)=>Zme w1 lv ys sb U (fun W w2 hW hm =>
  Zba (Zav (Zai h1 hW) (fun k hk=>hm.keep k (Nat.lt_of_lt_of_le (h1.lt k hk).2 hW.size) (.inl (hU k (h1.lt k hk).1 (h1.lt k hk).2))))) h2)
 have hgw:g<wc.heap.size:=q1.lt;clear hk hb hja hok hnv q1 q2 q3 q4 q5 q6 HQ;obtain⟨n,hn⟩:∃ n,list.length=n:=⟨_,rfl⟩;have HN:=hid hn;have JX:=hid (fun(w1:World) (h1:Below wc.heap.size wc w1)=>(show w1.cell? ⟨g,1,none⟩=some (.int .i64 (codec:Nat))∧w1.cell? ⟨g,5,none⟩=some (.slice Al list.length cl)from by
  have h:=YR.out.mono h1;exact⟨by rw[h.cell];rfl,by rw[h.cell];rfl⟩))
 simp only[hn]at JX Zd Yn hll hlc;clear hn;go_enter Tryz.func159,Tryz.ntmps159;go_upto_region 1 with fail
 have hf:=Zbs (w:=w) (C:=#[.pointer (some ⟨g,0,none⟩)]) (e:=202);have QI:=hid hf.1;have Qa:=hid hf.2;have hz1:(w.alloc (.cells #[.pointer (some ⟨g,0,none⟩)] 202)).heap.size=w.heap.size+1:=by simp
 have Qx:=hid hz1;have QB:=hid (HB.out.trans (hf.2.mono HB.out.size));clear hf hz1;generalize w.alloc (.cells #[.pointer (some ⟨g,0,none⟩)] 202)=w1 at *;obtain⟨x1,x5⟩:=JX.out w1 QB.out;have x0:=QI.out.cell 0;have h13:(codec=1∨codec=3)∨codec=2∨(codec≠1∧codec≠3∧codec≠2):=by omega
 rcases h13 with h13 | h2 | h45
 ·have HY:Hid (yv_S codec wd list ends base lanes cnt=list):=hid (by unfold yv_S;rw[if_pos h13]);rcases h13 with rfl | rfl
  all_goals
   go_wp2_with (go_at_call 194;refine(Zkf w1 Al n cl).mono ?_;rintro e w2 ⟨rfl,hw⟩;have HW:=hid hw;clear hw)
   go_ret;have hf2:=Zbs (w:=w1) (C:=#[.slice Al n cl]) (e:=196);refine⟨_,_,rfl,?_,enters_of Tryz.func230 (by kernel_rfl) rfl,fun U hU1 hU2=>?_⟩
   ·rw[HW.out];exact Zad Qa.out hf2.2
   ·rw[HY.out];rw[HW.out]at hU2 ⊢;have hs2:(w1.alloc (.cells #[.slice Al n cl] 196)).heap.size=w1.heap.size+1:=by simp
    exact Zd.out _ w1.heap.size U (QB.out.trans (hf2.2.mono QB.out.size)) hU1 (by rw[hf2.1.cell];rfl) (by omega) (hU2 _ Qa.out.size (by omega))
 ·subst h2;have HY:Hid (yv_S 2 wd list ends base lanes cnt=Zcq (L.laneOf wd lanes) cnt list list.length):=hid (by unfold yv_S;rw[if_neg (by omega),if_pos rfl]);have HU2:=hid (HUE.out rfl w1 QB.out);have hul:=Zie (L.laneOf wd lanes) cnt list list.length;have hul2:(Zcq (L.laneOf wd lanes) cnt list list.length).length≤16777216:=by have:=Y9.out;omega
  generalize Zcq (L.laneOf wd lanes) cnt list list.length=ys at *;clear hul;go_wp2_with (first
   | (go_at_call 195;refine HU2.out.mono ?_;rintro e w2 ⟨v2,rfl,ho2,hb2⟩;obtain⟨A2,c2,rfl⟩:=Zah ho2;have Yb:=hid ho2;have Qc:=hid hb2;clear ho2 hb2)
   | (go_at_call 194;refine(Zkf w2 _ _ _).mono ?_;rintro e w3 ⟨rfl,hw⟩;have HW:=hid hw;clear hw))
  go_ret;have hf2:=Zbs (w:=w2) (C:=#[.slice A2 ys.length c2]) (e:=196);refine⟨_,_,rfl,?_,enters_of Tryz.func230 (by kernel_rfl) rfl,fun U hU1 hU2=>?_⟩
  ·rw[HW.out];exact Zad (Zad Qa.out Qc.out) hf2.2
  ·rw[HY.out];rw[HW.out]at hU2 ⊢;have hs2:(w2.alloc (.cells #[.slice A2 ys.length c2] 196)).heap.size=w2.heap.size+1:=by simp
   have ho3:=Zai Yb.out hf2.2;exact HLU.out _ (.slice A2 ys.length c2) ys w2.heap.size U w1.heap.size ho3 (fun k h1 h3=>hU2 k (by have:=Qa.out.size;omega) h3) hul2 (by rw[hf2.1.cell];rfl) (by omega) (hU2 _ (Nat.le_trans Qa.out.size Qc.out.size) (by omega))
 ·have HY:Hid (yv_S codec wd list ends base lanes cnt=(List.range cnt).map (vl_S codec wd list ends base lanes)):=hid (by unfold yv_S;rw[if_neg (by omega),if_neg (by omega)]);have e1:((codec:Int)==1)=false:=by simp;omega
  have e3:((codec:Int)==3)=false:=by simp;omega
  have e2:((codec:Int)==2)=false:=by simp;omega
  clear h45;go_wp2_with fail
  go_ret;refine⟨_,_,rfl,Qa.out,enters_of Tryz.func196 (by kernel_rfl) rfl,fun U hU1 hU2=>?_⟩;rw[HY.out];exact HVS.out w1 w.heap.size U QB.out (by rw[QI.out.cell];rfl) (by rw[Qx.out];omega) hU1 (hU2 _ (Nat.le_refl _) (by rw[Qx.out];omega))
end Go.Proofs.YtmcjknjlihgihaaGreatDoor
namespace Go.Proofs.YtmcjknjlihgihaaGreatDoor
open Go.RowKit
def endB (ends:List Nat) (t:Nat):Nat:=if t=0 then 0 else ends.getD (t-1) 0
theorem Zto (xs:List Nat) (k:Nat) (h:k<xs.length):(nI xs).getD k 0=(xs.getD k 0:Nat):=by
 unfold nI;simp[List.getD,List.getElem?_map,List.getElem?_eq_getElem h]
def Z1k (cd:Nat):Prop:=True
structure LnD_I (codec wd count:Nat) (list:List Int) (base:Int) (lanes:List Nat):Prop where
 cd:codec=2∨codec=4∨codec=5
 cd2:Z1k codec
 ok:Za8 wd count lanes=true
 lv:∀ x∈lanes,x<18446744073709551616
 lm:lanes.length≤16777216
 ll:list.length≤1048576
 cn:count≤65536
 up:codec=2→∀ a b,a<b→b<list.length→list.getD a 0<list.getD b 0
 inl:codec=2→∀ j,j<count→L.laneOf wd lanes j<list.length
 b:okI base
 rm:codec≠2→∀ j,j<count→base+(L.laneOf wd lanes j:Int)≤9223372036854775807
def Z09 (codec wd count:Nat) (list:List Int) (ends:List Nat) (base:Int) (lanes:List Nat):Prop :=
 (codec=1∧list.length=count∧count≤65536) ∨
 (codec=3∧list.length=ends.length∧count≤65536∧ends.length≤65536∧(∀ a b,a<b→b<ends.length→ends.getD a 0<ends.getD b 0)∧endB ends ends.length=count) ∨
 LnD_I codec wd count list base lanes
structure FilD_I (rows:Nat) (xs:List Nat):Prop where
 pk:Za8 1 rows (Zaa rows xs).nulls=true
 hd:Z09 (Zaa rows xs).codec (Zaa rows xs).wd (Zbd rows (Zaa rows xs).nulls) (Zao rows xs).list (Zao rows xs).ends (Zc2 rows xs) (Zao rows xs).lanes
set_option maxRecDepth 20000
theorem Z0l {vals:List Int} (h:Zbb geI vals=true):∀ a b,a<b→b<vals.length→vals.getD a 0<vals.getD b 0:=by
 have h1:=(Zcb geI 0 vals).1 h;intro a b hab
 induction b with
 | zero=>omega
 | succ b ih =>
  intro hb;have h2:=h1 b hb;unfold geI at h2;simp only[decide_eq_false_iff_not]at h2;by_cases he:a=b
  ·subst he;omega
  ·have:=ih (by omega) (by omega);omega
theorem Zxz (es:List Int):∀ l k,Za2 l es=some k→k=if es.length=0 then l else es.getD (es.length-1) 0:=by
 induction es with
 | nil=>intro l k h;simp[Za2]at h;simp[h]
 | cons e r ih =>
  intro l k h;simp only[Za2]at h
  split at h
  ·cases h
  ·have:=ih e k h;rw[this];cases r with
   | nil=>simp
   | cons f r=>simp
theorem Zt4 {es:List Nat} {k:Nat} (h:Zax (nI es) k=true) (hk:k≤65536):es.length≤65536∧(∀ a b,a<b→b<es.length→es.getD a 0<es.getD b 0)∧endB es es.length=k:=by
 have h1:Za2 0 (nI es)=some (k:Int):=by simpa [Zax]using h
 have hasc:=Ze9 h;rw[Zaq]at hasc;have hasc2:∀ a b,a<b→b<es.length→es.getD a 0<es.getD b 0:=fun a b hab hb=>by
  have:=hasc a b hab hb;rw[Zto es a (by omega),Zto es b hb]at this;omega
 have hgt:=Zi6 (nI es) 0 k h1;rw[Zaq]at hgt;have hge:∀ i,i<es.length→i+1≤es.getD i 0:=by
  intro i
  induction i with
  | zero=>intro hi;have:=hgt 0 hi;rw[Zto es 0 hi]at this;omega
  | succ i ih=>intro hi;have:=ih (by omega);have:=hasc2 i (i+1) (by omega) hi;omega
 have hlast:=Zxz (nI es) 0 k h1;rw[Zaq]at hlast;have hend:endB es es.length=k:=by
  unfold endB;by_cases h0:es.length=0
  ·rw[if_pos h0]at hlast ⊢;omega
  ·rw[if_neg h0,Zto es _ (by omega)]at hlast;rw[if_neg h0];omega
 refine⟨?_,hasc2,hend⟩;by_cases h0:es.length=0
 ·omega
 ·have:=hge (es.length-1) (by omega);unfold endB at hend;rw[if_neg h0]at hend;omega
theorem Z0y (rows:Nat) (xs:List Nat) (hb:∀ x∈xs,x<256) (hl:xs.length≤16777216) (hrr:rows≤65536) (h:Zc1 rows xs=true):FilD_I rows xs:=by
 unfold Zc1 Zgk at h;simp only[Bool.and_eq_true,Bool.not_eq_true',decide_eq_true_eq]at h;obtain⟨⟨hpk,hcd⟩,hOb,hOs,hOl⟩:=h;refine⟨hpk,?_⟩;have hx3:(Zaa rows xs).left.length≤16777216:=Nat.le_trans (Zbn _ _) (Nat.le_trans (Zbn _ _) (Nat.le_trans (Zbn _ _) hl));have hb3:∀ x∈(Zaa rows xs).left,x<256:=Zas (Zas (Zas hb));have hk6:Zbd rows (Zaa rows xs).nulls≤65536:=by unfold Zbd;omega
 unfold Zao Zc2 at *;generalize Zbd rows (Zaa rows xs).nulls=k at *;generalize (Zaa rows xs).left=x3 at *;generalize (Zaa rows xs).short=t3 at *;generalize (Zaa rows xs).codec=cd at *;generalize (Zaa rows xs).wd=wd at *;have hcdk:1≤cd∧cd≤5:=by
  unfold Zbi at hcd
  split at hcd
  ·omega
  ·simp only[decide_eq_true_eq]at hcd;omega
 unfold Zbc at *;by_cases h1:cd=1
 ·subst h1;rw[if_pos rfl]at *;unfold Zbu at *;simp only[Bool.and_eq_true,decide_eq_true_eq]at *;exact .inl ⟨rfl,Zen hOb.1 hOs,hk6⟩
 by_cases h2:cd=2
 ·subst h2;rw[if_neg (by decide),if_pos rfl]at *;unfold Zbv at *
  split at hOb
  ·cases hOb
  ·rename_i hc
   rw[if_neg hc]at *;have hxl1:(tkL 4 x3).length≤16777216:=Nat.le_trans (Zbn _ _) hx3;have hxb1:∀ x∈tkL 4 x3,x<256:=Zas hb3;have hrb:=(Zel (L.wordOf 8 (tk 4 x3)) (tkL 4 x3) (tkS 4 x3 t3)).2 256 hxb1;have hlb:=(Zel (L.wordOf 8 (tk 4 x3)) (tkL 4 x3) (tkS 4 x3 t3)).1;have hfl:=@Zen (L.wordOf 8 (tk 4 x3)) (tkL 4 x3) (tkS 4 x3 t3);generalize rdI (L.wordOf 8 (tk 4 x3)) (tkL 4 x3) (tkS 4 x3 t3)=R at *;generalize L.wordOf 8 (tk 4 x3)=dd at *;obtain⟨vals,ok,xl,s1⟩:=R;simp only at *
   split at hOb
   ·rename_i hoa
    rw[if_pos hoa]at *;simp only at *;obtain⟨l1,l2,l3,l4⟩:=Zce hOb;have hs1:=(Zb7 hOs).2;simp only[Bool.and_eq_true]at hoa;have hvl:=hfl hoa.1 hs1;refine .inr (.inr ⟨.inl rfl,by first | trivial | rfl,(Zbl _ l1 l2).2 l3,Zfm hrb,?_,by omega,hk6,fun _=>Z0l hoa.2,fun _ j hj=>?_,?_,fun hh=>absurd rfl hh⟩)
    ·rw[Zfb];omega
    ·have:=l4 j hj;unfold Zcc at this;simp at this;omega
    ·unfold Zc6 okI;simp
   ·cases hOb
 by_cases h3:cd=3
 ·subst h3;rw[if_neg (by decide),if_neg (by decide),if_pos rfl]at *;unfold Zbp at *
  split at hOb
  ·cases hOb
  ·rename_i hc
   rw[if_neg hc]at *;have hfl:=@Zen (L.wordOf 8 (tk 4 x3)) (tkL (4*L.wordOf 8 (tk 4 x3)) (tkL 4 x3)) (tkS (4*L.wordOf 8 (tk 4 x3)) (tkL 4 x3) (tkS 4 x3 t3));have hsh:=Zjy (L.wordOf 8 (tk 4 x3)) (tkL (4*L.wordOf 8 (tk 4 x3)) (tkL 4 x3)) (tkS (4*L.wordOf 8 (tk 4 x3)) (tkL 4 x3) (tkS 4 x3 t3));have hel:tkS (4*L.wordOf 8 (tk 4 x3)) (tkL 4 x3) (tkS 4 x3 t3)=false→(numL 4 (tk (4*L.wordOf 8 (tk 4 x3)) (tkL 4 x3))).length=L.wordOf 8 (tk 4 x3):=fun h=>by
    rw[Zal,Zke (Zb7 h).1];omega
   generalize rdI (L.wordOf 8 (tk 4 x3)) (tkL (4*L.wordOf 8 (tk 4 x3)) (tkL 4 x3)) (tkS (4*L.wordOf 8 (tk 4 x3)) (tkL 4 x3) (tkS 4 x3 t3))=R at *;generalize numL 4 (tk (4*L.wordOf 8 (tk 4 x3)) (tkL 4 x3))=es at *;generalize tkS (4*L.wordOf 8 (tk 4 x3)) (tkL 4 x3) (tkS 4 x3 t3)=s2 at *;generalize L.wordOf 8 (tk 4 x3)=dd at *;obtain⟨vals,ok,xl,s1⟩:=R;simp only[Bool.and_eq_true]at *;have hvl:=hfl hOb.1 hOs;have hed:=hel (hsh hOs);have hre:Zax (nI es) k=true:=by
    cases hx:Zax (nI es) k with
    | true=>rfl
    | false=>exact absurd (.inr hx) hc
   obtain⟨r1,r2,r3⟩:=Zt4 hre hk6;exact .inr (.inl ⟨rfl,by rw[hvl,hed],hk6,r1,r2,r3⟩)
 ·rw[if_neg h1,if_neg h2,if_neg h3]at *;have h45:cd=4∨cd=5:=by omega
  rcases h45 with rfl | rfl
  ·rw[if_pos rfl]at *;unfold Zdm at *;simp only at *;obtain⟨l1,l2,l3,l4⟩:=Zce hOb;have hbd:=Zjb (L.wordOf 8 (tk 8 x3));have hbp:Zc6 4 x3=Zcf (L.wordOf 8 (tk 8 x3)):=if_pos rfl;rw[hbp]at l4 ⊢;have hxl1:(tkL 8 x3).length≤16777216:=Nat.le_trans (Zbn _ _) hx3;refine .inr (.inr ⟨.inr (.inl rfl),trivial,(Zbl _ l1 l2).2 l3,Zfm (Zas hb3),?_,by simp,hk6,fun hh=>absurd hh (by decide),fun hh=>absurd hh (by decide),hbd,fun _ j hj=>?_⟩)
   ·rw[Zfb];omega
   ·have:=l4 j hj;unfold Zcc Zff at this;simp at this;omega
  ·rw[if_neg (by decide)]at *;unfold Zdm at *;simp only at *;obtain⟨l1,l2,l3,l4⟩:=Zce hOb;have hbp:Zc6 5 x3=0:=if_neg (by decide);rw[hbp];refine .inr (.inr ⟨.inr (.inr rfl),trivial,(Zbl _ l1 l2).2 l3,Zfm hb3,?_,by simp,hk6,fun hh=>absurd hh (by decide),fun hh=>absurd hh (by decide),by unfold okI;omega,fun _ j hj=>?_⟩)
   ·rw[Zfb];omega
   ·have:=l4 j hj;unfold Zcc Zff at this;simp at this;omega
theorem Z1p {rows:Nat} {xs:List Nat} (h:Zc1 rows xs=true) (hc:(Zaa rows xs).codec=1∨(Zaa rows xs).codec=3):(Zaa rows xs).wd=0:=by
 unfold Zc1 at h;simp only[Bool.and_eq_true]at h;have hb:=h.2.1;unfold Zao Zbc at hb;rcases hc with e | e
 ·rw[e,if_pos rfl]at hb;unfold Zbu at hb;simp at hb;omega
 ·rw[e,if_neg (by decide),if_neg (by decide),if_pos rfl]at hb;unfold Zbp at hb
  split at hb
  ·cases hb
  ·rename_i hc
   simp only[not_or]at hc;omega
theorem Z0w (rows:Nat) (xs:List Nat) (hb:∀ x∈xs,x<256) (hl:xs.length≤16777216) (hrr:rows≤65536) (h:Zc1 rows xs=true):(Zaa rows xs).wd≤64:=by
 have hF:=(Z0y rows xs hb hl hrr h).hd;have hw13:=Z1p h;have hk6:Zbd rows (Zaa rows xs).nulls≤65536:=by unfold Zbd;omega
 rcases hF with ⟨h1,_⟩ | ⟨h1,_⟩ | h1
 ·rw[hw13 (.inl h1)];decide
 ·rw[hw13 (.inr h1)];decide
 ·have h2:=h1.ok;by_cases hc:0≤((Zaa rows xs).wd:Int)∧((Zaa rows xs).wd:Int)≤64∧0≤((Zbd rows (Zaa rows xs).nulls:Nat):Int)∧((Zbd rows (Zaa rows xs).nulls:Nat):Int)≤65536
  ·omega
  ·rw[Zcz _ hc]at h2;cases h2
set_option maxRecDepth 100000
def Z1n (cd:Nat):Prop:=cd=2
structure LnD_S (codec wd count:Nat) (list:List ByteArray) (base:Int) (lanes:List Nat):Prop where
 cd:codec=2∨codec=4∨codec=5
 cd2:Z1n codec
 ok:Za8 wd count lanes=true
 lv:∀ x∈lanes,x<18446744073709551616
 lm:lanes.length≤16777216
 ll:list.length≤1048576
 cn:count≤65536
 up:codec=2→∀ a b,a<b→b<list.length→ltS (list.getD a ByteArray.empty) (list.getD b ByteArray.empty)=true
 inl:codec=2→∀ j,j<count→L.laneOf wd lanes j<list.length
 b:okI base
 rm:codec≠2→∀ j,j<count→base+(L.laneOf wd lanes j:Int)≤9223372036854775807
def Z0u (codec wd count:Nat) (list:List ByteArray) (ends:List Nat) (base:Int) (lanes:List Nat):Prop :=
 (codec=1∧list.length=count∧count≤65536) ∨
 (codec=3∧list.length=ends.length∧count≤65536∧ends.length≤65536∧(∀ a b,a<b→b<ends.length→ends.getD a 0<ends.getD b 0)∧endB ends ends.length=count) ∨
 LnD_S codec wd count list base lanes
structure FilD_S (rows:Nat) (xs:List Nat):Prop where
 pk:Za8 1 rows (Zaa rows xs).nulls=true
 hd:Z0u (Zaa rows xs).codec (Zaa rows xs).wd (Zbd rows (Zaa rows xs).nulls) (Zan rows xs).list (Zan rows xs).ends (Zcv rows xs) (Zan rows xs).lanes
set_option maxRecDepth 20000
theorem Z0m {vals:List ByteArray} (h:Zbb geS vals=true):∀ a b,a<b→b<vals.length→ltS (vals.getD a ByteArray.empty) (vals.getD b ByteArray.empty)=true:=by
 have h1:=(Zcb geS ByteArray.empty vals).1 h;intro a b hab
 induction b with
 | zero=>omega
 | succ b ih =>
  intro hb;have h2:=h1 b hb;unfold geS at h2;have h3:ltS (vals.getD b ByteArray.empty) (vals.getD (b+1) ByteArray.empty)=true:=by simpa using h2
  by_cases he:a=b
  ·subst he;exact h3
  ·exact Zxu (ih (by omega) (by omega)) h3
theorem Z06 (rows:Nat) (xs:List Nat) (hb:∀ x∈xs,x<256) (hl:xs.length≤16777216) (hrr:rows≤65536) (h:Zc3 rows xs=true):FilD_S rows xs:=by
 unfold Zc3 Zgk at h;simp only[Bool.and_eq_true,Bool.not_eq_true',decide_eq_true_eq]at h;obtain⟨⟨hpk,hcd⟩,hOb,hOs,hOl⟩:=h;refine⟨hpk,?_⟩;have hx3:(Zaa rows xs).left.length≤16777216:=Nat.le_trans (Zbn _ _) (Nat.le_trans (Zbn _ _) (Nat.le_trans (Zbn _ _) hl));have hb3:∀ x∈(Zaa rows xs).left,x<256:=Zas (Zas (Zas hb));have hk6:Zbd rows (Zaa rows xs).nulls≤65536:=by unfold Zbd;omega
 unfold Zan Zcv at *;generalize Zbd rows (Zaa rows xs).nulls=k at *;generalize (Zaa rows xs).left=x3 at *;generalize (Zaa rows xs).short=t3 at *;generalize (Zaa rows xs).codec=cd at *;generalize (Zaa rows xs).wd=wd at *;have hcdk:1≤cd∧cd≤3:=by
  unfold Zbi at hcd
  split at hcd
  ·omega
  ·simp only[decide_eq_true_eq]at hcd;unfold Zko at hcd;omega
 unfold Zbq at *;by_cases h1:cd=1
 ·subst h1;rw[if_pos rfl]at *;unfold Zbk at *;simp only[Bool.and_eq_true,decide_eq_true_eq]at *;exact .inl ⟨rfl,Zem hOb.1 hOs,hk6⟩
 by_cases h2:cd=2
 ·subst h2;rw[if_neg (by decide),if_pos rfl]at *;unfold Zbm at *
  split at hOb
  ·cases hOb
  ·rename_i hc
   rw[if_neg hc]at *;have hxl1:(tkL 4 x3).length≤16777216:=Nat.le_trans (Zbn _ _) hx3;have hxb1:∀ x∈tkL 4 x3,x<256:=Zas hb3;have hrb:=(Zep (L.wordOf 8 (tk 4 x3)) (tkL 4 x3) (tkS 4 x3 t3)).2 256 hxb1;have hlb:=(Zep (L.wordOf 8 (tk 4 x3)) (tkL 4 x3) (tkS 4 x3 t3)).1;have hfl:=@Zem (L.wordOf 8 (tk 4 x3)) (tkL 4 x3) (tkS 4 x3 t3);generalize rdS (L.wordOf 8 (tk 4 x3)) (tkL 4 x3) (tkS 4 x3 t3)=R at *;generalize L.wordOf 8 (tk 4 x3)=dd at *;obtain⟨vals,ok,xl,s1⟩:=R;simp only at *
   split at hOb
   ·rename_i hoa
    rw[if_pos hoa]at *;simp only at *;obtain⟨l1,l2,l3,l4⟩:=Zce hOb;have hs1:=(Zb7 hOs).2;simp only[Bool.and_eq_true]at hoa;have hvl:=hfl hoa.1 hs1;refine .inr (.inr ⟨.inl rfl,by first | trivial | rfl,(Zbl _ l1 l2).2 l3,Zfm hrb,?_,by omega,hk6,fun _=>Z0m hoa.2,fun _ j hj=>?_,?_,fun hh=>absurd rfl hh⟩)
    ·rw[Zfb];omega
    ·have:=l4 j hj;unfold Zcc at this;simp at this;omega
    ·unfold okI;simp
   ·cases hOb
 ·obtain rfl:cd=3:=by omega
  rw[if_neg (by decide),if_neg (by decide)]at *;unfold Zbh at *
  split at hOb
  ·cases hOb
  ·rename_i hc
   rw[if_neg hc]at *;have hfl:=@Zem (L.wordOf 8 (tk 4 x3)) (tkL (4*L.wordOf 8 (tk 4 x3)) (tkL 4 x3)) (tkS (4*L.wordOf 8 (tk 4 x3)) (tkL 4 x3) (tkS 4 x3 t3));have hsh:=Zjw (L.wordOf 8 (tk 4 x3)) (tkL (4*L.wordOf 8 (tk 4 x3)) (tkL 4 x3)) (tkS (4*L.wordOf 8 (tk 4 x3)) (tkL 4 x3) (tkS 4 x3 t3));have hel:tkS (4*L.wordOf 8 (tk 4 x3)) (tkL 4 x3) (tkS 4 x3 t3)=false→(numL 4 (tk (4*L.wordOf 8 (tk 4 x3)) (tkL 4 x3))).length=L.wordOf 8 (tk 4 x3):=fun h=>by
    rw[Zal,Zke (Zb7 h).1];omega
   generalize rdS (L.wordOf 8 (tk 4 x3)) (tkL (4*L.wordOf 8 (tk 4 x3)) (tkL 4 x3)) (tkS (4*L.wordOf 8 (tk 4 x3)) (tkL 4 x3) (tkS 4 x3 t3))=R at *;generalize numL 4 (tk (4*L.wordOf 8 (tk 4 x3)) (tkL 4 x3))=es at *;generalize tkS (4*L.wordOf 8 (tk 4 x3)) (tkL 4 x3) (tkS 4 x3 t3)=s2 at *;generalize L.wordOf 8 (tk 4 x3)=dd at *;obtain⟨vals,ok,xl,s1⟩:=R;simp only[Bool.and_eq_true]at *;have hvl:=hfl hOb.1 hOs;have hed:=hel (hsh hOs);have hre:Zax (nI es) k=true:=by
    cases hx:Zax (nI es) k with
    | true=>rfl
    | false=>exact absurd (.inr hx) hc
   obtain⟨r1,r2,r3⟩:=Zt4 hre hk6;exact .inr (.inl ⟨rfl,by rw[hvl,hed],hk6,r1,r2,r3⟩)
theorem Z1r {rows:Nat} {xs:List Nat} (h:Zc3 rows xs=true) (hc:(Zaa rows xs).codec=1∨(Zaa rows xs).codec=3):(Zaa rows xs).wd=0:=by
 unfold Zc3 at h;simp only[Bool.and_eq_true]at h;have hb:=h.2.1;unfold Zan Zbq at hb;rcases hc with e | e
 ·rw[e,if_pos rfl]at hb;unfold Zbk at hb;simp at hb;omega
 ·rw[e,if_neg (by decide),if_neg (by decide)]at hb;unfold Zbh at hb
  split at hb
  ·cases hb
  ·rename_i hc
   simp only[not_or]at hc;omega
theorem Z01 (rows:Nat) (xs:List Nat) (hb:∀ x∈xs,x<256) (hl:xs.length≤16777216) (hrr:rows≤65536) (h:Zc3 rows xs=true):(Zaa rows xs).wd≤64:=by
 have hF:=(Z06 rows xs hb hl hrr h).hd;have hw13:=Z1r h;have hk6:Zbd rows (Zaa rows xs).nulls≤65536:=by unfold Zbd;omega
 rcases hF with ⟨h1,_⟩ | ⟨h1,_⟩ | h1
 ·rw[hw13 (.inl h1)];decide
 ·rw[hw13 (.inr h1)];decide
 ·have h2:=h1.ok;by_cases hc:0≤((Zaa rows xs).wd:Int)∧((Zaa rows xs).wd:Int)≤64∧0≤((Zbd rows (Zaa rows xs).nulls:Nat):Int)∧((Zbd rows (Zaa rows xs).nulls:Nat):Int)≤65536
  ·omega
  ·rw[Zcz _ hc]at h2;cases h2
end Go.Proofs.YtmcjknjlihgihaaGreatDoor
set_option maxRecDepth 512
namespace Go.Proofs.YtmcjknjlihgihaaGreatDoor
open Go
theorem Zxn (t:List Nat) (es:List Int):∀ a l,Zaw a es=some l→∀ x∈cutS a t es,x.size≤1024:=by
 induction es with
 | nil=>intro a l _ x hx;simp[cutS]at hx
 | cons e r ih =>
  intro a l h x hx;simp only[Zaw]at h
  split at h
  ·cases h
  ·rename_i hc
   unfold cutS at hx;rcases List.mem_cons.1 hx with rfl | hx
   ·rw[Zkc,List.length_take];omega
   ·exact ih e l h x hx
theorem Zx0 (c:Nat) (xs:List Nat) (s:Bool):∀ x∈(rdS c xs s).1,x.size≤1024:=by
 intro x hx;unfold rdS at hx;simp only at hx
 split at hx
 ·cases hx
 ·rename_i sz h
  split at hx
  ·cases hx
  ·exact Zxn _ _ _ _ h x hx
theorem Zsp (f:Nat→Nat) (k:Nat) (list:List ByteArray):∀ i,i≤list.length→∀ x∈Zcq f k list i,x∈list:=by
 intro i
 induction i with
 | zero=>intro _ x hx;cases hx
 | succ i ih =>
  intro hi x hx;unfold Zcq at hx;rcases List.mem_append.1 hx with h | h
  ·exact ih (by omega) x h
  ·split at h
   ·rw[List.mem_singleton]at h;rw[h];have hlt:i<list.length:=by omega
    simp[List.getD,List.getElem?_eq_getElem hlt]
   ·cases h
theorem Zub (rows:Nat) (xs:List Nat):∀ x∈(Zan rows xs).list,x.size≤1024:=by
 intro x hx;unfold Zan Zbq at hx
 split at hx
 ·unfold Zbk at hx;exact Zx0 (Zbd rows (Zaa rows xs).nulls) (Zaa rows xs).left (Zaa rows xs).short x hx
 split at hx
 ·unfold Zbm at hx
  split at hx
  ·cases hx
  ·have hR:=Zx0 (L.wordOf 8 (tk 4 (Zaa rows xs).left)) (tkL 4 (Zaa rows xs).left) (tkS 4 (Zaa rows xs).left (Zaa rows xs).short);generalize rdS (L.wordOf 8 (tk 4 (Zaa rows xs).left)) (tkL 4 (Zaa rows xs).left) (tkS 4 (Zaa rows xs).left (Zaa rows xs).short)=R at *;obtain⟨vals,ok,xl,s1⟩:=R;simp only at hx hR
   split at hx
   ·exact hR x hx
   ·exact hR x hx
 ·unfold Zbh at hx
  split at hx
  ·cases hx
  ·have hR:=Zx0 (L.wordOf 8 (tk 4 (Zaa rows xs).left)) (tkL (4*L.wordOf 8 (tk 4 (Zaa rows xs).left)) (tkL 4 (Zaa rows xs).left)) (tkS (4*L.wordOf 8 (tk 4 (Zaa rows xs).left)) (tkL 4 (Zaa rows xs).left) (tkS 4 (Zaa rows xs).left (Zaa rows xs).short));generalize rdS (L.wordOf 8 (tk 4 (Zaa rows xs).left)) (tkL (4*L.wordOf 8 (tk 4 (Zaa rows xs).left)) (tkL 4 (Zaa rows xs).left)) (tkS (4*L.wordOf 8 (tk 4 (Zaa rows xs).left)) (tkL 4 (Zaa rows xs).left) (tkS 4 (Zaa rows xs).left (Zaa rows xs).short))=R at *;obtain⟨vals,ok,xl,s1⟩:=R;simp only at hx hR;exact hR x hx
theorem Zl3 {list:List ByteArray} (h:∀ x∈list,x.size≤1024) (k:Nat) (hk:k<list.length):(list.getD k dfS).size≤1024:=by
 have:list.getD k dfS∈list:=by simp[List.getD,List.getElem?_eq_getElem hk]
 exact h _ this
theorem Zzf {codec wd:Nat} {list:List ByteArray} {ends:List Nat} {base:Int} {lanes:List Nat} {j:Nat} (hl:∀ x∈list,x.size≤1024) (hok:Zkz codec wd list ends lanes j):(vl_S codec wd list ends base lanes j).size≤1024:=by
 unfold Zkz ok_S at hok;unfold vl_S Zh9;rcases hok with ⟨rfl,h⟩ | ⟨rfl,h,_⟩ | ⟨rfl,h,_⟩
 ·rw[if_pos rfl];exact Zl3 hl _ h
 ·rw[if_neg (by decide),if_pos rfl];exact Zl3 hl _ h
 ·rw[if_neg (by decide),if_neg (by decide)];exact Zl3 hl _ h
theorem Z02 (codec wd:Nat) (list:List ByteArray) (ends:List Nat) (base:Int) (lanes:List Nat) (cnt:Nat) (hl:∀ x∈list,x.size≤1024) (hok:∀ j,j<cnt→Zkz codec wd list ends lanes j) :
  ∀ x∈yv_S codec wd list ends base lanes cnt,(vk_S x).s.size≤1024:=by
 intro x hx;unfold yv_S at hx
 show x.size≤1024
 split at hx
 ·exact hl x hx
 split at hx
 ·exact hl x (Zsp _ _ _ _ (Nat.le_refl _) x hx)
 ·rw[List.mem_map]at hx;obtain⟨j,hj,rfl⟩:=hx;exact Zzf hl (hok j (List.mem_range.1 hj))
theorem Z1g (codec wd:Nat) (list:List Int) (ends:List Nat) (base:Int) (lanes:List Nat) (cnt:Nat):∀ x∈yv_I codec wd list ends base lanes cnt,(vk_I x).s.size≤1024:=fun x _=>by
 show ByteArray.empty.size≤1024
 decide
end Go.Proofs.YtmcjknjlihgihaaGreatDoor
