/- Package kernel: filter of one kind (strings). -/
import Derived.Deep.DeepMust
import Derived.Ground.SlgnProg
import Derived.Shelf.SlicesG.Turned
import Derived.Shelf.SlicesG.Clone
import Derived.Shelf.SlicesG.CompactI
import Derived.Shelf.SlicesG.CompactS
import Derived.Ground.SlgmProg
import Derived.Shelf.SortM.Plain
import Derived.Shelf.SortM.SortNone
import Derived.Lib.OwnBridge
import Derived.Sort.OwnSortedInts
import Derived.Deep.Onto
import Derived.Test.YtmcjknjlihgihaaGreatDoorLawparseuptoM28
set_option linter.unusedVariables false
set_option linter.unusedSimpArgs false
set_option linter.unnecessarySimpa false
set_option maxRecDepth 100000
namespace Go.Proofs.YtmcjknjlihgihaaGreatDoor
open Go.RowKit
def Zdu (f:Nat→Nat) (k i:Nat):Bool:=(List.range k).any fun j=>f j==i
def Zec (f:Nat→Nat) (n k:Nat):List Bool:=(List.range n).map (Zdu f k)
theorem Zi2 (f:Nat→Nat) (n k:Nat):(Zec f n k).length=n:=by simp[Zec]
theorem Zo0 (f:Nat→Nat) (k i:Nat):Zdu f (k+1) i=(Zdu f k i||(f k==i)):=by simp[Zdu,List.range_succ]
theorem Zqo (f:Nat→Nat) (n k:Nat) (h:f k<n):(Zec f n k).set (f k) true=Zec f n (k+1):=by
 apply List.ext_getElem
 ·simp[Zec]
 ·intro i h1 h2;simp only[List.length_set,Zi2]at h1;rw[List.getElem_set];simp only[Zec,List.getElem_map,List.getElem_range,Zo0];by_cases he:f k=i
  ·rw[if_pos he];simp[he]
  ·rw[if_neg he];simp[he]
def Zcv (f:Nat→Nat) (k:Nat) (list:List ByteArray):Nat→List ByteArray
 | 0=>[]
 | i+1=>Zcv f k list i++(if Zdu f k i=true then [list.getD i dfS]else [])
theorem Ziy (f:Nat→Nat) (k:Nat) (list:List ByteArray):∀ i,(Zcv f k list i).length≤i
 | 0=>Nat.le_refl _
 | i+1=>by
  have:=Ziy f k list i;unfold Zcv;rw[List.length_append]
  split
  ·simp;omega
  ·simp;omega
theorem Zs2 (fl:List Bool) (i:Nat) (b:Bool):(Zf8 fl).set i (.bool b)=Zf8 (fl.set i b):=by simp[Zf8,List.map_set]
theorem Zm5 (fl:List Bool) (i:Nat) (h:i<fl.length):(Zf8 fl)[i]? = some (.bool (fl.getD i false)):=by simp[Zf8,List.getD,List.getElem?_eq_getElem h]
theorem Zsc (f:Nat→Nat) (n k i:Nat) (h:i<n):(Zec f n k).getD i false=Zdu f k i:=by simp[Zec,List.getD,List.getElem?_range h]
theorem Zwl (xs:List ByteArray) (x:ByteArray):lstS (xs++[x])=lstS xs++[vS x]:=by simp[lstS,strs,vS]
set_option maxHeartbeats 4000000 in
theorem Zo7 (w:World) (g rows codec wd:Nat) (nulls:List Nat) (count:Nat) (list:List ByteArray) (ends:List Nat) (base:Int) (lanes:List Nat) (hk:Ck_S w g rows codec wd nulls count list ends base lanes)
  (hll:list.length≤16777216) (hlv:∀ x∈lanes,x<18446744073709551616) (hwd:wd≤64) (hcn:count≤65536) (hja:∀ j,j<count→L.laneOf wd lanes j<list.length∧(0<wd→j/(64/wd)<lanes.length)) :
  Calls Tryz.prog 195 #[.pointer (some ⟨g,0,none⟩)] w fun e w'=>∃ v,e=.returned v ∧
   w'.ownsRow w.heap.size 9 1 v (Zcv (L.laneOf wd lanes) count list list.length).length (lstS (Zcv (L.laneOf wd lanes) count list list.length))∧Below w.heap.size w w':=by
 have QP:=hid (fun(w1:World) (hb:Below w.heap.size w w1) (j:Nat) (hj:j<count)=>by
  obtain⟨nu,lv,ev,nv,bef,q1,q2,q3,q4,q5,q6⟩:=(hk.mono hb).ex;exact Z0a w1 g rows codec wd nu count lv ev base nv _ bef lanes j q1 q5 hlv hwd (by omega) (hja j hj).2)
 have HJA:=hid (fun j hj=>(hja j hj).1);obtain⟨nu,lv,ev,nv,bef,q1,q2,q3,q4,q5,q6⟩:=hk.ex;have Zf:=hid q1;have Yt:=hid q3;obtain⟨Al,cl,rfl,hlc,hlm,_⟩:=q3.form;unfold maxLen at hlm;clear hk hlv hja q1 q2 q3 q4 q5 q6;obtain⟨m,hm⟩:∃ m,list.length=m:=⟨_,rfl⟩;have HM:=hid hm;simp only[hm]at hll Zf Yt HJA hlc ⊢;clear hm;have XP:=hid (fun(w1:World) (hb:Below w.heap.size w w1)=>(show w1.cell? ⟨g,4,none⟩=some (.int .i64 (count:Nat))∧w1.cell? ⟨g,5,none⟩=some (.slice Al m cl)from by
  have h:=Zf.out.mono hb;exact⟨by rw[h.cell];rfl,by rw[h.cell];rfl⟩))
 generalize L.laneOf wd lanes=f at *;obtain⟨x4,x5⟩:=XP.out w (Zab w);go_enter Tryz.func195,Tryz.ntmps195;go_wp2;refine Zcx 4 (.bool false) 1 Tryz.underlying137 Tryz.infoBool rfl m (by omega) (by omega) (by omega) (by unfold maxLen;omega) ?_;intro w2 hrow hb2 hsz2;have hrow2:Row w2 w.heap.size 4 (Zf8 (Zec f m 0)):=by
  have e:Zf8 (Zec f m 0)=List.replicate m (.bool false):=by
   apply List.ext_getElem
   ·simp[Zf8,Zec]
   ·intro i h1 h2;simp[Zf8,Zec,Zdu]
  rw[e];exact hrow
 have Yb:=hid hrow2;have Qb:=hid hb2;obtain⟨s,hs⟩:∃ s,w.heap.size=s:=⟨_,rfl⟩;have HS:=hid hs;rw[hs]at Yb ⊢;clear hrow hrow2 hb2 hs x4 x5;obtain⟨x4,x5⟩:=XP.out w2 Qb.out;go_upto_region 3 with fail
 go_loopw [18] (fun i wr=>∃ k:Nat,k≤count∧i=.int .i64 k∧Hid (Row wr s 4 (Zf8 (Zec f m k)))∧Hid (Below w.heap.size w wr)) (fun i _=>count-(intOf i).toNat)
 case atStart=>exact⟨0,by omega,rfl,Yb,Qb⟩
 case round =>
  obtain⟨k,hk,rfl,hrw,hbw⟩:=hrel;by_cases hlt:k<count
  ·have ZK:=hid (QP.out wr hbw.out k hlt);have hfl:=HJA.out k hlt;have ZA:=hid (Zqo f m k hfl);have Q4:=hid (Zi2 f m k);have cb:=hrw.out.cell (f k);rw[Zm5 _ _ (by rw[Q4.out];exact hfl)]at cb;have fb:=hrw.out.frozen (f k);have hfi:((f k:Nat):Int)<(m:Int):=by omega
   have Qt:=hid (fun n=>(Row.drewN hrw.out n).set (f k) (.bool true));have YA:=hid (fun n=>Zad (Zaf hbw.out n) s (f k) (.bool true) (by rw[HS.out];exact Nat.le_refl _));clear x4 x5;generalize f k=q at *;have cb2:=fun n=>(show (wr.drewN n).cell? ⟨s,q,none⟩=_ from cb)
   go_wp2_with (go_at_call 231;refine ZK.out.mono ?_;rintro e w5 ⟨rfl,nd,rfl⟩)
   go_roundw
   case rel=>exact⟨k+1,by omega,by go_num,hid (by rw[← ZA.out,← Zs2];exact Qt.out nd),YA.out nd⟩
   case measure=>simp[intOf];omega
  ·obtain rfl:k=count:=by omega
   have UQ:=hid hrw.out;have Qe:=hid hbw.out;clear x4 x5;obtain⟨x4,x5⟩:=XP.out wr hbw.out;have Yc:=hid (Yt.out.mono hbw.out);clear hrw hbw Yb Qb QP;go_upto_region 9 with fail
   clear x4 x5;generalize wr=w3 at *;go_loopw [5,32] (fun ev i wr=>∃ t:Nat,t≤m∧i=.int .i64 t∧Hid (wr.ownsRow (s+1) 9 1 ev (Zcv f k list t).length (lstS (Zcv f k list t)))∧Hid (Below (s+1) w3 wr)) (fun _ i _=>m-(intOf i).toNat)
   case atStart=>exact⟨0,by omega,rfl,hid (by simpa [Zcv,lstS,strs]using World.ownsRow_nil _ _ _ _),hid (Below.refl _ _)⟩
   case round =>
    obtain⟨t,ht,rfl,how,hbw⟩:=hrel;have hbz:Below w.heap.size w wr:=Qe.out.trans (hbw.out.mono (by rw[HS.out];omega));by_cases hlt:t<m
    ·have hrl:=Yt.out.mono hbz;obtain⟨b1,o1,rfl,hs1⟩:=hrl.at (by omega);have x1:=hs1 t _ (Zjo list t (by rw[HM.out];exact hlt));unfold vS at x1;have hrs:=UQ.out.below hbw.out (by omega);have y1:=hrs.cell t;rw[Zm5 _ _ (by rw[Zi2];exact hlt),Zsc _ _ _ _ hlt]at y1;have ZA:Hid (Zcv f k list (t+1)=Zcv f k list t++(if Zdu f k t=true then [list.getD t dfS]else [])):=hid rfl;have Q4:=Ziy f k list t;have hsz3:s+1≤wr.heap.size:=Nat.le_trans UQ.out.lt hbw.out.size;have QI:=hid how.out;have Ql:=hid hbw.out;clear how hbw hrl hs1 hrs hbz;generalize list.getD t dfS=x at *;generalize Zdu f k t=ua at *;generalize Zcv f k list t=L at *;cases ua
     ·go_wp2_with fail
      go_roundw
      case rel=>exact⟨t+1,by omega,by go_num,by rw[ZA.out,if_neg (by simp),List.append_nil];exact QI,Ql⟩
      case measure=>simp[intOf];omega
     ·go_wp2_with (at_builtin;refine Zdp rfl (.tmp 41) (.tmp 43) rfl 9 (.string ByteArray.empty) 16 Tryz.underlying196 Tryz.infoStr rfl rfl rfl QI.out hsz3 (by rfl) (by unfold maxLen;omega) (by omega) ?_;intro v' w' ho hb3 _)
      go_roundw
      case rel=>exact⟨t+1,by omega,by go_num,by rw[ZA.out,if_pos rfl,Zwl,List.length_append];exact hid ho,hid (Ql.out.trans hb3)⟩
      case measure=>simp[intOf];omega
    ·obtain rfl:t=m:=by omega
     have QI:=hid how.out;have hbz2:=hid hbz;clear how hbw hbz;go_wp2_with fail
     go_ret;exact⟨_,rfl,Zbc QI.out (by rw[HS.out];omega),hbz2.out⟩
end Go.Proofs.YtmcjknjlihgihaaGreatDoor
namespace Go.Proofs.YtmcjknjlihgihaaGreatDoor
open Go.RowKit Go.Shelf
attribute [local go_sem] Oper.semAt_some
def yv_S (cd wd:Nat) (list:List ByteArray) (ends:List Nat) (base:Int) (lanes:List Nat) (cnt:Nat):List ByteArray :=
 if cd=1∨cd=3 then list else if cd=2 then Zcv (L.laneOf wd lanes) cnt list list.length else (List.range cnt).map (vl_S cd wd list ends base lanes)
set_option maxHeartbeats 8000000 in
theorem Zm4 (w0:World) (lv:Value) (list:List ByteArray) (sb:Nat) (U:Nat→Prop) (hr:∀ W w1:World,Below w0.heap.size w0 W→Mid U W.heap.size W w1→Rd w1 lv list.length 1 (lstS list)) (hll:list.length≤16777216)
  (hs:w0.cell? ⟨sb,0,none⟩=some lv) (hsb:sb<w0.heap.size) (hUs:U sb) :
  Zty Tryz.prog 230 #[.pointer (some ⟨sb,0,none⟩)] (fun x:ByteArray=>#[vS x]) U list w0:=by
 intro l J K W hW hJ hK hY h0;have Qx:=hid (fun(w1:World) (hm:Mid U W.heap.size W w1)=>hr W w1 hW hm);have hcs:W.cell? ⟨sb,0,none⟩=some lv:=by rw[Zkl (hW.block sb hsb)];exact hs
 obtain⟨Al,cl,rfl,hlc,hlm,_⟩:=(Qx.out W (Mid.refl _ _ _)).form;have HY:=hid hY;obtain⟨n,hn⟩:∃ n,list.length=n:=⟨_,rfl⟩;have HN:=hid hn;simp only[hn]at Qx hcs hll hlc;clear hr hs hUs hY hn;refine(callsIn_wide (n:=9)).1 ?_;refine callsIn_of_wp Tryz.func230 rfl trivial ?_ rfl;simp only[Tryz.ntmps230,List.size_toArray,List.length_cons,List.length_nil,Nat.reduceAdd,Nat.reduceSub,Array.replicate_succ,Array.replicate_zero,List.push_toArray,List.append_toArray,List.nil_append,List.cons_append]
 gi_wp2
 gi_loopw [7] (fun i wr=>∃ k:Nat,k≤n∧i=.int .i64 k∧Hid (J (list.take k) wr)∧Hid (Mid U W.heap.size W wr)) (fun i _=>n-(intOf i).toNat)
 case atStart=>exact⟨0,Nat.zero_le _,rfl,hid h0,hid (Mid.refl _ _ _)⟩
 case round =>
  obtain⟨k,hk,rfl,HJ,HM⟩:=hrel;by_cases hlt:k<n
  ·obtain⟨b1,o1,rfl,hs1⟩:=(Qx.out wr HM.out).at (by omega);have hkl:k<list.length:=by rw[HN.out];exact hlt
   have x1:=hs1 k _ (Zjo list k hkl);have htk:list.take (k+1)=list.take k++[list.getD k dfS]:=by
    rw[List.take_succ_eq_append_getElem hkl];simp[List.getD,List.getElem?_eq_getElem hkl]
   have hpre:list.take k++[list.getD k dfS] <+: list:=by rw[← htk];exact List.take_prefix _ _
   obtain⟨fn,tmps,assign,body,hy,hR⟩:=Zhd (m':=8) (HY.out _ _ wr hpre HJ.out HM.out.low.size HM.out);have JC:=hid htk;unfold vS at x1 hy;clear hs1 hpre htk;generalize list.getD k dfS=x at *
   gi_wp2
   refine hR.mono ?_;rintro e w5 ⟨(⟨rfl,hj5⟩ | ⟨rfl,hk5⟩),hm5⟩
   ·have Vq:=hid hj5;have J2:=hid (HM.out.trans hm5);clear hj5 hm5
    gi_wp2
    go_roundw
    case rel=>exact⟨k+1,by omega,by go_num,hid (by rw[JC.out];exact Vq.out),J2⟩
    case measure=>simp[intOf];omega
   ·have XQ:=hid hk5;have J2:=hid (HM.out.trans hm5);clear hk5 hm5
    gi_wp2
    refine bodyPost_ret (results_none rfl _ _ _) rfl ⟨⟨_,rfl⟩,.inr XQ.out,J2.out⟩
  ·obtain rfl:k=n:=by omega
   have HJ2:=hid HJ.out;rw[List.take_of_length_le (by rw[HN.out];exact Nat.le_refl _)]at HJ2
   gi_wp2
   go_end0
   exact⟨⟨_,rfl⟩,.inl HJ2.out,HM.out⟩
theorem Zpb (f:Nat→ByteArray) (n k:Nat) (h:k<n):(List.range k).map f++[f k] <+: (List.range n).map f:=by
 have:(List.range k).map f++[f k]=(List.range (k+1)).map f:=by simp[List.range_succ]
 rw[this];have e:List.range (k+1)=(List.range n).take (k+1):=by rw[List.take_range,Nat.min_eq_left h]
 rw[e];exact(List.take_prefix _ _).map f
set_option maxHeartbeats 8000000 in
theorem Zv2 (wc w0:World) (g:Nat) (rows:Int) (codec wd:Nat) (nulls:List Nat) (cnt:Nat) (list:List ByteArray) (ends:List Nat) (base:Int) (lanes:List Nat) (cb:Nat) (U:Nat→Prop)
  (hk:Ck_S wc g rows codec wd nulls cnt list ends base lanes) (hb:Below wc.heap.size wc w0) (hel:ends.length≤16777216) (hll:list.length≤16777216) (hnv:∀ x∈lanes,x<18446744073709551616) (hcn:cnt≤65536)
  (hok:∀ j,j<cnt→Zla codec wd list ends lanes j) (hs:w0.cell? ⟨cb,0,none⟩=some (.pointer (some ⟨g,0,none⟩))) (hsb:cb<w0.heap.size) (hU:∀ k,k<wc.heap.size→U k) (hUs:U cb) :
  Zty Tryz.prog 196 #[.pointer (some ⟨cb,0,none⟩)] (fun x:ByteArray=>#[vS x]) U ((List.range cnt).map (vl_S codec wd list ends base lanes)) w0:=by
 intro l J K W hW hJ hK hY h0;have Ya:=hid (fun(w1:World) (hm:Mid U W.heap.size W w1)=>(show Below wc.heap.size wc w1 from
  (hb.trans (hW.mono hb.size)).trans (hm.below (by have:=hb.size;have:=hW.size;omega) hU)))
 have Je:=hid (fun(w1:World) (hm:Mid U W.heap.size W w1)=>(show w1.cell? ⟨cb,0,none⟩=some (.pointer (some ⟨g,0,none⟩))from by
  rw[Zkl (hm.keep cb (Nat.lt_of_lt_of_le hsb hW.size) (.inl hUs)),Zkl (hW.block cb hsb)];exact hs))
 have J1:=hid (fun(w1:World) (h1:Below wc.heap.size wc w1) (j:Nat) (hj:j<cnt)=>Zn3 w1 g rows codec wd nulls cnt list ends base lanes j (hk.mono h1) hel hll hnv (by omega) (hok j hj));have Yn:=hid (fun(w1:World) (h1:Below wc.heap.size wc w1)=>(show w1.cell? ⟨g,4,none⟩=some (.int .i64 (cnt:Nat))from by
  obtain⟨nu,lv,ev,nv,bef,q1,_⟩:=(hk.mono h1).ex;rw[q1.cell];rfl))
 have x4:=Yn.out W (Ya.out W (Mid.refl _ _ _));have xb:=Je.out W (Mid.refl _ _ _);have HY:=hid hY;have HWC:Hid (wc.heap.size≤W.heap.size):=hid (Nat.le_trans hb.size hW.size);obtain⟨f,hf⟩:∃ f,vl_S codec wd list ends base lanes=f:=⟨_,rfl⟩;rw[hf]at J1 HY ⊢;have Yf:=hid (fun k (h:k<cnt)=>Zpb f cnt k h);clear hk hb hs hU hUs hY hnv hok hf;refine(callsIn_wide (n:=9)).1 ?_;refine callsIn_of_wp Tryz.func196 rfl trivial ?_ rfl;simp only[Tryz.ntmps196,List.size_toArray,List.length_cons,List.length_nil,Nat.reduceAdd,Nat.reduceSub,Array.replicate_succ,Array.replicate_zero,List.push_toArray,List.append_toArray,List.nil_append,List.cons_append]
 gi_wp2
 clear x4 xb
 gi_loopw [8] (fun i wr=>∃ k:Nat,k≤cnt∧i=.int .i64 k∧Hid (J ((List.range k).map f) wr)∧Hid (Mid U W.heap.size W wr)) (fun i _=>cnt-(intOf i).toNat)
 case atStart=>exact⟨0,Nat.zero_le _,rfl,hid h0,hid (Mid.refl _ _ _)⟩
 case round =>
  obtain⟨k,hk,rfl,HJ,HM⟩:=hrel;by_cases hlt:k<cnt
  ·have Ym:=hid (Ya.out wr HM.out);have HV9:=hid (J1.out wr Ym.out k hlt);have xb:=Je.out wr HM.out;have htk:(List.range (k+1)).map f=(List.range k).map f++[f k]:=by simp[List.range_succ]
   have JC:=hid htk;have HYR:=hid (fun(w2:World) (h2:Below wr.heap.size wr w2)=>HY.out _ _ w2 (Yf.out k hlt) (hJ _ _ _ HJ.out (h2.mono HM.out.low.size)) (Nat.le_trans HM.out.low.size h2.size) (HM.out.trans (Mid.of_below h2)));clear htk;generalize f k=x at *;unfold vS at HV9 HYR
   gi_wp2
   refine⟨trivial,(callsIn_wide.2 HV9.out).mono ?_⟩;rintro e w4 ⟨rfl,hb4⟩;obtain⟨fn,tmps,assign,body,hy,hR⟩:=Zhd (m':=8) (HYR.out w4 hb4);have Qz:=hid hb4;clear hb4
   gi_wp2
   refine hR.mono ?_;rintro e w5 ⟨(⟨rfl,hj5⟩ | ⟨rfl,hk5⟩),hm5⟩
   ·have Vq:=hid hj5;have J2:=hid (HM.out.trans ((Mid.of_below Qz.out).trans hm5));clear hj5 hm5
    gi_wp2
    go_roundw
    case rel=>exact⟨k+1,by omega,by go_num,hid (by rw[JC.out];exact Vq.out),J2⟩
    case measure=>simp[intOf];omega
   ·have XQ:=hid hk5;have J2:=hid (HM.out.trans ((Mid.of_below Qz.out).trans hm5));clear hk5 hm5
    gi_wp2
    refine bodyPost_ret (results_none rfl _ _ _) rfl ⟨⟨_,rfl⟩,.inr XQ.out,J2.out⟩
  ·obtain rfl:k=cnt:=by omega
   gi_wp2
   go_end0
   exact⟨⟨_,rfl⟩,.inl HJ.out,HM.out⟩
theorem Zk5 (w:World) (A:Option Addr) (n c:Nat):Calls Tryz.prog 194 #[.slice A n c] w fun e w' =>
  e=.returned (.func (.func 230) #[] #[.pointer (some ⟨w.heap.size,0,none⟩)])∧w'=w.alloc (.cells #[.slice A n c] 196):=by
 go_enter Tryz.func194,Tryz.ntmps194;go_wp2_with fail
 go_ret;exact⟨rfl,rfl⟩
set_option maxHeartbeats 8000000 in
theorem Zzk (wc w:World) (g:Nat) (rows codec wd:Nat) (nulls:List Nat) (cnt:Nat) (list:List ByteArray) (ends:List Nat) (base:Int) (lanes:List Nat)
  (hk:Ck_S wc g rows codec wd nulls cnt list ends base lanes) (hb:Below wc.heap.size wc w) (hel:ends.length≤16777216) (hll:list.length≤16777216) (hnv:∀ x∈lanes,x<18446744073709551616) (hwd:wd≤64) (hcn:cnt≤65536)
  (hok:∀ j,j<cnt→Zla codec wd list ends lanes j) (hja:codec=2→∀ j,j<cnt→L.laneOf wd lanes j<list.length∧(0<wd→j/(64/wd)<lanes.length)) :
  Calls Tryz.prog 159 #[.pointer (some ⟨g,0,none⟩)] w fun e w'=>∃ gf lb,e=.returned (.func (.func gf) #[] lb)∧Below w.heap.size w w'∧(∀(args:Array Value) (w2:World),(callFunc gf args).run Tryz.prog w2=.ok (.enter gf args) w2) ∧
   ∀ U:Nat→Prop,(∀ k,k<wc.heap.size→U k)→(∀ k,w.heap.size≤k→k<w'.heap.size→U k)→Zty Tryz.prog gf lb (fun x:ByteArray=>#[vS x]) U (yv_S codec wd list ends base lanes cnt) w':=by
 have HUE:=hid (fun(h2:codec=2) (w1:World) (h1:Below wc.heap.size wc w1)=>Zo7 w1 g rows codec wd nulls cnt list ends base lanes (hk.mono h1) hll hnv hwd hcn (hja h2));have HVS:=hid (fun(w1:World) (cb:Nat) (U:Nat→Prop) (h1:Below wc.heap.size wc w1)=>Zv2 wc w1 g rows codec wd nulls cnt list ends base lanes cb U hk h1 hel hll hnv hcn hok);have HQ:=hid (fun(w1:World) (h1:Below wc.heap.size wc w1)=>(hk.mono h1).ex);obtain⟨nu,lv,ev,nv,bef,q1,q2,q3,q4,q5,q6⟩:=hk.ex;have Yt:=hid q3;have Zf:=hid q1;obtain⟨Al,cl,rfl,hlc,hlm,_⟩:=q3.form;have HB:=hid hb;have YG:=hid hll;have UR:=hid (fun(w1:World) (sb:Nat) (U:Nat→Prop) (h1:Below wc.heap.size wc w1) (hU:∀ k,k<wc.heap.size→U k)=>Zm4 w1 (.slice Al list.length cl) list sb U (fun W w2 hW hm =>
  Yt.out.mono ((h1.trans (hW.mono h1.size)).trans (hm.below (by have:=h1.size;have:=hW.size;omega) hU))) hll)
 have HLU:=hid (fun(w1:World) (lv:Value) (ys:List ByteArray) (sb:Nat) (U:Nat→Prop) (B:Nat) (h1:w1.ownsRow B 9 1 lv ys.length (lstS ys)) (hU:∀ k,B≤k→k<w1.heap.size→U k) (h2:ys.length≤16777216)=>Zm4 w1 lv ys sb U (fun W w2 hW hm =>
  Zba (Za5 (Zah h1 hW) (fun k hk=>hm.keep k (Nat.lt_of_lt_of_le (h1.lt k hk).2 hW.size) (.inl (hU k (h1.lt k hk).1 (h1.lt k hk).2))))) h2)
 have hgw:g<wc.heap.size:=q1.lt;clear hk hb hja hok hnv q1 q2 q3 q4 q5 q6 HQ;obtain⟨n,hn⟩:∃ n,list.length=n:=⟨_,rfl⟩;have HN:=hid hn;have Zu:=hid (fun(w1:World) (h1:Below wc.heap.size wc w1)=>(show w1.cell? ⟨g,1,none⟩=some (.int .i64 (codec:Nat))∧w1.cell? ⟨g,5,none⟩=some (.slice Al list.length cl)from by
  have h:=Zf.out.mono h1;exact⟨by rw[h.cell];rfl,by rw[h.cell];rfl⟩))
 simp only[hn]at Zu UR Yt hll hlc;clear hn;go_enter Tryz.func159,Tryz.ntmps159;go_upto_region 1 with fail
 have hf:=Zbe (w:=w) (C:=#[.pointer (some ⟨g,0,none⟩)]) (e:=202);have QD:=hid hf.1;have Qa:=hid hf.2;have hz1:(w.alloc (.cells #[.pointer (some ⟨g,0,none⟩)] 202)).heap.size=w.heap.size+1:=by simp
 have Qy:=hid hz1;have QE:=hid (HB.out.trans (hf.2.mono HB.out.size));clear hf hz1;generalize w.alloc (.cells #[.pointer (some ⟨g,0,none⟩)] 202)=w1 at *;obtain⟨x1,x5⟩:=Zu.out w1 QE.out;have x0:=QD.out.cell 0;have h13:(codec=1∨codec=3)∨codec=2∨(codec≠1∧codec≠3∧codec≠2):=by omega
 rcases h13 with h13 | h2 | h45
 ·have HY:Hid (yv_S codec wd list ends base lanes cnt=list):=hid (by unfold yv_S;rw[if_pos h13]);rcases h13 with rfl | rfl
  all_goals
   go_wp2_with (go_at_call 194;refine(Zk5 w1 Al n cl).mono ?_;rintro e w2 ⟨rfl,hw⟩;have HW:=hid hw;clear hw)
   go_ret;have hf2:=Zbe (w:=w1) (C:=#[.slice Al n cl]) (e:=196);refine⟨_,_,rfl,?_,enters_of Tryz.func230 (by kernel_rfl) rfl,fun U hU1 hU2=>?_⟩
   ·rw[HW.out];exact Zac Qa.out hf2.2
   ·rw[HY.out];rw[HW.out]at hU2 ⊢;have hs2:(w1.alloc (.cells #[.slice Al n cl] 196)).heap.size=w1.heap.size+1:=by simp
    exact UR.out _ w1.heap.size U (QE.out.trans (hf2.2.mono QE.out.size)) hU1 (by rw[hf2.1.cell];rfl) (by omega) (hU2 _ Qa.out.size (by omega))
 ·subst h2;have HY:Hid (yv_S 2 wd list ends base lanes cnt=Zcv (L.laneOf wd lanes) cnt list list.length):=hid (by unfold yv_S;rw[if_neg (by omega),if_pos rfl]);have HU2:=hid (HUE.out rfl w1 QE.out);have hul:=Ziy (L.laneOf wd lanes) cnt list list.length;have hul2:(Zcv (L.laneOf wd lanes) cnt list list.length).length≤16777216:=by have:=YG.out;omega
  generalize Zcv (L.laneOf wd lanes) cnt list list.length=ys at *;clear hul;go_wp2_with (first
   | (go_at_call 195;refine HU2.out.mono ?_;rintro e w2 ⟨v2,rfl,ho2,hb2⟩;obtain⟨A2,c2,rfl⟩:=Zag ho2;have Yk:=hid ho2;have Qb:=hid hb2;clear ho2 hb2)
   | (go_at_call 194;refine(Zk5 w2 _ _ _).mono ?_;rintro e w3 ⟨rfl,hw⟩;have HW:=hid hw;clear hw))
  go_ret;have hf2:=Zbe (w:=w2) (C:=#[.slice A2 ys.length c2]) (e:=196);refine⟨_,_,rfl,?_,enters_of Tryz.func230 (by kernel_rfl) rfl,fun U hU1 hU2=>?_⟩
  ·rw[HW.out];exact Zac (Zac Qa.out Qb.out) hf2.2
  ·rw[HY.out];rw[HW.out]at hU2 ⊢;have hs2:(w2.alloc (.cells #[.slice A2 ys.length c2] 196)).heap.size=w2.heap.size+1:=by simp
   have ho3:=Zah Yk.out hf2.2;exact HLU.out _ (.slice A2 ys.length c2) ys w2.heap.size U w1.heap.size ho3 (fun k h1 h3=>hU2 k (by have:=Qa.out.size;omega) h3) hul2 (by rw[hf2.1.cell];rfl) (by omega) (hU2 _ (Nat.le_trans Qa.out.size Qb.out.size) (by omega))
 ·have HY:Hid (yv_S codec wd list ends base lanes cnt=(List.range cnt).map (vl_S codec wd list ends base lanes)):=hid (by unfold yv_S;rw[if_neg (by omega),if_neg (by omega)]);have e1:((codec:Int)==1)=false:=by simp;omega
  have e3:((codec:Int)==3)=false:=by simp;omega
  have e2:((codec:Int)==2)=false:=by simp;omega
  clear h45;go_wp2_with fail
  go_ret;refine⟨_,_,rfl,Qa.out,enters_of Tryz.func196 (by kernel_rfl) rfl,fun U hU1 hU2=>?_⟩;rw[HY.out];exact HVS.out w1 w.heap.size U QE.out (by rw[QD.out.cell];rfl) (by rw[Qy.out];omega) hU1 (hU2 _ (Nat.le_refl _) (by rw[Qy.out];omega))
end Go.Proofs.YtmcjknjlihgihaaGreatDoor
namespace Go.Proofs.YtmcjknjlihgihaaGreatDoor
open Go.RowKit
def endB (ends:List Nat) (t:Nat):Nat:=if t=0 then 0 else ends.getD (t-1) 0
theorem Zuu (xs:List Nat) (k:Nat) (h:k<xs.length):(nI xs).getD k 0=(xs.getD k 0:Nat):=by
 unfold nI;simp[List.getD,List.getElem?_map,List.getElem?_eq_getElem h]
def Z2h (cd:Nat):Prop:=True
structure LnD_I (codec wd count:Nat) (list:List Int) (base:Int) (lanes:List Nat):Prop where
 cd:codec=2∨codec=4∨codec=5
 cd2:Z2h codec
 ok:Za9 wd count lanes=true
 lv:∀ x∈lanes,x<18446744073709551616
 lm:lanes.length≤16777216
 ll:list.length≤1048576
 cn:count≤65536
 up:codec=2→∀ a b,a<b→b<list.length→list.getD a 0<list.getD b 0
 inl:codec=2→∀ j,j<count→L.laneOf wd lanes j<list.length
 b:okI base
 rm:codec≠2→∀ j,j<count→base+(L.laneOf wd lanes j:Int)≤9223372036854775807
def Z1u (codec wd count:Nat) (list:List Int) (ends:List Nat) (base:Int) (lanes:List Nat):Prop :=
 (codec=1∧list.length=count∧count≤65536) ∨
 (codec=3∧list.length=ends.length∧count≤65536∧ends.length≤65536∧(∀ a b,a<b→b<ends.length→ends.getD a 0<ends.getD b 0)∧endB ends ends.length=count) ∨
 LnD_I codec wd count list base lanes
structure FilD_I (rows:Nat) (xs:List Nat):Prop where
 pk:Za9 1 rows (Zaa rows xs).nulls=true
 hd:Z1u (Zaa rows xs).codec (Zaa rows xs).wd (Za8 rows (Zaa rows xs).nulls) (Zal rows xs).list (Zal rows xs).ends (Zco rows xs) (Zal rows xs).lanes
set_option maxRecDepth 20000
theorem Z1c {vals:List Int} (h:Zbd geI vals=true):∀ a b,a<b→b<vals.length→vals.getD a 0<vals.getD b 0:=by
 have h1:=(Zca geI 0 vals).1 h;intro a b hab
 induction b with
 | zero=>omega
 | succ b ih =>
  intro hb;have h2:=h1 b hb;unfold geI at h2;simp only[decide_eq_false_iff_not]at h2;by_cases he:a=b
  ·subst he;omega
  ·have:=ih (by omega) (by omega);omega
theorem Zyl (es:List Int):∀ l k,Za4 l es=some k→k=if es.length=0 then l else es.getD (es.length-1) 0:=by
 induction es with
 | nil=>intro l k h;simp[Za4]at h;simp[h]
 | cons e r ih =>
  intro l k h;simp only[Za4]at h
  split at h
  ·cases h
  ·have:=ih e k h;rw[this];cases r with
   | nil=>simp
   | cons f r=>simp
theorem Zuq {es:List Nat} {k:Nat} (h:Za1 (nI es) k=true) (hk:k≤65536):es.length≤65536∧(∀ a b,a<b→b<es.length→es.getD a 0<es.getD b 0)∧endB es es.length=k:=by
 have h1:Za4 0 (nI es)=some (k:Int):=by simpa [Za1]using h
 have hasc:=Ze8 h;rw[Zas]at hasc;have hasc2:∀ a b,a<b→b<es.length→es.getD a 0<es.getD b 0:=fun a b hab hb=>by
  have:=hasc a b hab hb;rw[Zuu es a (by omega),Zuu es b hb]at this;omega
 have hgt:=Zi7 (nI es) 0 k h1;rw[Zas]at hgt;have hge:∀ i,i<es.length→i+1≤es.getD i 0:=by
  intro i
  induction i with
  | zero=>intro hi;have:=hgt 0 hi;rw[Zuu es 0 hi]at this;omega
  | succ i ih=>intro hi;have:=ih (by omega);have:=hasc2 i (i+1) (by omega) hi;omega
 have hlast:=Zyl (nI es) 0 k h1;rw[Zas]at hlast;have hend:endB es es.length=k:=by
  unfold endB;by_cases h0:es.length=0
  ·rw[if_pos h0]at hlast ⊢;omega
  ·rw[if_neg h0,Zuu es _ (by omega)]at hlast;rw[if_neg h0];omega
 refine⟨?_,hasc2,hend⟩;by_cases h0:es.length=0
 ·omega
 ·have:=hge (es.length-1) (by omega);unfold endB at hend;rw[if_neg h0]at hend;omega
theorem Z11 (rows:Nat) (xs:List Nat) (hb:∀ x∈xs,x<256) (hl:xs.length≤16777216) (hrr:rows≤65536) (h:Zce rows xs=true):FilD_I rows xs:=by
 unfold Zce Zgu at h;simp only[Bool.and_eq_true,Bool.not_eq_true',decide_eq_true_eq]at h;obtain⟨⟨hpk,hcd⟩,hOb,hOs,hOl⟩:=h;refine⟨hpk,?_⟩;have hx3:(Zaa rows xs).left.length≤16777216:=Nat.le_trans (Zbn _ _) (Nat.le_trans (Zbn _ _) (Nat.le_trans (Zbn _ _) hl));have hb3:∀ x∈(Zaa rows xs).left,x<256:=Zau (Zau (Zau hb));have hk6:Za8 rows (Zaa rows xs).nulls≤65536:=by unfold Za8;omega
 unfold Zal Zco at *;generalize Za8 rows (Zaa rows xs).nulls=k at *;generalize (Zaa rows xs).left=x3 at *;generalize (Zaa rows xs).short=t3 at *;generalize (Zaa rows xs).codec=cd at *;generalize (Zaa rows xs).wd=wd at *;have hcdk:1≤cd∧cd≤5:=by
  unfold Zbj at hcd
  split at hcd
  ·omega
  ·simp only[decide_eq_true_eq]at hcd;omega
 unfold Zbf at *;by_cases h1:cd=1
 ·subst h1;rw[if_pos rfl]at *;unfold Zbt at *;simp only[Bool.and_eq_true,decide_eq_true_eq]at *;exact .inl ⟨rfl,Zei hOb.1 hOs,hk6⟩
 by_cases h2:cd=2
 ·subst h2;rw[if_neg (by decide),if_pos rfl]at *;unfold Zbu at *
  split at hOb
  ·cases hOb
  ·rename_i hc
   rw[if_neg hc]at *;have hxl1:(tkL 4 x3).length≤16777216:=Nat.le_trans (Zbn _ _) hx3;have hxb1:∀ x∈tkL 4 x3,x<256:=Zau hb3;have hrb:=(Zeq (L.wordOf 8 (tk 4 x3)) (tkL 4 x3) (tkS 4 x3 t3)).2 256 hxb1;have hlb:=(Zeq (L.wordOf 8 (tk 4 x3)) (tkL 4 x3) (tkS 4 x3 t3)).1;have hfl:=@Zei (L.wordOf 8 (tk 4 x3)) (tkL 4 x3) (tkS 4 x3 t3);generalize rdI (L.wordOf 8 (tk 4 x3)) (tkL 4 x3) (tkS 4 x3 t3)=R at *;generalize L.wordOf 8 (tk 4 x3)=dd at *;obtain⟨vals,ok,xl,s1⟩:=R;simp only at *
   split at hOb
   ·rename_i hoa
    rw[if_pos hoa]at *;simp only at *;obtain⟨l1,l2,l3,l4⟩:=Zcd hOb;have hs1:=(Zb6 hOs).2;simp only[Bool.and_eq_true]at hoa;have hvl:=hfl hoa.1 hs1;refine .inr (.inr ⟨.inl rfl,by first | trivial | rfl,(Zbl _ l1 l2).2 l3,Zfn hrb,?_,by omega,hk6,fun _=>Z1c hoa.2,fun _ j hj=>?_,?_,fun hh=>absurd rfl hh⟩)
    ·rw[Zfj];omega
    ·have:=l4 j hj;unfold Zcc at this;simp at this;omega
    ·unfold Zde okI;simp
   ·cases hOb
 by_cases h3:cd=3
 ·subst h3;rw[if_neg (by decide),if_neg (by decide),if_pos rfl]at *;unfold Zbo at *
  split at hOb
  ·cases hOb
  ·rename_i hc
   rw[if_neg hc]at *;have hfl:=@Zei (L.wordOf 8 (tk 4 x3)) (tkL (4*L.wordOf 8 (tk 4 x3)) (tkL 4 x3)) (tkS (4*L.wordOf 8 (tk 4 x3)) (tkL 4 x3) (tkS 4 x3 t3));have hsh:=Zkm (L.wordOf 8 (tk 4 x3)) (tkL (4*L.wordOf 8 (tk 4 x3)) (tkL 4 x3)) (tkS (4*L.wordOf 8 (tk 4 x3)) (tkL 4 x3) (tkS 4 x3 t3));have hel:tkS (4*L.wordOf 8 (tk 4 x3)) (tkL 4 x3) (tkS 4 x3 t3)=false→(numL 4 (tk (4*L.wordOf 8 (tk 4 x3)) (tkL 4 x3))).length=L.wordOf 8 (tk 4 x3):=fun h=>by
    rw[Zan,Zk1 (Zb6 h).1];omega
   generalize rdI (L.wordOf 8 (tk 4 x3)) (tkL (4*L.wordOf 8 (tk 4 x3)) (tkL 4 x3)) (tkS (4*L.wordOf 8 (tk 4 x3)) (tkL 4 x3) (tkS 4 x3 t3))=R at *;generalize numL 4 (tk (4*L.wordOf 8 (tk 4 x3)) (tkL 4 x3))=es at *;generalize tkS (4*L.wordOf 8 (tk 4 x3)) (tkL 4 x3) (tkS 4 x3 t3)=s2 at *;generalize L.wordOf 8 (tk 4 x3)=dd at *;obtain⟨vals,ok,xl,s1⟩:=R;simp only[Bool.and_eq_true]at *;have hvl:=hfl hOb.1 hOs;have hed:=hel (hsh hOs);have hre:Za1 (nI es) k=true:=by
    cases hx:Za1 (nI es) k with
    | true=>rfl
    | false=>exact absurd (.inr hx) hc
   obtain⟨r1,r2,r3⟩:=Zuq hre hk6;exact .inr (.inl ⟨rfl,by rw[hvl,hed],hk6,r1,r2,r3⟩)
 ·rw[if_neg h1,if_neg h2,if_neg h3]at *;have h45:cd=4∨cd=5:=by omega
  rcases h45 with rfl | rfl
  ·rw[if_pos rfl]at *;unfold Zdr at *;simp only at *;obtain⟨l1,l2,l3,l4⟩:=Zcd hOb;have hbd:=Zjp (L.wordOf 8 (tk 8 x3));have hbp:Zde 4 x3=Zcf (L.wordOf 8 (tk 8 x3)):=if_pos rfl;rw[hbp]at l4 ⊢;have hxl1:(tkL 8 x3).length≤16777216:=Nat.le_trans (Zbn _ _) hx3;refine .inr (.inr ⟨.inr (.inl rfl),trivial,(Zbl _ l1 l2).2 l3,Zfn (Zau hb3),?_,by simp,hk6,fun hh=>absurd hh (by decide),fun hh=>absurd hh (by decide),hbd,fun _ j hj=>?_⟩)
   ·rw[Zfj];omega
   ·have:=l4 j hj;unfold Zcc Zfl at this;simp at this;omega
  ·rw[if_neg (by decide)]at *;unfold Zdr at *;simp only at *;obtain⟨l1,l2,l3,l4⟩:=Zcd hOb;have hbp:Zde 5 x3=0:=if_neg (by decide);rw[hbp];refine .inr (.inr ⟨.inr (.inr rfl),trivial,(Zbl _ l1 l2).2 l3,Zfn hb3,?_,by simp,hk6,fun hh=>absurd hh (by decide),fun hh=>absurd hh (by decide),by unfold okI;omega,fun _ j hj=>?_⟩)
   ·rw[Zfj];omega
   ·have:=l4 j hj;unfold Zcc Zfl at this;simp at this;omega
theorem Z2g {rows:Nat} {xs:List Nat} (h:Zce rows xs=true) (hc:(Zaa rows xs).codec=1∨(Zaa rows xs).codec=3):(Zaa rows xs).wd=0:=by
 unfold Zce at h;simp only[Bool.and_eq_true]at h;have hb:=h.2.1;unfold Zal Zbf at hb;rcases hc with e | e
 ·rw[e,if_pos rfl]at hb;unfold Zbt at hb;simp at hb;omega
 ·rw[e,if_neg (by decide),if_neg (by decide),if_pos rfl]at hb;unfold Zbo at hb
  split at hb
  ·cases hb
  ·rename_i hc
   simp only[not_or]at hc;omega
theorem Z15 (rows:Nat) (xs:List Nat) (hb:∀ x∈xs,x<256) (hl:xs.length≤16777216) (hrr:rows≤65536) (h:Zce rows xs=true):(Zaa rows xs).wd≤64:=by
 have hF:=(Z11 rows xs hb hl hrr h).hd;have hw13:=Z2g h;have hk6:Za8 rows (Zaa rows xs).nulls≤65536:=by unfold Za8;omega
 rcases hF with ⟨h1,_⟩ | ⟨h1,_⟩ | h1
 ·rw[hw13 (.inl h1)];decide
 ·rw[hw13 (.inr h1)];decide
 ·have h2:=h1.ok;by_cases hc:0≤((Zaa rows xs).wd:Int)∧((Zaa rows xs).wd:Int)≤64∧0≤((Za8 rows (Zaa rows xs).nulls:Nat):Int)∧((Za8 rows (Zaa rows xs).nulls:Nat):Int)≤65536
  ·omega
  ·rw[Zda _ hc]at h2;cases h2
set_option maxRecDepth 100000
def Z2i (cd:Nat):Prop:=cd=2
structure LnD_S (codec wd count:Nat) (list:List ByteArray) (base:Int) (lanes:List Nat):Prop where
 cd:codec=2∨codec=4∨codec=5
 cd2:Z2i codec
 ok:Za9 wd count lanes=true
 lv:∀ x∈lanes,x<18446744073709551616
 lm:lanes.length≤16777216
 ll:list.length≤1048576
 cn:count≤65536
 up:codec=2→∀ a b,a<b→b<list.length→ltS (list.getD a ByteArray.empty) (list.getD b ByteArray.empty)=true
 inl:codec=2→∀ j,j<count→L.laneOf wd lanes j<list.length
 b:okI base
 rm:codec≠2→∀ j,j<count→base+(L.laneOf wd lanes j:Int)≤9223372036854775807
def Z14 (codec wd count:Nat) (list:List ByteArray) (ends:List Nat) (base:Int) (lanes:List Nat):Prop :=
 (codec=1∧list.length=count∧count≤65536) ∨
 (codec=3∧list.length=ends.length∧count≤65536∧ends.length≤65536∧(∀ a b,a<b→b<ends.length→ends.getD a 0<ends.getD b 0)∧endB ends ends.length=count) ∨
 LnD_S codec wd count list base lanes
structure FilD_S (rows:Nat) (xs:List Nat):Prop where
 pk:Za9 1 rows (Zaa rows xs).nulls=true
 hd:Z14 (Zaa rows xs).codec (Zaa rows xs).wd (Za8 rows (Zaa rows xs).nulls) (Zaj rows xs).list (Zaj rows xs).ends (Zcj rows xs) (Zaj rows xs).lanes
end Go.Proofs.YtmcjknjlihgihaaGreatDoor
