/- The plain answer: values as pairs, their order, lists of them whatever the kind. -/
import Derived.Test.YtmcjknjlihgihaaGreatDoorLawparseuptoM9
set_option linter.unusedVariables false
set_option linter.unusedSimpArgs false
set_option linter.unnecessarySimpa false
set_option maxRecDepth 100000
namespace Go.Proofs.YtmcjknjlihgihaaGreatDoor
open Go.RowKit
theorem Ze2 {w:World} {B C:Nat} {e:TypeId} {v:Value} {n:Nat} {cs:List Value} (h:w.ownsRow B e 3 v n cs) (hC:C≤B):w.ownsRow C e 3 v n cs:=by
 refine⟨h.1,?_⟩;rcases h.2 with hn | ⟨g,cap,cur,rfl,hb',hg,r⟩
 ·exact .inl hn
 ·exact .inr ⟨g,cap,cur,rfl,Nat.le_trans hC hb',hg,r⟩
def Zii (xs:List Int):List Value:=xs.flatMap Zhk
def Zly (xs:List ByteArray):List Value:=xs.flatMap Zi4
theorem Zmv (xs:List Int) (x:Int):Zii (xs++[x])=Zii xs++Zhk x:=by simp[Zii]
theorem Zmk (xs:List ByteArray) (x:ByteArray):Zly (xs++[x])=Zly xs++Zi4 x:=by simp[Zly]
theorem Zgk {α β : Type} (f : α→β) (d : α) (xs:List α) (j:Nat) (h:j<xs.length):(xs.take (j+1)).map f=(xs.take j).map f++[f (xs.getD j d)]:=by
 rw[List.take_succ_eq_append_getElem h,List.map_append];simp[List.getD,List.getElem?_eq_getElem h]
def vsum (base:Int) (x:Nat):Int:=wrap64 (IntKind.u64.wrap (IntKind.u64.wrap base+(x:Int)))
def fits (base:Int) (ls:List Nat):Bool:=ls.all fun x=>decide (x≤Zfl base)
def Zi9 (base:Int) (ls:List Nat):List Int:=if fits base ls=true then ls.map (vsum base)else []
theorem Zqi (wd k p:Nat) (xs:List Nat):∀ x∈Zbm wd k p xs,x<18446744073709551616:=by
 intro x hx;unfold Zbm at hx
 split at hx
 ·rename_i h
  have hw:wd≤64:=by
   unfold Zbx Za9 Zj2 at h;simp only[Bool.and_eq_true,decide_eq_true_eq]at h;omega
  have h1:=L.lanesL_lt wd k _ x hx;have h2:=Zcw hw;omega
 ·cases hx
theorem Zn8 (wd k p:Nat) (xs:List Nat):(Zbm wd k p xs).length≤65536:=by
 unfold Zbm
 split
 ·rename_i h
  rw[L.lanesL_length];unfold Zbx Za9 Zj2 at h;simp only[Bool.and_eq_true,decide_eq_true_eq]at h;omega
 ·simp
set_option maxHeartbeats 4000000 in
theorem Zn9 (v:Value) (xs:List Nat) (p wd k:Nat) (base:Int) (w:World) (hx:Rd w v xs.length 1 (u8s xs)) (hb:∀ x∈xs,x<256) (hl:xs.length≤16777216) (hp:p≤1099511627776)
  (hb1 : -9223372036854775808≤base) (hb2:base≤9223372036854775807) :
  Calls Tryz.prog 165 #[v,.int .i64 p,.int .i64 wd,.int .i64 k,.int .i64 base] w fun e w' =>
   ∃ u,e=.returned (.tuple #[u,.bool (fits base (Zbm wd k p xs)&&Zbx wd k p xs)]) ∧
    w'.ownsRow w.heap.size 36 3 u (Zi9 base (Zbm wd k p xs)).length (Zii (Zi9 base (Zbm wd k p xs)))∧Below w.heap.size w w':=by
 have HL:=hid (Zl2 v xs p wd k w hx hb hl hp);have hlv:=Zqi wd k p xs;have hll:=Zn8 wd k p xs;obtain⟨A,ca,rfl,_,_,_⟩:=hx.form;generalize Zbm wd k p xs=ls at *;generalize Zbx wd k p xs=ok at *;have hroom:=Zt8 base hb1 hb2;have HF:Hid (Zi9 base ls=if fits base ls=true then ls.map (vsum base)else []):=hid rfl;have HFF:Hid (∀ j,j<ls.length→¬ ls.getD j 0≤Zfl base→fits base ls=false):=by
  refine hid fun j hj h=>?_
  rw[← Bool.not_eq_true];intro hf;simp only[fits,List.all_eq_true,decide_eq_true_eq]at hf;exact h (hf _ (by simp[List.getD,List.getElem?_eq_getElem hj]))
 have HFT:Hid ((∀ j,j<ls.length→ls.getD j 0≤Zfl base)→fits base ls=true):=by
  refine hid fun h=>?_
  simp only[fits,List.all_eq_true,decide_eq_true_eq];intro x hx;obtain⟨t,ht,rfl⟩:=List.getElem_of_mem hx;have:=h t ht;simpa [List.getD,List.getElem?_eq_getElem ht]using this
 generalize Zfl base=rm at *;generalize fits base ls=F at *;generalize Zi9 base ls=SL at *;have Uy:=hid (fun j h=>Zgk (vsum base) 0 ls j h);obtain⟨B,hB⟩:∃ B,w.heap.size=B:=⟨_,rfl⟩;have Y8:=hid hB;rw[hB];have ZI:=hid hlv;clear hx hb hB hlv;go_enter Tryz.func165,Tryz.ntmps165;go_wp2_with fail
 refine HL.out.mono ?_;rintro e w1 ⟨u,rfl,ho,hb1'⟩;have hf:=Zba ho;obtain⟨A1,c1,rfl,_,_,hA1⟩:=hf.form;have Qx:=hid hf;have Qa:=hid hb1';clear ho hf hb1' HL hA1;go_wp2;go_loopw [14,27] (fun u i wr=>∃ j:Nat,j≤ls.length∧i=.int .i64 j∧wr.ownsRow w1.heap.size 36 3 u j (Zii ((ls.take j).map (vsum base)))∧Below w1.heap.size w1 wr∧Hid (∀ t,t<j→ls.getD t 0≤rm)) (fun _ i _=>ls.length-(intOf i).toNat)
 case atStart=>exact⟨0,by omega,rfl,by simpa [Zii]using World.ownsRow_nil _ _ _ _,Zab w1,hid (fun t h=>absurd h (Nat.not_lt_zero t))⟩
 case round =>
  obtain⟨j,hj,rfl,hown,hbw,hall⟩:=hrel;have Qi:=hid hown;obtain⟨A2,c2,rfl⟩:=Zb1 hown;clear hown;by_cases hlt:j<ls.length
  ·obtain⟨A3,c3,he,_,_,hA3⟩:=(Qx.out.mono hbw).form;cases he;obtain⟨b,o,rfl,hs⟩:=hA3 (by omega);have c1':=hs.word j hlt;have hx64:=ZI.out (ls.getD j 0) (by simp[List.getD,List.getElem?_eq_getElem hlt]);have QC:=hid (Uy.out j hlt);have QG:=hid (HFF.out j hlt);have Qf:Hid (ls.getD j 0≤rm→∀ t,t<j+1→ls.getD t 0≤rm):=by
    refine hid fun h t ht=>?_
    by_cases htj:t=j
    ·subst htj;exact h
    ·exact hall.out t (by omega)
   have hBw:w1.heap.size≤wr.heap.size:=hbw.size;have HVS:Hid (vsum base (ls.getD j 0)=wrap64 (IntKind.u64.wrap (IntKind.u64.wrap base+((ls.getD j 0:Nat):Int)))):=hid rfl;clear hs hA3 hall;generalize ls.getD j 0=x at *;by_cases hxr:x≤rm
   ·have hxi:¬ (x:Int) > (rm:Int):=by omega
    go_wp2_with (at_builtin;refine Zb4 rfl (.tmp 36) (.tmp 43) rfl 36 [.bool false,.int .i64 0,.string ByteArray.empty] 32 Tryz.underlying78 Tryz.infoCell rfl rfl rfl Qi.out hBw (by intro u hu;simp at hu;rcases hu with rfl | rfl | rfl<;>rfl) (by unfold maxLen;omega) (by omega) ?_;intro v' w' ho hb3)
    go_roundw
    case rel =>
     refine⟨j+1,by omega,by go_num,?_,hbw.trans hb3,hid (Qf.out hxr)⟩;rw[QC.out,Zmv,HVS.out];exact ho
    case measure=>simp[intOf];omega
   ·have hxi:(x:Int) > (rm:Int):=by omega
    have hff:=QG.out hxr;go_wp2;go_ret2
    have hsl:=HF.out;rw[hff,if_neg (by simp)]at hsl;rw[hff,hsl];exact⟨_,by rw[Bool.false_and];rfl,World.ownsRow_nil _ _ _ _,by rw[← Y8.out];exact Zac Qa.out hbw⟩
  ·obtain rfl:j=ls.length:=by omega
   have hft:=HFT.out hall.out;go_wp2;go_ret2
   have hsl:=HF.out;rw[hft,if_pos rfl]at hsl;rw[hft,hsl];refine⟨_,by rw[Bool.true_and];rfl,?_,by rw[← Y8.out];exact Zac Qa.out hbw⟩;have:=Qi.out;rw[List.take_length]at this;rw[List.length_map];exact Ze2 this (by have:=Y8.out;have:=Qa.out.size;omega)
theorem Rd.short {w:World} {A:Option Addr} {c L:Nat} {xs:List Nat} (h:Rd w (.slice A L c) xs.length 1 (u8s xs)) (n:Nat) (hn:n≤xs.length):Rd w (.slice A n c) (xs.take n).length 1 (u8s (xs.take n)):=by
 have hl:(xs.take n).length=n:=by rw[List.length_take];omega
 rw[hl];refine⟨by rw[Zcm,hl];omega,?_⟩;rcases h.2 with ⟨⟨A',e⟩,h0⟩ | ⟨b,o,cap,e,h1,h2,hs⟩
 ·simp only[Value.slice.injEq]at e;obtain⟨rfl,rfl,rfl⟩:=e;obtain rfl:n=0:=by omega
  exact .inl ⟨⟨A,rfl⟩,rfl⟩
 ·cases e;refine .inr ⟨b,o,c,rfl,by omega,h2,fun i v hv=>hs i v ?_⟩;rw[← Zoj,List.getElem?_take]at hv
  split at hv
  ·exact hv
  ·cases hv
theorem Zix (size c:Nat) (xs:List Nat) (hl:xs.length≤16777216) (h0:1≤size):(numL size (tk c xs)).length≤16777216:=by
 rw[Zan];unfold tk;split
 ·rw[List.length_take];exact Nat.le_trans (Nat.div_le_self _ _) (Nat.le_trans (Nat.min_le_right _ _) hl)
 ·simp
set_option maxHeartbeats 4000000 in
theorem Zs5 (v:Value) (xs:List Nat) (p m:Nat) (w:World) (hx:Rd w v xs.length 1 (u8s xs)) (hb:∀ x∈xs,x<256) (hl:xs.length≤16777216) (hp:p≤1099511627776) (hm:m≤4294967296) :
  Calls Tryz.prog 166 #[v,.int .i64 p,.int .i64 1,.int .i64 m] w fun e w' =>
   ∃ u,e=.returned (.tuple #[u,.int .i64 (if Zav 8 m p xs.length=true then p+8*m else 0:Nat),.bool (Zav 8 m p xs.length)]) ∧
    w'.ownsRow w.heap.size 36 3 u ((numL 8 (tk (8*m) (xs.drop p))).map Zcf).length (Zii ((numL 8 (tk (8*m) (xs.drop p))).map Zcf))∧Below w.heap.size w w':=by
 have HN:=hid (Zcn v xs p 8 m w hx hb hl (.inr rfl) hp hm);have hyl:(numL 8 (tk (8*m) (xs.drop p))).length≤16777216:=Zix _ _ _ (by rw[List.length_drop];omega) (by omega);have hyv:∀ x∈numL 8 (tk (8*m) (xs.drop p)),x<18446744073709551616:=Zdz (Zdh (fun x h=>hb x (List.mem_of_mem_drop h))) (by omega);obtain⟨A,ca,rfl,_,_,_⟩:=hx.form;generalize numL 8 (tk (8*m) (xs.drop p))=ys at *;generalize (if Zav 8 m p xs.length=true then p+8*m else 0)=nx at *;generalize Zav 8 m p xs.length=ok at *;have Uy:=hid (fun j h=>Zgk Zcf 0 ys j h);obtain⟨B,hB⟩:∃ B,w.heap.size=B:=⟨_,rfl⟩;have Y8:=hid hB;rw[hB];clear hx hb hB;go_enter Tryz.func166,Tryz.ntmps166;go_wp2_with fail
 refine HN.out.mono ?_;rintro e w1 ⟨u,rfl,ho,hb1⟩;have hf:=Zba ho;obtain⟨A1,c1,rfl,_,_,hA1⟩:=hf.form;have Qx:=hid hf;have Qa:=hid hb1;clear ho hf hb1 HN hA1;go_wp2;go_loopw [11,36] (fun u i wr=>∃ j:Nat,j≤ys.length∧i=.int .i64 j∧wr.ownsRow w1.heap.size 36 3 u j (Zii ((ys.take j).map Zcf))∧Below w1.heap.size w1 wr) (fun _ i _=>ys.length-(intOf i).toNat)
 case atStart=>exact⟨0,by omega,rfl,by simpa [Zii]using World.ownsRow_nil _ _ _ _,Zab w1⟩
 case round =>
  obtain⟨j,hj,rfl,hown,hbw⟩:=hrel;have Qi:=hid hown;obtain⟨A2,c2,rfl⟩:=Zb1 hown;clear hown;by_cases hlt:j<ys.length
  ·obtain⟨A3,c3,he,_,_,hA3⟩:=(Qx.out.mono hbw).form;cases he;obtain⟨b,o,rfl,hs⟩:=hA3 (by omega);have c1':=hs.word j hlt;have hx64:=hyv (ys.getD j 0) (by simp[List.getD,List.getElem?_eq_getElem hlt]);have QC:=hid (Uy.out j hlt);have hBw:w1.heap.size≤wr.heap.size:=hbw.size;clear hs hA3;generalize ys.getD j 0=x at *;go_wp2_with (at_builtin;refine Zb4 rfl (.tmp 40) (.tmp 44) rfl 36 [.bool false,.int .i64 0,.string ByteArray.empty] 32 Tryz.underlying78 Tryz.infoCell rfl rfl rfl Qi.out hBw (by intro u hu;simp at hu;rcases hu with rfl | rfl | rfl<;>rfl) (by unfold maxLen;omega) (by omega) ?_;intro v' w' ho hb3)
   go_roundw
   case rel =>
    refine⟨j+1,by omega,by go_num,?_,hbw.trans hb3⟩;rw[QC.out,Zmv];exact ho
   case measure=>simp[intOf];omega
  ·obtain rfl:j=ys.length:=by omega
   go_wp2;go_ret3
   refine⟨_,rfl,?_,by rw[← Y8.out];exact Zac Qa.out hbw⟩;have:=Qi.out;rw[List.take_length]at this;rw[List.length_map];exact Ze2 this (by have:=Y8.out;have:=Qa.out.size;omega)
def Ze6 (m p:Nat) (xs:List Nat):Bool:=Zav 4 m p xs.length&&match Zay 0 (nI (numL 4 (tk (4*m) (xs.drop p))))with
 | none=>false
 | some sz=>decide (sz≤((xs.length-(p+4*m):Nat):Int))
def Zng (m p:Nat) (xs:List Nat):List ByteArray:=if Ze6 m p xs=true then cutS 0 (xs.drop (p+4*m)) (nI (numL 4 (tk (4*m) (xs.drop p))))else []
def Zju (m p:Nat) (xs:List Nat):Nat:=if Ze6 m p xs=true then p+4*m+(tsz (nI (numL 4 (tk (4*m) (xs.drop p))))).toNat else 0
set_option maxHeartbeats 8000000 in
theorem Zsy (v:Value) (xs:List Nat) (p m:Nat) (w:World) (hx:Rd w v xs.length 1 (u8s xs)) (hb:∀ x∈xs,x<256) (hl:xs.length≤16777216) (hp:p≤1099511627776) (hm:m≤4294967296) :
  Calls Tryz.prog 166 #[v,.int .i64 p,.int .i64 2,.int .i64 m] w fun e w' =>
   ∃ u,e=.returned (.tuple #[u,.int .i64 (Zju m p xs:Nat),.bool (Ze6 m p xs)]) ∧
    w'.ownsRow w.heap.size 36 3 u (Zng m p xs).length (Zly (Zng m p xs))∧Below w.heap.size w w':=by
 have HN:=hid (Zcn v xs p 4 m w hx hb hl (.inl rfl) hp hm);have hyl:(numL 4 (tk (4*m) (xs.drop p))).length≤16777216:=Zix _ _ _ (by rw[List.length_drop];omega) (by omega);have hyv:∀ x∈numL 4 (tk (4*m) (xs.drop p)),x<4294967296:=Zod (Zdh (fun x h=>hb x (List.mem_of_mem_drop h)));have HX:=hid hx;obtain⟨A,ca,rfl,hlc,hcm,hA⟩:=hx.form;cases hok:Zav 4 m p xs.length with
 | false =>
  have e1:Ze6 m p xs=false:=by unfold Ze6;rw[hok,Bool.false_and]
  have e2:Zng m p xs=[]:=by unfold Zng;rw[e1];simp
  have e3:Zju m p xs=0:=by unfold Zju;rw[e1];simp
  have e4:numL 4 (tk (4*m) (xs.drop p))=[]:=by
   unfold Zav at hok;have hok':¬ (p≤xs.length∧4*m≤xs.length-p):=by simpa using hok
   unfold tk numL;by_cases h2:p≤xs.length
   ·rw[if_neg (by rw[List.length_drop];exact fun h=>hok' ⟨h2,h⟩)];simp
   ·rw[List.drop_of_length_le (by omega)];split<;>simp
  rw[e1,e2,e3];rw[hok,e4,if_neg (by simp)]at HN;clear hx hb hA e1 e2 e3 e4 hyl hyv HX hok;go_enter Tryz.func166,Tryz.ntmps166;go_wp2_with fail
  refine HN.out.mono ?_;rintro e w1 ⟨u,rfl,ho,hb1⟩;obtain⟨A1,c1,rfl,_,_,_⟩:=Zao ho;have Qa:=hid hb1;clear ho hb1 HN;go_wp2;go_loopw [11,20,60] (fun a l i wr=>i=.int .i64 0∧a=.slice none 0 0∧l=.int .i64 0∧wr=w1) (fun _ _ i _=>0)
  case atStart=>exact⟨rfl,rfl,rfl,rfl⟩
  case round =>
   obtain⟨rfl,rfl,rfl,rfl⟩:=hrel;go_wp2;go_ret3
   exact⟨_,rfl,World.ownsRow_nil _ _ _ _,Qa.out⟩
 | true =>
  have hok':p≤xs.length∧4*m≤xs.length-p:=by unfold Zav at hok;exact of_decide_eq_true hok
  obtain⟨tx,htx⟩:∃ tx,p+4*m=tx:=⟨_,rfl⟩;have htl:tx≤xs.length:=by omega
  rw[hok,if_pos rfl,htx]at HN;have hm1:m≤16777216:=by omega
  obtain⟨es,hes⟩:∃ es,nI (numL 4 (tk (4*m) (xs.drop p)))=es:=⟨_,rfl⟩;obtain⟨S,hS⟩:∃ S,Zng m p xs=S:=⟨_,rfl⟩;obtain⟨nx,hnx⟩:∃ nx,Zju m p xs=nx:=⟨_,rfl⟩;obtain⟨ok,hokk⟩:∃ ok,Ze6 m p xs=ok:=⟨_,rfl⟩;have HS:=hid hS;have YH:=hid hnx;have Q3:=hid hokk;unfold Zng at HS;unfold Zju at YH;rw[hokk,htx,hes]at HS;rw[hokk,htx,hes]at YH;unfold Ze6 at Q3;rw[hok,Bool.true_and,htx,hes]at Q3;rw[hS,hnx,hokk];generalize hys:numL 4 (tk (4*m) (xs.drop p))=ys at *;have hel:es.length=ys.length:=by rw[← hes,Zas]
  have heg:∀ j,j<ys.length→es.getD j 0=((ys.getD j 0:Nat):Int):=by
   intro j hj;rw[← hes];simp[nI,List.getD,List.getElem?_map,List.getElem?_eq_getElem hj]
  have HEG:=hid heg;clear heg hes hS hnx hokk hys hok hok' htx hx hA;have HYV:=hid hyv;obtain⟨B,hB⟩:∃ B,w.heap.size=B:=⟨_,rfl⟩;have Y8:=hid hB;rw[hB];clear hB hyv;go_enter Tryz.func166,Tryz.ntmps166;go_wp2_with fail
  refine HN.out.mono ?_;rintro e w1 ⟨u,rfl,ho,hb1⟩;have hf:=Zba ho;obtain⟨A1,c1,rfl,_,_,hA1⟩:=hf.form;have Qx:=hid hf;have Qa:=hid hb1;clear ho hf hb1 HN hA1;go_wp2;go_loopw [11,20,60] (fun a u i wr=>∃(j:Nat) (l:Nat),j≤ys.length∧i=.int .i64 j∧u=.int .i64 l∧Hid (Zay 0 (es.take j)=some (l:Int))∧l≤xs.length-tx∧wr.ownsRow w1.heap.size 36 3 a j (Zly (cutS 0 (xs.drop tx) (es.take j)))∧Below w1.heap.size w1 wr) (fun _ _ i _=>ys.length-(intOf i).toNat)
  case atStart=>exact⟨0,0,by omega,rfl,rfl,hid rfl,by omega,by simpa [Zly,cutS]using World.ownsRow_nil _ _ _ _,Zab w1⟩
  case round =>
   obtain⟨j,l,hj,rfl,rfl,hu,hlx,hown,hbw⟩:=hrel;have Qi:=hid hown;obtain⟨A2,c2,rfl⟩:=Zb1 hown;clear hown;by_cases hlt:j<ys.length
   ·obtain⟨A3,c3,he,_,_,hA3⟩:=(Qx.out.mono hbw).form;cases he;obtain⟨b,o,rfl,hs⟩:=hA3 (by omega);have c1':=hs.word j hlt;have hx32:=HYV.out (ys.getD j 0) (by simp[List.getD,List.getElem?_eq_getElem hlt]);have htk:es.take (j+1)=es.take j++[((ys.getD j 0:Nat):Int)]:=by
     rw[← HEG.out j hlt,List.take_succ_eq_append_getElem (by omega)];simp[List.getD,List.getElem?_eq_getElem (show j<es.length by omega)]
    have hsn:Zay 0 (es.take (j+1))=if ((ys.getD j 0:Nat):Int)<(l:Int)∨((ys.getD j 0:Nat):Int)-(l:Int) > 1024 then none else some ((ys.getD j 0:Nat):Int):=by
     rw[htk,Zfp,hu.out];rfl
    have hcut:=Zqq (xs.drop tx) (es.take j) 0 ((ys.getD j 0:Nat):Int) (l:Int) hu.out;rw[← htk]at hcut;have hall:=Zia (es.take (j+1)) (es.drop (j+1)) 0;rw[List.take_append_drop]at hall;have QG:Hid (Zay 0 (es.take (j+1))=none∨xs.length-tx<ys.getD j 0→ok=false):=by
     refine hid fun h=>?_
     have h2:=Q3.out;cases hte:Zay 0 es with
     | none=>rw[hte]at h2;exact h2.symm
     | some sz =>
      rw[hte]at h2 hall;rcases h with h | h
      ·rw[h]at hall;cases hall
      ·by_cases hn:Zay 0 (es.take (j+1))=none
       ·rw[hn]at hall;cases hall
       ·rw[hsn]at hn hall
        split at hn
        ·exact absurd rfl hn
        ·rename_i hc
         rw[if_neg hc]at hall;have:=Ze1 _ _ _ hall.symm;rw[← h2];exact decide_eq_false (by omega)
    have QJ:=hid hsn;have Vw:=hid hcut;have hBw:w1.heap.size≤wr.heap.size:=hbw.size;have Xi:=hid (HX.out.mono (Zac Qa.out hbw));clear hs hA3 hsn hcut hall htk;generalize ys.getD j 0=x at *;by_cases hbad:x<l∨l+1024<x∨xs.length-tx<x
    ·have hof:ok=false:=QG.out (by
      rcases hbad with h | h | h
      ·exact .inl (by rw[QJ.out,if_pos (.inl (by omega))])
      ·exact .inl (by rw[QJ.out,if_pos (.inr (by omega))])
      ·exact .inr h)
     subst hof;have hS0:=HS.out;have hN0:=YH.out;rw[if_neg (by simp)]at hS0 hN0;subst hS0;subst hN0;by_cases h1:x<l
     ·have h1':(x:Int)<(l:Int):=by omega
      go_wp2;go_ret3
      exact⟨_,rfl,World.ownsRow_nil _ _ _ _,by rw[← Y8.out];exact Zac Qa.out hbw⟩
     ·have h1':¬ (x:Int)<(l:Int):=by omega
      by_cases h2:l+1024<x
      ·have h2':(x:Int) > (l:Int)+1024:=by omega
       go_wp2;go_ret3
       exact⟨_,rfl,World.ownsRow_nil _ _ _ _,by rw[← Y8.out];exact Zac Qa.out hbw⟩
      ·have h2':¬ (x:Int) > (l:Int)+1024:=by omega
       have h3':(x:Int) > (xs.length:Int)-(tx:Int):=by omega
       go_wp2;go_ret3
       exact⟨_,rfl,World.ownsRow_nil _ _ _ _,by rw[← Y8.out];exact Zac Qa.out hbw⟩
    ·have h1':¬ (x:Int)<(l:Int):=by omega
     have h2':¬ (x:Int) > (l:Int)+1024:=by omega
     have h3':¬ (x:Int) > (xs.length:Int)-(tx:Int):=by omega
     obtain⟨q,hq⟩:∃ q,tx+l=q:=⟨_,rfl⟩;have hq1:(tx:Int)+(l:Int)=(q:Int):=by omega
     obtain⟨q2,hq2⟩:∃ q2,tx+x=q2:=⟨_,rfl⟩;have hq2':(tx:Int)+(x:Int)=(q2:Int):=by omega
     have hqq:q≤q2:=by omega
     have hqx:q2≤xs.length:=by omega
     have Uz:Hid (cutS 0 (xs.drop tx) (es.take (j+1))=cutS 0 (xs.drop tx) (es.take j)++[Zat ((xs.drop q).take (q2-q))]):=hid (by
      rw[Vw.out,List.drop_drop];congr 3
      rw[show ((x:Int)-(l:Int)).toNat=q2-q by omega,show tx+((l:Nat):Int).toNat=q by rw[Int.toNat_natCast];exact hq])
     have HCQ:=hid hcm;clear Vw QG hq hq2 hcm;by_cases hcq:ca=q
     ·obtain rfl:q2=q:=by omega
      obtain rfl:q2=ca:=by omega
      have hcv:=Zd9 (xs:=[]) (show Rd wr (.slice A 0 0) ([]:List Nat).length 1 (u8s [])from Znp wr A);have hof:Zat ((xs.drop q2).take (q2-q2))=Zat []:=by simp
      rw[hof]at Uz;generalize Zat []=SS at *;go_wp2_with (at_builtin;refine Zb4 rfl (.tmp 83) (.tmp 94) rfl 36 [.bool false,.int .i64 0,.string ByteArray.empty] 32 Tryz.underlying78 Tryz.infoCell rfl rfl rfl Qi.out hBw (by intro u hu;simp at hu;rcases hu with rfl | rfl | rfl<;>rfl) (by unfold maxLen;omega) (by omega) ?_;intro v' w' ho hb3)
      go_roundw
      case rel =>
       refine⟨j+1,x,by omega,by go_num,rfl,hid (by rw[QJ.out,if_neg (by omega)]),by omega,?_,hbw.trans hb3⟩;rw[Uz.out,Zmk];exact ho
      case measure=>simp[intOf];omega
     ·have hcv:=Zd9 ((Xi.out.rear q (by omega) hcq).short (q2-q) (by rw[List.length_drop];omega));generalize Zat ((xs.drop q).take (q2-q))=SS at *;go_wp2_with (at_builtin;refine Zb4 rfl (.tmp 83) (.tmp 94) rfl 36 [.bool false,.int .i64 0,.string ByteArray.empty] 32 Tryz.underlying78 Tryz.infoCell rfl rfl rfl Qi.out hBw (by intro u hu;simp at hu;rcases hu with rfl | rfl | rfl<;>rfl) (by unfold maxLen;omega) (by omega) ?_;intro v' w' ho hb3)
      go_roundw
      case rel =>
       refine⟨j+1,x,by omega,by go_num,rfl,hid (by rw[QJ.out,if_neg (by omega)]),by omega,?_,hbw.trans hb3⟩;rw[Uz.out,Zmk];exact ho
      case measure=>simp[intOf];omega
   ·obtain rfl:j=ys.length:=by omega
    have htake:es.take ys.length=es:=by rw[← hel,List.take_length]
    have hu2:=hu.out;rw[htake]at hu2;have hof:ok=true:=by
     have h2:=Q3.out;rw[hu2]at h2;rw[← h2];exact decide_eq_true (by omega)
    subst hof;have hS0:=HS.out;have hN0:=YH.out;rw[if_pos rfl]at hS0 hN0;have hts:tsz es=(l:Int):=by rw[tsz,hu2];rfl
    rw[hts,Int.toNat_natCast]at hN0;have hown2:=Qi.out;rw[htake,hS0]at hown2;have hSl:S.length=ys.length:=by rw[← hS0,Zd0,hel]
    have Yk:=hid hown2;clear hown2 hu2 hS0 Qi Q3 HS YH;subst hN0;go_wp2;go_ret3
    refine⟨_,rfl,?_,by rw[← Y8.out];exact Zac Qa.out hbw⟩;rw[hSl];exact Ze2 Yk.out (by have:=Y8.out;have:=Qa.out.size;omega)
def Zdm (vs:List (Int×ByteArray)):List Value:=vs.flatMap fun v=>[.bool false,.int .i64 v.1,.string v.2]
def dfP:Int×ByteArray:=(0,default)
theorem Zi3 (vs:List (Int×ByteArray)) (v:Int×ByteArray):Zdm (vs++[v])=Zdm vs++[.bool false,.int .i64 v.1,.string v.2]:=by simp[Zdm]
theorem Zin (v:Int×ByteArray) (vs:List (Int×ByteArray)):Zdm (v :: vs)=[.bool false,.int .i64 v.1,.string v.2]++Zdm vs:=by simp[Zdm]
theorem Zvd (vs:List (Int×ByteArray)):∀ k,k<vs.length→(Zdm vs)[k*3]? = some (.bool false)∧(Zdm vs)[k*3+1]? = some (.int .i64 (vs.getD k dfP).1)∧(Zdm vs)[k*3+2]? = some (.string (vs.getD k dfP).2):=by
 induction vs with
 | nil=>intro k hk;simp at hk
 | cons v r ih =>
  intro k hk;rw[Zin];cases k with
  | zero=>simp
  | succ k =>
   obtain⟨h1,h2,h3⟩:=ih k (by simpa using hk);rw[List.getElem?_append_right (by simp;omega),List.getElem?_append_right (by simp;omega),List.getElem?_append_right (by simp;omega)];simp only[List.length_cons,List.length_nil,List.getD_cons_succ];rw[show (k+1)*3-(0+1+1+1)=k*3 by omega,show (k+1)*3+1-(0+1+1+1)=k*3+1 by omega,show (k+1)*3+2-(0+1+1+1)=k*3+2 by omega];exact⟨h1,h2,h3⟩
def pI (x:Int):Int×ByteArray:=(x,ByteArray.empty)
def pS (x:ByteArray):Int×ByteArray:=(0,x)
theorem Zop (xs:List Int):Zii xs=Zdm (xs.map pI):=by
 induction xs with
 | nil=>rfl
 | cons x r ih=>rw[List.map_cons,Zin,← ih];rfl
theorem Zzv (xs:List ByteArray):Zly xs=Zdm (xs.map pS):=by
 induction xs with
 | nil=>rfl
 | cons x r ih=>rw[List.map_cons,Zin,← ih];rfl
def ordP (x y:Int×ByteArray):Int:=if x.1<y.1 then -1 else if y.1<x.1 then 1 else ordS x.2 y.2
set_option maxHeartbeats 1000000 in
theorem Zlx (x y:Int×ByteArray) (w:World):Calls Tryz.prog 119 #[.agg #[.bool false,.int .i64 x.1,.string x.2],.agg #[.bool false,.int .i64 y.1,.string y.2]] w fun e w'=>e=.returned (.int .i64 (ordP x y))∧Below w.heap.size w w':=by
 obtain⟨a,s⟩:=x;obtain⟨b,t⟩:=y;simp only;have hord:ordP (a,s) (b,t)=if a<b then -1 else if b<a then 1 else ordS s t:=rfl
 rw[hord];clear hord;obtain⟨lt,hlt⟩:∃ lt,Op.bytesLess s.toList t.toList=lt:=⟨_,rfl⟩;obtain⟨eq,heq⟩:∃ eq,(s.toList==t.toList)=eq:=⟨_,rfl⟩;have hord:ordS s t=if lt=true then -1 else if (!(lt||eq))=true then 1 else 0:=by unfold ordS ltS eqS;rw[hlt,heq]
 rw[hord];clear hord;go_enter Tryz.func119,Tryz.ntmps119;by_cases h1:a<b
 ·rw[if_pos h1];go_wp2;go_ret;exact⟨rfl,(((Zab w).alloc (Nat.le_refl _) _).alloc (by simp) _)⟩
 ·rw[if_neg h1];by_cases h2:b<a
  ·rw[if_pos h2];have h2':a > b:=h2;go_wp2;go_ret;exact⟨rfl,(((Zab w).alloc (Nat.le_refl _) _).alloc (by simp) _)⟩
  ·rw[if_neg h2];have h2':¬ a > b:=h2;cases lt
   ·cases eq
    ·go_wp2;go_ret;exact⟨rfl,(((Zab w).alloc (Nat.le_refl _) _).alloc (by simp) _)⟩
    ·go_wp2;go_ret;exact⟨rfl,(((Zab w).alloc (Nat.le_refl _) _).alloc (by simp) _)⟩
   ·go_wp2;go_ret;exact⟨rfl,(((Zab w).alloc (Nat.le_refl _) _).alloc (by simp) _)⟩
def Zbw (kd:Nat) (m p:Nat) (xs:List Nat):Bool:=if kd=1 then Zav 8 m p xs.length else Ze6 m p xs
def Zbz (kd:Nat) (m p:Nat) (xs:List Nat):Nat:=if kd=1 then (if Zav 8 m p xs.length=true then p+8*m else 0)else Zju m p xs
def Zdo (kd:Nat) (m p:Nat) (xs:List Nat):List (Int×ByteArray):=if kd=1 then ((numL 8 (tk (8*m) (xs.drop p))).map Zcf).map pI else (Zng m p xs).map pS
theorem Zkj (kd:Nat) (hkd:kd=1∨kd=2) (v:Value) (xs:List Nat) (p m:Nat) (w:World) (hx:Rd w v xs.length 1 (u8s xs)) (hb:∀ x∈xs,x<256) (hl:xs.length≤16777216) (hp:p≤1099511627776) (hm:m≤4294967296) :
  Calls Tryz.prog 166 #[v,.int .i64 p,.int .i64 kd,.int .i64 m] w fun e w' =>
   ∃ u,e=.returned (.tuple #[u,.int .i64 (Zbz kd m p xs:Nat),.bool (Zbw kd m p xs)])∧w'.ownsRow w.heap.size 36 3 u (Zdo kd m p xs).length (Zdm (Zdo kd m p xs))∧Below w.heap.size w w':=by
 rcases hkd with rfl | rfl
 ·refine(Zs5 v xs p m w hx hb hl hp hm).mono ?_;rintro e w' ⟨u,h1,h2,h3⟩;refine⟨u,?_,?_,h3⟩
  ·unfold Zbz Zbw;rw[if_pos rfl,if_pos rfl];exact h1
  ·unfold Zdo;rw[if_pos rfl,List.length_map,← Zop];exact h2
 ·refine(Zsy v xs p m w hx hb hl hp hm).mono ?_;rintro e w' ⟨u,h1,h2,h3⟩;refine⟨u,?_,?_,h3⟩
  ·unfold Zbz Zbw;rw[if_neg (by decide),if_neg (by decide)];exact h1
  ·unfold Zdo;rw[if_neg (by decide),List.length_map,← Zzv];exact h2
end Go.Proofs.YtmcjknjlihgihaaGreatDoor
