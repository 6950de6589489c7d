/- The plain answer: runs. -/
import Derived.Test.YtmcjknjlihgihaaGreatDoorLawfreshlistsuptoM6
set_option linter.unusedVariables false
set_option linter.unusedSimpArgs false
set_option linter.unnecessarySimpa false
set_option maxRecDepth 100000
namespace Go.Proofs.YtmcjknjlihgihaaGreatDoor
open Go.RowKit
theorem Ze0 {w:World} {B C:Nat} {e:TypeId} {v:Value} {n:Nat} {cs:List Value} (h:w.ownsRow B e 3 v n cs) (hC:C≤B):w.ownsRow C e 3 v n cs:=by
 refine⟨h.1,?_⟩;rcases h.2 with hn | ⟨g,cap,cur,rfl,hb',hg,r⟩
 ·exact .inl hn
 ·exact .inr ⟨g,cap,cur,rfl,Nat.le_trans hC hb',hg,r⟩
def Zhv (xs:List Int):List Value:=xs.flatMap Zuo
def Zlh (xs:List ByteArray):List Value:=xs.flatMap Zyx
theorem Zlb (xs:List Int) (x:Int):Zhv (xs++[x])=Zhv xs++Zuo x:=by simp[Zhv]
theorem Zlr (xs:List ByteArray) (x:ByteArray):Zlh (xs++[x])=Zlh xs++Zyx x:=by simp[Zlh]
theorem Zgi {α β : Type} (f : α→β) (d : α) (xs:List α) (j:Nat) (h:j<xs.length):(xs.take (j+1)).map f=(xs.take j).map f++[f (xs.getD j d)]:=by
 rw[List.take_succ_eq_append_getElem h,List.map_append];simp[List.getD,List.getElem?_eq_getElem h]
def vsum (base:Int) (x:Nat):Int:=wrap64 (IntKind.u64.wrap (IntKind.u64.wrap base+(x:Int)))
def fits (base:Int) (ls:List Nat):Bool:=ls.all fun x=>decide (x≤Zff base)
def Zi8 (base:Int) (ls:List Nat):List Int:=if fits base ls=true then ls.map (vsum base)else []
theorem Zpr (wd k p:Nat) (xs:List Nat):∀ x∈Zbo wd k p xs,x<18446744073709551616:=by
 intro x hx;unfold Zbo at hx
 split at hx
 ·rename_i h
  have hw:wd≤64:=by
   unfold Zby Za8 Zjt at h;simp only[Bool.and_eq_true,decide_eq_true_eq]at h;omega
  have h1:=L.lanesL_lt wd k _ x hx;have h2:=Zcr hw;omega
 ·cases hx
theorem Zmz (wd k p:Nat) (xs:List Nat):(Zbo wd k p xs).length≤65536:=by
 unfold Zbo
 split
 ·rename_i h
  rw[L.lanesL_length];unfold Zby Za8 Zjt at h;simp only[Bool.and_eq_true,decide_eq_true_eq]at h;omega
 ·simp
set_option maxHeartbeats 4000000 in
theorem Zm1 (v:Value) (xs:List Nat) (p wd k:Nat) (base:Int) (w:World) (hx:Rd w v xs.length 1 (u8s xs)) (hb:∀ x∈xs,x<256) (hl:xs.length≤16777216) (hp:p≤1099511627776)
  (hb1 : -9223372036854775808≤base) (hb2:base≤9223372036854775807) :
  Calls Tryz.prog 165 #[v,.int .i64 p,.int .i64 wd,.int .i64 k,.int .i64 base] w fun e w' =>
   ∃ u,e=.returned (.tuple #[u,.bool (fits base (Zbo wd k p xs)&&Zby wd k p xs)]) ∧
    w'.ownsRow w.heap.size 36 3 u (Zi8 base (Zbo wd k p xs)).length (Zhv (Zi8 base (Zbo wd k p xs)))∧Below w.heap.size w w':=by
 have HL:=hid (Zlf v xs p wd k w hx hb hl hp);have hlv:=Zpr wd k p xs;have hll:=Zmz wd k p xs;obtain⟨A,ca,rfl,_,_,_⟩:=hx.form;generalize Zbo wd k p xs=ls at *;generalize Zby wd k p xs=ok at *;have hroom:=Zt6 base hb1 hb2;have HF:Hid (Zi8 base ls=if fits base ls=true then ls.map (vsum base)else []):=hid rfl;have HFF:Hid (∀ j,j<ls.length→¬ ls.getD j 0≤Zff base→fits base ls=false):=by
  refine hid fun j hj h=>?_
  rw[← Bool.not_eq_true];intro hf;simp only[fits,List.all_eq_true,decide_eq_true_eq]at hf;exact h (hf _ (by simp[List.getD,List.getElem?_eq_getElem hj]))
 have HFT:Hid ((∀ j,j<ls.length→ls.getD j 0≤Zff base)→fits base ls=true):=by
  refine hid fun h=>?_
  simp only[fits,List.all_eq_true,decide_eq_true_eq];intro x hx;obtain⟨t,ht,rfl⟩:=List.getElem_of_mem hx;have:=h t ht;simpa [List.getD,List.getElem?_eq_getElem ht]using this
 generalize Zff base=rm at *;generalize fits base ls=F at *;generalize Zi8 base ls=SL at *;have Uo:=hid (fun j h=>Zgi (vsum base) 0 ls j h);obtain⟨B,hB⟩:∃ B,w.heap.size=B:=⟨_,rfl⟩;have Ya:=hid hB;rw[hB];have Zz:=hid hlv;clear hx hb hB hlv;go_enter Tryz.func165,Tryz.ntmps165;go_wp2_with fail
 refine HL.out.mono ?_;rintro e w1 ⟨u,rfl,ho,hb1'⟩;have hf:=Zba ho;obtain⟨A1,c1,rfl,_,_,hA1⟩:=hf.form;have Qu:=hid hf;have Qa:=hid hb1';clear ho hf hb1' HL hA1;go_wp2;go_loopw [14,27] (fun u i wr=>∃ j:Nat,j≤ls.length∧i=.int .i64 j∧wr.ownsRow w1.heap.size 36 3 u j (Zhv ((ls.take j).map (vsum base)))∧Below w1.heap.size w1 wr∧Hid (∀ t,t<j→ls.getD t 0≤rm)) (fun _ i _=>ls.length-(intOf i).toNat)
 case atStart=>exact⟨0,by omega,rfl,by simpa [Zhv]using World.ownsRow_nil _ _ _ _,Zab w1,hid (fun t h=>absurd h (Nat.not_lt_zero t))⟩
 case round =>
  obtain⟨j,hj,rfl,hown,hbw,hall⟩:=hrel;have Qd:=hid hown;obtain⟨A2,c2,rfl⟩:=Zb1 hown;clear hown;by_cases hlt:j<ls.length
  ·obtain⟨A3,c3,he,_,_,hA3⟩:=(Qu.out.mono hbw).form;cases he;obtain⟨b,o,rfl,hs⟩:=hA3 (by omega);have c1':=hs.word j hlt;have hx64:=Zz.out (ls.getD j 0) (by simp[List.getD,List.getElem?_eq_getElem hlt]);have QE:=hid (Uo.out j hlt);have QD:=hid (HFF.out j hlt);have Qn:Hid (ls.getD j 0≤rm→∀ t,t<j+1→ls.getD t 0≤rm):=by
    refine hid fun h t ht=>?_
    by_cases htj:t=j
    ·subst htj;exact h
    ·exact hall.out t (by omega)
   have hBw:w1.heap.size≤wr.heap.size:=hbw.size;have HVS:Hid (vsum base (ls.getD j 0)=wrap64 (IntKind.u64.wrap (IntKind.u64.wrap base+((ls.getD j 0:Nat):Int)))):=hid rfl;clear hs hA3 hall;generalize ls.getD j 0=x at *;by_cases hxr:x≤rm
   ·have hxi:¬ (x:Int) > (rm:Int):=by omega
    go_wp2_with (at_builtin;refine Zb6 rfl (.tmp 36) (.tmp 43) rfl 36 [.bool false,.int .i64 0,.string ByteArray.empty] 32 Tryz.underlying78 Tryz.infoCell rfl rfl rfl Qd.out hBw (by intro u hu;simp at hu;rcases hu with rfl | rfl | rfl<;>rfl) (by unfold maxLen;omega) (by omega) ?_;intro v' w' ho hb3)
    go_roundw
    case rel =>
     refine⟨j+1,by omega,by go_num,?_,hbw.trans hb3,hid (Qn.out hxr)⟩;rw[QE.out,Zlb,HVS.out];exact ho
    case measure=>simp[intOf];omega
   ·have hxi:(x:Int) > (rm:Int):=by omega
    have hff:=QD.out hxr;go_wp2;go_ret2
    have hsl:=HF.out;rw[hff,if_neg (by simp)]at hsl;rw[hff,hsl];exact⟨_,by rw[Bool.false_and];rfl,World.ownsRow_nil _ _ _ _,by rw[← Ya.out];exact Zad Qa.out hbw⟩
  ·obtain rfl:j=ls.length:=by omega
   have hft:=HFT.out hall.out;go_wp2;go_ret2
   have hsl:=HF.out;rw[hft,if_pos rfl]at hsl;rw[hft,hsl];refine⟨_,by rw[Bool.true_and];rfl,?_,by rw[← Ya.out];exact Zad Qa.out hbw⟩;have:=Qd.out;rw[List.take_length]at this;rw[List.length_map];exact Ze0 this (by have:=Ya.out;have:=Qa.out.size;omega)
theorem Rd.short {w:World} {A:Option Addr} {c L:Nat} {xs:List Nat} (h:Rd w (.slice A L c) xs.length 1 (u8s xs)) (n:Nat) (hn:n≤xs.length):Rd w (.slice A n c) (xs.take n).length 1 (u8s (xs.take n)):=by
 have hl:(xs.take n).length=n:=by rw[List.length_take];omega
 rw[hl];refine⟨by rw[Zdz,hl];omega,?_⟩;rcases h.2 with ⟨⟨A',e⟩,h0⟩ | ⟨b,o,cap,e,h1,h2,hs⟩
 ·simp only[Value.slice.injEq]at e;obtain⟨rfl,rfl,rfl⟩:=e;obtain rfl:n=0:=by omega
  exact .inl ⟨⟨A,rfl⟩,rfl⟩
 ·cases e;refine .inr ⟨b,o,c,rfl,by omega,h2,fun i v hv=>hs i v ?_⟩;rw[← Zny,List.getElem?_take]at hv
  split at hv
  ·exact hv
  ·cases hv
theorem Zh4 (size c:Nat) (xs:List Nat) (hl:xs.length≤16777216) (h0:1≤size):(numL size (tk c xs)).length≤16777216:=by
 rw[Zal];unfold tk;split
 ·rw[List.length_take];exact Nat.le_trans (Nat.div_le_self _ _) (Nat.le_trans (Nat.min_le_right _ _) hl)
 ·simp
set_option maxHeartbeats 4000000 in
theorem Zrn (v:Value) (xs:List Nat) (p m:Nat) (w:World) (hx:Rd w v xs.length 1 (u8s xs)) (hb:∀ x∈xs,x<256) (hl:xs.length≤16777216) (hp:p≤1099511627776) (hm:m≤4294967296) :
  Calls Tryz.prog 166 #[v,.int .i64 p,.int .i64 1,.int .i64 m] w fun e w' =>
   ∃ u,e=.returned (.tuple #[u,.int .i64 (if Zau 8 m p xs.length=true then p+8*m else 0:Nat),.bool (Zau 8 m p xs.length)]) ∧
    w'.ownsRow w.heap.size 36 3 u ((numL 8 (tk (8*m) (xs.drop p))).map Zcf).length (Zhv ((numL 8 (tk (8*m) (xs.drop p))).map Zcf))∧Below w.heap.size w w':=by
 have HN:=hid (Zcm v xs p 8 m w hx hb hl (.inr rfl) hp hm);have hyl:(numL 8 (tk (8*m) (xs.drop p))).length≤16777216:=Zh4 _ _ _ (by rw[List.length_drop];omega) (by omega);have hyv:∀ x∈numL 8 (tk (8*m) (xs.drop p)),x<18446744073709551616:=Zdu (Zc8 (fun x h=>hb x (List.mem_of_mem_drop h))) (by omega);obtain⟨A,ca,rfl,_,_,_⟩:=hx.form;generalize numL 8 (tk (8*m) (xs.drop p))=ys at *;generalize (if Zau 8 m p xs.length=true then p+8*m else 0)=nx at *;generalize Zau 8 m p xs.length=ok at *;have Uo:=hid (fun j h=>Zgi Zcf 0 ys j h);obtain⟨B,hB⟩:∃ B,w.heap.size=B:=⟨_,rfl⟩;have Ya:=hid hB;rw[hB];clear hx hb hB;go_enter Tryz.func166,Tryz.ntmps166;go_wp2_with fail
 refine HN.out.mono ?_;rintro e w1 ⟨u,rfl,ho,hb1⟩;have hf:=Zba ho;obtain⟨A1,c1,rfl,_,_,hA1⟩:=hf.form;have Qu:=hid hf;have Qa:=hid hb1;clear ho hf hb1 HN hA1;go_wp2;go_loopw [11,36] (fun u i wr=>∃ j:Nat,j≤ys.length∧i=.int .i64 j∧wr.ownsRow w1.heap.size 36 3 u j (Zhv ((ys.take j).map Zcf))∧Below w1.heap.size w1 wr) (fun _ i _=>ys.length-(intOf i).toNat)
 case atStart=>exact⟨0,by omega,rfl,by simpa [Zhv]using World.ownsRow_nil _ _ _ _,Zab w1⟩
 case round =>
  obtain⟨j,hj,rfl,hown,hbw⟩:=hrel;have Qd:=hid hown;obtain⟨A2,c2,rfl⟩:=Zb1 hown;clear hown;by_cases hlt:j<ys.length
  ·obtain⟨A3,c3,he,_,_,hA3⟩:=(Qu.out.mono hbw).form;cases he;obtain⟨b,o,rfl,hs⟩:=hA3 (by omega);have c1':=hs.word j hlt;have hx64:=hyv (ys.getD j 0) (by simp[List.getD,List.getElem?_eq_getElem hlt]);have QE:=hid (Uo.out j hlt);have hBw:w1.heap.size≤wr.heap.size:=hbw.size;clear hs hA3;generalize ys.getD j 0=x at *;go_wp2_with (at_builtin;refine Zb6 rfl (.tmp 40) (.tmp 44) rfl 36 [.bool false,.int .i64 0,.string ByteArray.empty] 32 Tryz.underlying78 Tryz.infoCell rfl rfl rfl Qd.out hBw (by intro u hu;simp at hu;rcases hu with rfl | rfl | rfl<;>rfl) (by unfold maxLen;omega) (by omega) ?_;intro v' w' ho hb3)
   go_roundw
   case rel =>
    refine⟨j+1,by omega,by go_num,?_,hbw.trans hb3⟩;rw[QE.out,Zlb];exact ho
   case measure=>simp[intOf];omega
  ·obtain rfl:j=ys.length:=by omega
   go_wp2;go_ret3
   refine⟨_,rfl,?_,by rw[← Ya.out];exact Zad Qa.out hbw⟩;have:=Qd.out;rw[List.take_length]at this;rw[List.length_map];exact Ze0 this (by have:=Ya.out;have:=Qa.out.size;omega)
def Ze7 (m p:Nat) (xs:List Nat):Bool:=Zau 4 m p xs.length&&match Zaw 0 (nI (numL 4 (tk (4*m) (xs.drop p))))with
 | none=>false
 | some sz=>decide (sz≤((xs.length-(p+4*m):Nat):Int))
def Zmo (m p:Nat) (xs:List Nat):List ByteArray:=if Ze7 m p xs=true then cutS 0 (xs.drop (p+4*m)) (nI (numL 4 (tk (4*m) (xs.drop p))))else []
def Ziw (m p:Nat) (xs:List Nat):Nat:=if Ze7 m p xs=true then p+4*m+(tsz (nI (numL 4 (tk (4*m) (xs.drop p))))).toNat else 0
set_option maxHeartbeats 8000000 in
theorem Zrl (v:Value) (xs:List Nat) (p m:Nat) (w:World) (hx:Rd w v xs.length 1 (u8s xs)) (hb:∀ x∈xs,x<256) (hl:xs.length≤16777216) (hp:p≤1099511627776) (hm:m≤4294967296) :
  Calls Tryz.prog 166 #[v,.int .i64 p,.int .i64 2,.int .i64 m] w fun e w' =>
   ∃ u,e=.returned (.tuple #[u,.int .i64 (Ziw m p xs:Nat),.bool (Ze7 m p xs)]) ∧
    w'.ownsRow w.heap.size 36 3 u (Zmo m p xs).length (Zlh (Zmo m p xs))∧Below w.heap.size w w':=by
 have HN:=hid (Zcm v xs p 4 m w hx hb hl (.inl rfl) hp hm);have hyl:(numL 4 (tk (4*m) (xs.drop p))).length≤16777216:=Zh4 _ _ _ (by rw[List.length_drop];omega) (by omega);have hyv:∀ x∈numL 4 (tk (4*m) (xs.drop p)),x<4294967296:=Znw (Zc8 (fun x h=>hb x (List.mem_of_mem_drop h)));have HX:=hid hx;obtain⟨A,ca,rfl,hlc,hcm,hA⟩:=hx.form;cases hok:Zau 4 m p xs.length with
 | false =>
  have e1:Ze7 m p xs=false:=by unfold Ze7;rw[hok,Bool.false_and]
  have e2:Zmo m p xs=[]:=by unfold Zmo;rw[e1];simp
  have e3:Ziw m p xs=0:=by unfold Ziw;rw[e1];simp
  have e4:numL 4 (tk (4*m) (xs.drop p))=[]:=by
   unfold Zau at hok;have hok':¬ (p≤xs.length∧4*m≤xs.length-p):=by simpa using hok
   unfold tk numL;by_cases h2:p≤xs.length
   ·rw[if_neg (by rw[List.length_drop];exact fun h=>hok' ⟨h2,h⟩)];simp
   ·rw[List.drop_of_length_le (by omega)];split<;>simp
  rw[e1,e2,e3];rw[hok,e4,if_neg (by simp)]at HN;clear hx hb hA e1 e2 e3 e4 hyl hyv HX hok;go_enter Tryz.func166,Tryz.ntmps166;go_wp2_with fail
  refine HN.out.mono ?_;rintro e w1 ⟨u,rfl,ho,hb1⟩;obtain⟨A1,c1,rfl,_,_,_⟩:=Zaj ho;have Qa:=hid hb1;clear ho hb1 HN;go_wp2;go_loopw [11,20,60] (fun a l i wr=>i=.int .i64 0∧a=.slice none 0 0∧l=.int .i64 0∧wr=w1) (fun _ _ i _=>0)
  case atStart=>exact⟨rfl,rfl,rfl,rfl⟩
  case round =>
   obtain⟨rfl,rfl,rfl,rfl⟩:=hrel;go_wp2;go_ret3
   exact⟨_,rfl,World.ownsRow_nil _ _ _ _,Qa.out⟩
 | true =>
  have hok':p≤xs.length∧4*m≤xs.length-p:=by unfold Zau at hok;exact of_decide_eq_true hok
  obtain⟨tx,htx⟩:∃ tx,p+4*m=tx:=⟨_,rfl⟩;have htl:tx≤xs.length:=by omega
  rw[hok,if_pos rfl,htx]at HN;have hm1:m≤16777216:=by omega
  obtain⟨es,hes⟩:∃ es,nI (numL 4 (tk (4*m) (xs.drop p)))=es:=⟨_,rfl⟩;obtain⟨S,hS⟩:∃ S,Zmo m p xs=S:=⟨_,rfl⟩;obtain⟨nx,hnx⟩:∃ nx,Ziw m p xs=nx:=⟨_,rfl⟩;obtain⟨ok,hokk⟩:∃ ok,Ze7 m p xs=ok:=⟨_,rfl⟩;have HS:=hid hS;have YA:=hid hnx;have Q7:=hid hokk;unfold Zmo at HS;unfold Ziw at YA;rw[hokk,htx,hes]at HS;rw[hokk,htx,hes]at YA;unfold Ze7 at Q7;rw[hok,Bool.true_and,htx,hes]at Q7;rw[hS,hnx,hokk];generalize hys:numL 4 (tk (4*m) (xs.drop p))=ys at *;have hel:es.length=ys.length:=by rw[← hes,Zaq]
  have heg:∀ j,j<ys.length→es.getD j 0=((ys.getD j 0:Nat):Int):=by
   intro j hj;rw[← hes];simp[nI,List.getD,List.getElem?_map,List.getElem?_eq_getElem hj]
  have HEG:=hid heg;clear heg hes hS hnx hokk hys hok hok' htx hx hA;have HYV:=hid hyv;obtain⟨B,hB⟩:∃ B,w.heap.size=B:=⟨_,rfl⟩;have Ya:=hid hB;rw[hB];clear hB hyv;go_enter Tryz.func166,Tryz.ntmps166;go_wp2_with fail
  refine HN.out.mono ?_;rintro e w1 ⟨u,rfl,ho,hb1⟩;have hf:=Zba ho;obtain⟨A1,c1,rfl,_,_,hA1⟩:=hf.form;have Qu:=hid hf;have Qa:=hid hb1;clear ho hf hb1 HN hA1;go_wp2;go_loopw [11,20,60] (fun a u i wr=>∃(j:Nat) (l:Nat),j≤ys.length∧i=.int .i64 j∧u=.int .i64 l∧Hid (Zaw 0 (es.take j)=some (l:Int))∧l≤xs.length-tx∧wr.ownsRow w1.heap.size 36 3 a j (Zlh (cutS 0 (xs.drop tx) (es.take j)))∧Below w1.heap.size w1 wr) (fun _ _ i _=>ys.length-(intOf i).toNat)
  case atStart=>exact⟨0,0,by omega,rfl,rfl,hid rfl,by omega,by simpa [Zlh,cutS]using World.ownsRow_nil _ _ _ _,Zab w1⟩
  case round =>
   obtain⟨j,l,hj,rfl,rfl,hu,hlx,hown,hbw⟩:=hrel;have Qd:=hid hown;obtain⟨A2,c2,rfl⟩:=Zb1 hown;clear hown;by_cases hlt:j<ys.length
   ·obtain⟨A3,c3,he,_,_,hA3⟩:=(Qu.out.mono hbw).form;cases he;obtain⟨b,o,rfl,hs⟩:=hA3 (by omega);have c1':=hs.word j hlt;have hx32:=HYV.out (ys.getD j 0) (by simp[List.getD,List.getElem?_eq_getElem hlt]);have htk:es.take (j+1)=es.take j++[((ys.getD j 0:Nat):Int)]:=by
     rw[← HEG.out j hlt,List.take_succ_eq_append_getElem (by omega)];simp[List.getD,List.getElem?_eq_getElem (show j<es.length by omega)]
    have hsn:Zaw 0 (es.take (j+1))=if ((ys.getD j 0:Nat):Int)<(l:Int)∨((ys.getD j 0:Nat):Int)-(l:Int) > 1024 then none else some ((ys.getD j 0:Nat):Int):=by
     rw[htk,Zfk,hu.out];rfl
    have hcut:=Zpu (xs.drop tx) (es.take j) 0 ((ys.getD j 0:Nat):Int) (l:Int) hu.out;rw[← htk]at hcut;have hall:=Zhq (es.take (j+1)) (es.drop (j+1)) 0;rw[List.take_append_drop]at hall;have QD:Hid (Zaw 0 (es.take (j+1))=none∨xs.length-tx<ys.getD j 0→ok=false):=by
     refine hid fun h=>?_
     have h2:=Q7.out;cases hte:Zaw 0 es with
     | none=>rw[hte]at h2;exact h2.symm
     | some sz =>
      rw[hte]at h2 hall;rcases h with h | h
      ·rw[h]at hall;cases hall
      ·by_cases hn:Zaw 0 (es.take (j+1))=none
       ·rw[hn]at hall;cases hall
       ·rw[hsn]at hn hall
        split at hn
        ·exact absurd rfl hn
        ·rename_i hc
         rw[if_neg hc]at hall;have:=Ze1 _ _ _ hall.symm;rw[← h2];exact decide_eq_false (by omega)
    have QJ:=hid hsn;have Vj:=hid hcut;have hBw:w1.heap.size≤wr.heap.size:=hbw.size;have VT:=hid (HX.out.mono (Zad Qa.out hbw));clear hs hA3 hsn hcut hall htk;generalize ys.getD j 0=x at *;by_cases hbad:x<l∨l+1024<x∨xs.length-tx<x
    ·have hof:ok=false:=QD.out (by
      rcases hbad with h | h | h
      ·exact .inl (by rw[QJ.out,if_pos (.inl (by omega))])
      ·exact .inl (by rw[QJ.out,if_pos (.inr (by omega))])
      ·exact .inr h)
     subst hof;have hS0:=HS.out;have hN0:=YA.out;rw[if_neg (by simp)]at hS0 hN0;subst hS0;subst hN0;by_cases h1:x<l
     ·have h1':(x:Int)<(l:Int):=by omega
      go_wp2;go_ret3
      exact⟨_,rfl,World.ownsRow_nil _ _ _ _,by rw[← Ya.out];exact Zad Qa.out hbw⟩
     ·have h1':¬ (x:Int)<(l:Int):=by omega
      by_cases h2:l+1024<x
      ·have h2':(x:Int) > (l:Int)+1024:=by omega
       go_wp2;go_ret3
       exact⟨_,rfl,World.ownsRow_nil _ _ _ _,by rw[← Ya.out];exact Zad Qa.out hbw⟩
      ·have h2':¬ (x:Int) > (l:Int)+1024:=by omega
       have h3':(x:Int) > (xs.length:Int)-(tx:Int):=by omega
       go_wp2;go_ret3
       exact⟨_,rfl,World.ownsRow_nil _ _ _ _,by rw[← Ya.out];exact Zad Qa.out hbw⟩
    ·have h1':¬ (x:Int)<(l:Int):=by omega
     have h2':¬ (x:Int) > (l:Int)+1024:=by omega
     have h3':¬ (x:Int) > (xs.length:Int)-(tx:Int):=by omega
     obtain⟨q,hq⟩:∃ q,tx+l=q:=⟨_,rfl⟩;have hq1:(tx:Int)+(l:Int)=(q:Int):=by omega
     obtain⟨q2,hq2⟩:∃ q2,tx+x=q2:=⟨_,rfl⟩;have hq2':(tx:Int)+(x:Int)=(q2:Int):=by omega
     have hqq:q≤q2:=by omega
     have hqx:q2≤xs.length:=by omega
     have Up:Hid (cutS 0 (xs.drop tx) (es.take (j+1))=cutS 0 (xs.drop tx) (es.take j)++[Zat ((xs.drop q).take (q2-q))]):=hid (by
      rw[Vj.out,List.drop_drop];congr 3
      rw[show ((x:Int)-(l:Int)).toNat=q2-q by omega,show tx+((l:Nat):Int).toNat=q by rw[Int.toNat_natCast];exact hq])
     have HCQ:=hid hcm;clear Vj QD hq hq2 hcm;by_cases hcq:ca=q
     ·obtain rfl:q2=q:=by omega
      obtain rfl:q2=ca:=by omega
      have hcv:=Zfc (xs:=[]) (show Rd wr (.slice A 0 0) ([]:List Nat).length 1 (u8s [])from Znd wr A);have hof:Zat ((xs.drop q2).take (q2-q2))=Zat []:=by simp
      rw[hof]at Up;generalize Zat []=SS at *;go_wp2_with (at_builtin;refine Zb6 rfl (.tmp 83) (.tmp 94) rfl 36 [.bool false,.int .i64 0,.string ByteArray.empty] 32 Tryz.underlying78 Tryz.infoCell rfl rfl rfl Qd.out hBw (by intro u hu;simp at hu;rcases hu with rfl | rfl | rfl<;>rfl) (by unfold maxLen;omega) (by omega) ?_;intro v' w' ho hb3)
      go_roundw
      case rel =>
       refine⟨j+1,x,by omega,by go_num,rfl,hid (by rw[QJ.out,if_neg (by omega)]),by omega,?_,hbw.trans hb3⟩;rw[Up.out,Zlr];exact ho
      case measure=>simp[intOf];omega
     ·have hcv:=Zfc ((VT.out.rear q (by omega) hcq).short (q2-q) (by rw[List.length_drop];omega));generalize Zat ((xs.drop q).take (q2-q))=SS at *;go_wp2_with (at_builtin;refine Zb6 rfl (.tmp 83) (.tmp 94) rfl 36 [.bool false,.int .i64 0,.string ByteArray.empty] 32 Tryz.underlying78 Tryz.infoCell rfl rfl rfl Qd.out hBw (by intro u hu;simp at hu;rcases hu with rfl | rfl | rfl<;>rfl) (by unfold maxLen;omega) (by omega) ?_;intro v' w' ho hb3)
      go_roundw
      case rel =>
       refine⟨j+1,x,by omega,by go_num,rfl,hid (by rw[QJ.out,if_neg (by omega)]),by omega,?_,hbw.trans hb3⟩;rw[Up.out,Zlr];exact ho
      case measure=>simp[intOf];omega
   ·obtain rfl:j=ys.length:=by omega
    have htake:es.take ys.length=es:=by rw[← hel,List.take_length]
    have hu2:=hu.out;rw[htake]at hu2;have hof:ok=true:=by
     have h2:=Q7.out;rw[hu2]at h2;rw[← h2];exact decide_eq_true (by omega)
    subst hof;have hS0:=HS.out;have hN0:=YA.out;rw[if_pos rfl]at hS0 hN0;have hts:tsz es=(l:Int):=by rw[tsz,hu2];rfl
    rw[hts,Int.toNat_natCast]at hN0;have hown2:=Qd.out;rw[htake,hS0]at hown2;have hSl:S.length=ys.length:=by rw[← hS0,Zds,hel]
    have Yb:=hid hown2;clear hown2 hu2 hS0 Qd Q7 HS YA;subst hN0;go_wp2;go_ret3
    refine⟨_,rfl,?_,by rw[← Ya.out];exact Zad Qa.out hbw⟩;rw[hSl];exact Ze0 Yb.out (by have:=Ya.out;have:=Qa.out.size;omega)
def Zdh (vs:List (Int×ByteArray)):List Value:=vs.flatMap fun v=>[.bool false,.int .i64 v.1,.string v.2]
def dfP:Int×ByteArray:=(0,default)
theorem Zif (vs:List (Int×ByteArray)) (v:Int×ByteArray):Zdh (vs++[v])=Zdh vs++[.bool false,.int .i64 v.1,.string v.2]:=by simp[Zdh]
theorem Zh8 (v:Int×ByteArray) (vs:List (Int×ByteArray)):Zdh (v :: vs)=[.bool false,.int .i64 v.1,.string v.2]++Zdh vs:=by simp[Zdh]
theorem Zud (vs:List (Int×ByteArray)):∀ k,k<vs.length→(Zdh vs)[k*3]? = some (.bool false)∧(Zdh vs)[k*3+1]? = some (.int .i64 (vs.getD k dfP).1)∧(Zdh vs)[k*3+2]? = some (.string (vs.getD k dfP).2):=by
 induction vs with
 | nil=>intro k hk;simp at hk
 | cons v r ih =>
  intro k hk;rw[Zh8];cases k with
  | zero=>simp
  | succ k =>
   obtain⟨h1,h2,h3⟩:=ih k (by simpa using hk);rw[List.getElem?_append_right (by simp;omega),List.getElem?_append_right (by simp;omega),List.getElem?_append_right (by simp;omega)];simp only[List.length_cons,List.length_nil,List.getD_cons_succ];rw[show (k+1)*3-(0+1+1+1)=k*3 by omega,show (k+1)*3+1-(0+1+1+1)=k*3+1 by omega,show (k+1)*3+2-(0+1+1+1)=k*3+2 by omega];exact⟨h1,h2,h3⟩
def pI (x:Int):Int×ByteArray:=(x,ByteArray.empty)
def pS (x:ByteArray):Int×ByteArray:=(0,x)
theorem Zn9 (xs:List Int):Zhv xs=Zdh (xs.map pI):=by
 induction xs with
 | nil=>rfl
 | cons x r ih=>rw[List.map_cons,Zh8,← ih];rfl
theorem Zy9 (xs:List ByteArray):Zlh xs=Zdh (xs.map pS):=by
 induction xs with
 | nil=>rfl
 | cons x r ih=>rw[List.map_cons,Zh8,← ih];rfl
def ordP (x y:Int×ByteArray):Int:=if x.1<y.1 then -1 else if y.1<x.1 then 1 else ordS x.2 y.2
set_option maxHeartbeats 1000000 in
theorem Zl5 (x y:Int×ByteArray) (w:World):Calls Tryz.prog 119 #[.agg #[.bool false,.int .i64 x.1,.string x.2],.agg #[.bool false,.int .i64 y.1,.string y.2]] w fun e w'=>e=.returned (.int .i64 (ordP x y))∧Below w.heap.size w w':=by
 obtain⟨a,s⟩:=x;obtain⟨b,t⟩:=y;simp only;have hord:ordP (a,s) (b,t)=if a<b then -1 else if b<a then 1 else ordS s t:=rfl
 rw[hord];clear hord;obtain⟨lt,hlt⟩:∃ lt,Op.bytesLess s.toList t.toList=lt:=⟨_,rfl⟩;obtain⟨eq,heq⟩:∃ eq,(s.toList==t.toList)=eq:=⟨_,rfl⟩;have hord:ordS s t=if lt=true then -1 else if (!(lt||eq))=true then 1 else 0:=by unfold ordS ltS eqS;rw[hlt,heq]
 rw[hord];clear hord;go_enter Tryz.func119,Tryz.ntmps119;by_cases h1:a<b
 ·rw[if_pos h1];go_wp2;go_ret;exact⟨rfl,(((Zab w).alloc (Nat.le_refl _) _).alloc (by simp) _)⟩
 ·rw[if_neg h1];by_cases h2:b<a
  ·rw[if_pos h2];have h2':a > b:=h2;go_wp2;go_ret;exact⟨rfl,(((Zab w).alloc (Nat.le_refl _) _).alloc (by simp) _)⟩
  ·rw[if_neg h2];have h2':¬ a > b:=h2;cases lt
   ·cases eq
    ·go_wp2;go_ret;exact⟨rfl,(((Zab w).alloc (Nat.le_refl _) _).alloc (by simp) _)⟩
    ·go_wp2;go_ret;exact⟨rfl,(((Zab w).alloc (Nat.le_refl _) _).alloc (by simp) _)⟩
   ·go_wp2;go_ret;exact⟨rfl,(((Zab w).alloc (Nat.le_refl _) _).alloc (by simp) _)⟩
def Zbx (kd:Nat) (m p:Nat) (xs:List Nat):Bool:=if kd=1 then Zau 8 m p xs.length else Ze7 m p xs
def Zb0 (kd:Nat) (m p:Nat) (xs:List Nat):Nat:=if kd=1 then (if Zau 8 m p xs.length=true then p+8*m else 0)else Ziw m p xs
def Zdi (kd:Nat) (m p:Nat) (xs:List Nat):List (Int×ByteArray):=if kd=1 then ((numL 8 (tk (8*m) (xs.drop p))).map Zcf).map pI else (Zmo m p xs).map pS
theorem Zj4 (kd:Nat) (hkd:kd=1∨kd=2) (v:Value) (xs:List Nat) (p m:Nat) (w:World) (hx:Rd w v xs.length 1 (u8s xs)) (hb:∀ x∈xs,x<256) (hl:xs.length≤16777216) (hp:p≤1099511627776) (hm:m≤4294967296) :
  Calls Tryz.prog 166 #[v,.int .i64 p,.int .i64 kd,.int .i64 m] w fun e w' =>
   ∃ u,e=.returned (.tuple #[u,.int .i64 (Zb0 kd m p xs:Nat),.bool (Zbx kd m p xs)])∧w'.ownsRow w.heap.size 36 3 u (Zdi kd m p xs).length (Zdh (Zdi kd m p xs))∧Below w.heap.size w w':=by
 rcases hkd with rfl | rfl
 ·refine(Zrn v xs p m w hx hb hl hp hm).mono ?_;rintro e w' ⟨u,h1,h2,h3⟩;refine⟨u,?_,?_,h3⟩
  ·unfold Zb0 Zbx;rw[if_pos rfl,if_pos rfl];exact h1
  ·unfold Zdi;rw[if_pos rfl,List.length_map,← Zn9];exact h2
 ·refine(Zrl v xs p m w hx hb hl hp hm).mono ?_;rintro e w' ⟨u,h1,h2,h3⟩;refine⟨u,?_,?_,h3⟩
  ·unfold Zb0 Zbx;rw[if_neg (by decide),if_neg (by decide)];exact h1
  ·unfold Zdi;rw[if_neg (by decide),List.length_map,← Zy9];exact h2
abbrev PV:=Int×ByteArray
def PAns (w w':World) (e:Ending) (r:Bool×List PV):Prop :=
 ∃ u,e=.returned (.tuple #[u,.bool r.1])∧(∃ A n c,u=Value.slice A n c)∧(r.1=true→w'.ownsRow w.heap.size 36 3 u r.2.length (Zdh r.2))∧Below w.heap.size w w'
def geP (a b:PV):Bool:=decide (0≤ordP a b)
def eqP (a b:PV):Bool:=decide (ordP a b=0)
def dN (p:Nat) (xs:List Nat):Nat:=if Zb9 4 p xs.length=true then L.wordOf 8 ((xs.drop p).take 4)else 0
def Zex (kd wd k p:Nat) (xs:List Nat):Bool×List PV :=
 if Zb9 4 p xs.length=false∨256<dN p xs∨wd≠Zgf (dN p xs)then (false,[])
 else if Zbx kd (dN p xs) (p+4) xs=false∨Zbb geP (Zdi kd (dN p xs) (p+4) xs)=false then (false,[])
 else if ((Zbo wd k (Zb0 kd (dN p xs) (p+4) xs) xs).all fun c=>decide (c<dN p xs))=false then (false,[])
 else (Zby wd k (Zb0 kd (dN p xs) (p+4) xs) xs,(Zbo wd k (Zb0 kd (dN p xs) (p+4) xs) xs).map fun c=>(Zdi kd (dN p xs) (p+4) xs).getD c dfP)
theorem Zcu {w w':World} {r:Bool×List PV} (h:r=(false,[])) (hb:Below w.heap.size w w'):PAns w w' (.returned (.tuple #[.slice none 0 0,.bool false])) r:=by
 subst h;exact⟨_,rfl,⟨_,_,_,rfl⟩,(fun h=>by simp at h),hb⟩
theorem Zek (kd m p:Nat) (xs:List Nat) (h:Zbx kd m p xs=true) (hkd:kd=1∨kd=2):(Zdi kd m p xs).length=m:=by
 rcases hkd with rfl | rfl
 ·unfold Zbx at h;rw[if_pos rfl]at h;unfold Zau at h;simp only[decide_eq_true_eq]at h;unfold Zdi;rw[if_pos rfl,List.length_map,List.length_map,Zal];unfold tk;rw[if_pos (by rw[List.length_drop];exact h.2),List.length_take,List.length_drop,Nat.min_eq_left (by omega)];omega
 ·unfold Zbx at h;rw[if_neg (by decide)]at h;unfold Zdi;rw[if_neg (by decide),List.length_map];have h2:=h;unfold Ze7 at h2;simp only[Bool.and_eq_true]at h2;unfold Zau at h2;simp only[decide_eq_true_eq]at h2;unfold Zmo;rw[if_pos h,Zds,Zaq,Zal];unfold tk;rw[if_pos (by rw[List.length_drop];exact h2.1.2),List.length_take,List.length_drop,Nat.min_eq_left (by omega)];omega
theorem Zv6 (kd m p:Nat) (xs:List Nat) (hl:xs.length≤16777216):Zb0 kd m p xs≤16777216:=by
 unfold Zb0
 split
 ·split
  ·rename_i h
   unfold Zau at h;simp only[decide_eq_true_eq]at h;omega
  ·omega
 ·unfold Ziw
  split
  ·rename_i h
   unfold Ze7 at h;simp only[Bool.and_eq_true]at h;obtain⟨h1,h2⟩:=h;unfold Zau at h1;simp only[decide_eq_true_eq]at h1;unfold tsz
   split at h2
   ·cases h2
   ·rename_i sz hsz
    simp only[decide_eq_true_eq]at h2;rw[hsz];simp only[Option.getD_some];omega
  ·omega
theorem Rd.atP {w:World} {D:Option Addr} {n m cd:Nat} {vs:List PV} (h:Rd w (.slice D n cd) m 3 (Zdh vs)) (h0:0<m):∃ b o,D=some ⟨b,o,none⟩ ∧
  ∀ k,k<vs.length→w.cell? ⟨b,o+k*3,none⟩=some (.bool false)∧w.cell? ⟨b,o+k*3+1,none⟩=some (.int .i64 (vs.getD k dfP).1)∧w.cell? ⟨b,o+k*3+2,none⟩=some (.string (vs.getD k dfP).2):=by
 rcases h.2 with ⟨_,rfl⟩ | ⟨b,o,cap',he,_,_,hs⟩
 ·exact absurd h0 (Nat.lt_irrefl 0)
 ·injection he with e1 e2 e3
  refine⟨b,o,e1,fun k hk=>?_⟩;obtain⟨g0,g1,g2⟩:=Zud vs k hk;exact⟨hs _ _ g0,hs _ _ g1,hs _ _ g2⟩
theorem Rd.atW {w:World} {D:Option Addr} {n m cd:Nat} {xs:List Nat} (h:Rd w (.slice D n cd) m 1 (u64s xs)) (h0:0<m):∃ b o,D=some ⟨b,o,none⟩ ∧
  ∀ k,k<xs.length→w.cell? ⟨b,o+k,none⟩=some (.int .u64 ((xs.getD k 0:Nat):Int)):=by
 rcases h.2 with ⟨_,rfl⟩ | ⟨b,o,cap',he,_,_,hs⟩
 ·exact absurd h0 (Nat.lt_irrefl 0)
 ·injection he with e1 e2 e3
  exact⟨b,o,e1,fun k hk=>hs.word k hk⟩
set_option maxHeartbeats 8000000 in
theorem Zut (kd:Nat) (hkd:kd=1∨kd=2) (v:Value) (xs:List Nat) (p wd k:Nat) (w:World) (hx:Rd w v xs.length 1 (u8s xs)) (hb:∀ x∈xs,x<256) (hl:xs.length≤16777216) (hp:p≤16777216) (hk:k≤65536) :
  Calls Tryz.prog 163 #[v,.int .i64 p,.int .i64 kd,.int .i64 wd,.int .i64 k] w fun e w'=>PAns w w' e (Zex kd wd k p xs):=by
 have QS:=hid (Zct v xs p 4 w hx hb hl (by omega) (by omega));have JI:=hid (fun(d:Nat) (hd:d≤256) (w2:World)=>Zyv d w2 hd);have Vo:=hid (fun(d:Nat) (hd:d≤256)=>by
  have h:=Zj4 kd hkd v xs (p+4) d w hx hb hl (by omega) (by omega);rw[show ((p+4:Nat):Int)=(p:Int)+4 by omega]at h;exact h)
 have Yr:=hid (fun(nx:Nat) (hn:nx≤16777216) (w2:World) (hbl:Below w.heap.size w w2)=>Zlf v xs nx wd k w2 (hx.mono hbl) hb hl (by omega));have Y9:=hid (fun m=>Zek kd m (p+4) xs);have YA:=hid (fun m=>Zv6 kd m (p+4) xs hl);obtain⟨A,ca,rfl,_,_,_⟩:=hx.form;clear hx;obtain⟨R,hR⟩:∃ R,Zex kd wd k p xs=R:=⟨_,rfl⟩;rw[hR];unfold Zex dN at hR;obtain⟨ok,hok⟩:∃ ok,Zb9 4 p xs.length=ok:=⟨_,rfl⟩;rw[hok]at hR QS;have hwl:L.wordOf 8 ((xs.drop p).take 4)<4294967296:=Zb2 _ (fun x hx=>hb x (List.mem_of_mem_drop (List.mem_of_mem_take hx))) (by rw[List.length_take];omega);generalize L.wordOf 8 ((xs.drop p).take 4)=d0 at *;have HR:=hid hR;clear hR hok;cases ok
 ·have Q1:=hid (show R=(false,[]) by rw[← HR.out];simp);clear HR;simp only[Bool.false_eq_true,if_false]at QS;go_enter Tryz.func163,Tryz.ntmps163;go_wp2_with (go_at_call 91;refine QS.out.mono ?_;rintro e w1 ⟨rfl,hw⟩;replace hw:=hw.symm;subst hw)
  go_ret2
  exact Zcu Q1.out (Zab w)
 simp only[if_true]at QS HR;by_cases h256:256<d0
 ·have Q1:=hid (show R=(false,[]) by rw[← HR.out,if_pos (.inr (.inl h256))]);clear HR;have h256i:(d0:Int) > 256:=by omega
  go_enter Tryz.func163,Tryz.ntmps163;go_wp2_with (go_at_call 91;refine QS.out.mono ?_;rintro e w1 ⟨rfl,hw⟩;replace hw:=hw.symm;subst hw)
  go_ret2
  exact Zcu Q1.out (Zab w)
 have hd256:d0≤256:=by omega
 have h256i:¬ (d0:Int) > 256:=by omega
 have Uq:=hid (JI.out d0 hd256);have YC:=hid (Vo.out d0 hd256);by_cases hwd:wd=Zgf d0
 rotate_left
 ·have Q1:=hid (show R=(false,[]) by rw[← HR.out,if_pos (.inr (.inr hwd))]);clear HR YC;generalize Zgf d0=nd at *;have hne:((wd:Int) != (nd:Int))=true:=by simp;omega
  go_enter Tryz.func163,Tryz.ntmps163;go_wp2_with (first
   | (go_at_call 91;refine QS.out.mono ?_;rintro e w1 ⟨rfl,hw⟩;replace hw:=hw.symm;subst hw)
   | (go_at_call 117;refine(Uq.out _).mono ?_;rintro e w1 ⟨rfl,hw⟩;replace hw:=hw.symm;subst hw))
  go_ret2
  exact Zcu Q1.out (Zab w)
 rw[if_neg (by simp;omega)]at HR;rw[← hwd]at Uq;have Jc:=hid (Y9.out d0);have HNXd:=hid (YA.out d0);have hne:((wd:Int) != (wd:Int))=false:=by simp
 clear JI Vo Y9 YA hwd;obtain⟨lo,hlo⟩:∃ lo,Zbx kd d0 (p+4) xs=lo:=⟨_,rfl⟩;rw[hlo]at HR YC Jc;generalize Zdi kd d0 (p+4) xs=dict at *;generalize Zb0 kd d0 (p+4) xs=nx at *;go_enter Tryz.func163,Tryz.ntmps163;cases lo
 ·have Q1:=hid (show R=(false,[]) by rw[← HR.out];simp);clear HR;go_wp2_with (first
   | (go_at_call 91;refine QS.out.mono ?_;rintro e w1 ⟨rfl,hw⟩;replace hw:=hw.symm;subst hw)
   | (go_at_call 117;refine(Uq.out _).mono ?_;rintro e w1 ⟨rfl,hw⟩;replace hw:=hw.symm;subst hw)
   | (go_at_call 166;refine YC.out.mono ?_;rintro e w2 ⟨u,rfl,ho2,hb2⟩;have Qc:=hid hb2;clear ho2 hb2))
  go_ret2
  exact Zcu Q1.out Qc.out
 have hdl:dict.length=d0:=Jc.out rfl hkd;go_upto_region 7 with (first
   | (go_at_call 91;refine QS.out.mono ?_;rintro e w1 ⟨rfl,hw⟩;replace hw:=hw.symm;subst hw)
   | (go_at_call 117;refine(Uq.out _).mono ?_;rintro e w1 ⟨rfl,hw⟩;replace hw:=hw.symm;subst hw)
   | (go_at_call 166;refine YC.out.mono ?_;rintro e w2 ⟨u,rfl,ho2,hb2⟩;have Yb:=hid ho2;have Qc:=hid hb2;obtain⟨D,cd,rfl⟩:=Zb1 ho2;clear ho2 hb2))
 rw[hdl]at Yb;have Yh:=hid (Zob Yb.out);have hsz2:=Qc.out.size;have Zt:=hid hdl;clear Yb QS Uq YC Jc hdl;go_wp2_with fail
 go_loopw [55] (fun i wr=>∃ t:Nat,t≤d0∧i=.int .i64 t∧Hid (∀ u,u+1<t→geP (dict.getD u dfP) (dict.getD (u+1) dfP)=false)∧Hid (Below w2.heap.size w2 wr)) (fun i _=>d0-(intOf i).toNat)
 case atStart=>exact⟨0,by omega,rfl,hid (fun u h=>absurd h (by omega)),hid (Zab w2)⟩
 case round =>
  obtain⟨t,ht,rfl,Qr,Qg⟩:=hrel;by_cases hlt:t<d0
  ·rcases Nat.eq_zero_or_pos t with rfl | ht0
   ·go_upto_region 10 with fail
    go_quiet (fail)
    go_wp2_with fail
    go_roundw
    case rel=>exact⟨1,by omega,by go_num,hid (fun u h=>absurd h (by omega)),hid (Zag Qg.out _)⟩
    case measure=>simp[intOf];omega
   ·obtain⟨u,hu⟩:∃ u,t=u+1:=⟨t-1,by omega⟩;obtain⟨b,o,rfl,hcells⟩:=(Yh.out.mono Qg.out).atP (by omega);obtain⟨m0,m1,m2⟩:=hcells u (by rw[Zt.out];omega);obtain⟨l0,l1,l2⟩:=hcells t (by rw[Zt.out];omega);have HG:Hid (geP (dict.getD u dfP) (dict.getD t dfP)=decide (0≤ordP (dict.getD u dfP) (dict.getD t dfP))):=hid rfl;have Ur:=hid (fun(w2:World)=>Zl5 (dict.getD u dfP) (dict.getD t dfP) w2);have QD:Hid (geP (dict.getD u dfP) (dict.getD t dfP)=true→Zbb geP dict=false):=hid (fun h=>by
     rw[← Bool.not_eq_true,Zcb geP dfP];intro h2;have:=h2 u (by rw[Zt.out];omega);rw[← hu,h]at this;cases this)
    have HNEXT:Hid (geP (dict.getD u dfP) (dict.getD t dfP)=false→∀ z,z+1<t+1→geP (dict.getD z dfP) (dict.getD (z+1) dfP)=false):=hid (fun h z hz=>by
     by_cases hzu:z=u
     ·subst hzu;rw[← hu];exact h
     ·exact Qr.out z (by omega))
    clear hcells;generalize dict.getD u dfP=X at *;generalize dict.getD t dfP=Y at *;obtain⟨xi,xs'⟩:=X;obtain⟨yi,ys'⟩:=Y;simp only at m1 m2 l1 l2 Ur;generalize ordP (xi,xs') (yi,ys')=od at *;generalize geP (xi,xs') (yi,ys')=ge at *;have i0:(0:Int)≤(u:Int):=by omega
    have i1:(u:Int)<(d0:Int):=by omega
    have i2:(t:Int)<(d0:Int):=by omega
    have i3:(t:Int) > 0:=by omega
    have ia:(t:Int)-1=(u:Int):=by omega
    have iw:IntKind.i64.wrap ((t:Int)-1)=(u:Int):=by rw[ia,IntKind.wrap_i64];omega
    have iw2:IntKind.i64.wrap (u:Int)=(u:Int):=by rw[IntKind.wrap_i64];omega
    have hbl:b<wr.heap.size:=World.block_lt_of_cell? wr _ m0;clear hu;go_upto_region 10 with fail
    go_region_held3 (fun w'=>w'.cell? ⟨b,o+u*3,none⟩=some (.bool false)∧w'.cell? ⟨b,o+u*3+1,none⟩=some (.int .i64 xi)∧w'.cell? ⟨b,o+u*3+2,none⟩=some (.string xs')∧w'.cell? ⟨b,o+t*3,none⟩=some (.bool false)∧w'.cell? ⟨b,o+t*3+1,none⟩=some (.int .i64 yi)∧w'.cell? ⟨b,o+t*3+2,none⟩=some (.string ys')) (go_keep)
     (first | (go_at_call 119;refine(Ur.out _).mono ?_;rintro e w3 ⟨rfl,hb3⟩;have Qk:=hid ((Zag (Zab wr) 1).trans hb3);have q0:=(hb3.cell (p:=⟨b,o+u*3,none⟩) hbl).trans m0;have q1:=(hb3.cell (p:=⟨b,o+u*3+1,none⟩) hbl).trans m1;have q2:=(hb3.cell (p:=⟨b,o+u*3+2,none⟩) hbl).trans m2;have q3:=(hb3.cell (p:=⟨b,o+t*3,none⟩) hbl).trans l0;have q4:=(hb3.cell (p:=⟨b,o+t*3+1,none⟩) hbl).trans l1;have q5:=(hb3.cell (p:=⟨b,o+t*3+2,none⟩) hbl).trans l2;clear hb3))
    by_cases hod:0≤od
    ·have Q1:=hid (show R=(false,[]) by rw[← HR.out,if_pos (.inr (QD.out (by rw[HG.out];simp[hod])))]);go_wp2_with fail
     go_ret2
     exact Zcu Q1.out (Below.then' Qc.out (Below.then' Qg.out Qk.out Qg.out.size) hsz2)
    ·have YW:=hid (HNEXT.out (by rw[HG.out];simp;omega));go_wp2_with fail
     go_roundw
     case rel=>exact⟨t+1,by omega,by go_num,YW,hid (Below.then' Qg.out Qk.out Qg.out.size)⟩
     case measure=>simp[intOf];omega
  ·obtain rfl:t=d0:=by omega
   have hnp:Zbb geP dict=true:=(Zcb geP dfP dict).2 (fun z hz=>Qr.out z (by rw[← Zt.out];exact hz));rw[if_neg (by rw[hnp];simp)]at HR;have Zh:=hid (Below.then' Qc.out Qg.out hsz2);have HLNw:=hid (Yr.out nx HNXd wr Zh.out);have hcl:=Zmz wd k nx xs;have hcv:=Zpr wd k nx xs;have HDR:=hid (Yh.out.mono Qg.out);generalize Zbo wd k nx xs=CV at *;generalize Zby wd k nx xs=lk at *;clear Yh hnp Qr Yr Qc Qg;go_upto_region 15 with (go_at_call 206;refine HLNw.out.mono ?_;rintro e w3 ⟨cu,rfl,ho3,hb3⟩;have Y0:=hid (Zba ho3);have Qk:=hid hb3;obtain⟨E,ce,rfl,hce1,hce2,_,_⟩:=Zaj ho3;clear ho3 hb3)
   have HDR3:=hid (HDR.out.mono Qk.out);have Vp:=hid (Below.then' Zh.out Qk.out Zh.out.size);obtain⟨cn,hcn⟩:∃ cn,CV.length=cn:=⟨_,rfl⟩;have Ui:=hid hcn;rw[hcn]at Y0 hcl hce1 ⊢;clear HDR Zh HLNw hcn;unfold maxLen at hce2;go_wp2_with fail
   go_loopw [18,84] (fun s i wz=>∃ z:Nat,z≤cn∧i=.int .i64 z∧Hid (∀ y,y<z→CV.getD y 0<t)∧Hid (wz.ownsRow w3.heap.size 36 3 s z (Zdh ((CV.take z).map fun c=>dict.getD c dfP)))∧Hid (Below w3.heap.size w3 wz)) (fun _ i _=>cn-(intOf i).toNat)
   case atStart=>exact⟨0,by omega,rfl,hid (fun y h=>absurd h (Nat.not_lt_zero y)),hid ⟨by simp[Zdh],.inl ⟨rfl,rfl⟩⟩,hid (Zab w3)⟩
   case round =>
    obtain⟨z,hz,rfl,Qr,Qd,QU⟩:=hrel;have hszz:=QU.out.size;obtain⟨A2,c2,rfl⟩:=Zb1 Qd.out;have hBz:w.heap.size≤wr.heap.size:=Nat.le_trans Vp.out.size hszz;have HBWZ:=hid (Below.then' Vp.out QU.out Vp.out.size);by_cases hlt2:z<cn
    ·obtain⟨b,o,rfl,hs⟩:=(Y0.out.mono QU.out).atW (by omega);have e1:=hs z (by rw[Ui.out];exact hlt2);have hx64:=hcv (CV.getD z 0) (by simp[List.getD,List.getElem?_eq_getElem (show z<CV.length by rw[Ui.out];exact hlt2)]);have QJ:=hid (Zgi (fun c=>dict.getD c dfP) 0 CV z (by rw[Ui.out];exact hlt2));have QD:Hid (¬ CV.getD z 0<t→(CV.all fun c=>decide (c<t))=false):=hid (fun h=>by
      rw[← Bool.not_eq_true];intro h2;simp only[List.all_eq_true,decide_eq_true_eq]at h2;exact h (h2 _ (by simp[List.getD,List.getElem?_eq_getElem (show z<CV.length by rw[Ui.out];exact hlt2)])))
     clear hs;by_cases hbig:CV.getD z 0<t
     ·obtain⟨b',o',rfl,hcells⟩:=(HDR3.out.mono QU.out).atP (by omega);obtain⟨l0,l1,l2⟩:=hcells (CV.getD z 0) (by rw[Zt.out];exact hbig);have HNX2:Hid (∀ y,y<z+1→CV.getD y 0<t):=hid (fun y hy=>by
       by_cases hyz:y=z
       ·subst hyz;exact hbig
       ·exact Qr.out y (by omega))
      clear hcells QD;generalize dict.getD (CV.getD z 0) dfP=X at *;generalize CV.getD z 0=x at *;obtain⟨xi,xs'⟩:=X;simp only at l1 l2;have i1:¬ (x:Int) ≥ (t:Int):=by omega
      go_wp2_with (at_builtin;refine Zb6 rfl (.tmp 91) (.tmp 96) rfl 36 [.bool false,.int .i64 0,.string ByteArray.empty] 32 Tryz.underlying78 Tryz.infoCell rfl rfl rfl Qd.out hszz (by intro u hu;simp at hu;rcases hu with rfl | rfl | rfl<;>rfl) (by unfold maxLen;omega) (by omega) ?_;intro v' w' ho hb3)
      go_roundw
      case rel =>
       refine⟨z+1,by omega,by go_num,HNX2,hid ?_,hid (Below.trans QU.out hb3)⟩;rw[QJ.out,Zif];exact ho
      case measure=>simp[intOf];omega
     ·have Q1:=hid (show R=(false,[]) by rw[← HR.out,if_pos (QD.out hbig)]);generalize CV.getD z 0=x at *;have i1:(x:Int) ≥ (t:Int):=by omega
      go_wp2_with fail
      go_ret2
      exact Zcu Q1.out HBWZ.out
    ·obtain rfl:z=cn:=by omega
     have hall:(CV.all fun c=>decide (c<t))=true:=by
      simp only[List.all_eq_true,decide_eq_true_eq];intro x hx;obtain⟨y,hy,rfl⟩:=List.getElem_of_mem hx;have:=Qr.out y (by rw[← Ui.out];exact hy);simpa [List.getD,List.getElem?_eq_getElem hy]using this
     have Y4:=hid (show R=(lk,CV.map fun c=>dict.getD c dfP) by rw[← HR.out,if_neg (by rw[hall];simp)]);have J1:Hid (wr.ownsRow w.heap.size 36 3 (.slice A2 z c2) (CV.map fun c=>dict.getD c dfP).length (Zdh (CV.map fun c=>dict.getD c dfP))):=hid (by
      have h:=Ze0 Qd.out Vp.out.size;rw[← Ui.out,List.take_length]at h;rw[List.length_map];rw[← Ui.out];exact h)
     go_wp2_with fail
     go_ret2
     rw[Y4.out];exact⟨_,rfl,⟨_,_,_,rfl⟩,fun _=>J1.out,HBWZ.out⟩
def Zgo (heads:List PV) (ends:List Nat):Nat→List PV
 | 0=>[]
 | i+1=>Zgo heads ends i++List.replicate (ends.getD i 0-(Zgo heads ends i).length) (heads.getD i dfP)
theorem Zu5 (es fs:List Int):∀(l m:Int),Za2 l es=some m→Za2 l (es++fs)=Za2 m fs:=by
 induction es with
 | nil=>intro l m h;simp[Za2]at h;subst h;rfl
 | cons a r ih =>
  intro l m h;simp only[List.cons_append,Za2]at h ⊢
  split at h
  ·cases h
  ·rename_i hc;rw[if_neg hc];exact ih a m h
theorem Ziv (es:List Int):∀(l m:Int),Za2 l es=some m→l≤m:=by
 induction es with
 | nil=>intro l m h;simp[Za2]at h;omega
 | cons a r ih =>
  intro l m h;simp only[Za2]at h
  split at h
  ·cases h
  ·have:=ih a m h;omega
theorem Znl (xs:List Nat) (i:Nat) (h:i<xs.length):(nI xs).getD i 0=((xs.getD i 0:Nat):Int):=by
 simp[nI,List.getD,List.getElem?_eq_getElem h]
theorem Zh6 (ends:List Nat) (i l:Nat) (hi:i<ends.length) (h:Za2 0 (nI (ends.take i))=some (l:Int)) :
  Za2 0 (nI (ends.take (i+1)))=if ends.getD i 0≤l then none else some ((ends.getD i 0:Nat):Int):=by
 have e:ends.take (i+1)=ends.take i++[ends.getD i 0]:=by
  rw[List.take_succ_eq_append_getElem hi];simp[List.getD,List.getElem?_eq_getElem hi]
 rw[e,Zeo,show nI [ends.getD i 0]=[((ends.getD i 0:Nat):Int)]from rfl,Zmh,h];simp only[Option.bind_some];by_cases hc:ends.getD i 0≤l
 ·rw[if_pos hc,if_pos (by omega)]
 ·rw[if_neg hc,if_neg (by omega)]
theorem Zr8 (ends:List Nat) (i:Nat) (k:Int) (h:Za2 0 (nI (ends.take i))=none):Zax (nI ends) k=false:=by
 have:=Zga (nI (ends.take i)) (nI (ends.drop i)) 0 h;rw[← Zeo,List.take_append_drop]at this;simp[Zax,this]
theorem Zq4 (ends:List Nat) (i:Nat) (k m:Int) (h:Za2 0 (nI (ends.take i))=some m) (hm:k<m):Zax (nI ends) k=false:=by
 have h2:=Zu5 (nI (ends.take i)) (nI (ends.drop i)) 0 m h;rw[← Zeo,List.take_append_drop]at h2;unfold Zax;rw[h2];cases he:Za2 m (nI (ends.drop i))with
 | none=>rfl
 | some x =>
  have:=Ziv _ _ _ he;simp;omega
theorem Zf2 (heads:List PV) (ends:List Nat):∀(i l:Nat),i≤ends.length→Za2 0 (nI (ends.take i))=some (l:Int)→(Zgo heads ends i).length=l
 | 0,l,_,h=>by simp[nI,Za2]at h;simp[Zgo];omega
 | i+1,l,hi,h=>by
  cases h0:Za2 0 (nI (ends.take i))with
  | none =>
   have e:ends.take (i+1)=ends.take i++[ends.getD i 0]:=by
    rw[List.take_succ_eq_append_getElem (by omega)];simp[List.getD,List.getElem?_eq_getElem (show i<ends.length by omega)]
   rw[e,Zeo,Zga _ _ _ h0]at h;cases h
  | some m =>
   have hm:=Ziv _ _ _ h0;obtain⟨m,rfl⟩:=Int.eq_ofNat_of_zero_le hm;have ih:=Zf2 heads ends i m (by omega) h0;rw[Zh6 ends i m (by omega) h0]at h
   split at h
   ·cases h
   ·injection h with h
    simp only[Zgo,List.length_append,List.length_replicate,ih];omega
def Zd7 (kd k p:Nat) (xs:List Nat):Bool×List PV :=
 if Zb9 4 p xs.length=false∨k<dN p xs then (false,[])
 else if Zau 4 (dN p xs) (p+4) xs.length=false then (false,[])
 else if Zbx kd (dN p xs) (p+4+4*dN p xs) xs=false∨¬ Zb0 kd (dN p xs) (p+4+4*dN p xs) xs=xs.length then (false,[])
 else if Zbb eqP (Zdi kd (dN p xs) (p+4+4*dN p xs) xs)=false∨Zax (nI (numL 4 (tk (4*dN p xs) (xs.drop (p+4))))) k=false then (false,[])
 else (true,Zgo (Zdi kd (dN p xs) (p+4+4*dN p xs) xs) (numL 4 (tk (4*dN p xs) (xs.drop (p+4)))) (dN p xs))
end Go.Proofs.YtmcjknjlihgihaaGreatDoor
