/- A zone holds for a body as it holds for the body's cells (integers). -/
import Derived.Test.YtmcjknjlihgihaaGreatDoorLawparseuptoM32
set_option linter.unusedVariables false
set_option linter.unusedSimpArgs false
set_option linter.unnecessarySimpa false
set_option maxRecDepth 20000
namespace Go.Proofs.YtmcjknjlihgihaaGreatDoor
open Go.RowKit
theorem Zyy {α : Type} (ys:List α) (n:Nat) (f:Nat→α) (h1:∀ y∈ys,∃ j,j<n∧y=f j) (h2:∀ j,j<n→f j∈ys) (p : α→Bool):ys.all p=(List.range n).all fun j=>p (f j):=by
 rw[Bool.eq_iff_iff,List.all_eq_true,List.all_eq_true];constructor
 ·intro h j hj;exact h _ (h2 j (List.mem_range.1 hj))
 ·intro h y hy;obtain⟨j,hj,rfl⟩:=h1 y hy;exact h j (List.mem_range.2 hj)
theorem Znr {list:List Int} {i:Nat} (h:i<list.length):list.getD i dfI∈list:=by simp[List.getD,List.getElem?_eq_getElem h]
theorem Zn4 {list:List Int} {y:Int} (h:y∈list):∃ i,i<list.length∧y=list.getD i dfI:=by
 obtain⟨i,hi,rfl⟩:=List.getElem_of_mem h;exact⟨i,hi,by simp[List.getD,List.getElem?_eq_getElem hi]⟩
theorem Zio (f:Nat→Nat) (k:Nat) (list:List Int) (y:Int):∀ i,y∈Zdb f k list i↔∃ t,t<i∧Zdt f k t=true∧y=list.getD t dfI
 | 0=>by simp[Zdb]
 | i+1=>by
  unfold Zdb;rw[List.mem_append,Zio f k list y i];constructor
  ·rintro(⟨t,h1,h2,h3⟩ | h)
   ·exact⟨t,by omega,h2,h3⟩
   ·split at h
    ·rename_i hu
     exact⟨i,by omega,hu,List.mem_singleton.1 h⟩
    ·cases h
  ·rintro⟨t,h1,h2,h3⟩;by_cases ht:t=i
   ·subst ht
    right;rw[if_pos h2];exact List.mem_singleton.2 h3
   ·exact .inl ⟨t,by omega,h2,h3⟩
theorem Zkx (f:Nat→Nat) (k t:Nat):Zdt f k t=true↔∃ j,j<k∧f j=t:=by
 unfold Zdt;rw[List.any_eq_true];constructor
 ·rintro⟨j,hj,h⟩;exact⟨j,List.mem_range.1 hj,by simpa using h⟩
 ·rintro⟨j,hj,h⟩;exact⟨j,List.mem_range.2 hj,by simpa using h⟩
theorem Zse {es:List Nat} {k:Nat} (h:Za1 (nI es) k=true) (i:Nat) (hi:i<es.length):∃ j,j<k∧Zb7 (nI es) ((j:Int)+1)=i:=by
 have h1:Za4 0 (nI es)=some (k:Int):=by simpa [Za1]using h
 have hasc:=Ze8 h;have hgt:=Zi7 (nI es) 0 k h1 i (by rw[Zas];exact hi);have hle:=Zkf (nI es) 0 k h1 i (by rw[Zas];exact hi);have hg:(nI es).getD i 0=(es.getD i 0:Nat):=by unfold nI;simp[List.getD,List.getElem?_map,List.getElem?_eq_getElem hi]
 rw[hg]at hgt hle;refine⟨es.getD i 0-1,by omega,?_⟩;have e:(((es.getD i 0-1:Nat):Int)+1)=(nI es).getD i 0:=by rw[hg];omega
 rw[e];refine Zhv _ _ i (by rw[Zas];omega) (fun a ha=>hasc a i ha (by rw[Zas];exact hi)) (fun _=>Int.le_refl _)
theorem Zum (rows:Nat) (xs:List Nat) (h:Zce rows xs=true) (hok:∀ j,j<Za8 rows (Zaa rows xs).nulls→Zoh (Zaa rows xs).codec (Zaa rows xs).wd (Zal rows xs).list (Zal rows xs).ends (Zal rows xs).lanes j) :
  (∀ y∈Zsn rows xs,∃ j,j<Za8 rows (Zaa rows xs).nulls∧y=Zno rows xs j)∧∀ j,j<Za8 rows (Zaa rows xs).nulls→Zno rows xs j∈Zsn rows xs:=by
 unfold Zce Zgu at h;simp only[Bool.and_eq_true,Bool.not_eq_true',decide_eq_true_eq]at h;obtain⟨⟨hpk,hcd⟩,hOb,hOs,hOl⟩:=h;unfold Zsn Zno;generalize Zco rows xs=bs at *;unfold Zal at *;generalize Za8 rows (Zaa rows xs).nulls=k at *;generalize (Zaa rows xs).left=x3 at *;generalize (Zaa rows xs).short=t3 at *;generalize (Zaa rows xs).codec=cd at *;generalize (Zaa rows xs).wd=wd at *;have hcdk:1≤cd∧cd≤5:=by
  unfold Zbj at hcd
  split at hcd
  ·omega
  ·simp only[decide_eq_true_eq]at hcd;omega
 unfold Zbf at *;by_cases h1:cd=1
 ·subst h1;rw[if_pos rfl]at *;unfold Zbt at *;simp only[Bool.and_eq_true,decide_eq_true_eq]at *;have hf:=Zei hOb.1 hOs;have hv:∀ j,vl_I 1 wd (rdI k x3 t3).1 [] bs [] j=(rdI k x3 t3).1.getD j dfI:=fun j=>by unfold vl_I Zjj;rw[if_neg (by omega),if_pos rfl]
  unfold yv_I;rw[if_pos (.inl rfl)];refine⟨fun y hy=>?_,fun j hj=>?_⟩
  ·obtain⟨i,hi,he⟩:=Zn4 hy;exact⟨i,by omega,by rw[hv];exact he⟩
  ·rw[hv];exact Znr (by omega)
 by_cases h2:cd=2
 ·subst h2;rw[if_neg (by decide),if_pos rfl]at *;unfold Zbu at *
  split at hOb
  ·cases hOb
  ·rename_i hc
   rw[if_neg hc]at *;generalize rdI (L.wordOf 8 (tk 4 x3)) (tkL 4 x3) (tkS 4 x3 t3)=R at *;generalize L.wordOf 8 (tk 4 x3)=d at *;have hfl:R.2.1=true→R.2.2.2=false→True:=fun _ _=>trivial
   obtain⟨vals,ok,xl,s1⟩:=R;simp only at *
   split at hOb
   ·rename_i hoa
    rw[if_pos hoa]at *;simp only at *;obtain⟨l1,l2,l3,l4⟩:=Zcd hOb;have hv:∀ j,vl_I 2 wd vals [] bs (Za7 xl) j=vals.getD (L.laneOf wd (Za7 xl) j) dfI:=fun j=>by unfold vl_I Zjj;rw[if_neg (by omega),if_neg (by decide),if_pos rfl]
    unfold yv_I;rw[if_neg (by omega),if_pos rfl];refine⟨fun y hy=>?_,fun j hj=>?_⟩
    ·obtain⟨t,ht,hu,he⟩:=(Zio _ _ _ _ _).1 hy;obtain⟨j,hj,hl⟩:=(Zkx _ _ _).1 hu;exact⟨j,hj,by rw[hv,hl];exact he⟩
    ·rw[hv];by_cases hlt:L.laneOf wd (Za7 xl) j<vals.length
     ·exact(Zio _ _ _ _ _).2 ⟨_,hlt,(Zkx _ _ _).2 ⟨j,hj,rfl⟩,rfl⟩
     ·exfalso;have:=hok j hj;unfold Zoh ok_I at this;rcases this with ⟨h9,_⟩ | ⟨h9,_⟩ | ⟨_,h5,_,h6⟩ | ⟨h9,_⟩
      ·omega
      ·omega
      ·exact hlt h5
      ·omega
   ·cases hOb
 by_cases h3:cd=3
 ·subst h3;rw[if_neg (by decide),if_neg (by decide),if_pos rfl]at *;unfold Zbo at *
  split at hOb
  ·cases hOb
  ·rename_i hc
   rw[if_neg hc]at *;have hfl:=@Zei (L.wordOf 8 (tk 4 x3)) (tkL (4*L.wordOf 8 (tk 4 x3)) (tkL 4 x3)) (tkS (4*L.wordOf 8 (tk 4 x3)) (tkL 4 x3) (tkS 4 x3 t3));have hsh:=Zkm (L.wordOf 8 (tk 4 x3)) (tkL (4*L.wordOf 8 (tk 4 x3)) (tkL 4 x3)) (tkS (4*L.wordOf 8 (tk 4 x3)) (tkL 4 x3) (tkS 4 x3 t3));have hel:tkS (4*L.wordOf 8 (tk 4 x3)) (tkL 4 x3) (tkS 4 x3 t3)=false→(numL 4 (tk (4*L.wordOf 8 (tk 4 x3)) (tkL 4 x3))).length=L.wordOf 8 (tk 4 x3):=fun h=>by
    rw[Zan,Zk1 (Zb6 h).1];omega
   generalize rdI (L.wordOf 8 (tk 4 x3)) (tkL (4*L.wordOf 8 (tk 4 x3)) (tkL 4 x3)) (tkS (4*L.wordOf 8 (tk 4 x3)) (tkL 4 x3) (tkS 4 x3 t3))=R at *;generalize numL 4 (tk (4*L.wordOf 8 (tk 4 x3)) (tkL 4 x3))=es at *;generalize tkS (4*L.wordOf 8 (tk 4 x3)) (tkL 4 x3) (tkS 4 x3 t3)=s2 at *;generalize L.wordOf 8 (tk 4 x3)=d at *;obtain⟨vals,ok,xl,s1⟩:=R;simp only[Bool.and_eq_true]at *;have hvl:=hfl hOb.1 hOs;have hed:=hel (hsh hOs);have hre:Za1 (nI es) k=true:=by
    cases hx:Za1 (nI es) k with
    | true=>rfl
    | false=>exact absurd (.inr hx) hc
   have hv:∀ j,vl_I 3 wd vals es bs [] j=vals.getD (Zb7 (nI es) ((j:Int)+1)) dfI:=fun j=>by unfold vl_I Zjj;rw[if_neg (by omega),if_neg (by decide),if_neg (by decide)]
   unfold yv_I;rw[if_pos (.inr rfl)];refine⟨fun y hy=>?_,fun j hj=>?_⟩
   ·obtain⟨i,hi,he⟩:=Zn4 hy;obtain⟨j,hj,hf⟩:=Zse hre i (by omega);exact⟨j,hj,by rw[hv,hf];exact he⟩
   ·rw[hv];refine Znr ?_;have:=Ze3 hre ((j:Int)+1) (by omega) (by omega);rw[Zas,hed]at this;omega
 ·have hv:∀(l:List Int) (e lanes:List Nat),yv_I cd wd l e bs lanes k=(List.range k).map (vl_I cd wd l e bs lanes):=fun l e lanes=>by unfold yv_I;rw[if_neg (by omega),if_neg h2]
  rw[hv];refine⟨fun y hy=>?_,fun j hj=>?_⟩
  ·rw[List.mem_map]at hy;obtain⟨j,hj,rfl⟩:=hy;exact⟨j,List.mem_range.1 hj,rfl⟩
  ·rw[List.mem_map];exact⟨j,List.mem_range.2 hj,rfl⟩
theorem Zz0 (rows:Nat) (xs:List Nat) (hb:∀ x∈xs,x<256) (hl:xs.length≤16777216) (hrr:rows≤65536) (h:Zce rows xs=true) (p:Int→Bool):(Zsn rows xs).all p=(List.range (Za8 rows (Zaa rows xs).nulls)).all fun j=>p (Zno rows xs j) :=
 Zyy _ _ _ (Zum rows xs h (Zoo rows xs hb hl hrr h).ok).1 (Zum rows xs h (Zoo rows xs hb hl hrr h).ok).2 p
theorem Zvh (x:Int) (h:(vk_I x).s.size≤1024):Zdw 1 (vk_I x)=true:=by
 unfold Zdw ofK vk_I at *;rw[if_neg (by simp)];rw[if_pos rfl];exact(show (true&&ByteArray.empty.toList.isEmpty)=true from by decide +kernel)
theorem Z0b (z:ZM) (rows:Nat) (x:Int) (hs:(vk_I x).s.size≤1024) (hz:zOk 1 rows z=true) (hnr:z.rg=true→z.nu≠(rows:Int)):sndC z 1 rows (vk_I x)=Zof z x:=by
 unfold sndC Zof;have e0:(vk_I x).n=false:=rfl;rw[e0,Bool.false_or];congr 1
 ·cases hr:z.rg
  ·simp
  ·have hne:=hnr hr;rcases Zn0 hz with ⟨_,_,h1,h2⟩ | ⟨h,_⟩
   ·rw[decide_eq_true hne];have e1:=Zp4 h1;have e2:=Zp4 h2;unfold Zqf vk_I;rw[e1,e2];simp only[Zzw,Bool.and_false,Bool.or_false,Bool.and_self,Bool.not_true,Bool.false_or]
   ·exact absurd ⟨hr,hne⟩ h
 ·cases hbl:decide (z.bl=[])
  ·have hne:z.bl≠[]:=by simpa using hbl
   rcases Zfx hz with ⟨h,_⟩ | ⟨_,h2,h3,h4⟩
   ·exact absurd h hne
   ·rw[Bool.false_or,Bool.false_or];unfold hasR;rw[Zvh x hs];have hl:0<z.bl.length:=List.length_pos_iff.2 hne;have e:Zet (z.bl.length:Int) z.hs=true:=by unfold Zet;rw[decide_eq_true_eq];omega
    rw[e];rfl
  ·rfl
theorem Z0t (rows:Nat) (xs:List Nat) (hb:∀ x∈xs,x<256) (hl:xs.length≤16777216) (hrr:rows≤65536) (h:Zce rows xs=true) (j:Nat) (hj:j<Za8 rows (Zaa rows xs).nulls):(vk_I (Zno rows xs j)).s.size≤1024:=by
 show ByteArray.empty.size≤1024
 decide
theorem Zxw (rows:Nat) (xs:List Nat) (z:ZM) (hb:∀ x∈xs,x<256) (hl:xs.length≤16777216) (hrr:rows≤65536) (hz:zOk 1 rows z=true) :
  Zqp rows xs z=(rOk 1 rows xs&&sndR z 1 rows (cA (rWs rows xs)) (cB (rWs rows xs) (rPay 1 rows xs).2) (cC (rWs rows xs) (rPay 1 rows xs).2)):=by
 obtain⟨m1,m2⟩:=Zx9 rows xs hrr;unfold Zqp;cases hlk:Zce rows xs
 ·rw[← m1,hlk];rfl
 ·rw[← m1,hlk,Bool.true_and,Bool.true_and];have m3:=m2 (by rw[← m1];exact hlk);have hn:(Zaa rows xs).nulls=rWs rows xs:=by
   cases hno:Zav 8 (rN rows) 2 xs.length
   ·exfalso;have e1:rOk 1 rows xs=false:=by unfold rOk rHd;rw[hno];simp
    rw[← m1,hlk]at e1;cases e1
   ·exact(Zm2 rows xs hno).2.2.1
  have hsz:=Z0t rows xs hb hl hrr hlk;unfold Zts;rw[Zz0 rows xs hb hl hrr hlk];have hcell:∀ r,r<rows→Zar (rWs rows xs) r=false→(⟨cA (rWs rows xs) r,cB (rWs rows xs) (rPay 1 rows xs).2 r,cC (rWs rows xs) (rPay 1 rows xs).2 r⟩:C3)=vk_I (Zno rows xs (r-Zaw (rWs rows xs) r)):=by
   intro r hr hbit;obtain⟨a1,a2,a3⟩:=m3 r hr;rw[← a1,← a2,← a3];unfold Zhc Zha Zhg;rw[hn,hbit,Zi1 _ _ hbit];rfl
  have hnull:∀ r,Zar (rWs rows xs) r=true→cA (rWs rows xs) r=true:=fun r h=>h
  rw[hn]at *;have hcnt:Za8 rows (rWs rows xs)=rows-Zaw (rWs rows xs) rows:=rfl;rw[hcnt]at *;have hrk:=Ze0 (rWs rows xs) rows;unfold sndR;rw[Zqm];generalize (rPay 1 rows xs).2=vs at *;generalize rWs rows xs=ws at *;clear m1 m2 m3 hlk hn hcnt;rw[Bool.eq_iff_iff];simp only[Bool.and_eq_true,List.all_eq_true,List.mem_range,Bool.or_eq_true,Bool.not_eq_true',decide_eq_true_eq];constructor
  ·rintro⟨h1,h2⟩;refine⟨fun r hr=>?_,?_⟩
   ·cases hbit:Zar ws r
    ·have hj:=Zn7 ws rows r hr hbit;rw[hcell r hr hbit,Z0b z rows _ (hsz _ hj) hz]
     ·exact h2 _ hj
     ·intro hrg;rcases h1 with h1 | h1
      ·rw[h1]at hrg;cases hrg
      ·omega
    ·unfold sndC;simp only;rw[hnull r hbit];rfl
   ·rcases h1 with h1 | h1
    ·exact .inl h1
    ·exact .inr (by omega)
  ·rintro⟨h1,h2⟩;refine⟨?_,fun j hj=>?_⟩
   ·rcases h2 with h2 | h2
    ·exact .inl h2
    ·exact .inr (by omega)
   ·obtain⟨r,hr,hbit,rfl⟩:=Zjv ws rows j hj;have:=h1 r hr;rw[hcell r hr hbit,Z0b z rows _ (hsz _ hj) hz]at this
    ·exact this
    ·intro hrg;rcases h2 with h2 | h2
     ·rw[h2]at hrg;cases hrg
     ·omega
end Go.Proofs.YtmcjknjlihgihaaGreatDoor
