/- Lists that share no memory: where append leaves its answer; the law's own test of it, over lists of words. -/
import Derived.RangeFuncNested
import Derived.RangeFuncBound
import Derived.RangeFuncCalls
import Derived.RangeFuncLeaves
import Derived.Test.YtmcjknjlihgihaaGreatDoorLawparseuptoM19
set_option linter.unusedVariables false
set_option linter.unusedSimpArgs false
set_option linter.unnecessarySimpa false
set_option maxRecDepth 20000
namespace Go.Proofs.YtmcjknjlihgihaaGreatDoor
open Go.RowKit
theorem Zo3 (cd wd k P:Nat) (xs:List Nat) (hP:P≤xs.length) (hk:k≤65536) :
  (Zbj 1 cd&&Zdc (Zbf cd wd k (xs.drop P) false))=((payR 1 cd wd k P xs).1&&decide ((payR 1 cd wd k P xs).2.length=k)) ∧
  (((payR 1 cd wd k P xs).1&&decide ((payR 1 cd wd k P xs).2.length=k))=true→∀ j,j<k→(payR 1 cd wd k P xs).2.getD j dfP =
   pK_I (vl_I cd wd (Zbf cd wd k (xs.drop P) false).list (Zbf cd wd k (xs.drop P) false).ends (Zde cd (xs.drop P)) (Zbf cd wd k (xs.drop P) false).lanes j)):=by
 by_cases h1:cd=1
 ·subst h1;obtain⟨m1,m2⟩:=Zra wd k P xs hP;have e1:payR 1 1 wd k P xs=(Zbw 1 k P xs&&decide (Zbz 1 k P xs=xs.length)&&decide (1=1)&&decide (wd=0),Zdo 1 k P xs):=by unfold payR;simp
  have e2:Zbf 1 wd k (xs.drop P) false=Zbt wd k (xs.drop P) false:=by unfold Zbf;simp
  have hll:=fun ho=>Zeo 1 k P xs ho (.inl rfl)
  rw[e1,e2,m1];refine⟨?_,fun h j hj=>?_⟩
  ·cases ho:Zbw 1 k P xs
   ·simp[Zbj,Zax]
   ·simp[Zbj,Zax,hll ho]
  ·simp only[Bool.and_eq_true,decide_eq_true_eq]at h;have ho:=h.1.1.1.1;have hm:=m2 ho;have hl:=hll ho;rw[show Zdo kN_I k P xs=Zdo 1 k P xs from rfl]at hm;unfold vl_I Zjj;rw[if_neg (by decide),if_pos rfl,← hm,Zey pK_I _ j dfI dfP];rw[← hm,List.length_map]at hl;omega
 by_cases h2:cd=2
 ·subst h2;obtain⟨m1,m2⟩:=Zs9 wd k P xs hP hk;have e1:payR 1 2 wd k P xs=Zev 1 wd k P xs:=by unfold payR;simp
  have e2:Zbf 2 wd k (xs.drop P) false=Zbu wd k (xs.drop P) false:=by unfold Zbf;simp
  rw[e1,e2,m1];refine⟨by simp[Zbj,Zax],fun h j hj=>?_⟩;rw[Bool.and_eq_true]at h;rw[show Zev 1 wd k P xs=Zev kN_I wd k P xs from rfl,m2 h.1 j hj];unfold vl_I Zjj;rw[if_neg (by decide),if_neg (by decide),if_pos rfl]
 by_cases h3:cd=3
 ·subst h3;obtain⟨m1,m2⟩:=Zsm wd k P xs hP hk;have e1:payR 1 3 wd k P xs=((Zd5 1 k P xs).1&&decide (wd=0),(Zd5 1 k P xs).2):=by unfold payR;simp
  have e2:Zbf 3 wd k (xs.drop P) false=Zbo wd k (xs.drop P) false:=by unfold Zbf;simp
  rw[e1,e2,m1];refine⟨by simp[Zbj,Zax],fun h j hj=>?_⟩;simp only[Bool.and_eq_true]at h;simp only;rw[show Zd5 1 k P xs=Zd5 kN_I k P xs from rfl,m2 h.1.1 h.1.2 j hj];unfold vl_I Zjj;rw[if_neg (by decide),if_neg (by decide),if_neg (by decide)]
 by_cases h4:cd=4
 ·subst h4;have e2:Zbf 4 wd k (xs.drop P) false=Zdr wd (Zde 4 (xs.drop P)) k (tkL 8 (xs.drop P)) (tkS 8 (xs.drop P) false):=by unfold Zbf;simp
  have e1:payR 1 4 wd k P xs=(if Zb8 8 P xs.length=false∨64<wd∨¬ (1:Nat)=1 then (false,[])else
    (fits (Zcf (L.wordOf 8 ((xs.drop P).take 8))) (Zbm wd k (P+8) xs)&&Zbx wd k (P+8) xs,(Zi9 (Zcf (L.wordOf 8 ((xs.drop P).take 8))) (Zbm wd k (P+8) xs)).map pI)):=by unfold payR;simp
  rw[e1,e2];by_cases h8:8≤xs.length-P
  rotate_left
  ·rw[if_pos (.inl (by unfold Zb8;exact decide_eq_false (by omega)))];have e4:tkS 8 (xs.drop P) false=true:=by unfold tkS;rw[dl,if_neg h8]
   rw[e4,Zmp,Bool.and_false];exact⟨rfl,fun h=>by cases h⟩
  have hno:Zb8 8 P xs.length=true:=by unfold Zb8;exact decide_eq_true ⟨hP,h8⟩
  have e3:Zde 4 (xs.drop P)=Zcf (L.wordOf 8 ((xs.drop P).take 8)):=by unfold Zde tk;rw[if_pos rfl,dl,if_pos h8]
  have e4:tkS 8 (xs.drop P) false=false:=by unfold tkS;rw[dl,if_pos h8]
  have e5:tkL 8 (xs.drop P)=xs.drop (P+8):=by unfold tkL;rw[dl,if_pos h8,List.drop_drop]
  by_cases hw:64<wd
  ·rw[if_pos (.inr (.inl hw)),Zt4 _ _ _ _ hw,Bool.and_false];exact⟨rfl,fun h=>by cases h⟩
  rw[if_neg (fun h=>h.elim (fun h=>by rw[hno]at h;cases h) (fun h=>h.elim hw (fun h=>h rfl))),e3,e4,e5];obtain⟨m1,m2⟩:=Zuf wd k (P+8) (Zcf (L.wordOf 8 ((xs.drop P).take 8))) xs (by omega) hk;rw[m1];refine⟨by simp[Zbj],fun h j hj=>?_⟩;rw[Bool.and_eq_true]at h;simp only;rw[m2 h.1 j hj];unfold vl_I;rw[if_pos (.inl rfl)];rfl
 by_cases h5:cd=5
 ·subst h5;have e2:Zbf 5 wd k (xs.drop P) false=Zdr wd 0 k (xs.drop P) false:=by unfold Zbf;simp
  have e1:payR 1 5 wd k P xs=(if 64<wd∨¬ (1:Nat)=1 then (false,[])else (fits 0 (Zbm wd k P xs)&&Zbx wd k P xs,(Zi9 0 (Zbm wd k P xs)).map pI)):=by unfold payR;simp
  rw[e1,e2];have e3:Zde 5 (xs.drop P)=0:=by unfold Zde;rw[if_neg (by decide)]
  by_cases hw:64<wd
  ·rw[if_pos (.inl hw),Zt4 _ _ _ _ hw,Bool.and_false];exact⟨rfl,fun h=>by cases h⟩
  rw[if_neg (by omega),e3];obtain⟨m1,m2⟩:=Zuf wd k P 0 xs hP hk;rw[m1];refine⟨by simp[Zbj],fun h j hj=>?_⟩;rw[Bool.and_eq_true]at h;simp only;rw[m2 h.1 j hj];unfold vl_I;rw[if_pos (.inr rfl)];rfl
 have e1:(payR 1 cd wd k P xs).1=false:=by
  unfold payR;rw[if_neg h2,if_neg h3,if_neg h4,if_neg h5];simp[h1]
 have e2:Zbj 1 cd=false:=by
  unfold Zbj;rw[if_neg (by omega)];exact decide_eq_false (by omega)
 rw[e1,e2,Bool.false_and,Bool.false_and];exact⟨rfl,fun h=>by cases h⟩
theorem Zpu (cd wd k P:Nat) (xs:List Nat) (hP:P≤xs.length) (hk:k≤65536) :
  (Zbj 2 cd&&Zd6 (Zbq cd wd k (xs.drop P) false))=((payR 2 cd wd k P xs).1&&decide ((payR 2 cd wd k P xs).2.length=k)) ∧
  (((payR 2 cd wd k P xs).1&&decide ((payR 2 cd wd k P xs).2.length=k))=true→∀ j,j<k→(payR 2 cd wd k P xs).2.getD j dfP =
   pK_S (vl_S cd wd (Zbq cd wd k (xs.drop P) false).list (Zbq cd wd k (xs.drop P) false).ends 0 (Zbq cd wd k (xs.drop P) false).lanes j)):=by
 by_cases h1:cd=1
 ·subst h1;obtain⟨m1,m2⟩:=Zqd wd k P xs hP;have e1:payR 2 1 wd k P xs=(Zbw 2 k P xs&&decide (Zbz 2 k P xs=xs.length)&&decide (1=1)&&decide (wd=0),Zdo 2 k P xs):=by unfold payR;simp
  have e2:Zbq 1 wd k (xs.drop P) false=Zbk wd k (xs.drop P) false:=by unfold Zbq;simp
  have hll:=fun ho=>Zeo 2 k P xs ho (.inr rfl)
  rw[e1,e2,m1];refine⟨?_,fun h j hj=>?_⟩
  ·cases ho:Zbw 2 k P xs
   ·simp[Zbj,Zax]
   ·simp[Zbj,Zax,hll ho]
  ·simp only[Bool.and_eq_true,decide_eq_true_eq]at h;have ho:=h.1.1.1.1;have hm:=m2 ho;have hl:=hll ho;rw[show Zdo kN_S k P xs=Zdo 2 k P xs from rfl]at hm;unfold vl_S Zil;rw[if_pos rfl,← hm,Zey pK_S _ j dfS dfP];rw[← hm,List.length_map]at hl;omega
 by_cases h2:cd=2
 ·subst h2;obtain⟨m1,m2⟩:=Zt1 wd k P xs hP hk;have e1:payR 2 2 wd k P xs=Zev 2 wd k P xs:=by unfold payR;simp
  have e2:Zbq 2 wd k (xs.drop P) false=Zbp wd k (xs.drop P) false:=by unfold Zbq;simp
  rw[e1,e2,m1];refine⟨by simp[Zbj,Zax],fun h j hj=>?_⟩;rw[Bool.and_eq_true]at h;rw[show Zev 2 wd k P xs=Zev kN_S wd k P xs from rfl,m2 h.1 j hj];unfold vl_S Zil;rw[if_neg (by decide),if_pos rfl]
 by_cases h3:cd=3
 ·subst h3;obtain⟨m1,m2⟩:=Zsw wd k P xs hP hk;have e1:payR 2 3 wd k P xs=((Zd5 2 k P xs).1&&decide (wd=0),(Zd5 2 k P xs).2):=by unfold payR;simp
  have e2:Zbq 3 wd k (xs.drop P) false=Zbi wd k (xs.drop P) false:=by unfold Zbq;simp
  rw[e1,e2,m1];refine⟨by simp[Zbj,Zax],fun h j hj=>?_⟩;simp only[Bool.and_eq_true]at h;simp only;rw[show Zd5 2 k P xs=Zd5 kN_S k P xs from rfl,m2 h.1.1 h.1.2 j hj];unfold vl_S Zil;rw[if_neg (by decide),if_neg (by decide)]
 have e2:Zbj 2 cd=false:=by
  unfold Zbj;rw[if_neg (by omega)];exact decide_eq_false (by omega)
 have e1:(payR 2 cd wd k P xs).1=false:=by
  unfold payR;rw[if_neg h2,if_neg h3];by_cases h4:cd=4
  ·rw[if_pos h4,if_pos (.inr (.inr (by decide)))]
  ·rw[if_neg h4];by_cases h5:cd=5
   ·rw[if_pos h5,if_pos (.inr (by decide))]
   ·rw[if_neg h5];simp[h1]
 rw[e1,e2,Bool.false_and,Bool.false_and];exact⟨rfl,fun h=>by cases h⟩
theorem Ztp (cd wd k:Nat) (X:List Nat):Zd6 (Zbq cd wd k X true)=false:=by
 unfold Zbq
 split
 ·unfold Zd6 Zbk;simp only[Zmn,Bool.false_and]
 split
 ·unfold Zbp;rw[Zds]
  split
  ·rfl
  ·have hno:=Zmn (L.wordOf 8 (tk 4 X)) (tkL 4 X);generalize rdS (L.wordOf 8 (tk 4 X)) (tkL 4 X) true=q at *;obtain⟨vals,ok,xl,s1⟩:=q;simp only at hno ⊢;subst hno;rfl
 ·unfold Zbi;rw[Zds,Zds]
  split
  ·rfl
  ·have hno:=Zmn (L.wordOf 8 (tk 4 X)) (tkL (4*L.wordOf 8 (tk 4 X)) (tkL 4 X));generalize rdS (L.wordOf 8 (tk 4 X)) (tkL (4*L.wordOf 8 (tk 4 X)) (tkL 4 X)) true=q at *;obtain⟨vals,ok,xl,s1⟩:=q;simp only at hno ⊢;subst hno;rfl
theorem Zi1 (ws:List Nat) (r:Nat) (h:Zar ws r=false):Zaw ws (r+1)=Zaw ws r:=by rw[Zc9,h];simp
theorem Zx9 (rows:Nat) (xs:List Nat) (hrr:rows≤65536):Zce rows xs=rOk 1 rows xs ∧
  (rOk 1 rows xs=true→∀ r,r<rows→Zhc rows xs r=cA (rWs rows xs) r∧Zha rows xs r=cB (rWs rows xs) (rPay 1 rows xs).2 r∧Zhg rows xs r=cC (rWs rows xs) (rPay 1 rows xs).2 r):=by
 cases hn:Zav 8 (rN rows) 2 xs.length
 ·have e1:rOk 1 rows xs=false:=by unfold rOk rHd;rw[hn];simp
  rw[e1];refine⟨?_,fun h=>by cases h⟩;unfold Zce Zal;rw[Zwx rows xs hn];have:=Zs6 (Zaa rows xs).codec (Zaa rows xs).wd (Za8 rows (Zaa rows xs).nulls) (Zaa rows xs).left;unfold Zdc at this;rw[this,Bool.and_false]
 ·obtain⟨a1,a2,a3,a4,a5⟩:=Zm2 rows xs hn;have hP:2+8*rN rows≤xs.length:=by unfold Zav at hn;rw[decide_eq_true_eq]at hn;omega
  have hkk:Za8 rows (rWs rows xs)=rK rows xs:=rfl;have hkl:rK rows xs≤65536:=by unfold rK;omega
  obtain⟨m1,m2⟩:=Zo3 (xs.getD 0 0) (xs.getD 1 0) (rK rows xs) (2+8*rN rows) xs hP hkl;have e0:Zal rows xs=Zbf (xs.getD 0 0) (xs.getD 1 0) (rK rows xs) (xs.drop (2+8*rN rows)) false:=by
   unfold Zal;rw[a1,a2,a3,a4,a5,hkk]
  have e1:Zce rows xs=(Za9 1 rows (rWs rows xs)&&(Zbj 1 (xs.getD 0 0)&&Zdc (Zbf (xs.getD 0 0) (xs.getD 1 0) (rK rows xs) (xs.drop (2+8*rN rows)) false))):=by
   unfold Zce Zgu Zdc;rw[e0,a1,a3,Bool.and_assoc];rfl
  have e2:rOk 1 rows xs=(Za9 1 rows (rWs rows xs)&&((rPay 1 rows xs).1&&decide ((rPay 1 rows xs).2.length=rK rows xs))):=by
   unfold rOk rHd;rw[hn,Bool.true_and,Bool.and_assoc]
  refine⟨by rw[e1,e2,m1];rfl,fun h r hr=>?_⟩;rw[e2,Bool.and_eq_true]at h;have hva:=m2 h.2;unfold Zhc Zha Zhg cA cB cC;rw[a3];refine⟨rfl,?_,?_⟩
  all_goals
   cases hb:Zar (rWs rows xs) r
   ·simp only[Bool.false_eq_true,if_false];rw[Zi1 _ _ hb];have hj:r-Zaw (rWs rows xs) r<rK rows xs:=by
     have:=Zjs (rWs rows xs) (r+1) rows (by omega);have h2:=Ze0 (rWs rows xs) r;rw[Zi1 _ _ hb]at this;unfold rK;omega
    have:=hva _ hj;unfold rPay;rw[this];unfold Zno Zco;rw[e0,a1,a2,a4];rfl
   ·simp
theorem Zx4 (rows:Nat) (xs:List Nat) (hrr:rows≤65536):Zcg rows xs=rOk 2 rows xs ∧
  (rOk 2 rows xs=true→∀ r,r<rows→Zhi rows xs r=cA (rWs rows xs) r∧Zg0 rows xs r=cB (rWs rows xs) (rPay 2 rows xs).2 r∧Zhj rows xs r=cC (rWs rows xs) (rPay 2 rows xs).2 r):=by
 cases hn:Zav 8 (rN rows) 2 xs.length
 ·have e1:rOk 2 rows xs=false:=by unfold rOk rHd;rw[hn];simp
  rw[e1];refine⟨?_,fun h=>by cases h⟩;unfold Zcg Zaj;rw[Zwx rows xs hn];have:=Ztp (Zaa rows xs).codec (Zaa rows xs).wd (Za8 rows (Zaa rows xs).nulls) (Zaa rows xs).left;unfold Zd6 at this;rw[this,Bool.and_false]
 ·obtain⟨a1,a2,a3,a4,a5⟩:=Zm2 rows xs hn;have hP:2+8*rN rows≤xs.length:=by unfold Zav at hn;rw[decide_eq_true_eq]at hn;omega
  have hkk:Za8 rows (rWs rows xs)=rK rows xs:=rfl;have hkl:rK rows xs≤65536:=by unfold rK;omega
  obtain⟨m1,m2⟩:=Zpu (xs.getD 0 0) (xs.getD 1 0) (rK rows xs) (2+8*rN rows) xs hP hkl;have e0:Zaj rows xs=Zbq (xs.getD 0 0) (xs.getD 1 0) (rK rows xs) (xs.drop (2+8*rN rows)) false:=by
   unfold Zaj;rw[a1,a2,a3,a4,a5,hkk]
  have e1:Zcg rows xs=(Za9 1 rows (rWs rows xs)&&(Zbj 2 (xs.getD 0 0)&&Zd6 (Zbq (xs.getD 0 0) (xs.getD 1 0) (rK rows xs) (xs.drop (2+8*rN rows)) false))):=by
   unfold Zcg Zgu Zd6;rw[e0,a1,a3,Bool.and_assoc];rfl
  have e2:rOk 2 rows xs=(Za9 1 rows (rWs rows xs)&&((rPay 2 rows xs).1&&decide ((rPay 2 rows xs).2.length=rK rows xs))):=by
   unfold rOk rHd;rw[hn,Bool.true_and,Bool.and_assoc]
  refine⟨by rw[e1,e2,m1];rfl,fun h r hr=>?_⟩;rw[e2,Bool.and_eq_true]at h;have hva:=m2 h.2;unfold Zhi Zg0 Zhj cA cB cC;rw[a3];refine⟨rfl,?_,?_⟩
  all_goals
   cases hb:Zar (rWs rows xs) r
   ·simp only[Bool.false_eq_true,if_false];rw[Zi1 _ _ hb];have hj:r-Zaw (rWs rows xs) r<rK rows xs:=by
     have:=Zjs (rWs rows xs) (r+1) rows (by omega);have h2:=Ze0 (rWs rows xs) r;rw[Zi1 _ _ hb]at this;unfold rK;omega
    have:=hva _ hj;unfold rPay;rw[this];unfold Zm7 Zcj;rw[e0,a1,a2];rfl
   ·simp
theorem Zl3 {A A':Nat→Bool} {B B':Nat→Int} {C C':Nat→ByteArray} (n:Nat) (h:∀ r,r<n→A r=A' r∧B r=B' r∧C r=C' r):Za2 A B C n=Za2 A' B' C' n:=by
 induction n with
 | zero=>rfl
 | succ n ih =>
  rw[Za2,Za2,ih (fun r hr=>h r (by omega))];obtain⟨h1,h2,h3⟩:=h n (by omega);rw[h1,h2,h3]
theorem Zzi (k rows:Int) (xs:List Nat):Zfg k rows xs=Zcl k rows xs∧Zh0 k rows xs=Zc2 k rows xs∧Z0e k rows xs=Zf7 k rows xs:=by
 have hcode:Zfg k rows xs=Zcl k rows xs:=by
  unfold Zfg Zcl;by_cases hg:(Zax k&&Zen rows)=true
  ·rw[if_pos hg,if_pos hg];simp only[Bool.and_eq_true]at hg;have hr2:0≤rows∧rows≤65536:=by simpa [Zen]using hg.2
   have hk:k=1∨k=2:=by simpa [Zax]using hg.1
   rcases hk with rfl | rfl
   ·rw[if_neg (by decide),(Zx9 rows.toNat xs (by omega)).1];rfl
   ·rw[if_pos rfl,(Zx4 rows.toNat xs (by omega)).1];rfl
  ·rw[if_neg hg,if_neg hg]
 refine⟨hcode,?_,?_⟩
 ·unfold Zh0 Zc2;rw[hcode];by_cases h0:Zcl k rows xs=0
  ·rw[if_pos h0,if_pos h0];unfold Zcl at h0
   split at h0
   ·rename_i hg
    simp only[Bool.and_eq_true]at hg;have hr2:0≤rows∧rows≤65536:=by simpa [Zen]using hg.2
    have hk:k=1∨k=2:=by simpa [Zax]using hg.1
    have hok:rOk k.toNat rows.toNat xs=true:=by
     split at h0
     ·assumption
     ·cases h0
    rcases hk with rfl | rfl
    ·rw[if_neg (by decide)];exact Zl3 _ ((Zx9 rows.toNat xs (by omega)).2 hok)
    ·rw[if_pos rfl];exact Zl3 _ ((Zx4 rows.toNat xs (by omega)).2 hok)
   ·cases h0
  ·rw[if_neg h0,if_neg h0]
 ·unfold Z0e Zf7;rw[hcode]
set_option maxRecDepth 512
structure Mid (U:Nat→Prop) (b:Nat) (w w':World):Prop where
 low:Below 0 w w'
 keep:∀ k,k<w.heap.size→(U k∨b≤k)→w'.heap[k]? = w.heap[k]?
theorem Mid.refl (U:Nat→Prop) (b:Nat) (w:World):Mid U b w w:=⟨Below.refl _ _,fun _ _ _=>rfl⟩
theorem Mid.trans {U:Nat→Prop} {b:Nat} {u v w:World} (h:Mid U b u v) (k:Mid U b v w):Mid U b u w :=
 ⟨h.low.trans k.low,fun i hi hb=>(k.keep i (Nat.lt_of_lt_of_le hi h.low.size) hb).trans (h.keep i hi hb)⟩
theorem Mid.of_below {U:Nat→Prop} {b:Nat} {w w':World} (h:Below w.heap.size w w'):Mid U b w w':=⟨h.mono (Nat.zero_le _),fun k hk _=>h.block k hk⟩
theorem Mid.set {U:Nat→Prop} {b:Nat} (w:World) (p i:Nat) (v:Value) (ha:¬ U p) (hb:p<b):Mid U b w (w.setCell ⟨p,i,none⟩ v) :=
 ⟨Zad (Below.refl 0 w) p i v (Nat.zero_le _),fun k _ hk=>by
  rw[heap_setCell_other];intro e;simp only at e;subst e;rcases hk with hk | hk
  ·exact ha hk
  ·omega⟩
theorem Mid.sub {U V:Nat→Prop} {b b':Nat} {w w':World} (h:Mid U b w w') (hv:∀ k,V k→U k∨b≤k) (hb:b≤b'):Mid V b' w w' :=
 ⟨h.low,fun k hk hk2=>h.keep k hk (hk2.elim (hv k) (fun h2=>.inr (Nat.le_trans hb h2)))⟩
theorem Mid.below {U:Nat→Prop} {b n:Nat} {w w':World} (h:Mid U b w w') (hn:n≤w.heap.size) (hu:∀ k,k<n→U k):Below n w w' :=
 ⟨h.low.os,h.low.tape,h.low.output,h.low.size,fun k hk=>h.keep k (by omega) (.inl (hu k hk))⟩
theorem Zkl {w w':World} {p i:Nat} (h:w'.heap[p]? = w.heap[p]?):w'.cell? ⟨p,i,none⟩=w.cell? ⟨p,i,none⟩:=World.cell?_of_block h
theorem Zc7 {w:World} {l:Nat} {o o':Obj} (h:w.heap[l]? = some o) {a:Nat} (ha:a≤l):Below a w (w.putObj l o'):=by
 have hl:=(Array.getElem?_eq_some_iff.1 h).1;exact(Below.refl a w).grown (grownBy_putObj' w l o') (by omega) (fun k e=>by cases e;exact ha)
theorem Zsx {U:Nat→Prop} {w:World} {l b:Nat} {o o':Obj} (h:w.heap[l]? = some o) (ha:¬ U l) (hb:l<b):Mid U b w (w.putObj l o') :=
 ⟨Zc7 h (Nat.zero_le _),fun k _ hk=>World.putObj_heap_other (by
  intro e;subst e;rcases hk with hk | hk
  ·exact ha hk
  ·omega)⟩
theorem Zam {w:World} {g p i:Nat} {e:TypeId} {cs:List Value} {v:Value} (h:Row w g e cs) (hne:g≠p):Row (w.setCell ⟨p,i,none⟩ v) g e cs:=by
 unfold Row;rw[heap_setCell_other _ _ _ _ (by simpa using hne)];exact h
theorem Zhd {m m':Nat} {P:Program} {l:Nat} {args:Array Value} {W:World} {R:Ending→World→Prop} (h:YieldAt Fence.wide m P l args W R):YieldAt Fence.wide m' P l args W R:=by
 obtain⟨fn,tmps,assign,body,h1,h2,h3⟩:=h;exact⟨fn,tmps,assign,body,h1,h2,fun c cs _=>h3 c cs (room_wide _)⟩
set_option maxRecDepth 20000
def at3 (cs:List Value) (q:Nat) (a:Bool) (b:Int) (s:ByteArray):Prop:=cs[q*3]? = some (.bool a)∧cs[q*3+1]? = some (.int .i64 b)∧cs[q*3+2]? = some (.string s)
def Zmi (cs:List Value) (q:Nat) (a:Bool) (b:Int) (s:ByteArray):List Value:=((cs.set (q*3) (.bool a)).set (q*3+1) (.int .i64 b)).set (q*3+2) (.string s)
theorem Zvc (cs:List Value) (q:Nat) (a:Bool) (b:Int) (s:ByteArray):(Zmi cs q a b s).length=cs.length:=by simp[Zmi]
theorem Zzo {cs:List Value} {q:Nat} (h:q*3+2<cs.length) (a:Bool) (b:Int) (s:ByteArray):at3 (Zmi cs q a b s) q a b s:=by
 unfold at3 Zmi;refine⟨?_,?_,?_⟩
 ·rw[List.getElem?_set_ne (by omega),List.getElem?_set_ne (by omega),List.getElem?_set_self (by omega)]
 ·rw[List.getElem?_set_ne (by omega),List.getElem?_set_self (by simp;omega)]
 ·rw[List.getElem?_set_self (by simp;omega)]
theorem Zx2 {cs:List Value} {q p:Nat} {a':Bool} {b':Int} {s':ByteArray} (h:at3 cs p a' b' s') (hne:p≠q) (a:Bool) (b:Int) (s:ByteArray):at3 (Zmi cs q a b s) p a' b' s':=by
 obtain⟨h0,h1,h2⟩:=h;unfold at3 Zmi;refine⟨?_,?_,?_⟩
 ·rw[List.getElem?_set_ne (by omega),List.getElem?_set_ne (by omega),List.getElem?_set_ne (by omega)];exact h0
 ·rw[List.getElem?_set_ne (by omega),List.getElem?_set_ne (by omega),List.getElem?_set_ne (by omega)];exact h1
 ·rw[List.getElem?_set_ne (by omega),List.getElem?_set_ne (by omega),List.getElem?_set_ne (by omega)];exact h2
theorem Zzt {w:World} {pc K i:Nat} {e:TypeId} {cs:List Value} {A:Nat→Bool} {B:Nat→Int} {C:Nat→ByteArray} (h:Row w pc e cs) (ha:∀ k,k<K→at3 cs (i*K+k) (A k) (B k) (C k)) (hK:K≤maxLen) :
  Rd w (.slice (some ⟨pc,i*K*3,none⟩) K K) K 3 (Za2 A B C K):=by
 refine⟨Zcq _ _ _ _,.inr ⟨pc,i*K*3,K,rfl,Nat.le_refl _,hK,fun j v hv=>?_⟩⟩;have hj:j<K*3:=by
  rcases Nat.lt_or_ge j (K*3)with h1 | h1
  ·exact h1
  ·rw[List.getElem?_eq_none (by rw[Zcq];exact h1)]at hv;cases hv
 obtain⟨k,d,hk,hd,rfl⟩:∃ k d,k<K∧d<3∧j=k*3+d:=⟨j/3,j%3,by omega,Nat.mod_lt _ (by omega),by omega⟩;obtain⟨g0,g1,g2⟩:=Zfh A B C K k hk;obtain⟨c0,c1,c2⟩:=ha k hk;have e0:i*K*3+(k*3+d)=(i*K+k)*3+d:=by rw[Nat.add_mul];omega
 rw[e0,h.cell];have:d=0∨d=1∨d=2:=by omega
 rcases this with rfl | rfl | rfl
 ·rw[Nat.add_zero]at hv ⊢;rw[g0]at hv;rw[c0];exact hv
 ·rw[g1]at hv;rw[c1];exact hv
 ·rw[g2]at hv;rw[c2];exact hv
def rowV (pc K i:Nat):Value:=.slice (some ⟨pc,i*K*3,none⟩) K K
def Zfz (pc K n:Nat):List Value:=(List.range n).map (rowV pc K)
theorem Zep (pc K n:Nat):(Zfz pc K n).length=n:=by simp[Zfz]
theorem Zmt (pc K n i:Nat) (h:i<n):(Zfz pc K n)[i]? = some (rowV pc K i):=by simp[Zfz,List.getElem?_map,List.getElem?_range h]
theorem Zvr (pc K n:Nat):Zfz pc K (n+1)=Zfz pc K n++[rowV pc K n]:=by simp[Zfz,List.range_succ]
theorem Zxn (pc K n t:Nat) (h:t<n):(Zfz pc K t++List.replicate (n-t) (Value.slice none 0 0)).set t (rowV pc K t)=Zfz pc K (t+1)++List.replicate (n-(t+1)) (Value.slice none 0 0):=by
 rw[Zfo _ _ _ _ _ (Zep pc K t).symm (by omega),Zvr,Nat.sub_sub]
theorem Tryz.infoC3g:(Tryz.prog.info? 36).map (fun i=>(i.zero,i.size,i.bytes))=some (some (.agg [Value.bool false,.int .i64 0,.string ⟨#[]⟩].toArray),3,32):=by kernel_rfl
theorem Tryz.infoCsg:(Tryz.prog.info? 78).map (fun i=>(i.zero,i.size,i.bytes))=some (some (.slice none 0 0),1,24):=by kernel_rfl
set_option maxHeartbeats 4000000 in
theorem Zo8 (n K:Nat) (w:World) (hn:n≤65536) (hK:1≤K∧K≤16):Calls Tryz.prog 53 #[.int .i64 n,.int .i64 K] w fun e w' =>
  ∃ cs,e=.returned (.slice (some ⟨w.heap.size+1,0,none⟩) n n)∧Row w' (w.heap.size+1) 78 (Zfz w.heap.size K n)∧Row w' w.heap.size 36 cs∧cs.length=n*K*3∧Below w.heap.size w w':=by
 obtain⟨m,hm⟩:∃ m,n*K=m:=⟨_,rfl⟩;have HM:=hid hm;have hm9:m≤1048576:=by rw[← hm];exact Nat.le_trans (Nat.mul_le_mul hn hK.2) (by decide)
 have hmi:(n:Int)*(K:Int)=(m:Int):=by rw[← hm];simp
 rw[hm];clear hm;go_enter Tryz.func53,Tryz.ntmps53;go_wp2_with fail
 refine Zj9 36 [.bool false,.int .i64 0,.string ⟨#[]⟩] 32 Tryz.underlying78 Tryz.infoC3g rfl m (by omega) (by omega) (by omega) (by unfold maxLen;omega) ?_;intro w1 cs hcs hrow hb1 hsz1;have Vo:=hid hcs;have QD:=hid hrow;have Qa:=hid hb1;have Qy:=hid hsz1;clear hcs hrow hb1 hsz1;go_wp2_with fail
 refine Zcx 78 (.slice none 0 0) 24 Tryz.underlying47 Tryz.infoCsg rfl n (by omega) (by omega) (by omega) (by unfold maxLen;omega) ?_;intro w2 hrow hb2 hsz2;have HZ1':=Qy.out;rw[HZ1']at hrow ⊢;have QC:Hid (Row w2 (w.heap.size+1) 78 (Zfz w.heap.size K 0++List.replicate (n-0) (.slice none 0 0))∧Row w2 w.heap.size 36 cs∧Below w.heap.size w w2):=hid ⟨by simpa [Zfz]using hrow,QD.out.mono hb2,Zac Qa.out hb2⟩;clear hrow hb2 hsz2 Qy HZ1' QD Qa;obtain⟨pc,hpc⟩:∃ pc,w.heap.size=pc:=⟨_,rfl⟩;have X4:=hid hpc;rw[hpc]at QC ⊢;clear hpc;go_wp2_with fail
 go_loopw [16] (fun i wr=>∃ t:Nat,t≤n∧i=.int .i64 t∧Hid (Row wr (pc+1) 78 (Zfz pc K t++List.replicate (n-t) (.slice none 0 0))∧Row wr pc 36 cs∧Below pc w wr)) (fun i _=>n-(intOf i).toNat)
 case atStart=>exact⟨0,by omega,rfl,QC⟩
 case round =>
  obtain⟨t,ht,rfl,hst⟩:=hrel;clear QC;by_cases hlt:t<n
  ·obtain⟨p,hp⟩:∃ p,t*K=p:=⟨_,rfl⟩;have HP:=hid hp;have hpi:(t:Int)*(K:Int)=(p:Int):=by rw[← hp];simp
   have hpi2:((t:Int)+1)*(K:Int)=((p+K:Nat):Int):=by rw[Int.add_mul,hpi];simp
   have hle:p+K≤m:=by
    have:=Nat.mul_le_mul_right K hlt;rw[Nat.succ_mul]at this;have:=HM.out;omega
   clear hp;have hcell:wr.cell? ⟨pc+1,t,none⟩=some (.slice none 0 0):=by
    rw[hst.out.1.cell];exact Zfm _ _ _ _ (Zep pc K t).symm (by omega)
   have hfr:=hst.out.1.frozen t;go_wp2_with fail
   go_roundw
   case rel =>
    refine⟨t+1,by omega,by go_num,hid ⟨?_,Zam hst.out.2.1 (by omega),Zad hst.out.2.2 _ _ _ (by omega)⟩⟩;have h1:=hst.out.1.set t (rowV pc K t);rw[Zxn pc K n t hlt]at h1;unfold rowV at h1;rw[HP.out]at h1;exact h1
   case measure=>simp[intOf];omega
  ·obtain rfl:t=n:=by omega
   go_wp2_with fail
   go_ret;have h1:=hst.out.1;rw[Nat.sub_self,List.replicate_zero,List.append_nil]at h1;exact⟨cs,by rw[X4.out];rfl,by rw[X4.out];exact h1,by rw[X4.out];exact hst.out.2.1,Vo.out,by rw[X4.out];exact hst.out.2.2⟩
set_option maxRecDepth 100000
set_option maxHeartbeats 4000000 in
theorem Ztd (w:World) (v:Value) (xs:List Nat) (k n:Nat) (hT:Tab w) (hv:Rd w v xs.length 1 (u8s xs)) (hb:∀ x∈xs,x<256) (hl:xs.length≤16777216) (hk:k=1∨k=2) (hn:n≤65536) (hok:rOk k n xs=true) :
  Calls Tryz.prog 54 #[.int .i64 k,.int .i64 n,v] w fun e w'=>Below w.heap.size w w'∧∃ p,w.heap.size≤p∧e=.returned (.tuple #[.slice (some ⟨p,0,none⟩) n n,.int .i64 0])∧Row w' p 36 (Zd7 k n xs):=by
 have hkk:Zax (k:Int)=true:=by rcases hk with rfl | rfl<;>decide
 have hrr:Zen (n:Int)=true:=by simp[Zen];omega
 have hg:(Zax (k:Int)&&Zen (n:Int))=true:=by rw[hkk,hrr];rfl
 have h0:Zcl k n xs=0:=by unfold Zcl;rw[if_pos hg,if_pos (by simpa using hok)]
 obtain⟨m1,m2,_⟩:=Zzi k n xs;have hc:Zc2 k n xs=Zd7 k n xs:=by unfold Zc2;rw[if_pos h0];simp
 rw[hc]at m2;rw[h0]at m1;have HK:=hid (fun w2:World=>Ze4 k w2);have HR:=hid (fun w2:World=>Zvk (n:Int) w2);rw[hkk]at HK;rw[hrr]at HR;rcases hk with rfl | rfl
 ·generalize hk1:((1:Nat):Int)=k1 at *;obtain rfl:k1=1:=hk1.symm;clear hk1;have HD:=hid (Zy2 w v xs n hT hv hb hl hn (fun h=>Zoo n xs hb hl hn h));have e1:Zfg 1 n xs=if Zce n xs=true then 0 else 1:=by unfold Zfg;rw[if_pos hg,if_neg (by decide)];simp
  have e2:Zh0 1 n xs=if Zfg 1 n xs=0 then Zmj n xs else []:=by unfold Zh0;simp
  have hok2:Zce n xs=true:=by
   have h:=m1;rw[e1]at h;by_cases hh:Zce n xs=true
   ·exact hh
   ·rw[if_neg hh]at h;omega
  have e3:Zmj n xs=Zd7 1 n xs:=by
   rw[← m2,e2,if_pos (by rw[e1,if_pos hok2])]
  rw[hok2,e3]at HD;generalize Zd7 1 n xs=R at *;clear hT hv e1 e2 e3 hg hkk hrr m1 m2 hc h0 hok;go_enter Tryz.func54,Tryz.ntmps54;go_wp2_with (first | (go_at_call 96;refine(HK.out _).mono ?_;rintro e w1 ⟨rfl,hw⟩;replace hw:=hw.symm;subst hw) | (go_at_call 97;refine(HR.out _).mono ?_;rintro e w1 ⟨rfl,hw⟩;replace hw:=hw.symm;subst hw))
  refine HD.out.mono ?_;rintro e w1 ⟨hb1,hor⟩;obtain⟨_,p,hp,rfl,hrow⟩:=hor.resolve_left (fun h=>by cases h.1);have Qa:=hid hb1;have Yb:=hid hrow;have HP:=hid hp;clear hb1 hrow hor hp;go_wp2_with fail
  go_ret2
  exact⟨Qa.out,p,HP.out,rfl,Yb.out⟩
 ·generalize hk1:((2:Nat):Int)=k1 at *;obtain rfl:k1=2:=hk1.symm;clear hk1;have HD:=hid (Zzn w v xs n hT hv hb hl hn (fun h=>Zl4 n xs hb hl hn h));have e1:Zfg 2 n xs=if Zcg n xs=true then 0 else 1:=by unfold Zfg;rw[if_pos hg,if_pos rfl];simp
  have e2:Zh0 2 n xs=if Zfg 2 n xs=0 then Zma n xs else []:=by unfold Zh0;simp
  have hok2:Zcg n xs=true:=by
   have h:=m1;rw[e1]at h;by_cases hh:Zcg n xs=true
   ·exact hh
   ·rw[if_neg hh]at h;omega
  have e3:Zma n xs=Zd7 2 n xs:=by
   rw[← m2,e2,if_pos (by rw[e1,if_pos hok2])]
  rw[hok2,e3]at HD;generalize Zd7 2 n xs=R at *;clear hT hv e1 e2 e3 hg hkk hrr m1 m2 hc h0 hok;go_enter Tryz.func54,Tryz.ntmps54;go_wp2_with (first | (go_at_call 96;refine(HK.out _).mono ?_;rintro e w1 ⟨rfl,hw⟩;replace hw:=hw.symm;subst hw) | (go_at_call 97;refine(HR.out _).mono ?_;rintro e w1 ⟨rfl,hw⟩;replace hw:=hw.symm;subst hw))
  refine HD.out.mono ?_;rintro e w1 ⟨hb1,hor⟩;obtain⟨_,p,hp,rfl,hrow⟩:=hor.resolve_left (fun h=>by cases h.1);have Qa:=hid hb1;have Yb:=hid hrow;have HP:=hid hp;clear hb1 hrow hor hp;go_wp2_with fail
  go_ret2
  exact⟨Qa.out,p,HP.out,rfl,Yb.out⟩
set_option maxRecDepth 20000
theorem Zg2 {P:Program} {w:World} (base:Nat) (t ty e:TypeId) (i:TypeInfo) (z:Value) (size bytes:Nat) (ht:P.underlying t=some (.slice e)) (hi:P.info? e=some i) (hz:i.zero=some z)
  (hsize:i.size=size) (hby:i.bytes=bytes) (hzs:z.cells.size=size) (hsz:0<size)
  (v:Value) (n:Nat) (xs:List Value) (hown:w.ownsRow base e size v n xs)
  (a:Addr) (m c:Nat) (news:List Value) (hl:news.length=m*size) (hnews:∀ j u,news[j]? = some u→w.cell? (a.add j)=some u) (h1:∀ u∈news,u.oneCell'=true)
  (h63:n+m≤maxLen) (hbytes:(n+m)*bytes≤140737488355328) (h0:0<m) :
  ∃ v' w',(Builtin.append_ #[t,t] ty #[v,.slice (some a) m c]).run P w=.ok v' w'∧(v'.ownBlock=v.ownBlock∨(v'.ownBlock=some w.heap.size∧∀ k,k<w.heap.size→w'.heap[k]? = w.heap[k]?)):=by
 subst hsize;subst hby;have hsmall:n+m≤9223372036854775807:=by simp only[maxLen]at h63;omega
 rcases hown.2 with ⟨rfl,rfl⟩ | ⟨g,cap,cur,rfl,hbg,hg,hnc,hcm,hcs,htake⟩
 ·have hr:=run_append_nil (P:=P) w t ty e i z ht hi hz a m c news hl hnews (by omega) (by omega) (by have hb:=hbytes;simp only[Nat.zero_add]at hb;omega);exact⟨_,_,hr,.inr ⟨rfl,fun k hk=>by first | exact heap_alloc_old w.drew _ hk | exact heap_alloc_old w.drew _ _ hk⟩⟩
 ·by_cases hroom:n+m≤cap
  ·have hfit:n*i.size+news.length≤cur.size:=by rw[hl,hcs,← Nat.add_mul];exact Nat.mul_le_mul_right _ hroom
   have hr:=run_append_room (P:=P) w t ty e i ht hi g n cap cur hg a m c news hl hnews h1 hroom hfit;exact⟨_,_,hr,.inl rfl⟩
  ·have holds:∀ j u,xs[j]? = some u→w.cell? ((⟨g,0,none⟩:Addr).add j)=some u:=hown.cells (g:=g) rfl;have hr:=run_append_grow (P:=P) w t ty e i z ht hi hz ⟨g,0,none⟩ n cap xs hown.1 holds a m c news hl hnews (by omega) (by omega) (growslice_fits (by omega) hbytes);exact⟨_,_,hr,.inr ⟨rfl,fun k hk=>by first | exact heap_alloc_old w.drew _ hk | exact heap_alloc_old w.drew _ _ hk⟩⟩
theorem Zfc {P:Program} {w:World} {ops:Array Oper} {rest:List Oper} {o:Oper} {a:Act} {Q:Exit→Act→World→Prop} {t:TypeId} {u v:Value} {B n:Nat} {xs:List Value}
  (hgd:o.guard=none) (s x:Operand) (ho:o.op=.call { callee:=.builtin .append,args:=#[s,x],argTypes:=#[t,t] })
  (e:TypeId) (z:Value) (bytes:Nat) (h1:P.underlying t=some (.slice e)) (h2:(P.info? e).map (fun i=>(i.zero,i.size,i.bytes))=some (some z,1,bytes)) (hz:z.cells=#[z])
  (hs:a.eval s=v) (hx:a.eval x=.slice (some ⟨w.heap.size,0,none⟩) 1 1)
  (hown:w.ownsRow B e 1 v n xs) (hB:B≤w.heap.size) (hu:u.oneCell'=true) (hm:n+1≤maxLen) (hby:(n+1)*bytes≤140737488355328)
  (hK:∀ v' w',w'.ownsRow B e 1 v' (n+1) (xs++[u])→Below B w w'→w.heap.size≤w'.heap.size→(∀ k,k<w.heap.size→some k≠v.ownBlock→w'.heap[k]? = w.heap[k]?) →
   (v'.ownBlock=v.ownBlock∨((∀ k,v'.ownBlock=some k→w.heap.size≤k)∧∀ k,k<w.heap.size→w'.heap[k]? = w.heap[k]?))→wpList P ops Q rest (a.put o.dst v') w') :
  wpList P ops Q (o :: rest) a (w.alloc (.cells #[u] e)):=by
 refine wpList_plain hgd fun K hK'=>?_
 unfold Oper.wp execOp;simp only[ho,resolve,invoke,builtin,Sem.run_bind,Sem.run_pure,Result.andThen_ok,List.map_toArray,List.map_cons,List.map_nil,hs,hx];obtain⟨i,hi,hz0,hz1,hz2⟩:=info_parts h2;have ha1:∀ x∈[u],x.oneCell'=true:=by intro x hx;simp at hx;subst hx;exact hu
 obtain⟨v',w',hr,h3,h4,_⟩:=run_append_own (P:=P) (w:=w.alloc (.cells #[u] e)) B t o.type e i z 1 bytes h1 hi hz0 hz1 hz2 (by rw[hz];rfl) (by omega) v n xs (hown.alloc _)
  ⟨w.heap.size,0,none⟩ 1 1 [u] rfl (Zpc w u e) ha1 hm hby (by simp;omega)
 obtain⟨v2,w2,hr2,h5⟩:=Zg2 (P:=P) (w:=w.alloc (.cells #[u] e)) B t o.type e i z 1 bytes h1 hi hz0 hz1 hz2 (by rw[hz];rfl) (by omega) v n xs (hown.alloc _)
  ⟨w.heap.size,0,none⟩ 1 1 [u] rfl (Zpc w u e) ha1 hm hby (by omega)
 rw[hr]at hr2;injection hr2 with e1 e2
 subst e1 e2;have hlt:=hown.lt;refine Ze7 hr (hK' _ _ (hK _ _ h3 ?_ ?_ ?_ ?_))
 ·refine(((Below.refl B w).alloc hB _).grown h4 (by simp;omega) ?_);intro k hk;exact(hlt k hk).1
 ·have:=h4.size;simp at this;omega
 ·intro k hk hne;rw[h4.block k (by simp;omega) hne]
  first | exact heap_alloc_old w _ hk | exact heap_alloc_old w _ _ hk
 ·rcases h5 with h5 | ⟨h5,h6⟩
  ·exact .inl h5
  ·refine .inr ⟨fun k hk=>?_,fun k hk=>?_⟩
   ·rw[h5]at hk;simp at hk;omega
   ·rw[h6 k (by simp;omega)];first | exact heap_alloc_old w _ hk | exact heap_alloc_old w _ _ hk
theorem Rd.keep {w w':World} {v:Value} {n sz:Nat} {cs:List Value} (h:Rd w v n sz cs) (hk:∀ k,v.ownBlock=some k→w'.heap[k]? = w.heap[k]?):Rd w' v n sz cs:=by
 refine⟨h.1,?_⟩;rcases h.2 with h | ⟨b,o,cap,rfl,h1,h2,h3⟩
 ·exact .inl h
 ·refine .inr ⟨b,o,cap,rfl,h1,h2,?_⟩;intro i u hu;rw[← h3 i u hu];exact World.cell?_of_block (hk b rfl)
theorem Za5 {w w':World} {B sz:Nat} {e:TypeId} {v:Value} {n:Nat} {cs:List Value} (h:w.ownsRow B e sz v n cs) (hk:∀ k,v.ownBlock=some k→w'.heap[k]? = w.heap[k]?):w'.ownsRow B e sz v n cs:=by
 refine⟨h.1,?_⟩;rcases h.2 with h | ⟨g,cap,cur,rfl,h1,h2,r⟩
 ·exact .inl h
 ·exact .inr ⟨g,cap,cur,rfl,h1,by rw[hk g rfl];exact h2,r⟩
theorem Rd.at {w:World} {A:Option Addr} {n m sz cap:Nat} {cs:List Value} (h:Rd w (.slice A n cap) m sz cs) (h0:0<m):∃ b o,A=some ⟨b,o,none⟩∧Seg w b o cs:=by
 rcases h.2 with ⟨_,rfl⟩ | ⟨b,o,cap',he,_,_,hs⟩
 ·exact absurd h0 (Nat.lt_irrefl 0)
 ·injection he with e1 e2 e3
  exact⟨b,o,e1,hs⟩
def mk (i:Nat):Value:=.int .u64 ((18446744073709551615-(501+i):Nat):Int)
end Go.Proofs.YtmcjknjlihgihaaGreatDoor
