/- Package chunk: lists of values put behind bytes. -/
import Derived.Lib.ConvBytes
import Derived.Lib.AppendStr
import Derived.Test.YtmcjknjlihgihaaGreatDoorLawfreshlistsuptoM13
set_option linter.unusedVariables false
set_option linter.unusedSimpArgs false
set_option linter.unnecessarySimpa false
set_option maxRecDepth 20000
namespace Go.Proofs.YtmcjknjlihgihaaGreatDoor
open Go.RowKit
theorem Zy8 (base:Int) (x:Nat):Zuq base x=vsum base x:=by
 unfold Zuq vsum wrap64;rw[IntKind.wrap_i64,IntKind.wrap_i64,IntKind.wrap_u64,IntKind.wrap_u64];omega
theorem Zvh (wd k p:Nat) (xs:List Nat) (hp:p≤xs.length):Zby wd k p xs=(decide ((xs.drop p).length%8=0)&&Za8 wd k (Za6 (xs.drop p))):=by
 unfold Zby;rw[dl];congr 1
 by_cases h:(xs.length-p)%8=0
 ·rw[decide_eq_true h,decide_eq_true ⟨hp,h⟩]
 ·rw[decide_eq_false h,decide_eq_false (fun h2=>h h2.2)]
theorem Zti (wd k p:Nat) (base:Int) (xs:List Nat) (hp:p≤xs.length) (hk:k≤65536) :
  Zc4 (Zdm wd base k (xs.drop p) false)=((fits base (Zbo wd k p xs)&&Zby wd k p xs)&&decide (((Zi8 base (Zbo wd k p xs)).map pI).length=k)) ∧
  ((fits base (Zbo wd k p xs)&&Zby wd k p xs)=true→∀ j,j<k→((Zi8 base (Zbo wd k p xs)).map pI).getD j dfP=pK_I (Zuq base (L.laneOf wd (Za6 (xs.drop p)) j))):=by
 obtain⟨m1,m2⟩:=Zk9 (xs.drop p);have hlk:=Zvh wd k p xs hp;have hlb:=Zj3 wd k 5 (Za6 (xs.drop p)) (Zff base) (by decide) hk;have hst:∀ j,Zcc 5 (L.laneOf wd (Za6 (xs.drop p)) j) (Zff base)=decide (Zff base<L.laneOf wd (Za6 (xs.drop p)) j):=fun j=>rfl
 unfold Zc4 Zdm;simp only[m1,m2];cases hkk:Zby wd k p xs
 ·rw[Bool.and_false,Bool.false_and];refine⟨?_,fun h=>by cases h⟩;have hf:¬ (Zcj wd k 5 (Za6 (xs.drop p)) (Zff base)=true∧(xs.drop p).length%8=0):=by
   rintro⟨a,b⟩;rw[hlk,decide_eq_true b,(hlb.1 a).1]at hkk;cases hkk
  simp only[Bool.not_false,Bool.true_and];rw[Bool.and_eq_false_iff];by_cases ha:Zcj wd k 5 (Za6 (xs.drop p)) (Zff base)=true
  ·exact .inr (decide_eq_false (fun hb=>hf ⟨ha,hb⟩))
  ·exact .inl (by simpa using ha)
 ·have hv:Zbo wd k p xs=L.lanesL wd k (Za6 (xs.drop p)):=by unfold Zbo;rw[hkk,if_pos rfl]
  rw[hlk,Bool.and_eq_true,decide_eq_true_eq]at hkk;rw[hv];have hall:fits base (L.lanesL wd k (Za6 (xs.drop p)))=Zcj wd k 5 (Za6 (xs.drop p)) (Zff base):=by
   unfold fits;rw[Bool.eq_iff_iff,hlb,List.all_eq_true];constructor
   ·intro h;refine⟨hkk.2,fun j hj=>?_⟩;rw[hst,decide_eq_false_iff_not];have:=h (L.laneOf wd (Za6 (xs.drop p)) j) (List.mem_map.2 ⟨j,List.mem_range.2 hj,rfl⟩);rw[decide_eq_true_eq]at this;omega
   ·rintro⟨_,h⟩ x hx;obtain⟨j,hj,rfl⟩:=List.mem_map.1 hx;have:=h j (List.mem_range.1 hj);rw[hst,decide_eq_false_iff_not]at this;rw[decide_eq_true_eq];omega
  have hsl:Zcj wd k 5 (Za6 (xs.drop p)) (Zff base)=true→Zi8 base (L.lanesL wd k (Za6 (xs.drop p)))=(L.lanesL wd k (Za6 (xs.drop p))).map (vsum base):=fun h=>by
   unfold Zi8;rw[hall,h,if_pos rfl]
  rw[hall];cases hb:Zcj wd k 5 (Za6 (xs.drop p)) (Zff base)
  ·exact⟨rfl,fun h=>by cases h⟩
  ·rw[hsl hb];refine⟨?_,fun _ j hj=>?_⟩
   ·rw[List.length_map,List.length_map,L.lanesL_length,decide_eq_true hkk.1,decide_eq_true rfl];rfl
   ·rw[List.map_map,Zez (pI ∘ vsum base) (L.lanesL wd k (Za6 (xs.drop p))) j 0 dfP (by rw[L.lanesL_length];exact hj),L.lanesL_get _ _ _ _ hj,Zy8];rfl
theorem Zlz (wd k:Nat) (base:Int) (X:List Nat):Zc4 (Zdm wd base k X true)=false:=by
 unfold Zc4 Zdm;simp only[Zdp,Bool.not_true,Bool.false_and,Bool.and_false]
theorem Zth (wd k:Nat) (base:Int) (X:List Nat) (h:64<wd) (s:Bool):Zc4 (Zdm wd base k X s)=false:=by
 have h1:Zcj wd k 5 (Za6 X) (Zff base)=false:=by
  rw[← Bool.not_eq_true];intro h2;have:=(Zce h2).1;omega
 unfold Zc4 Zdm;simp only[h1,Bool.false_and]
theorem Zr2 (cd wd k:Nat) (X:List Nat):Zc4 (Zbc cd wd k X true)=false:=by
 unfold Zbc
 split
 ·unfold Zc4 Zbu;simp only[Zle,Bool.false_and]
 split
 ·unfold Zbv;rw[Zdp]
  split
  ·rfl
  ·have hno:=Zle (L.wordOf 8 (tk 4 X)) (tkL 4 X);generalize rdI (L.wordOf 8 (tk 4 X)) (tkL 4 X) true=q at *;obtain⟨vals,ok,xl,s1⟩:=q;simp only at hno ⊢;subst hno;rfl
 split
 ·unfold Zbp;rw[Zdp,Zdp]
  split
  ·rfl
  ·have hno:=Zle (L.wordOf 8 (tk 4 X)) (tkL (4*L.wordOf 8 (tk 4 X)) (tkL 4 X));generalize rdI (L.wordOf 8 (tk 4 X)) (tkL (4*L.wordOf 8 (tk 4 X)) (tkL 4 X)) true=q at *;obtain⟨vals,ok,xl,s1⟩:=q;simp only at hno ⊢;subst hno;rfl
 split
 ·rw[Zdp];exact Zlz _ _ _ _
 ·exact Zlz _ _ _ _
theorem Zmc (rows:Nat) (xs:List Nat) (h:Zau 8 (rN rows) 2 xs.length=true) :
  (Zaa rows xs).codec=xs.getD 0 0∧(Zaa rows xs).wd=xs.getD 1 0∧(Zaa rows xs).nulls=rWs rows xs∧(Zaa rows xs).left=xs.drop (2+8*rN rows)∧(Zaa rows xs).short=false:=by
 unfold Zau at h;rw[decide_eq_true_eq]at h;obtain⟨a,b,t,rfl⟩:∃ a b t,xs=a :: b :: t:=by
  match xs,h.1 with
  | a :: b :: t,_=>exact⟨a,b,t,rfl⟩
 have h2:8*rN rows≤t.length:=by have:=h.2;simpa using this
 have e1:tk 1 (a :: b :: t)=[a]:=by simp[tk]
 have e2:tkL 1 (a :: b :: t)=b :: t:=by simp[tkL]
 have e3:tk 1 (b :: t)=[b]:=by simp[tk]
 have e4:tkL 1 (b :: t)=t:=by simp[tkL]
 have e5:tkS 1 (a :: b :: t) false=false:=by simp[tkS]
 have e6:tkS 1 (b :: t) false=false:=by simp[tkS]
 unfold Zaa;simp only[e1,e2,e3,e4,e5,e6];refine⟨by simp[L.wordOf],by simp[L.wordOf],rfl,?_,?_⟩
 ·unfold tkL;rw[show (rows+63)/64=rN rows from rfl,if_pos h2];rw[show 2+8*rN rows=8*rN rows+1+1 by omega,List.drop_succ_cons,List.drop_succ_cons]
 ·unfold tkS;rw[show (rows+63)/64=rN rows from rfl,if_pos h2]
theorem Zv4 (rows:Nat) (xs:List Nat) (h:Zau 8 (rN rows) 2 xs.length=false):(Zaa rows xs).short=true:=by
 unfold Zau at h;rw[decide_eq_false_iff_not]at h;unfold Zaa;simp only
 match xs with
 | []=>simp[tkS,tkL]
 | [a]=>simp[tkS,tkL]
 | a :: b :: t =>
  have e2:tkL 1 (a :: b :: t)=b :: t:=by simp[tkL]
  have e4:tkL 1 (b :: t)=t:=by simp[tkL]
  rw[e2,e4];have h2:¬ 8*rN rows≤t.length:=by
   intro h3;exact h ⟨by simp,by simpa using h3⟩
  unfold tkS;rw[show (rows+63)/64=rN rows from rfl,if_neg h2]
theorem Zo2 (cd wd k P:Nat) (xs:List Nat) (hP:P≤xs.length) (hk:k≤65536) :
  (Zbi 1 cd&&Zc4 (Zbc cd wd k (xs.drop P) false))=((payR 1 cd wd k P xs).1&&decide ((payR 1 cd wd k P xs).2.length=k)) ∧
  (((payR 1 cd wd k P xs).1&&decide ((payR 1 cd wd k P xs).2.length=k))=true→∀ j,j<k→(payR 1 cd wd k P xs).2.getD j dfP =
   pK_I (vl_I cd wd (Zbc cd wd k (xs.drop P) false).list (Zbc cd wd k (xs.drop P) false).ends (Zc6 cd (xs.drop P)) (Zbc cd wd k (xs.drop P) false).lanes j)):=by
 by_cases h1:cd=1
 ·subst h1;obtain⟨m1,m2⟩:=Zp6 wd k P xs hP;have e1:payR 1 1 wd k P xs=(Zbx 1 k P xs&&decide (Zb0 1 k P xs=xs.length)&&decide (1=1)&&decide (wd=0),Zdi 1 k P xs):=by unfold payR;simp
  have e2:Zbc 1 wd k (xs.drop P) false=Zbu wd k (xs.drop P) false:=by unfold Zbc;simp
  have hll:=fun ho=>Zek 1 k P xs ho (.inl rfl)
  rw[e1,e2,m1];refine⟨?_,fun h j hj=>?_⟩
  ·cases ho:Zbx 1 k P xs
   ·simp[Zbi,Za3]
   ·simp[Zbi,Za3,hll ho]
  ·simp only[Bool.and_eq_true,decide_eq_true_eq]at h;have ho:=h.1.1.1.1;have hm:=m2 ho;have hl:=hll ho;rw[show Zdi kN_I k P xs=Zdi 1 k P xs from rfl]at hm;unfold vl_I Zi2;rw[if_neg (by decide),if_pos rfl,← hm,Zez pK_I _ j dfI dfP];rw[← hm,List.length_map]at hl;omega
 by_cases h2:cd=2
 ·subst h2;obtain⟨m1,m2⟩:=Zra wd k P xs hP hk;have e1:payR 1 2 wd k P xs=Zex 1 wd k P xs:=by unfold payR;simp
  have e2:Zbc 2 wd k (xs.drop P) false=Zbv wd k (xs.drop P) false:=by unfold Zbc;simp
  rw[e1,e2,m1];refine⟨by simp[Zbi,Za3],fun h j hj=>?_⟩;rw[Bool.and_eq_true]at h;rw[show Zex 1 wd k P xs=Zex kN_I wd k P xs from rfl,m2 h.1 j hj];unfold vl_I Zi2;rw[if_neg (by decide),if_neg (by decide),if_pos rfl]
 by_cases h3:cd=3
 ·subst h3;obtain⟨m1,m2⟩:=Zrq wd k P xs hP hk;have e1:payR 1 3 wd k P xs=((Zd7 1 k P xs).1&&decide (wd=0),(Zd7 1 k P xs).2):=by unfold payR;simp
  have e2:Zbc 3 wd k (xs.drop P) false=Zbp wd k (xs.drop P) false:=by unfold Zbc;simp
  rw[e1,e2,m1];refine⟨by simp[Zbi,Za3],fun h j hj=>?_⟩;simp only[Bool.and_eq_true]at h;simp only;rw[show Zd7 1 k P xs=Zd7 kN_I k P xs from rfl,m2 h.1.1 h.1.2 j hj];unfold vl_I Zi2;rw[if_neg (by decide),if_neg (by decide),if_neg (by decide)]
 by_cases h4:cd=4
 ·subst h4;have e2:Zbc 4 wd k (xs.drop P) false=Zdm wd (Zc6 4 (xs.drop P)) k (tkL 8 (xs.drop P)) (tkS 8 (xs.drop P) false):=by unfold Zbc;simp
  have e1:payR 1 4 wd k P xs=(if Zb9 8 P xs.length=false∨64<wd∨¬ (1:Nat)=1 then (false,[])else
    (fits (Zcf (L.wordOf 8 ((xs.drop P).take 8))) (Zbo wd k (P+8) xs)&&Zby wd k (P+8) xs,(Zi8 (Zcf (L.wordOf 8 ((xs.drop P).take 8))) (Zbo wd k (P+8) xs)).map pI)):=by unfold payR;simp
  rw[e1,e2];by_cases h8:8≤xs.length-P
  rotate_left
  ·rw[if_pos (.inl (by unfold Zb9;exact decide_eq_false (by omega)))];have e4:tkS 8 (xs.drop P) false=true:=by unfold tkS;rw[dl,if_neg h8]
   rw[e4,Zlz,Bool.and_false];exact⟨rfl,fun h=>by cases h⟩
  have hno:Zb9 8 P xs.length=true:=by unfold Zb9;exact decide_eq_true ⟨hP,h8⟩
  have e3:Zc6 4 (xs.drop P)=Zcf (L.wordOf 8 ((xs.drop P).take 8)):=by unfold Zc6 tk;rw[if_pos rfl,dl,if_pos h8]
  have e4:tkS 8 (xs.drop P) false=false:=by unfold tkS;rw[dl,if_pos h8]
  have e5:tkL 8 (xs.drop P)=xs.drop (P+8):=by unfold tkL;rw[dl,if_pos h8,List.drop_drop]
  by_cases hw:64<wd
  ·rw[if_pos (.inr (.inl hw)),Zth _ _ _ _ hw,Bool.and_false];exact⟨rfl,fun h=>by cases h⟩
  rw[if_neg (fun h=>h.elim (fun h=>by rw[hno]at h;cases h) (fun h=>h.elim hw (fun h=>h rfl))),e3,e4,e5];obtain⟨m1,m2⟩:=Zti wd k (P+8) (Zcf (L.wordOf 8 ((xs.drop P).take 8))) xs (by omega) hk;rw[m1];refine⟨by simp[Zbi],fun h j hj=>?_⟩;rw[Bool.and_eq_true]at h;simp only;rw[m2 h.1 j hj];unfold vl_I;rw[if_pos (.inl rfl)];rfl
 by_cases h5:cd=5
 ·subst h5;have e2:Zbc 5 wd k (xs.drop P) false=Zdm wd 0 k (xs.drop P) false:=by unfold Zbc;simp
  have e1:payR 1 5 wd k P xs=(if 64<wd∨¬ (1:Nat)=1 then (false,[])else (fits 0 (Zbo wd k P xs)&&Zby wd k P xs,(Zi8 0 (Zbo wd k P xs)).map pI)):=by unfold payR;simp
  rw[e1,e2];have e3:Zc6 5 (xs.drop P)=0:=by unfold Zc6;rw[if_neg (by decide)]
  by_cases hw:64<wd
  ·rw[if_pos (.inl hw),Zth _ _ _ _ hw,Bool.and_false];exact⟨rfl,fun h=>by cases h⟩
  rw[if_neg (by omega),e3];obtain⟨m1,m2⟩:=Zti wd k P 0 xs hP hk;rw[m1];refine⟨by simp[Zbi],fun h j hj=>?_⟩;rw[Bool.and_eq_true]at h;simp only;rw[m2 h.1 j hj];unfold vl_I;rw[if_pos (.inr rfl)];rfl
 have e1:(payR 1 cd wd k P xs).1=false:=by
  unfold payR;rw[if_neg h2,if_neg h3,if_neg h4,if_neg h5];simp[h1]
 have e2:Zbi 1 cd=false:=by
  unfold Zbi;rw[if_neg (by omega)];exact decide_eq_false (by omega)
 rw[e1,e2,Bool.false_and,Bool.false_and];exact⟨rfl,fun h=>by cases h⟩
theorem Zn8 (cd wd k P:Nat) (xs:List Nat) (hP:P≤xs.length) (hk:k≤65536) :
  (Zbi 2 cd&&Zd8 (Zbq cd wd k (xs.drop P) false))=((payR 2 cd wd k P xs).1&&decide ((payR 2 cd wd k P xs).2.length=k)) ∧
  (((payR 2 cd wd k P xs).1&&decide ((payR 2 cd wd k P xs).2.length=k))=true→∀ j,j<k→(payR 2 cd wd k P xs).2.getD j dfP =
   pK_S (vl_S cd wd (Zbq cd wd k (xs.drop P) false).list (Zbq cd wd k (xs.drop P) false).ends 0 (Zbq cd wd k (xs.drop P) false).lanes j)):=by
 by_cases h1:cd=1
 ·subst h1;obtain⟨m1,m2⟩:=Zqc wd k P xs hP;have e1:payR 2 1 wd k P xs=(Zbx 2 k P xs&&decide (Zb0 2 k P xs=xs.length)&&decide (1=1)&&decide (wd=0),Zdi 2 k P xs):=by unfold payR;simp
  have e2:Zbq 1 wd k (xs.drop P) false=Zbk wd k (xs.drop P) false:=by unfold Zbq;simp
  have hll:=fun ho=>Zek 2 k P xs ho (.inr rfl)
  rw[e1,e2,m1];refine⟨?_,fun h j hj=>?_⟩
  ·cases ho:Zbx 2 k P xs
   ·simp[Zbi,Za3]
   ·simp[Zbi,Za3,hll ho]
  ·simp only[Bool.and_eq_true,decide_eq_true_eq]at h;have ho:=h.1.1.1.1;have hm:=m2 ho;have hl:=hll ho;rw[show Zdi kN_S k P xs=Zdi 2 k P xs from rfl]at hm;unfold vl_S Zh9;rw[if_pos rfl,← hm,Zez pK_S _ j dfS dfP];rw[← hm,List.length_map]at hl;omega
 by_cases h2:cd=2
 ·subst h2;obtain⟨m1,m2⟩:=Zsc wd k P xs hP hk;have e1:payR 2 2 wd k P xs=Zex 2 wd k P xs:=by unfold payR;simp
  have e2:Zbq 2 wd k (xs.drop P) false=Zbm wd k (xs.drop P) false:=by unfold Zbq;simp
  rw[e1,e2,m1];refine⟨by simp[Zbi,Za3],fun h j hj=>?_⟩;rw[Bool.and_eq_true]at h;rw[show Zex 2 wd k P xs=Zex kN_S wd k P xs from rfl,m2 h.1 j hj];unfold vl_S Zh9;rw[if_neg (by decide),if_pos rfl]
 by_cases h3:cd=3
 ·subst h3;obtain⟨m1,m2⟩:=Ztb wd k P xs hP hk;have e1:payR 2 3 wd k P xs=((Zd7 2 k P xs).1&&decide (wd=0),(Zd7 2 k P xs).2):=by unfold payR;simp
  have e2:Zbq 3 wd k (xs.drop P) false=Zbh wd k (xs.drop P) false:=by unfold Zbq;simp
  rw[e1,e2,m1];refine⟨by simp[Zbi,Za3],fun h j hj=>?_⟩;simp only[Bool.and_eq_true]at h;simp only;rw[show Zd7 2 k P xs=Zd7 kN_S k P xs from rfl,m2 h.1.1 h.1.2 j hj];unfold vl_S Zh9;rw[if_neg (by decide),if_neg (by decide)]
 have e2:Zbi 2 cd=false:=by
  unfold Zbi;rw[if_neg (by omega)];exact decide_eq_false (by omega)
 have e1:(payR 2 cd wd k P xs).1=false:=by
  unfold payR;rw[if_neg h2,if_neg h3];by_cases h4:cd=4
  ·rw[if_pos h4,if_pos (.inr (.inr (by decide)))]
  ·rw[if_neg h4];by_cases h5:cd=5
   ·rw[if_pos h5,if_pos (.inr (by decide))]
   ·rw[if_neg h5];simp[h1]
 rw[e1,e2,Bool.false_and,Bool.false_and];exact⟨rfl,fun h=>by cases h⟩
theorem Zsd (cd wd k:Nat) (X:List Nat):Zd8 (Zbq cd wd k X true)=false:=by
 unfold Zbq
 split
 ·unfold Zd8 Zbk;simp only[Zls,Bool.false_and]
 split
 ·unfold Zbm;rw[Zdp]
  split
  ·rfl
  ·have hno:=Zls (L.wordOf 8 (tk 4 X)) (tkL 4 X);generalize rdS (L.wordOf 8 (tk 4 X)) (tkL 4 X) true=q at *;obtain⟨vals,ok,xl,s1⟩:=q;simp only at hno ⊢;subst hno;rfl
 ·unfold Zbh;rw[Zdp,Zdp]
  split
  ·rfl
  ·have hno:=Zls (L.wordOf 8 (tk 4 X)) (tkL (4*L.wordOf 8 (tk 4 X)) (tkL 4 X));generalize rdS (L.wordOf 8 (tk 4 X)) (tkL (4*L.wordOf 8 (tk 4 X)) (tkL 4 X)) true=q at *;obtain⟨vals,ok,xl,s1⟩:=q;simp only at hno ⊢;subst hno;rfl
theorem Zii (ws:List Nat) (r:Nat) (h:Za0 ws r=false):Zbe ws (r+1)=Zbe ws r:=by rw[Ze3,h];simp
theorem Z0t (rows:Nat) (xs:List Nat) (hrr:rows≤65536):Zc1 rows xs=rOk 1 rows xs ∧
  (rOk 1 rows xs=true→∀ r,r<rows→Zsl rows xs r=cA (rWs rows xs) r∧Zr6 rows xs r=cB (rWs rows xs) (rPay 1 rows xs).2 r∧Zrm rows xs r=cC (rWs rows xs) (rPay 1 rows xs).2 r):=by
 cases hn:Zau 8 (rN rows) 2 xs.length
 ·have e1:rOk 1 rows xs=false:=by unfold rOk rHd;rw[hn];simp
  rw[e1];refine⟨?_,fun h=>by cases h⟩;unfold Zc1 Zao;rw[Zv4 rows xs hn];have:=Zr2 (Zaa rows xs).codec (Zaa rows xs).wd (Zbd rows (Zaa rows xs).nulls) (Zaa rows xs).left;unfold Zc4 at this;rw[this,Bool.and_false]
 ·obtain⟨a1,a2,a3,a4,a5⟩:=Zmc rows xs hn;have hP:2+8*rN rows≤xs.length:=by unfold Zau at hn;rw[decide_eq_true_eq]at hn;omega
  have hkk:Zbd rows (rWs rows xs)=rK rows xs:=rfl;have hkl:rK rows xs≤65536:=by unfold rK;omega
  obtain⟨m1,m2⟩:=Zo2 (xs.getD 0 0) (xs.getD 1 0) (rK rows xs) (2+8*rN rows) xs hP hkl;have e0:Zao rows xs=Zbc (xs.getD 0 0) (xs.getD 1 0) (rK rows xs) (xs.drop (2+8*rN rows)) false:=by
   unfold Zao;rw[a1,a2,a3,a4,a5,hkk]
  have e1:Zc1 rows xs=(Za8 1 rows (rWs rows xs)&&(Zbi 1 (xs.getD 0 0)&&Zc4 (Zbc (xs.getD 0 0) (xs.getD 1 0) (rK rows xs) (xs.drop (2+8*rN rows)) false))):=by
   unfold Zc1 Zgk Zc4;rw[e0,a1,a3,Bool.and_assoc];rfl
  have e2:rOk 1 rows xs=(Za8 1 rows (rWs rows xs)&&((rPay 1 rows xs).1&&decide ((rPay 1 rows xs).2.length=rK rows xs))):=by
   unfold rOk rHd;rw[hn,Bool.true_and,Bool.and_assoc]
  refine⟨by rw[e1,e2,m1];rfl,fun h r hr=>?_⟩;rw[e2,Bool.and_eq_true]at h;have hva:=m2 h.2;unfold Zsl Zr6 Zrm cA cB cC;rw[a3];refine⟨rfl,?_,?_⟩
  all_goals
   cases hb:Za0 (rWs rows xs) r
   ·simp only[Bool.false_eq_true,if_false];rw[Zii _ _ hb];have hj:r-Zbe (rWs rows xs) r<rK rows xs:=by
     have:=Zjf (rWs rows xs) (r+1) rows (by omega);have h2:=Zet (rWs rows xs) r;rw[Zii _ _ hb]at this;unfold rK;omega
    have:=hva _ hj;unfold rPay;rw[this];unfold Zom Zc2;rw[e0,a1,a2,a4];rfl
   ·simp
theorem Z04 (rows:Nat) (xs:List Nat) (hrr:rows≤65536):Zc3 rows xs=rOk 2 rows xs ∧
  (rOk 2 rows xs=true→∀ r,r<rows→Zrt rows xs r=cA (rWs rows xs) r∧Zrj rows xs r=cB (rWs rows xs) (rPay 2 rows xs).2 r∧Zsn rows xs r=cC (rWs rows xs) (rPay 2 rows xs).2 r):=by
 cases hn:Zau 8 (rN rows) 2 xs.length
 ·have e1:rOk 2 rows xs=false:=by unfold rOk rHd;rw[hn];simp
  rw[e1];refine⟨?_,fun h=>by cases h⟩;unfold Zc3 Zan;rw[Zv4 rows xs hn];have:=Zsd (Zaa rows xs).codec (Zaa rows xs).wd (Zbd rows (Zaa rows xs).nulls) (Zaa rows xs).left;unfold Zd8 at this;rw[this,Bool.and_false]
 ·obtain⟨a1,a2,a3,a4,a5⟩:=Zmc rows xs hn;have hP:2+8*rN rows≤xs.length:=by unfold Zau at hn;rw[decide_eq_true_eq]at hn;omega
  have hkk:Zbd rows (rWs rows xs)=rK rows xs:=rfl;have hkl:rK rows xs≤65536:=by unfold rK;omega
  obtain⟨m1,m2⟩:=Zn8 (xs.getD 0 0) (xs.getD 1 0) (rK rows xs) (2+8*rN rows) xs hP hkl;have e0:Zan rows xs=Zbq (xs.getD 0 0) (xs.getD 1 0) (rK rows xs) (xs.drop (2+8*rN rows)) false:=by
   unfold Zan;rw[a1,a2,a3,a4,a5,hkk]
  have e1:Zc3 rows xs=(Za8 1 rows (rWs rows xs)&&(Zbi 2 (xs.getD 0 0)&&Zd8 (Zbq (xs.getD 0 0) (xs.getD 1 0) (rK rows xs) (xs.drop (2+8*rN rows)) false))):=by
   unfold Zc3 Zgk Zd8;rw[e0,a1,a3,Bool.and_assoc];rfl
  have e2:rOk 2 rows xs=(Za8 1 rows (rWs rows xs)&&((rPay 2 rows xs).1&&decide ((rPay 2 rows xs).2.length=rK rows xs))):=by
   unfold rOk rHd;rw[hn,Bool.true_and,Bool.and_assoc]
  refine⟨by rw[e1,e2,m1];rfl,fun h r hr=>?_⟩;rw[e2,Bool.and_eq_true]at h;have hva:=m2 h.2;unfold Zrt Zrj Zsn cA cB cC;rw[a3];refine⟨rfl,?_,?_⟩
  all_goals
   cases hb:Za0 (rWs rows xs) r
   ·simp only[Bool.false_eq_true,if_false];rw[Zii _ _ hb];have hj:r-Zbe (rWs rows xs) r<rK rows xs:=by
     have:=Zjf (rWs rows xs) (r+1) rows (by omega);have h2:=Zet (rWs rows xs) r;rw[Zii _ _ hb]at this;unfold rK;omega
    have:=hva _ hj;unfold rPay;rw[this];unfold Zoq Zcv;rw[e0,a1,a2];rfl
   ·simp
theorem Zfn {P:Program} {w:World} (base:Nat) (t ty e:TypeId) (i:TypeInfo) (z:Value) (size bytes:Nat) (ht:P.underlying t=some (.slice e)) (hi:P.info? e=some i) (hz:i.zero=some z)
  (hsize:i.size=size) (hby:i.bytes=bytes) (hzs:z.cells.size=size) (hsz:0<size)
  (v:Value) (n:Nat) (xs:List Value) (hown:w.ownsRow base e size v n xs)
  (a:Addr) (m c:Nat) (news:List Value) (hl:news.length=m*size) (hnews:∀ j u,news[j]? = some u→w.cell? (a.add j)=some u) (h1:∀ u∈news,u.oneCell'=true)
  (h63:n+m≤maxLen) (hbytes:(n+m)*bytes≤140737488355328) (h0:0<m) :
  ∃ v' w',(Builtin.append_ #[t,t] ty #[v,.slice (some a) m c]).run P w=.ok v' w'∧(v'.ownBlock=v.ownBlock∨(v'.ownBlock=some w.heap.size∧∀ k,k<w.heap.size→w'.heap[k]? = w.heap[k]?)):=by
 subst hsize;subst hby;have hsmall:n+m≤9223372036854775807:=by simp only[maxLen]at h63;omega
 rcases hown.2 with ⟨rfl,rfl⟩ | ⟨g,cap,cur,rfl,hbg,hg,hnc,hcm,hcs,htake⟩
 ·have hr:=run_append_nil (P:=P) w t ty e i z ht hi hz a m c news hl hnews (by omega) (by omega) (by have hb:=hbytes;simp only[Nat.zero_add]at hb;omega);exact⟨_,_,hr,.inr ⟨rfl,fun k hk=>heap_alloc_old w.drew _ hk⟩⟩
 ·by_cases hroom:n+m≤cap
  ·have hfit:n*i.size+news.length≤cur.size:=by rw[hl,hcs,← Nat.add_mul];exact Nat.mul_le_mul_right _ hroom
   have hr:=run_append_room (P:=P) w t ty e i ht hi g n cap cur hg a m c news hl hnews h1 hroom hfit;exact⟨_,_,hr,.inl rfl⟩
  ·have holds:∀ j u,xs[j]? = some u→w.cell? ((⟨g,0,none⟩:Addr).add j)=some u:=hown.cells (g:=g) rfl;have hr:=run_append_grow (P:=P) w t ty e i z ht hi hz ⟨g,0,none⟩ n cap xs hown.1 holds a m c news hl hnews (by omega) (by omega) (growslice_fits (by omega) hbytes);exact⟨_,_,hr,.inr ⟨rfl,fun k hk=>heap_alloc_old w.drew _ hk⟩⟩
theorem Zcp {P:Program} {w:World} {ops:Array Oper} {rest:List Oper} {o:Oper} {a:Act} {Q:Exit→Act→World→Prop} {t:TypeId} {u v:Value} {B n:Nat} {xs:List Value}
  (hgd:o.guard=none) (s x:Operand) (ho:o.op=.call { callee:=.builtin .append,args:=#[s,x],argTypes:=#[t,t] })
  (e:TypeId) (z:Value) (bytes:Nat) (h1:P.underlying t=some (.slice e)) (h2:(P.info? e).map (fun i=>(i.zero,i.size,i.bytes))=some (some z,1,bytes)) (hz:z.cells=#[z])
  (hs:a.eval s=v) (hx:a.eval x=.slice (some ⟨w.heap.size,0,none⟩) 1 1)
  (hown:w.ownsRow B e 1 v n xs) (hB:B≤w.heap.size) (hu:u.oneCell'=true) (hm:n+1≤maxLen) (hby:(n+1)*bytes≤140737488355328)
  (hK:∀ v' w',w'.ownsRow B e 1 v' (n+1) (xs++[u])→Below B w w'→w.heap.size≤w'.heap.size→(∀ k,k<w.heap.size→some k≠v.ownBlock→w'.heap[k]? = w.heap[k]?) →
   (v'.ownBlock=v.ownBlock∨((∀ k,v'.ownBlock=some k→w.heap.size≤k)∧∀ k,k<w.heap.size→w'.heap[k]? = w.heap[k]?))→wpList P ops Q rest (a.put o.dst v') w') :
  wpList P ops Q (o :: rest) a (w.alloc (.cells #[u] e)):=by
 refine wpList_plain hgd fun K hK'=>?_
 unfold Oper.wp execOp;simp only[ho,resolve,invoke,builtin,Sem.run_bind,Sem.run_pure,Result.andThen_ok,List.map_toArray,List.map_cons,List.map_nil,hs,hx];obtain⟨i,hi,hz0,hz1,hz2⟩:=info_parts h2;have ha1:∀ x∈[u],x.oneCell'=true:=by intro x hx;simp at hx;subst hx;exact hu
 obtain⟨v',w',hr,h3,h4,_⟩:=run_append_own (P:=P) (w:=w.alloc (.cells #[u] e)) B t o.type e i z 1 bytes h1 hi hz0 hz1 hz2 (by rw[hz];rfl) (by omega) v n xs (hown.alloc _)
  ⟨w.heap.size,0,none⟩ 1 1 [u] rfl (Zni w u e) ha1 hm hby (by simp;omega)
 obtain⟨v2,w2,hr2,h5⟩:=Zfn (P:=P) (w:=w.alloc (.cells #[u] e)) B t o.type e i z 1 bytes h1 hi hz0 hz1 hz2 (by rw[hz];rfl) (by omega) v n xs (hown.alloc _)
  ⟨w.heap.size,0,none⟩ 1 1 [u] rfl (Zni w u e) ha1 hm hby (by omega)
 rw[hr]at hr2;injection hr2 with e1 e2
 subst e1 e2;have hlt:=hown.lt;refine Zh1 hr (hK' _ _ (hK _ _ h3 ?_ ?_ ?_ ?_))
 ·refine(((Below.refl B w).alloc hB _).grown h4 (by simp;omega) ?_);intro k hk;exact(hlt k hk).1
 ·have:=h4.size;simp at this;omega
 ·intro k hk hne;rw[h4.block k (by simp;omega) hne];exact heap_alloc_old w _ hk
 ·rcases h5 with h5 | ⟨h5,h6⟩
  ·exact .inl h5
  ·refine .inr ⟨fun k hk=>?_,fun k hk=>?_⟩
   ·rw[h5]at hk;simp at hk;omega
   ·rw[h6 k (by simp;omega)];exact heap_alloc_old w _ hk
theorem Rd.keep {w w':World} {v:Value} {n sz:Nat} {cs:List Value} (h:Rd w v n sz cs) (hk:∀ k,v.ownBlock=some k→w'.heap[k]? = w.heap[k]?):Rd w' v n sz cs:=by
 refine⟨h.1,?_⟩;rcases h.2 with h | ⟨b,o,cap,rfl,h1,h2,h3⟩
 ·exact .inl h
 ·refine .inr ⟨b,o,cap,rfl,h1,h2,?_⟩;intro i u hu;rw[← h3 i u hu];exact World.cell?_of_block (hk b rfl)
theorem Zav {w w':World} {B sz:Nat} {e:TypeId} {v:Value} {n:Nat} {cs:List Value} (h:w.ownsRow B e sz v n cs) (hk:∀ k,v.ownBlock=some k→w'.heap[k]? = w.heap[k]?):w'.ownsRow B e sz v n cs:=by
 refine⟨h.1,?_⟩;rcases h.2 with h | ⟨g,cap,cur,rfl,h1,h2,r⟩
 ·exact .inl h
 ·exact .inr ⟨g,cap,cur,rfl,h1,by rw[hk g rfl];exact h2,r⟩
theorem Rd.at {w:World} {A:Option Addr} {n m sz cap:Nat} {cs:List Value} (h:Rd w (.slice A n cap) m sz cs) (h0:0<m):∃ b o,A=some ⟨b,o,none⟩∧Seg w b o cs:=by
 rcases h.2 with ⟨_,rfl⟩ | ⟨b,o,cap',he,_,_,hs⟩
 ·exact absurd h0 (Nat.lt_irrefl 0)
 ·injection he with e1 e2 e3
  exact⟨b,o,e1,hs⟩
def mk (i:Nat):Value:=.int .u64 ((18446744073709551615-(501+i):Nat):Int)
def Zcs (i n:Nat):List Value:=List.replicate n (mk i)
theorem Zq8 (i n:Nat):Zcs i n++[mk i]=Zcs i (n+1):=by simp[Zcs,List.replicate_succ']
theorem Zhn (i n t:Nat) (h:t<n):(Zcs i n)[t]? = some (mk i):=by simp[Zcs,List.getElem?_replicate,h]
theorem Zrx {w w':World} {B u t m cd:Nat} {D:Option Addr} {e:TypeId} {v':Value} (hD:∀ k,(Value.slice D u cd).ownBlock=some k→D=some ⟨k,0,none⟩) (hr:Rd w (.slice D u cd) u 1 (Zcs t u))
  (ho:w'.ownsRow B e 1 v' m (Zcs t m)) (hum:u≤m) (hk:∀ k,(Value.slice D u cd).ownBlock=some k→v'.ownBlock=some k∨w'.heap[k]? = w.heap[k]?):Rd w' (.slice D u cd) u 1 (Zcs t u):=by
 refine⟨hr.1,?_⟩;rcases hr.2 with h | ⟨b,o,cap,he,h1,h2,h3⟩
 ·exact .inl h
 ·injection he with e1 e2 e3
  subst e1;subst e3;have h0:=hD b rfl;injection h0 with h0
  injection h0 with _ ho0
  subst ho0;refine .inr ⟨b,0,cd,rfl,h1,h2,?_⟩;intro i x hx;rcases hk b rfl with hb | hb
  ·obtain⟨A,c',rfl,_,_,hl,hf⟩:=Zaj ho;have hi:i<u:=by
    rcases Nat.lt_or_ge i u with h | h
    ·exact h
    ·rw[List.getElem?_eq_none (by simp[Zcs];exact h)]at hx;cases hx
   obtain⟨g,rfl,_,_,hc,_⟩:=hf (by omega);simp[Value.ownBlock]at hb;subst hb;rw[Nat.zero_add,hc i (by omega),Zhn t m i (by omega)];rw[Zhn t u i hi]at hx;exact hx
  ·rw[← h3 i x hx];exact World.cell?_of_block hb
theorem Zu6 {w:World} {B n cd:Nat} {D:Option Addr} {e:TypeId} {xs:List Value} (h:w.ownsRow B e 1 (.slice D n cd) n xs):∀ k,(Value.slice D n cd).ownBlock=some k→D=some ⟨k,0,none⟩:=by
 intro k hk;rcases h.2 with ⟨he,_⟩ | ⟨g,cap,cur,he,_⟩
 ·injection he with e1 e2 e3
  subst e1;simp[Value.ownBlock]at hk
 ·injection he with e1 e2 e3
  subst e1;simp[Value.ownBlock]at hk;subst hk;rfl
def Zng (r:Int) (n:Nat):Nat:=if 0<n∧65536/n<Zsg r then 65536/n else Zsg r
theorem Zpk (r:Int) (n:Nat):Zng r n≤1024:=by have:=Ztr r;unfold Zng;split<;>omega
set_option maxHeartbeats 1000000 in
theorem Zpt (r:Int) (n:Nat) (w:World) (hn:n≤1048576):Calls Tryz.prog 28 #[.int .i64 r,.int .i64 n] w fun e w'=>e=.returned (.int .i64 (Zng r n:Nat))∧∃ m,w'=w.drewN m:=by
 have HC:=hid (fun w2:World=>Zyk r w2);have hle:=Ztr r;unfold Zng;generalize Zsg r=c at *;by_cases h0:0<n
 ·have hz:((n:Int)==0)=false:=by simp;omega
  have hg:(n:Int) > 0:=by omega
  obtain⟨q,hq⟩:∃ q,65536/n=q:=⟨_,rfl⟩;have hqi:(65536:Int)/(n:Int)=(q:Int):=by rw[← hq];simp
  have hqt:(65536:Int).tdiv (n:Int)=(q:Int):=by rw[Int.tdiv_eq_ediv_of_nonneg (by omega)];exact hqi
  rw[hq];have hq2:q≤65536:=by rw[← hq];exact Nat.div_le_self _ _
  go_enter Tryz.func28,Tryz.ntmps28;have hcut:(c:Int) > (q:Int)∨¬ (c:Int) > (q:Int):=by omega
  rcases hcut with hcut | hcut
  ·have hd:0<n∧q<c:=by omega
   rw[if_pos hd];clear hd;go_wp2_with fail
   go_quiet (first | (go_at_call 29;exact Calls.quiet_of_same (HC.out _)))
   go_wp2_with fail
   go_ret;exact⟨rfl,_,rfl⟩
  ·have hd:¬ (0<n∧q<c):=by omega
   rw[if_neg hd];clear hd;go_wp2_with fail
   go_quiet (first | (go_at_call 29;exact Calls.quiet_of_same (HC.out _)))
   go_wp2_with (go_at_call 29;refine(HC.out _).mono ?_;rintro e w' ⟨rfl,rfl⟩)
   go_ret;exact⟨rfl,_,rfl⟩
 ·obtain rfl:n=0:=by omega
  go_enter Tryz.func28,Tryz.ntmps28;go_wp2_with fail
  go_quiet (first | (go_at_call 29;exact Calls.quiet_of_same (HC.out _)))
  go_wp2_with (go_at_call 29;refine(HC.out _).mono ?_;rintro e w' ⟨rfl,rfl⟩)
  go_ret;exact⟨rfl,_,rfl⟩
set_option maxRecDepth 100000
structure C3 where
 n:Bool
 i:Int
 s:ByteArray
def C3.v (c:C3):Value:=.agg #[.bool c.n,.int .i64 c.i,.string c.s]
def C3.df:C3:=⟨false,0,ByteArray.empty⟩
def leN (k n:Nat):List Nat:=(List.range k).map fun i=>n/2^(8*i)%256
theorem Zak (k n:Nat):(leN k n).length=k:=by simp[leN]
theorem Znk (k n:Nat):leN (k+1) n=leN k n++[n/2^(8*k)%256]:=by simp[leN,List.range_succ]
theorem Znb (k n:Nat):∀ x∈leN k n,x<256:=by
 intro x hx;simp only[leN,List.mem_map]at hx;obtain⟨i,_,rfl⟩:=hx;exact Nat.mod_lt _ (by decide)
def toU (i:Int):Nat:=(i%18446744073709551616).toNat
theorem Zmw (i:Int):toU i<18446744073709551616:=by unfold toU;omega
theorem Zty (i:Int):IntKind.u64.wrap i=(toU i:Int):=by rw[IntKind.wrap_u64];unfold toU;omega
def sbs (s:ByteArray):List Nat:=s.data.toList.map UInt8.toNat
theorem Zca (s:ByteArray):(sbs s).length=s.size:=by rw[sbs,List.length_map,Array.length_toList];rfl
theorem Z0p (s:ByteArray) (k:Nat) (h:k<s.size):(sbs s)[k]? = some s[k].toNat:=by
 rw[sbs,List.getElem?_map,List.getElem?_eq_getElem (by rw[Array.length_toList];exact h)];rfl
theorem Zzl (s:ByteArray):∀ x∈sbs s,x<256:=by
 intro x hx;obtain⟨b,_,rfl⟩:=List.mem_map.1 hx;exact b.toNat_lt
theorem Zn6 (xs:List Nat) (n:Nat):u8s (xs++[n])=u8s xs++[.int .u8 (n:Int)]:=by simp[u8s,u8]
def Kp (v:Value) (w w':World) (r:Value):Prop:=(∀ k,k<w.heap.size→some k≠v.ownBlock→w'.heap[k]? = w.heap[k]?)∧(∀ k,r.ownBlock=some k→some k=v.ownBlock∨w.heap.size≤k)
theorem Kp.refl (v:Value) (w:World):Kp v w w v:=⟨fun _ _ _=>rfl,fun k h=>.inl h.symm⟩
theorem Kp.below {v:Value} {w w':World} (h:Below w.heap.size w w'):Kp v w w' v:=⟨fun k hk _=>h.block k hk,fun k h=>.inl h.symm⟩
theorem Kp.trans {v r1 r2:Value} {w w1 w2:World} (h1:Kp v w w1 r1) (h2:Kp r1 w1 w2 r2) (hs:w.heap.size≤w1.heap.size):Kp v w w2 r2:=by
 refine⟨fun k hk hne=>?_,fun k hk=>?_⟩
 ·rw[h2.1 k (by omega) (fun he=>?_),h1.1 k hk hne];rcases h1.2 k he.symm with h | h
  ·exact hne h
  ·omega
 ·rcases h2.2 k hk with h | h
  ·exact h1.2 k h.symm
  ·exact .inr (by omega)
def Stay (B:Nat) (v:Value) (w:World) (u:Value) (n sz:Nat) (cs:List Value):Prop:=∀ w' r,Below B w w'→Kp v w w' r→Rd w' u n sz cs
theorem Stay.now {B:Nat} {v:Value} {w:World} {u:Value} {n sz:Nat} {cs:List Value} (h:Stay B v w u n sz cs):Rd w u n sz cs:=h w v (Below.refl _ _) (Kp.refl _ _)
theorem Stay.low {B:Nat} {v:Value} {w0 w:World} {u:Value} {n sz:Nat} {cs:List Value} (h:Rd w0 u n sz cs) (hb:Below w0.heap.size w0 w) (hB:w0.heap.size≤B):Stay B v w u n sz cs :=
 fun w' _ h1 _=>h.mono (hb.trans (h1.mono hB))
set_option maxHeartbeats 1000000 in
theorem Zcw (B:Nat) (v:Value) (bs:List Nat) (x k:Nat) (w:World) (hown:w.ownsRow B 5 1 v bs.length (u8s bs)) (hB:B≤w.heap.size) (hx:x<18446744073709551616) (hk:k≤8) (hl:bs.length≤17592186044416) :
  Calls Tryz.prog 75 #[v,.int .u64 x,.int .i64 k] w fun e w'=>∃ r,e=.returned r∧w'.ownsRow B 5 1 r (bs++leN k x).length (u8s (bs++leN k x))∧Below B w w'∧w.heap.size≤w'.heap.size∧Kp v w w' r:=by
 obtain⟨n,hn⟩:∃ n,bs.length=n:=⟨_,rfl⟩;have HN:=hid hn;have Qd:=hid hown;rw[hn]at hl;clear hown hn;go_enter Tryz.func75,Tryz.ntmps75;go_wp2;go_loopw [0,7] (fun v0 i wr=>∃ t:Nat,t≤k∧i=.int .i64 t∧Hid (wr.ownsRow B 5 1 v0 (bs++leN t x).length (u8s (bs++leN t x)))∧Hid (Below B w wr)∧Hid (w.heap.size≤wr.heap.size)∧Hid (Kp v w wr v0)) (fun _ i _=>k-(intOf i).toNat)
 case atStart=>exact⟨0,by omega,rfl,by simpa [leN]using Qd,hid (Below.refl _ _),hid (Nat.le_refl _),hid (Kp.refl _ _)⟩
 case round =>
  obtain⟨t,ht,rfl,hown,hb,hs,hkp⟩:=hrel;by_cases hlt:t<k
  ·obtain⟨y,hy⟩:∃ y,x/2^(8*t)%256=y:=⟨_,rfl⟩;obtain⟨e,he⟩:∃ e,8*t=e:=⟨_,rfl⟩;have hy2:((x:Int)/2^e)%256=(y:Int):=by rw[← hy,← he];simp
   have he1:(8:Int)*(t:Int)=(e:Int):=by omega
   have he2:e<64:=by omega
   have HS:Hid (bs++leN (t+1) x=(bs++leN t x)++[y]):=hid (by rw[Znk,hy,List.append_assoc]);have HL:Hid ((bs++leN t x).length=n+t):=hid (by rw[List.length_append,Zak,HN.out]);have Yi:Hid (B≤wr.heap.size):=hid (Nat.le_trans hB hs.out);clear hy he;generalize bs++leN t x=cs at *;go_wp2_with (at_builtin;refine Zcp rfl (.tmp 13) (.tmp 20) rfl 5 (.int .u8 0) 1 Tryz.underlying22 Tryz.infoU8 rfl rfl rfl hown.out Yi.out (by rfl) (by have:=HL.out;unfold maxLen;omega) (by have:=HL.out;omega) ?_;intro v' w' ho hb3 hz3 hk3 hw3)
   have HO:=hid ho;have Qk:=hid hb3;have JJ:=hid hz3;have Z8:=hid (show Kp _ wr w' v' from ⟨hk3,fun k hk=>by
    rcases hw3 with h | h
    ·exact .inl (by rw[← h];exact hk.symm)
    ·exact .inr (h.1 k hk)⟩)
   clear ho hb3 hz3 hk3 hw3;go_roundw
   case rel =>
    refine⟨t+1,by omega,by go_num,hid ?_,hid (hb.out.trans Qk.out),hid (Nat.le_trans hs.out JJ.out),hid (hkp.out.trans Z8.out hs.out)⟩;rw[HS.out,List.length_append,Zn6];exact HO.out
   case measure=>simp[intOf];omega
  ·obtain rfl:t=k:=by omega
   go_wp2;go_ret;exact⟨_,rfl,hown.out,hb.out,hs.out,hkp.out⟩
set_option maxHeartbeats 1000000 in
theorem Zgl (B:Nat) (v:Value) (bs:List Nat) (x k:Nat) (w:World) (hown:w.ownsRow B 5 1 v bs.length (u8s bs)) (hB:B≤w.heap.size) (hx:x<18446744073709551616) (hk:k≤8) (hl:bs.length≤17592186044416) :
  Calls Tryz.prog 112 #[v,.int .u64 x,.int .i64 k] w fun e w'=>∃ r,e=.returned r∧w'.ownsRow B 5 1 r (bs++leN k x).length (u8s (bs++leN k x))∧Below B w w'∧w.heap.size≤w'.heap.size∧Kp v w w' r:=by
 obtain⟨n,hn⟩:∃ n,bs.length=n:=⟨_,rfl⟩;have HN:=hid hn;have Qd:=hid hown;rw[hn]at hl;clear hown hn;go_enter Tryz.func112,Tryz.ntmps112;go_wp2;go_loopw [0,9] (fun v0 i wr=>∃ t:Nat,t≤k∧i=.int .i64 t∧Hid (wr.ownsRow B 5 1 v0 (bs++leN t x).length (u8s (bs++leN t x)))∧Hid (Below B w wr)∧Hid (w.heap.size≤wr.heap.size)∧Hid (Kp v w wr v0)) (fun _ i _=>k-(intOf i).toNat)
 case atStart=>exact⟨0,by omega,rfl,by simpa [leN]using Qd,hid (Below.refl _ _),hid (Nat.le_refl _),hid (Kp.refl _ _)⟩
 case round =>
  obtain⟨t,ht,rfl,hown,hb,hs,hkp⟩:=hrel;by_cases hlt:t<k
  ·obtain⟨y,hy⟩:∃ y,x/2^(8*t)%256=y:=⟨_,rfl⟩;obtain⟨e,he⟩:∃ e,8*t=e:=⟨_,rfl⟩;have hy2:((x:Int)/2^e)%256=(y:Int):=by rw[← hy,← he];simp
   have he1:(8:Int)*(t:Int)=(e:Int):=by omega
   have he2:e<64:=by omega
   have HS:Hid (bs++leN (t+1) x=(bs++leN t x)++[y]):=hid (by rw[Znk,hy,List.append_assoc]);have HL:Hid ((bs++leN t x).length=n+t):=hid (by rw[List.length_append,Zak,HN.out]);have Yi:Hid (B≤wr.heap.size):=hid (Nat.le_trans hB hs.out);clear hy he;generalize bs++leN t x=cs at *;go_wp2_with (at_builtin;refine Zcp rfl (.tmp 12) (.tmp 19) rfl 5 (.int .u8 0) 1 Tryz.underlying22 Tryz.infoU8 rfl rfl rfl hown.out Yi.out (by rfl) (by have:=HL.out;unfold maxLen;omega) (by have:=HL.out;omega) ?_;intro v' w' ho hb3 hz3 hk3 hw3)
   have HO:=hid ho;have Qk:=hid hb3;have JJ:=hid hz3;have Z8:=hid (show Kp _ wr w' v' from ⟨hk3,fun k hk=>by
    rcases hw3 with h | h
    ·exact .inl (by rw[← h];exact hk.symm)
    ·exact .inr (h.1 k hk)⟩)
   clear ho hb3 hz3 hk3 hw3;go_roundw
   case rel =>
    refine⟨t+1,by omega,by go_num,hid ?_,hid (hb.out.trans Qk.out),hid (Nat.le_trans hs.out JJ.out),hid (hkp.out.trans Z8.out hs.out)⟩;rw[HS.out,List.length_append,Zn6];exact HO.out
   case measure=>simp[intOf];omega
  ·obtain rfl:t=k:=by omega
   go_wp2;go_ret;exact⟨_,rfl,hown.out,hb.out,hs.out,hkp.out⟩
def OwnB (B:Nat) (w:World) (v:Value) (bs:List Nat):Prop:=w.ownsRow B 5 1 v bs.length (u8s bs)
def Zpd (B:Nat) (v:Value) (w w':World) (e:Ending) (bs:List Nat):Prop:=∃ r,e=.returned r∧OwnB B w' r bs∧Below B w w'∧w.heap.size≤w'.heap.size∧Kp v w w' r
theorem OwnB.form {B:Nat} {w:World} {v:Value} {bs:List Nat} (h:OwnB B w v bs):∃ A c,v=.slice A bs.length c:=by
 obtain⟨A,c,rfl,_⟩:=Zaj h;exact⟨A,c,rfl⟩
def le8 (ws:List Nat):List Nat:=ws.flatMap fun x=>leN 8 x
theorem Zt9 (ws:List Nat) (x:Nat):le8 (ws++[x])=le8 ws++leN 8 x:=by simp[le8]
theorem Zlw {α : Type} (f : α→List Nat) (k:Nat) (h:∀ x,(f x).length=k) (xs:List α):(xs.flatMap f).length=k*xs.length:=by
 induction xs with
 | nil=>simp
 | cons a r ih=>rw[List.flatMap_cons,List.length_append,ih,h,List.length_cons,Nat.mul_succ];omega
theorem Zl7 (ws:List Nat):(le8 ws).length=8*ws.length:=Zlw _ 8 (fun _=>Zak _ _) ws
theorem Zjj (B:Nat) (v:Value) (bs:List Nat) (x:Nat) (w:World) (hown:OwnB B w v bs) (hB:B≤w.heap.size) (hx:x<18446744073709551616) (hl:bs.length≤17592186044416) :
  Calls Tryz.prog 145 #[v,.int .u64 x] w fun e w'=>Zpd B v w w' e (bs++leN 8 x):=by
 have HN:=hid (Zgl B v bs x 8 w hown hB hx (by omega) hl);obtain⟨R,hR⟩:∃ R,bs++leN 8 x=R:=⟨_,rfl⟩;rw[hR]at HN ⊢;obtain⟨A,c,rfl⟩:=hown.form;clear hown hR;go_enter Tryz.func145,Tryz.ntmps145;go_wp2_with (go_at_call 112;refine HN.out.mono ?_;rintro e w1 ⟨r,rfl,h1,h2,h3,h4⟩;obtain⟨A1,c1,rfl,_⟩:=Zaj h1;have H1:=hid h1;have H2:=hid h2;have H3:=hid h3;have H4:=hid h4;clear h1 h2 h3 h4)
 go_ret;exact⟨_,rfl,H1.out,H2.out,H3.out,H4.out⟩
theorem Zf9 (B:Nat) (v:Value) (bs:List Nat) (n:Nat) (w:World) (hown:OwnB B w v bs) (hB:B≤w.heap.size) (hx:n<4294967296) (hl:bs.length≤17592186044416) :
  Calls Tryz.prog 67 #[v,.int .i64 n] w fun e w'=>Zpd B v w w' e (bs++leN 4 n):=by
 have HN:=hid (Zgl B v bs n 4 w hown hB (by omega) (by omega) hl);obtain⟨R,hR⟩:∃ R,bs++leN 4 n=R:=⟨_,rfl⟩;rw[hR]at HN ⊢;obtain⟨A,c,rfl⟩:=hown.form;clear hown hR;go_enter Tryz.func67,Tryz.ntmps67;go_wp2_with (go_at_call 112;refine HN.out.mono ?_;rintro e w1 ⟨r,rfl,h1,h2,h3,h4⟩;obtain⟨A1,c1,rfl,_⟩:=Zaj h1;have H1:=hid h1;have H2:=hid h2;have H3:=hid h3;have H4:=hid h4;clear h1 h2 h3 h4)
 go_ret;exact⟨_,rfl,H1.out,H2.out,H3.out,H4.out⟩
set_option maxHeartbeats 1000000 in
theorem Zmq (B:Nat) (v u:Value) (bs:List Nat) (ws:List Nat) (w:World) (hown:OwnB B w v bs) (hu:Stay B v w u ws.length 1 (u64s ws)) (hv:∀ x∈ws,x<18446744073709551616) (hB:B≤w.heap.size) (hl:bs.length≤1099511627776) (hl2:ws.length≤1048576) :
  Calls Tryz.prog 109 #[v,u] w fun e w'=>Zpd B v w w' e (bs++le8 ws):=by
 have HU:=hid hu;have HV:=hid hv;obtain⟨A,c,rfl⟩:=hown.form;obtain⟨A1,c1,rfl,_,_,_⟩:=hu.now.form;have Qd:=hid hown;have HL:=hid hl;obtain⟨b0,hb0⟩:∃ b0,bs.length=b0:=⟨_,rfl⟩;have Ql:=hid hb0;rw[hb0]at hl;clear hown hu hv hb0;go_enter Tryz.func109,Tryz.ntmps109;go_wp2_with fail
 go_loopw [0,9] (fun r i wr=>∃ t:Nat,t≤ws.length∧i=.int .i64 t∧Hid (OwnB B wr r (bs++le8 (ws.take t)))∧Hid (Below B w wr)∧Hid (w.heap.size≤wr.heap.size)∧Hid (Kp (.slice A bs.length c) w wr r)) (fun _ i _=>ws.length-(intOf i).toNat)
 case atStart=>exact⟨0,by omega,rfl,hid (by simpa [le8]using Qd.out),hid (Below.refl _ _),hid (Nat.le_refl _),hid (Kp.refl _ _)⟩
 case round =>
  obtain⟨t,ht,rfl,QO,Qa,HS,HK⟩:=hrel;by_cases hlt:t<ws.length
  ·have Yq:Hid ((bs++le8 (ws.take t)).length=b0+8*t):=hid (by rw[List.length_append,Zl7,List.length_take,Nat.min_eq_left ht,Ql.out]);obtain⟨A2,c2,rfl⟩:=QO.out.form;obtain⟨b,o,rfl,hs⟩:=(HU.out wr _ Qa.out HK.out).atW (by omega);have e1:=hs t hlt;have hx:=HV.out (ws.getD t 0) (by simp[List.getD,List.getElem?_eq_getElem hlt]);have QE:Hid (bs++le8 (ws.take (t+1))=(bs++le8 (ws.take t))++leN 8 (ws.getD t 0)):=hid (by
    rw[List.take_succ_eq_append_getElem hlt,Zt9,List.append_assoc];simp[List.getD,List.getElem?_eq_getElem hlt])
   clear hs;generalize ws.getD t 0=x at *;generalize bs++le8 (ws.take t)=cs at *;have HN:=hid (Zjj B _ cs x wr QO.out (Nat.le_trans hB HS.out) (by omega) (by have:=Yq.out;omega));generalize cs++leN 8 x=R at *;go_wp2_with (go_at_call 145;refine HN.out.mono ?_;rintro e w1 ⟨r,rfl,h1,h2,h3,h4⟩;obtain⟨A3,c3,rfl⟩:=h1.form;have H1:=hid h1;have H2:=hid h2;have H3:=hid h3;have H4:=hid h4;clear h1 h2 h3 h4)
   go_roundw
   case rel=>exact⟨t+1,by omega,by go_num,hid (by rw[QE.out];exact H1.out),hid (Below.trans Qa.out H2.out),hid (Nat.le_trans HS.out H3.out),hid (HK.out.trans H4.out HS.out)⟩
   case measure=>simp[intOf];omega
  ·obtain rfl:t=ws.length:=by omega
   rw[List.take_length]at QO;obtain⟨A2,c2,rfl⟩:=QO.out.form;go_wp2_with fail
   go_ret;exact⟨_,rfl,QO.out,Qa.out,HS.out,HK.out⟩
theorem Zkq (s:ByteArray):Lib.strCells s=u8s (sbs s):=by
 unfold Lib.strCells u8s u8 sbs;rw[List.map_map];rfl
theorem Zd0 {P:Program} (w:World) (base:Nat) (t u ty e:TypeId) (i:TypeInfo) (ht:P.underlying t=some (.slice e)) (hu:P.underlying u=some .string) (hi:P.info? e=some i) (hz:i.zero=some (.int .u8 0))
  (hsize:i.size=1) (hby:i.bytes=1) (v:Value) (n:Nat) (xs:List Value) (hown:w.ownsRow base e 1 v n xs) (s:ByteArray) (h63:n+s.size≤maxLen) (hbytes:n+s.size≤140737488355328) (hbase:base≤w.heap.size) :
  ∃ v' w',(Builtin.append_ #[t,u] ty #[v,.string s]).run P w=.ok v' w'∧w'.ownsRow base e 1 v' (n+s.size) (xs++Lib.strCells s)∧w.grownBy w' v.ownBlock∧(∀ k,v'.ownBlock=some k→some k=v.ownBlock∨w.heap.size≤k):=by
 obtain⟨v',w',hr,h1,h2,h3⟩:=Lib.run_append_own_string (P:=P) (w:=w) base t u ty e i ht hu hi hz hsize hby v n xs hown s h63 hbytes hbase;refine⟨v',w',hr,h1,h2,?_⟩;have hxl:xs.length=n:=by simpa using hown.1
 rcases hown.2 with ⟨rfl,rfl⟩ | ⟨g,cap,cur,rfl,hbg,hg,hnc,hcm,hcs,htake⟩
 ·by_cases hm:s.size=0
  ·have:=h3.2 ⟨rfl,hm⟩;subst this;intro k hk;cases hk
  ·have hr2:=run_append_nil_string (P:=P) w t u ty e i (.int .u8 0) ht hu hi hz s (by unfold maxLen at h63;omega) (by unfold maxLen at h63;omega) (by rw[hby];omega);rw[hr]at hr2;injection hr2 with e1 e2
   subst e1;intro k hk;simp[Value.ownBlock]at hk;exact .inr (by omega)
 ·have hsmall:n+s.size≤9223372036854775807:=by unfold maxLen at h63;omega
  by_cases hroom:n+s.size≤cap
  ·have hcs2:cur.size=cap:=by simpa using hcs
   have hr2:=Lib.run_append_room_string (P:=P) (w:=w) t u ty e i ht hu hi hsize g n cap cur hg s hroom (by omega);rw[hr]at hr2;injection hr2 with e1 e2
   subst e1;intro k hk;exact .inl (by simpa [Value.ownBlock]using hk.symm)
  ·have holds:∀ j u,xs[j]? = some u→w.cell? ((⟨g,0,none⟩:Addr).add j)=some u:=hown.cells (g:=g) rfl;have hr2:=Lib.run_append_grow_string (P:=P) (w:=w) t u ty e i (.int .u8 0) ht hu hi hz ⟨g,0,none⟩ n cap xs (by rw[hsize];simpa using hxl) holds s (by omega) (by omega) (by rw[hby];exact growslice_fits (by omega) (by omega));rw[hr]at hr2;injection hr2 with e1 e2
   subst e1;intro k hk;simp[Value.ownBlock]at hk;exact .inr (by omega)
theorem Zmp {w:World} {ops:Array Oper} {rest:List Oper} {o:Oper} {a:Act} {Q:Exit→Act→World→Prop} {v:Value} {B:Nat} {bs:List Nat} {x:ByteArray}
  (hgd:o.guard=none) (sl r:Operand) (ho:o.op=.call { callee:=.builtin .append,args:=#[sl,r],argTypes:=#[22,9] })
  (hs:a.eval sl=v) (hx:a.eval r=.string x) (hown:OwnB B w v bs) (hm:bs.length+x.size≤17592186044416) (hB:B≤w.heap.size)
  (hK:∀ v' w',OwnB B w' v' (bs++sbs x)→Below B w w'→w.heap.size≤w'.heap.size→Kp v w w' v'→wpList Tryz.prog ops Q rest (a.put o.dst v') w'):wpList Tryz.prog ops Q (o :: rest) a w:=by
 obtain⟨iu,hiu,hz0,hz1,hz2⟩:=info_parts Tryz.infoU8;have hlt:=World.ownsRow.lt hown;refine wpList_plain hgd fun K hK2=>?_
 obtain⟨v',w',hr,h1,h2,hw⟩:=Zd0 (P:=Tryz.prog) w B 22 9 o.type 5 iu Tryz.underlying22 Tryz.underlying9 hiu hz0 hz1 hz2 v bs.length (u8s bs) hown x (by unfold maxLen;omega) (by omega) hB;unfold Oper.wp execOp;simp only[ho,resolve,invoke,builtin,Sem.run_bind,Sem.run_pure,Result.andThen_ok,List.map_toArray,List.map_cons,List.map_nil,hs,hx,hr];refine hK2 _ _ (hK v' w' ?_ ((Below.refl B w).grown h2 (by omega) (fun k hk=>(hlt k hk).1)) h2.size ⟨h2.block,hw⟩);unfold OwnB;rw[List.length_append,Zca,Znc,← Zkq];exact h1
end Go.Proofs.YtmcjknjlihgihaaGreatDoor
