/- The code's answer and the plain answer meet: frames, the head of a body, readers that are short. -/
import Derived.Test.YtmcjknjlihgihaaGreatDoorLawparseuptoM18
set_option linter.unusedVariables false
set_option linter.unusedSimpArgs false
set_option linter.unnecessarySimpa false
set_option maxRecDepth 20000
namespace Go.Proofs.YtmcjknjlihgihaaGreatDoor
open Go.RowKit
def Zdc (O:Out_I):Bool:=O.b&&(!O.short&&decide (O.left=[]))
theorem Zra (wd k P:Nat) (xs:List Nat) (hP:P≤xs.length) :
  Zdc (Zbt wd k (xs.drop P) false)=(Zbw kN_I k P xs&&decide (Zbz kN_I k P xs=xs.length)&&decide (wd=0)) ∧
  (Zbw kN_I k P xs=true→(Zbt wd k (xs.drop P) false).list.map pK_I=Zdo kN_I k P xs):=by
 obtain⟨h1,h2⟩:=Z1d k P xs hP;unfold Zdc Zbt;generalize rdI k (xs.drop P) false=q at *;obtain⟨vals,ok,xl,s1⟩:=q;simp only at h1 h2 ⊢;subst h1;refine⟨?_,fun h=>(h2 h).1⟩;cases ho:Zbw kN_I k P xs
 ·simp
 ·obtain⟨h3,h4,h5,h6⟩:=h2 ho;rw[h5,h4,Zgt _ _ h6];have hw:decide ((wd:Int)=0)=decide (wd=0):=by by_cases h:wd=0<;>simp[h]
  rw[hw];generalize decide (wd=0)=a;generalize decide (Zbz kN_I k P xs=xs.length)=b;cases a<;>cases b<;>rfl
theorem Zs9 (wd k P:Nat) (xs:List Nat) (hP:P≤xs.length) (hk:k≤65536) :
  Zdc (Zbu wd k (xs.drop P) false)=((Zev kN_I wd k P xs).1&&decide ((Zev kN_I wd k P xs).2.length=k)) ∧
  ((Zev kN_I wd k P xs).1=true→∀ j,j<k→(Zev kN_I wd k P xs).2.getD j dfP=pK_I ((Zbu wd k (xs.drop P) false).list.getD (L.laneOf wd (Zbu wd k (xs.drop P) false).lanes j) dfI)):=by
 by_cases h4:4≤xs.length-P
 rotate_left
 ·have e1:Zev kN_I wd k P xs=(false,[]):=by
   unfold Zev;rw[if_pos (.inl (by unfold Zb8;exact decide_eq_false (by omega)))]
  have e2:(Zbu wd k (xs.drop P) false).b=false:=by
   have e3:tk 4 (xs.drop P)=[]:=by unfold tk;rw[dl,if_neg h4]
   have e4:tkS 4 (xs.drop P) false=true:=by unfold tkS;rw[dl,if_neg h4]
   unfold Zbu;rw[e3,e4]
   split
   ·rfl
   ·have hno:=Zlp (L.wordOf 8 []) (tkL 4 (xs.drop P));generalize rdI (L.wordOf 8 []) (tkL 4 (xs.drop P)) true=q at *;obtain⟨vals,ok,xl,s1⟩:=q;simp only at hno ⊢;subst hno;rfl
  rw[e1];refine⟨?_,fun h=>by cases h⟩;unfold Zdc;rw[e2];rfl
 have e3:tk 4 (xs.drop P)=(xs.drop P).take 4:=by unfold tk;rw[dl,if_pos h4]
 have e4:tkS 4 (xs.drop P) false=false:=by unfold tkS;rw[dl,if_pos h4]
 have e5:tkL 4 (xs.drop P)=xs.drop (P+4):=by unfold tkL;rw[dl,if_pos h4,List.drop_drop]
 have hno:Zb8 4 P xs.length=true:=by unfold Zb8;exact decide_eq_true ⟨hP,h4⟩
 have hdn:dN P xs=L.wordOf 8 ((xs.drop P).take 4):=by unfold dN;rw[if_pos hno]
 unfold Zbu Zev;rw[e3,e4,e5,hno,hdn];generalize L.wordOf 8 ((xs.drop P).take 4)=d;have hgg:(256<d∨(wd:Int)≠(Zgl d:Int))↔(256<d∨wd≠Zgl d):=by omega
 by_cases hg:256<d∨wd≠Zgl d
 ·rw[if_pos (hgg.2 hg),if_pos (.inr hg)];exact⟨rfl,fun h=>by cases h⟩
 rw[if_neg (fun h=>hg (hgg.1 h)),if_neg (fun h=>h.elim (fun h=>by cases h) hg)];obtain⟨h1,h2⟩:=Z1d d (P+4) xs (by omega);generalize rdI d (xs.drop (P+4)) false=q at *;obtain⟨vals,ok,xl,s1⟩:=q;simp only at h1 h2 ⊢;subst h1;cases ho:Zbw kN_I d (P+4) xs
 ·simp only[Bool.false_and,Bool.false_eq_true,if_false,true_or,if_true];exact⟨by simp[Zdc],fun h=>by cases h⟩
 obtain⟨h3,h5,h6,h7⟩:=h2 ho;have hll:=Zeo kN_I d (P+4) xs ho Zxf;rw[← h3,List.length_map]at hll;rw[← h3,Zz1,h5,h6];cases hnp:Zbd geI vals
 ·simp only[Bool.and_false,Bool.false_eq_true,if_false,or_true,if_true];exact⟨by simp[Zdc],fun h=>by cases h⟩
 generalize Zbz kN_I d (P+4) xs=nx at *;simp only[Bool.and_self,if_true,Bool.true_eq_false,or_self,if_false];obtain⟨m1,m2⟩:=Zmu (xs.drop nx);have hlk:Zbx wd k nx xs=(decide ((xs.drop nx).length%8=0)&&Za9 wd k (Za7 (xs.drop nx))):=by
  unfold Zbx;rw[dl];congr 1
  by_cases h:(xs.length-nx)%8=0
  ·rw[decide_eq_true h,decide_eq_true ⟨h7,h⟩]
  ·rw[decide_eq_false h,decide_eq_false (fun h2=>h h2.2)]
 have hlb:=Zkr wd k 6 (Za7 (xs.drop nx)) d (by decide) hk;have hst:∀ j,Zcc 6 (L.laneOf wd (Za7 (xs.drop nx)) j) d=decide (d≤L.laneOf wd (Za7 (xs.drop nx)) j):=fun j=>rfl
 unfold Zdc;simp only[m1,m2];cases hkk:Zbx wd k nx xs
 ·have hv:Zbm wd k nx xs=[]:=by unfold Zbm;rw[hkk];simp
  rw[hv];refine⟨?_,fun h=>?_⟩
  ·have hf:¬ (Zck wd k 6 (Za7 (xs.drop nx)) d=true∧(xs.drop nx).length%8=0):=by
    rintro⟨a,b⟩;rw[hlk,decide_eq_true b,(hlb.1 a).1]at hkk;cases hkk
   simp only[List.all_nil,Bool.true_eq_false,if_false,Bool.false_and,Bool.not_false,Bool.true_and];rw[Bool.and_eq_false_iff];by_cases ha:Zck wd k 6 (Za7 (xs.drop nx)) d=true
   ·exact .inr (decide_eq_false (fun hb=>hf ⟨ha,hb⟩))
   ·exact .inl (by simpa using ha)
  ·simp at h
 ·have hv:Zbm wd k nx xs=L.lanesL wd k (Za7 (xs.drop nx)):=by unfold Zbm;rw[hkk,if_pos rfl]
  rw[hlk,Bool.and_eq_true,decide_eq_true_eq]at hkk;rw[hv];have hall:((L.lanesL wd k (Za7 (xs.drop nx))).all fun c=>decide (c<d))=Zck wd k 6 (Za7 (xs.drop nx)) d:=by
   rw[Bool.eq_iff_iff,hlb,List.all_eq_true];constructor
   ·intro h;refine⟨hkk.2,fun j hj=>?_⟩;rw[hst,decide_eq_false_iff_not];have:=h (L.laneOf wd (Za7 (xs.drop nx)) j) (List.mem_map.2 ⟨j,List.mem_range.2 hj,rfl⟩);rw[decide_eq_true_eq]at this;omega
   ·rintro⟨_,h⟩ x hx;obtain⟨j,hj,rfl⟩:=List.mem_map.1 hx;have:=h j (List.mem_range.1 hj);rw[hst,decide_eq_false_iff_not]at this;rw[decide_eq_true_eq];omega
  rw[hall];cases hb:Zck wd k 6 (Za7 (xs.drop nx)) d
  ·simp only[if_true];exact⟨rfl,fun h=>by cases h⟩
  ·simp only[Bool.true_eq_false,if_false];refine⟨?_,fun _ j hj=>?_⟩
   ·have h8:=hkk.1;rw[dl]at h8;simp[h8,L.lanesL_length]
   ·have hlt:L.laneOf wd (Za7 (xs.drop nx)) j<vals.length:=by
     have:=(hlb.1 hb).2 j hj;rw[hst,decide_eq_false_iff_not]at this;omega
    rw[Zey (fun c=>(vals.map pK_I).getD c dfP) (L.lanesL wd k (Za7 (xs.drop nx))) j 0 dfP (by rw[L.lanesL_length];exact hj),L.lanesL_get _ _ _ _ hj,Zey pK_I vals _ dfI dfP hlt]
theorem Zsm (wd k P:Nat) (xs:List Nat) (hP:P≤xs.length) (hk:k≤65536) :
  Zdc (Zbo wd k (xs.drop P) false)=((Zd5 kN_I k P xs).1&&decide (wd=0)&&decide ((Zd5 kN_I k P xs).2.length=k)) ∧
  ((Zd5 kN_I k P xs).1=true→decide (wd=0)=true→∀ j,j<k→(Zd5 kN_I k P xs).2.getD j dfP=pK_I ((Zbo wd k (xs.drop P) false).list.getD (Zb7 (nI (Zbo wd k (xs.drop P) false).ends) ((j:Int)+1)) dfI)):=by
 have hno0:∀(c:Nat) (X:List Nat) (E:List Nat) (b:Bool) (r:Out_I),(if (wd:Int)≠0∨b=false then ({ b:=false,left:=r.left,short:=r.short,list:=[],ends:=E,lanes:=[] }:Out_I)else match rdI c X true with
   | (vals,ok,xl,s3)=>{ b:=ok&&Zbd eqI vals,left:=xl,short:=s3,list:=vals,ends:=E,lanes:=[] }).b=false:=by
  intro c X E b r
  split
  ·rfl
  ·have hno:=Zlp c X;generalize rdI c X true=q at *;obtain⟨vals,ok,xl,s1⟩:=q;simp only at hno ⊢;subst hno;rfl
 by_cases h4:4≤xs.length-P
 rotate_left
 ·have e1:Zd5 kN_I k P xs=(false,[]):=by
   unfold Zd5;rw[if_pos (.inl (by unfold Zb8;exact decide_eq_false (by omega)))]
  have e2:(Zbo wd k (xs.drop P) false).b=false:=by
   have e4:tkS 4 (xs.drop P) false=true:=by unfold tkS;rw[dl,if_neg h4]
   unfold Zbo;rw[e4,Zds];exact hno0 _ _ _ _ ⟨false,_,_,[],[],[]⟩
  rw[e1];refine⟨?_,fun h=>by cases h⟩;unfold Zdc;rw[e2];rfl
 have e3:tk 4 (xs.drop P)=(xs.drop P).take 4:=by unfold tk;rw[dl,if_pos h4]
 have e4:tkS 4 (xs.drop P) false=false:=by unfold tkS;rw[dl,if_pos h4]
 have e5:tkL 4 (xs.drop P)=xs.drop (P+4):=by unfold tkL;rw[dl,if_pos h4,List.drop_drop]
 have hno:Zb8 4 P xs.length=true:=by unfold Zb8;exact decide_eq_true ⟨hP,h4⟩
 have hdn:dN P xs=L.wordOf 8 ((xs.drop P).take 4):=by unfold dN;rw[if_pos hno]
 unfold Zbo Zd5;rw[e3,e4,e5,hno,hdn];generalize L.wordOf 8 ((xs.drop P).take 4)=c;by_cases hn:4*c≤xs.length-(P+4)
 rotate_left
 ·have t2:tkS (4*c) (xs.drop (P+4)) false=true:=by unfold tkS;rw[dl,if_neg hn]
  have hns:Zav 4 c (P+4) xs.length=false:=by unfold Zav;exact decide_eq_false (by omega)
  rw[t2,hns];have hr:(if true=false∨k<c then ((false,[]):Bool×List PV)else if false=false then (false,[])
    else if Zbw kN_I c (P+4+4*c) xs=false∨¬ Zbz kN_I c (P+4+4*c) xs=xs.length then (false,[])
    else if Zbd eqP (Zdo kN_I c (P+4+4*c) xs)=false∨Za1 (nI (numL 4 (tk (4*c) (xs.drop (P+4))))) k=false then (false,[])
    else (true,Zgy (Zdo kN_I c (P+4+4*c) xs) (numL 4 (tk (4*c) (xs.drop (P+4)))) c))=(false,[]):=by
   split
   ·rfl
   ·rfl
  rw[hr];refine⟨?_,fun h=>by cases h⟩;unfold Zdc;rw[hno0 c _ _ _ ⟨false,_,_,[],[],[]⟩];rfl
 have t2:tkS (4*c) (xs.drop (P+4)) false=false:=by unfold tkS;rw[dl,if_pos hn]
 have t3:tkL (4*c) (xs.drop (P+4))=xs.drop (P+4+4*c):=by unfold tkL;rw[dl,if_pos hn,List.drop_drop]
 have hns:Zav 4 c (P+4) xs.length=true:=by unfold Zav;exact decide_eq_true ⟨by omega,hn⟩
 have hel:=Zoe c (P+4) xs hns;rw[t2,t3,hns];generalize numL 4 (tk (4*c) (xs.drop (P+4)))=E at *;obtain⟨re,hre⟩:∃ re,Za1 (nI E) k=re:=⟨_,rfl⟩;rw[hre];by_cases hkc:k<c
 ·have hf:re=false:=by
   rw[← hre,← Bool.not_eq_true];intro h;have h1:Za4 0 (nI E)=some (k:Int):=by simpa [Za1]using h
   have:=Zny _ _ _ h1;rw[Zas]at this;omega
  subst hf;rw[if_pos (.inr rfl),if_pos (.inr hkc)];exact⟨rfl,fun h=>by cases h⟩
 rw[if_neg (c:=true=false∨k<c) (fun h=>h.elim (fun h=>by cases h) hkc)];simp only[Bool.true_eq_false,if_false];cases re
 ·rw[if_pos (.inr rfl)];have hr:∀(p:Prop) [Decidable p] (q:Prop) [Decidable q] (hq:q) (x:List PV),(if p then ((false,[]):Bool×List PV)else if q then (false,[])else (true,x))=(false,[]):=by
   intro p _ q _ hq x
   split
   ·rfl
   ·rfl
  rw[hr _ _ (.inr rfl)];exact⟨rfl,fun h=>by cases h⟩
 by_cases hw:wd=0
 rotate_left
 ·rw[if_pos (.inl (by omega))];rw[decide_eq_false hw,Bool.and_false,Bool.false_and];exact⟨rfl,fun _ h=>by cases h⟩
 rw[if_neg (by simp;omega),decide_eq_true hw,Bool.and_true];have hke:Za4 0 (nI E)=some (k:Int):=by simpa [Za1]using hre
 obtain⟨h1,h2⟩:=Z1d c (P+4+4*c) xs (by omega);have hll:=fun ho=>Zeo kN_I c (P+4+4*c) xs ho Zxf
 generalize rdI c (xs.drop (P+4+4*c)) false=q at *;obtain⟨vals,ok,xl,s1⟩:=q;simp only at h1 h2 ⊢;subst h1;cases ho:Zbw kN_I c (P+4+4*c) xs
 ·simp only[Bool.false_and,true_or,if_true];exact⟨rfl,fun h=>by cases h⟩
 obtain⟨h3,h5,h6,h7⟩:=h2 ho;have hvl:=hll ho;rw[← h3,List.length_map]at hvl;rw[← h3,Zy4,h5,h6];by_cases hx:Zbz kN_I c (P+4+4*c) xs=xs.length
 rotate_left
 ·rw[if_pos (.inr hx)];refine⟨?_,fun h=>by cases h⟩;unfold Zdc;simp only;rw[Zgt _ _ h7,decide_eq_false hx];simp
 rw[if_neg (c:=true=false∨¬ Zbz kN_I c (P+4+4*c) xs=xs.length) (fun h=>h.elim (fun h=>by cases h) (fun h=>h hx))];cases hnp:Zbd eqI vals
 ·simp only[true_or,if_true];exact⟨rfl,fun h=>by cases h⟩
 simp only[Bool.true_eq_false,or_self,if_false];have htk:E.take c=E:=by rw[← hel,List.take_length]
 have hfl:=Zf1 (vals.map pK_I) E c k (by omega) (by rw[htk];exact hke);refine⟨?_,fun _ _ j hj=>?_⟩
 ·unfold Zdc;simp only;rw[Zgt _ _ h7,decide_eq_true hx,hfl];simp
 ·rw[Zlt (vals.map pK_I) E c k (by omega) (by rw[htk];exact hke) j hj,Zey pK_I vals _ dfI dfP];have:=Ze3 hre ((j:Int)+1) (by omega) (by omega);rw[Zas]at this;omega
def Zd6 (O:Out_S):Bool:=O.b&&(!O.short&&decide (O.left=[]))
theorem Zqd (wd k P:Nat) (xs:List Nat) (hP:P≤xs.length) :
  Zd6 (Zbk wd k (xs.drop P) false)=(Zbw kN_S k P xs&&decide (Zbz kN_S k P xs=xs.length)&&decide (wd=0)) ∧
  (Zbw kN_S k P xs=true→(Zbk wd k (xs.drop P) false).list.map pK_S=Zdo kN_S k P xs):=by
 obtain⟨h1,h2⟩:=Z05 k P xs hP;unfold Zd6 Zbk;generalize rdS k (xs.drop P) false=q at *;obtain⟨vals,ok,xl,s1⟩:=q;simp only at h1 h2 ⊢;subst h1;refine⟨?_,fun h=>(h2 h).1⟩;cases ho:Zbw kN_S k P xs
 ·simp
 ·obtain⟨h3,h4,h5,h6⟩:=h2 ho;rw[h5,h4,Zgt _ _ h6];have hw:decide ((wd:Int)=0)=decide (wd=0):=by by_cases h:wd=0<;>simp[h]
  rw[hw];generalize decide (wd=0)=a;generalize decide (Zbz kN_S k P xs=xs.length)=b;cases a<;>cases b<;>rfl
theorem Zt1 (wd k P:Nat) (xs:List Nat) (hP:P≤xs.length) (hk:k≤65536) :
  Zd6 (Zbp wd k (xs.drop P) false)=((Zev kN_S wd k P xs).1&&decide ((Zev kN_S wd k P xs).2.length=k)) ∧
  ((Zev kN_S wd k P xs).1=true→∀ j,j<k→(Zev kN_S wd k P xs).2.getD j dfP=pK_S ((Zbp wd k (xs.drop P) false).list.getD (L.laneOf wd (Zbp wd k (xs.drop P) false).lanes j) dfS)):=by
 by_cases h4:4≤xs.length-P
 rotate_left
 ·have e1:Zev kN_S wd k P xs=(false,[]):=by
   unfold Zev;rw[if_pos (.inl (by unfold Zb8;exact decide_eq_false (by omega)))]
  have e2:(Zbp wd k (xs.drop P) false).b=false:=by
   have e3:tk 4 (xs.drop P)=[]:=by unfold tk;rw[dl,if_neg h4]
   have e4:tkS 4 (xs.drop P) false=true:=by unfold tkS;rw[dl,if_neg h4]
   unfold Zbp;rw[e3,e4]
   split
   ·rfl
   ·have hno:=Zmn (L.wordOf 8 []) (tkL 4 (xs.drop P));generalize rdS (L.wordOf 8 []) (tkL 4 (xs.drop P)) true=q at *;obtain⟨vals,ok,xl,s1⟩:=q;simp only at hno ⊢;subst hno;rfl
  rw[e1];refine⟨?_,fun h=>by cases h⟩;unfold Zd6;rw[e2];rfl
 have e3:tk 4 (xs.drop P)=(xs.drop P).take 4:=by unfold tk;rw[dl,if_pos h4]
 have e4:tkS 4 (xs.drop P) false=false:=by unfold tkS;rw[dl,if_pos h4]
 have e5:tkL 4 (xs.drop P)=xs.drop (P+4):=by unfold tkL;rw[dl,if_pos h4,List.drop_drop]
 have hno:Zb8 4 P xs.length=true:=by unfold Zb8;exact decide_eq_true ⟨hP,h4⟩
 have hdn:dN P xs=L.wordOf 8 ((xs.drop P).take 4):=by unfold dN;rw[if_pos hno]
 unfold Zbp Zev;rw[e3,e4,e5,hno,hdn];generalize L.wordOf 8 ((xs.drop P).take 4)=d;have hgg:(256<d∨(wd:Int)≠(Zgl d:Int))↔(256<d∨wd≠Zgl d):=by omega
 by_cases hg:256<d∨wd≠Zgl d
 ·rw[if_pos (hgg.2 hg),if_pos (.inr hg)];exact⟨rfl,fun h=>by cases h⟩
 rw[if_neg (fun h=>hg (hgg.1 h)),if_neg (fun h=>h.elim (fun h=>by cases h) hg)];obtain⟨h1,h2⟩:=Z05 d (P+4) xs (by omega);generalize rdS d (xs.drop (P+4)) false=q at *;obtain⟨vals,ok,xl,s1⟩:=q;simp only at h1 h2 ⊢;subst h1;cases ho:Zbw kN_S d (P+4) xs
 ·simp only[Bool.false_and,Bool.false_eq_true,if_false,true_or,if_true];exact⟨by simp[Zd6],fun h=>by cases h⟩
 obtain⟨h3,h5,h6,h7⟩:=h2 ho;have hll:=Zeo kN_S d (P+4) xs ho Zw6;rw[← h3,List.length_map]at hll;rw[← h3,Zy9,h5,h6];cases hnp:Zbd geS vals
 ·simp only[Bool.and_false,Bool.false_eq_true,if_false,or_true,if_true];exact⟨by simp[Zd6],fun h=>by cases h⟩
 generalize Zbz kN_S d (P+4) xs=nx at *;simp only[Bool.and_self,if_true,Bool.true_eq_false,or_self,if_false];obtain⟨m1,m2⟩:=Zmu (xs.drop nx);have hlk:Zbx wd k nx xs=(decide ((xs.drop nx).length%8=0)&&Za9 wd k (Za7 (xs.drop nx))):=by
  unfold Zbx;rw[dl];congr 1
  by_cases h:(xs.length-nx)%8=0
  ·rw[decide_eq_true h,decide_eq_true ⟨h7,h⟩]
  ·rw[decide_eq_false h,decide_eq_false (fun h2=>h h2.2)]
 have hlb:=Zkr wd k 6 (Za7 (xs.drop nx)) d (by decide) hk;have hst:∀ j,Zcc 6 (L.laneOf wd (Za7 (xs.drop nx)) j) d=decide (d≤L.laneOf wd (Za7 (xs.drop nx)) j):=fun j=>rfl
 unfold Zd6;simp only[m1,m2];cases hkk:Zbx wd k nx xs
 ·have hv:Zbm wd k nx xs=[]:=by unfold Zbm;rw[hkk];simp
  rw[hv];refine⟨?_,fun h=>?_⟩
  ·have hf:¬ (Zck wd k 6 (Za7 (xs.drop nx)) d=true∧(xs.drop nx).length%8=0):=by
    rintro⟨a,b⟩;rw[hlk,decide_eq_true b,(hlb.1 a).1]at hkk;cases hkk
   simp only[List.all_nil,Bool.true_eq_false,if_false,Bool.false_and,Bool.not_false,Bool.true_and];rw[Bool.and_eq_false_iff];by_cases ha:Zck wd k 6 (Za7 (xs.drop nx)) d=true
   ·exact .inr (decide_eq_false (fun hb=>hf ⟨ha,hb⟩))
   ·exact .inl (by simpa using ha)
  ·simp at h
 ·have hv:Zbm wd k nx xs=L.lanesL wd k (Za7 (xs.drop nx)):=by unfold Zbm;rw[hkk,if_pos rfl]
  rw[hlk,Bool.and_eq_true,decide_eq_true_eq]at hkk;rw[hv];have hall:((L.lanesL wd k (Za7 (xs.drop nx))).all fun c=>decide (c<d))=Zck wd k 6 (Za7 (xs.drop nx)) d:=by
   rw[Bool.eq_iff_iff,hlb,List.all_eq_true];constructor
   ·intro h;refine⟨hkk.2,fun j hj=>?_⟩;rw[hst,decide_eq_false_iff_not];have:=h (L.laneOf wd (Za7 (xs.drop nx)) j) (List.mem_map.2 ⟨j,List.mem_range.2 hj,rfl⟩);rw[decide_eq_true_eq]at this;omega
   ·rintro⟨_,h⟩ x hx;obtain⟨j,hj,rfl⟩:=List.mem_map.1 hx;have:=h j (List.mem_range.1 hj);rw[hst,decide_eq_false_iff_not]at this;rw[decide_eq_true_eq];omega
  rw[hall];cases hb:Zck wd k 6 (Za7 (xs.drop nx)) d
  ·simp only[if_true];exact⟨rfl,fun h=>by cases h⟩
  ·simp only[Bool.true_eq_false,if_false];refine⟨?_,fun _ j hj=>?_⟩
   ·have h8:=hkk.1;rw[dl]at h8;simp[h8,L.lanesL_length]
   ·have hlt:L.laneOf wd (Za7 (xs.drop nx)) j<vals.length:=by
     have:=(hlb.1 hb).2 j hj;rw[hst,decide_eq_false_iff_not]at this;omega
    rw[Zey (fun c=>(vals.map pK_S).getD c dfP) (L.lanesL wd k (Za7 (xs.drop nx))) j 0 dfP (by rw[L.lanesL_length];exact hj),L.lanesL_get _ _ _ _ hj,Zey pK_S vals _ dfS dfP hlt]
theorem Zsw (wd k P:Nat) (xs:List Nat) (hP:P≤xs.length) (hk:k≤65536) :
  Zd6 (Zbi wd k (xs.drop P) false)=((Zd5 kN_S k P xs).1&&decide (wd=0)&&decide ((Zd5 kN_S k P xs).2.length=k)) ∧
  ((Zd5 kN_S k P xs).1=true→decide (wd=0)=true→∀ j,j<k→(Zd5 kN_S k P xs).2.getD j dfP=pK_S ((Zbi wd k (xs.drop P) false).list.getD (Zb7 (nI (Zbi wd k (xs.drop P) false).ends) ((j:Int)+1)) dfS)):=by
 have hno0:∀(c:Nat) (X:List Nat) (E:List Nat) (b:Bool) (r:Out_S),(if (wd:Int)≠0∨b=false then ({ b:=false,left:=r.left,short:=r.short,list:=[],ends:=E,lanes:=[] }:Out_S)else match rdS c X true with
   | (vals,ok,xl,s3)=>{ b:=ok&&Zbd eqS vals,left:=xl,short:=s3,list:=vals,ends:=E,lanes:=[] }).b=false:=by
  intro c X E b r
  split
  ·rfl
  ·have hno:=Zmn c X;generalize rdS c X true=q at *;obtain⟨vals,ok,xl,s1⟩:=q;simp only at hno ⊢;subst hno;rfl
 by_cases h4:4≤xs.length-P
 rotate_left
 ·have e1:Zd5 kN_S k P xs=(false,[]):=by
   unfold Zd5;rw[if_pos (.inl (by unfold Zb8;exact decide_eq_false (by omega)))]
  have e2:(Zbi wd k (xs.drop P) false).b=false:=by
   have e4:tkS 4 (xs.drop P) false=true:=by unfold tkS;rw[dl,if_neg h4]
   unfold Zbi;rw[e4,Zds];exact hno0 _ _ _ _ ⟨false,_,_,[],[],[]⟩
  rw[e1];refine⟨?_,fun h=>by cases h⟩;unfold Zd6;rw[e2];rfl
 have e3:tk 4 (xs.drop P)=(xs.drop P).take 4:=by unfold tk;rw[dl,if_pos h4]
 have e4:tkS 4 (xs.drop P) false=false:=by unfold tkS;rw[dl,if_pos h4]
 have e5:tkL 4 (xs.drop P)=xs.drop (P+4):=by unfold tkL;rw[dl,if_pos h4,List.drop_drop]
 have hno:Zb8 4 P xs.length=true:=by unfold Zb8;exact decide_eq_true ⟨hP,h4⟩
 have hdn:dN P xs=L.wordOf 8 ((xs.drop P).take 4):=by unfold dN;rw[if_pos hno]
 unfold Zbi Zd5;rw[e3,e4,e5,hno,hdn];generalize L.wordOf 8 ((xs.drop P).take 4)=c;by_cases hn:4*c≤xs.length-(P+4)
 rotate_left
 ·have t2:tkS (4*c) (xs.drop (P+4)) false=true:=by unfold tkS;rw[dl,if_neg hn]
  have hns:Zav 4 c (P+4) xs.length=false:=by unfold Zav;exact decide_eq_false (by omega)
  rw[t2,hns];have hr:(if true=false∨k<c then ((false,[]):Bool×List PV)else if false=false then (false,[])
    else if Zbw kN_S c (P+4+4*c) xs=false∨¬ Zbz kN_S c (P+4+4*c) xs=xs.length then (false,[])
    else if Zbd eqP (Zdo kN_S c (P+4+4*c) xs)=false∨Za1 (nI (numL 4 (tk (4*c) (xs.drop (P+4))))) k=false then (false,[])
    else (true,Zgy (Zdo kN_S c (P+4+4*c) xs) (numL 4 (tk (4*c) (xs.drop (P+4)))) c))=(false,[]):=by
   split
   ·rfl
   ·rfl
  rw[hr];refine⟨?_,fun h=>by cases h⟩;unfold Zd6;rw[hno0 c _ _ _ ⟨false,_,_,[],[],[]⟩];rfl
 have t2:tkS (4*c) (xs.drop (P+4)) false=false:=by unfold tkS;rw[dl,if_pos hn]
 have t3:tkL (4*c) (xs.drop (P+4))=xs.drop (P+4+4*c):=by unfold tkL;rw[dl,if_pos hn,List.drop_drop]
 have hns:Zav 4 c (P+4) xs.length=true:=by unfold Zav;exact decide_eq_true ⟨by omega,hn⟩
 have hel:=Zoe c (P+4) xs hns;rw[t2,t3,hns];generalize numL 4 (tk (4*c) (xs.drop (P+4)))=E at *;obtain⟨re,hre⟩:∃ re,Za1 (nI E) k=re:=⟨_,rfl⟩;rw[hre];by_cases hkc:k<c
 ·have hf:re=false:=by
   rw[← hre,← Bool.not_eq_true];intro h;have h1:Za4 0 (nI E)=some (k:Int):=by simpa [Za1]using h
   have:=Zny _ _ _ h1;rw[Zas]at this;omega
  subst hf;rw[if_pos (.inr rfl),if_pos (.inr hkc)];exact⟨rfl,fun h=>by cases h⟩
 rw[if_neg (c:=true=false∨k<c) (fun h=>h.elim (fun h=>by cases h) hkc)];simp only[Bool.true_eq_false,if_false];cases re
 ·rw[if_pos (.inr rfl)];have hr:∀(p:Prop) [Decidable p] (q:Prop) [Decidable q] (hq:q) (x:List PV),(if p then ((false,[]):Bool×List PV)else if q then (false,[])else (true,x))=(false,[]):=by
   intro p _ q _ hq x
   split
   ·rfl
   ·rfl
  rw[hr _ _ (.inr rfl)];exact⟨rfl,fun h=>by cases h⟩
 by_cases hw:wd=0
 rotate_left
 ·rw[if_pos (.inl (by omega))];rw[decide_eq_false hw,Bool.and_false,Bool.false_and];exact⟨rfl,fun _ h=>by cases h⟩
 rw[if_neg (by simp;omega),decide_eq_true hw,Bool.and_true];have hke:Za4 0 (nI E)=some (k:Int):=by simpa [Za1]using hre
 obtain⟨h1,h2⟩:=Z05 c (P+4+4*c) xs (by omega);have hll:=fun ho=>Zeo kN_S c (P+4+4*c) xs ho Zw6
 generalize rdS c (xs.drop (P+4+4*c)) false=q at *;obtain⟨vals,ok,xl,s1⟩:=q;simp only at h1 h2 ⊢;subst h1;cases ho:Zbw kN_S c (P+4+4*c) xs
 ·simp only[Bool.false_and,true_or,if_true];exact⟨rfl,fun h=>by cases h⟩
 obtain⟨h3,h5,h6,h7⟩:=h2 ho;have hvl:=hll ho;rw[← h3,List.length_map]at hvl;rw[← h3,Zzz,h5,h6];by_cases hx:Zbz kN_S c (P+4+4*c) xs=xs.length
 rotate_left
 ·rw[if_pos (.inr hx)];refine⟨?_,fun h=>by cases h⟩;unfold Zd6;simp only;rw[Zgt _ _ h7,decide_eq_false hx];simp
 rw[if_neg (c:=true=false∨¬ Zbz kN_S c (P+4+4*c) xs=xs.length) (fun h=>h.elim (fun h=>by cases h) (fun h=>h hx))];cases hnp:Zbd eqS vals
 ·simp only[true_or,if_true];exact⟨rfl,fun h=>by cases h⟩
 simp only[Bool.true_eq_false,or_self,if_false];have htk:E.take c=E:=by rw[← hel,List.take_length]
 have hfl:=Zf1 (vals.map pK_S) E c k (by omega) (by rw[htk];exact hke);refine⟨?_,fun _ _ j hj=>?_⟩
 ·unfold Zd6;simp only;rw[Zgt _ _ h7,decide_eq_true hx,hfl];simp
 ·rw[Zlt (vals.map pK_S) E c k (by omega) (by rw[htk];exact hke) j hj,Zey pK_S vals _ dfS dfP];have:=Ze3 hre ((j:Int)+1) (by omega) (by omega);rw[Zas]at this;omega
theorem Zyt (base:Int) (x:Nat):Zvj base x=vsum base x:=by
 unfold Zvj vsum wrap64;rw[IntKind.wrap_i64,IntKind.wrap_i64,IntKind.wrap_u64,IntKind.wrap_u64];omega
theorem Zvl (wd k p:Nat) (xs:List Nat) (hp:p≤xs.length):Zbx wd k p xs=(decide ((xs.drop p).length%8=0)&&Za9 wd k (Za7 (xs.drop p))):=by
 unfold Zbx;rw[dl];congr 1
 by_cases h:(xs.length-p)%8=0
 ·rw[decide_eq_true h,decide_eq_true ⟨hp,h⟩]
 ·rw[decide_eq_false h,decide_eq_false (fun h2=>h h2.2)]
theorem Zuf (wd k p:Nat) (base:Int) (xs:List Nat) (hp:p≤xs.length) (hk:k≤65536) :
  Zdc (Zdr wd base k (xs.drop p) false)=((fits base (Zbm wd k p xs)&&Zbx wd k p xs)&&decide (((Zi9 base (Zbm wd k p xs)).map pI).length=k)) ∧
  ((fits base (Zbm wd k p xs)&&Zbx wd k p xs)=true→∀ j,j<k→((Zi9 base (Zbm wd k p xs)).map pI).getD j dfP=pK_I (Zvj base (L.laneOf wd (Za7 (xs.drop p)) j))):=by
 obtain⟨m1,m2⟩:=Zmu (xs.drop p);have hlk:=Zvl wd k p xs hp;have hlb:=Zkr wd k 5 (Za7 (xs.drop p)) (Zfl base) (by decide) hk;have hst:∀ j,Zcc 5 (L.laneOf wd (Za7 (xs.drop p)) j) (Zfl base)=decide (Zfl base<L.laneOf wd (Za7 (xs.drop p)) j):=fun j=>rfl
 unfold Zdc Zdr;simp only[m1,m2];cases hkk:Zbx wd k p xs
 ·rw[Bool.and_false,Bool.false_and];refine⟨?_,fun h=>by cases h⟩;have hf:¬ (Zck wd k 5 (Za7 (xs.drop p)) (Zfl base)=true∧(xs.drop p).length%8=0):=by
   rintro⟨a,b⟩;rw[hlk,decide_eq_true b,(hlb.1 a).1]at hkk;cases hkk
  simp only[Bool.not_false,Bool.true_and];rw[Bool.and_eq_false_iff];by_cases ha:Zck wd k 5 (Za7 (xs.drop p)) (Zfl base)=true
  ·exact .inr (decide_eq_false (fun hb=>hf ⟨ha,hb⟩))
  ·exact .inl (by simpa using ha)
 ·have hv:Zbm wd k p xs=L.lanesL wd k (Za7 (xs.drop p)):=by unfold Zbm;rw[hkk,if_pos rfl]
  rw[hlk,Bool.and_eq_true,decide_eq_true_eq]at hkk;rw[hv];have hall:fits base (L.lanesL wd k (Za7 (xs.drop p)))=Zck wd k 5 (Za7 (xs.drop p)) (Zfl base):=by
   unfold fits;rw[Bool.eq_iff_iff,hlb,List.all_eq_true];constructor
   ·intro h;refine⟨hkk.2,fun j hj=>?_⟩;rw[hst,decide_eq_false_iff_not];have:=h (L.laneOf wd (Za7 (xs.drop p)) j) (List.mem_map.2 ⟨j,List.mem_range.2 hj,rfl⟩);rw[decide_eq_true_eq]at this;omega
   ·rintro⟨_,h⟩ x hx;obtain⟨j,hj,rfl⟩:=List.mem_map.1 hx;have:=h j (List.mem_range.1 hj);rw[hst,decide_eq_false_iff_not]at this;rw[decide_eq_true_eq];omega
  have hsl:Zck wd k 5 (Za7 (xs.drop p)) (Zfl base)=true→Zi9 base (L.lanesL wd k (Za7 (xs.drop p)))=(L.lanesL wd k (Za7 (xs.drop p))).map (vsum base):=fun h=>by
   unfold Zi9;rw[hall,h,if_pos rfl]
  rw[hall];cases hb:Zck wd k 5 (Za7 (xs.drop p)) (Zfl base)
  ·exact⟨rfl,fun h=>by cases h⟩
  ·rw[hsl hb];refine⟨?_,fun _ j hj=>?_⟩
   ·rw[List.length_map,List.length_map,L.lanesL_length,decide_eq_true hkk.1,decide_eq_true rfl];rfl
   ·rw[List.map_map,Zey (pI ∘ vsum base) (L.lanesL wd k (Za7 (xs.drop p))) j 0 dfP (by rw[L.lanesL_length];exact hj),L.lanesL_get _ _ _ _ hj,Zyt];rfl
theorem Zmp (wd k:Nat) (base:Int) (X:List Nat):Zdc (Zdr wd base k X true)=false:=by
 unfold Zdc Zdr;simp only[Zds,Bool.not_true,Bool.false_and,Bool.and_false]
theorem Zt4 (wd k:Nat) (base:Int) (X:List Nat) (h:64<wd) (s:Bool):Zdc (Zdr wd base k X s)=false:=by
 have h1:Zck wd k 5 (Za7 X) (Zfl base)=false:=by
  rw[← Bool.not_eq_true];intro h2;have:=(Zcd h2).1;omega
 unfold Zdc Zdr;simp only[h1,Bool.false_and]
theorem Zs6 (cd wd k:Nat) (X:List Nat):Zdc (Zbf cd wd k X true)=false:=by
 unfold Zbf
 split
 ·unfold Zdc Zbt;simp only[Zlp,Bool.false_and]
 split
 ·unfold Zbu;rw[Zds]
  split
  ·rfl
  ·have hno:=Zlp (L.wordOf 8 (tk 4 X)) (tkL 4 X);generalize rdI (L.wordOf 8 (tk 4 X)) (tkL 4 X) true=q at *;obtain⟨vals,ok,xl,s1⟩:=q;simp only at hno ⊢;subst hno;rfl
 split
 ·unfold Zbo;rw[Zds,Zds]
  split
  ·rfl
  ·have hno:=Zlp (L.wordOf 8 (tk 4 X)) (tkL (4*L.wordOf 8 (tk 4 X)) (tkL 4 X));generalize rdI (L.wordOf 8 (tk 4 X)) (tkL (4*L.wordOf 8 (tk 4 X)) (tkL 4 X)) true=q at *;obtain⟨vals,ok,xl,s1⟩:=q;simp only at hno ⊢;subst hno;rfl
 split
 ·rw[Zds];exact Zmp _ _ _ _
 ·exact Zmp _ _ _ _
theorem Zm2 (rows:Nat) (xs:List Nat) (h:Zav 8 (rN rows) 2 xs.length=true) :
  (Zaa rows xs).codec=xs.getD 0 0∧(Zaa rows xs).wd=xs.getD 1 0∧(Zaa rows xs).nulls=rWs rows xs∧(Zaa rows xs).left=xs.drop (2+8*rN rows)∧(Zaa rows xs).short=false:=by
 unfold Zav at h;rw[decide_eq_true_eq]at h;obtain⟨a,b,t,rfl⟩:∃ a b t,xs=a :: b :: t:=by
  match xs,h.1 with
  | a :: b :: t,_=>exact⟨a,b,t,rfl⟩
 have h2:8*rN rows≤t.length:=by have:=h.2;simpa using this
 have e1:tk 1 (a :: b :: t)=[a]:=by simp[tk]
 have e2:tkL 1 (a :: b :: t)=b :: t:=by simp[tkL]
 have e3:tk 1 (b :: t)=[b]:=by simp[tk]
 have e4:tkL 1 (b :: t)=t:=by simp[tkL]
 have e5:tkS 1 (a :: b :: t) false=false:=by simp[tkS]
 have e6:tkS 1 (b :: t) false=false:=by simp[tkS]
 unfold Zaa;simp only[e1,e2,e3,e4,e5,e6];refine⟨by simp[L.wordOf],by simp[L.wordOf],rfl,?_,?_⟩
 ·unfold tkL;rw[show (rows+63)/64=rN rows from rfl,if_pos h2];rw[show 2+8*rN rows=8*rN rows+1+1 by omega,List.drop_succ_cons,List.drop_succ_cons]
 ·unfold tkS;rw[show (rows+63)/64=rN rows from rfl,if_pos h2]
theorem Zwx (rows:Nat) (xs:List Nat) (h:Zav 8 (rN rows) 2 xs.length=false):(Zaa rows xs).short=true:=by
 unfold Zav at h;rw[decide_eq_false_iff_not]at h;unfold Zaa;simp only
 match xs with
 | []=>simp[tkS,tkL]
 | [a]=>simp[tkS,tkL]
 | a :: b :: t =>
  have e2:tkL 1 (a :: b :: t)=b :: t:=by simp[tkL]
  have e4:tkL 1 (b :: t)=t:=by simp[tkL]
  rw[e2,e4];have h2:¬ 8*rN rows≤t.length:=by
   intro h3;exact h ⟨by simp,by simpa using h3⟩
  unfold tkS;rw[show (rows+63)/64=rN rows from rfl,if_neg h2]
end Go.Proofs.YtmcjknjlihgihaaGreatDoor
