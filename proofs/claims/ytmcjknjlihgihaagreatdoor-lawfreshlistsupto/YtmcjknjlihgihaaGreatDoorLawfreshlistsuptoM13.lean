/- The code's answer and the plain answer meet: plain lists, dictionaries, runs. -/
import Derived.Test.YtmcjknjlihgihaaGreatDoorLawfreshlistsuptoM12
set_option linter.unusedVariables false
set_option linter.unusedSimpArgs false
set_option linter.unnecessarySimpa false
set_option maxRecDepth 20000
namespace Go.Proofs.YtmcjknjlihgihaaGreatDoor
open Go.RowKit
theorem Zof (rows:Nat) (xs:List Nat) (hb:∀ x∈xs,x<256) (hl:xs.length≤16777216) (hrr:rows≤65536) (h:Zc3 rows xs=true):Valid_S rows xs:=by
 unfold Zc3 Zgk at h;simp only[Bool.and_eq_true,Bool.not_eq_true',decide_eq_true_eq]at h;obtain⟨⟨hpk,hcd⟩,hOb,hOs,hOl⟩:=h;have hnl:=((Zbl (wd:=1) (n:=rows) _ (by decide) hrr).1 hpk).1;rw[Zjp]at hnl;have hx3:(Zaa rows xs).left.length≤16777216:=Nat.le_trans (Zbn _ _) (Nat.le_trans (Zbn _ _) (Nat.le_trans (Zbn _ _) hl));have hb3:∀ x∈(Zaa rows xs).left,x<256:=Zas (Zas (Zas hb));have hnv:∀ x∈(Zaa rows xs).nulls,x<18446744073709551616:=Zdu (Zc8 (Zas (Zas hb))) (by omega);have key:(Zan rows xs).list.length≤16777216∧(Zan rows xs).ends.length≤16777216∧(∀ x∈(Zan rows xs).lanes,x<18446744073709551616) ∧
   ∀ j,j<Zbd rows (Zaa rows xs).nulls→Zkz (Zaa rows xs).codec (Zaa rows xs).wd (Zan rows xs).list (Zan rows xs).ends (Zan rows xs).lanes j:=by
  unfold Zan at *;generalize Zbd rows (Zaa rows xs).nulls=k at *;generalize (Zaa rows xs).left=x3 at *;generalize (Zaa rows xs).short=t3 at *;generalize (Zaa rows xs).codec=cd at *;generalize (Zaa rows xs).wd=wd at *;have hcdk:1≤cd∧cd≤3:=by
   unfold Zbi at hcd
   split at hcd
   ·omega
   ·simp only[decide_eq_true_eq]at hcd;unfold Zko at hcd;omega
  unfold Zbq at *;by_cases h1:cd=1
  ·subst h1;rw[if_pos rfl]at *;unfold Zbk at *;simp only[Bool.and_eq_true,decide_eq_true_eq]at *;have hf:=Zem hOb.1 hOs;exact⟨Ziu _ _ _ hx3,by simp,by simp,fun j hj=>.inl ⟨rfl,by rw[hf];exact hj⟩⟩
  by_cases h2:cd=2
  ·subst h2;rw[if_neg (by decide),if_pos rfl]at *;unfold Zbm at *
   split at hOb
   ·cases hOb
   ·rename_i hc
    rw[if_neg hc]at *;have hxl1:(tkL 4 x3).length≤16777216:=Nat.le_trans (Zbn _ _) hx3;have hxb1:∀ x∈tkL 4 x3,x<256:=Zas hb3;have hrl:=Ziu (L.wordOf 8 (tk 4 x3)) (tkL 4 x3) (tkS 4 x3 t3) hxl1;have hrb:=(Zep (L.wordOf 8 (tk 4 x3)) (tkL 4 x3) (tkS 4 x3 t3)).2 256 hxb1;have hfl:=@Zem (L.wordOf 8 (tk 4 x3)) (tkL 4 x3) (tkS 4 x3 t3);generalize rdS (L.wordOf 8 (tk 4 x3)) (tkL 4 x3) (tkS 4 x3 t3)=R at *;generalize L.wordOf 8 (tk 4 x3)=d at *;obtain⟨vals,ok,xl,s1⟩:=R;simp only at *
    split at hOb
    ·rename_i hoa
     rw[if_pos hoa]at *;simp only at *;obtain⟨l1,l2,l3,l4⟩:=Zce hOb;have hs1:=(Zb7 hOs).2;have hvl:=hfl (by simp only[Bool.and_eq_true]at hoa;exact hoa.1) hs1;refine⟨hrl,by simp,Zfm hrb,fun j hj=>.inr (.inl ⟨rfl,?_,l1,fun h0=>Zhe l1 l3 j hj h0⟩)⟩;have:=l4 j hj;unfold Zcc at this;simp at this;omega
    ·cases hOb
  ·obtain rfl:cd=3:=by omega
   rw[if_neg (by decide),if_neg (by decide)]at *;unfold Zbh at *
   split at hOb
   ·cases hOb
   ·rename_i hc
    rw[if_neg hc]at *;have hxl1:(tkL 4 x3).length≤16777216:=Nat.le_trans (Zbn _ _) hx3;have hxl2:(tkL (4*L.wordOf 8 (tk 4 x3)) (tkL 4 x3)).length≤16777216:=Nat.le_trans (Zbn _ _) hxl1;have hrl:=Ziu (L.wordOf 8 (tk 4 x3)) (tkL (4*L.wordOf 8 (tk 4 x3)) (tkL 4 x3)) (tkS (4*L.wordOf 8 (tk 4 x3)) (tkL 4 x3) (tkS 4 x3 t3)) hxl2;have hfl:=@Zem (L.wordOf 8 (tk 4 x3)) (tkL (4*L.wordOf 8 (tk 4 x3)) (tkL 4 x3)) (tkS (4*L.wordOf 8 (tk 4 x3)) (tkL 4 x3) (tkS 4 x3 t3));have hsh:=Zjw (L.wordOf 8 (tk 4 x3)) (tkL (4*L.wordOf 8 (tk 4 x3)) (tkL 4 x3)) (tkS (4*L.wordOf 8 (tk 4 x3)) (tkL 4 x3) (tkS 4 x3 t3));have hen:=Zpy (4*L.wordOf 8 (tk 4 x3)) (tkL 4 x3) hxl1;have hel:tkS (4*L.wordOf 8 (tk 4 x3)) (tkL 4 x3) (tkS 4 x3 t3)=false→(numL 4 (tk (4*L.wordOf 8 (tk 4 x3)) (tkL 4 x3))).length=L.wordOf 8 (tk 4 x3):=fun h=>by
     rw[Zal,Zke (Zb7 h).1];omega
    generalize rdS (L.wordOf 8 (tk 4 x3)) (tkL (4*L.wordOf 8 (tk 4 x3)) (tkL 4 x3)) (tkS (4*L.wordOf 8 (tk 4 x3)) (tkL 4 x3) (tkS 4 x3 t3))=R at *;generalize numL 4 (tk (4*L.wordOf 8 (tk 4 x3)) (tkL 4 x3))=es at *;generalize tkS (4*L.wordOf 8 (tk 4 x3)) (tkL 4 x3) (tkS 4 x3 t3)=s2 at *;generalize L.wordOf 8 (tk 4 x3)=d at *;obtain⟨vals,ok,xl,s1⟩:=R;simp only[Bool.and_eq_true]at *;have hvl:=hfl hOb.1 hOs;have hed:=hel (hsh hOs);have hre:Zax (nI es) k=true:=by
     cases hx:Zax (nI es) k with
     | true=>rfl
     | false=>exact absurd (.inr hx) hc
    refine⟨hrl,hen,by simp,fun j hj=>.inr (.inr ⟨rfl,?_,Ze9 hre⟩)⟩;have:=Ze2 hre ((j:Int)+1) (by omega) (by omega);rw[Zaq,hed]at this;rw[hvl];exact this
 exact⟨hnl,hnv,key.1,key.2.1,key.2.2.1,key.2.2.2⟩
def pK_I (x:Int):PV:=pI x
def pK_S (x:ByteArray):PV:=pS x
theorem dl (p:Nat) (xs:List Nat):(xs.drop p).length=xs.length-p:=List.length_drop
theorem Zle (m:Nat) (X:List Nat):(rdI m X true).2.1=false:=by
 unfold rdI tkS;simp
theorem Zdp (n:Nat) (X:List Nat):tkS n X true=true:=by unfold tkS;simp
theorem Zls (m:Nat) (X:List Nat):(rdS m X true).2.1=false:=by
 unfold rdS;simp only[Zdp]
 split
 ·rfl
 ·simp
theorem Zz3 (m p:Nat) (xs:List Nat) (hp:p≤xs.length) :
  (rdI m (xs.drop p) false).2.1=Zbx 1 m p xs∧(Zbx 1 m p xs=true→(rdI m (xs.drop p) false).1.map pK_I=Zdi 1 m p xs∧(rdI m (xs.drop p) false).2.2.1=xs.drop (Zb0 1 m p xs)∧(rdI m (xs.drop p) false).2.2.2=false∧Zb0 1 m p xs≤xs.length):=by
 have e1:Zbx 1 m p xs=decide (8*m≤xs.length-p):=by
  unfold Zbx Zau;rw[if_pos rfl];simp[hp]
 refine⟨?_,fun h=>?_⟩
 ·rw[e1];unfold rdI tkS;rw[dl];by_cases h:8*m≤xs.length-p<;>simp[h]
 ·rw[e1,decide_eq_true_eq]at h;have e2:Zb0 1 m p xs=p+8*m:=by
   unfold Zb0 Zau;rw[if_pos rfl,if_pos (by simp[hp,h])]
  rw[e2];refine⟨rfl,?_,?_,by omega⟩
  ·unfold rdI tkL;simp only;rw[dl,if_pos h,List.drop_drop]
  ·unfold rdI tkS;simp only;rw[dl,if_pos h]
theorem Zwg (t:List Nat) (es:List Int):∀(a sz:Int),0≤a→Zaw a es=some sz→cutS a (t.take sz.toNat) es=cutS a t es:=by
 induction es with
 | nil=>intro a sz _ _;rfl
 | cons e r ih =>
  intro a sz h0 h;simp only[Zaw]at h
  split at h
  ·cases h
  ·rename_i hc
   have hle:=Ze1 r e sz h;simp only[cutS];rw[ih e sz (by omega) h,List.drop_take,List.take_take,Nat.min_eq_left (by omega)]
theorem Zzw (m p:Nat) (xs:List Nat) (hp:p≤xs.length) :
  (rdS m (xs.drop p) false).2.1=Zbx 2 m p xs∧(Zbx 2 m p xs=true→(rdS m (xs.drop p) false).1.map pK_S=Zdi 2 m p xs∧(rdS m (xs.drop p) false).2.2.1=xs.drop (Zb0 2 m p xs)∧(rdS m (xs.drop p) false).2.2.2=false∧Zb0 2 m p xs≤xs.length):=by
 have e0:Zbx 2 m p xs=Ze7 m p xs:=by unfold Zbx;rw[if_neg (by decide)]
 have e3:Zb0 2 m p xs=Ziw m p xs:=by unfold Zb0;rw[if_neg (by decide)]
 have e4:Zdi 2 m p xs=(Zmo m p xs).map pS:=by unfold Zdi;rw[if_neg (by decide)]
 rw[e0,e3,e4];by_cases hn:4*m≤xs.length-p
 ·have hno:Zau 4 m p xs.length=true:=by unfold Zau;exact decide_eq_true ⟨hp,hn⟩
  have t1:tkL (4*m) (xs.drop p)=xs.drop (p+4*m):=by unfold tkL;rw[dl,if_pos hn,List.drop_drop]
  have t2:tkS (4*m) (xs.drop p) false=false:=by unfold tkS;rw[dl,if_pos hn]
  unfold Zmo Ziw;have e1:Ze7 m p xs=match Zaw 0 (nI (numL 4 (tk (4*m) (xs.drop p))))with
    | none=>false
    | some sz=>decide (sz≤((xs.length-(p+4*m):Nat):Int)):=by unfold Ze7;rw[hno,Bool.true_and];rfl
  unfold rdS;simp only[t1,t2];rw[e1];generalize nI (numL 4 (tk (4*m) (xs.drop p)))=ends at *;cases hte:Zaw 0 ends with
  | none=>simp
  | some sz =>
   have hs0:=Ze1 ends 0 sz hte;simp only;have t3:tkS sz.toNat (xs.drop (p+4*m)) false=!decide (sz≤((xs.length-(p+4*m):Nat):Int)):=by
    unfold tkS;rw[dl];by_cases h:sz≤((xs.length-(p+4*m):Nat):Int)
    ·rw[if_pos (by omega),decide_eq_true h];rfl
    ·rw[if_neg (by omega),decide_eq_false h];rfl
   rw[t3];by_cases h:sz≤((xs.length-(p+4*m):Nat):Int)
   ·have hd:=decide_eq_true h;simp only[hd,Bool.not_true,Bool.false_eq_true,if_false,if_true,true_and];intro _;have hz:sz.toNat≤xs.length-(p+4*m):=by omega
    have t4:tk sz.toNat (xs.drop (p+4*m))=(xs.drop (p+4*m)).take sz.toNat:=by unfold tk;rw[dl,if_pos hz]
    have t5:tkL sz.toNat (xs.drop (p+4*m))=xs.drop (p+4*m+sz.toNat):=by unfold tkL;rw[dl,if_pos hz,List.drop_drop]
    rw[t4,t5,Zwg _ _ 0 sz (by omega) hte];refine⟨rfl,?_,?_⟩
    ·rw[tsz,hte];rfl
    ·rw[tsz,hte];simp only[Option.getD_some];omega
   ·have hd:=decide_eq_false h;simp[hd]
 ·have hno:Zau 4 m p xs.length=false:=by unfold Zau;exact decide_eq_false (by omega)
  have e1:Ze7 m p xs=false:=by unfold Ze7;rw[hno,Bool.false_and]
  rw[e1];have t2:tkS (4*m) (xs.drop p) false=true:=by unfold tkS;rw[dl,if_neg hn]
  refine⟨?_,fun h=>by cases h⟩;unfold rdS;simp only[t2,Zdp]
  split
  ·rfl
  ·simp
theorem Zfu {α β : Type} (r : β→β→Bool) (f : α→β):∀ xs:List α,Zbb r (xs.map f)=Zbb (fun a b=>r (f a) (f b)) xs
 | []=>rfl
 | [a]=>rfl
 | a :: b :: t=>by
  have ih:=Zfu r f (b :: t);simp only[List.map_cons,Zbb]at ih ⊢;rw[ih]
theorem Zql:ordS ByteArray.empty ByteArray.empty=0:=by decide +kernel
theorem Zzx (a b:Int):geP (pK_I a) (pK_I b)=geI a b:=by
 unfold geP geI pK_I pI ordP;simp only[Zql];by_cases h1:a<b
 ·rw[if_pos h1,decide_eq_false (by omega),decide_eq_false (by omega)]
 ·rw[if_neg h1];by_cases h2:b<a
  ·rw[if_pos h2,decide_eq_true (by omega),decide_eq_true (by omega)]
  ·rw[if_neg h2,decide_eq_true (by omega),decide_eq_true (by omega)]
theorem Zz6 (a b:Int):eqP (pK_I a) (pK_I b)=eqI a b:=by
 unfold eqP eqI pK_I pI ordP;simp only[Zql];by_cases h1:a<b
 ·rw[if_pos h1,decide_eq_false (by omega)];simp;omega
 ·rw[if_neg h1];by_cases h2:b<a
  ·rw[if_pos h2,decide_eq_false (by omega)];simp;omega
  ·rw[if_neg h2,decide_eq_true (by omega)];simp;omega
theorem Zzn (a b:ByteArray):ordP (pK_S a) (pK_S b)=ordS a b:=by
 unfold ordP pK_S pS;simp
theorem Z0o (a b:ByteArray):geP (pK_S a) (pK_S b)=geS a b:=by
 unfold geP geS;rw[Zzn];unfold ordS;cases h:ltS a b
 ·simp only[Bool.false_eq_true,if_false,Bool.not_false]
  split<;>decide
 ·simp
theorem Zku:∀ l:List UInt8,Op.bytesLess l l=false:=by
 intro l
 induction l with
 | nil=>rfl
 | cons a r ih=>simp[Op.bytesLess,ih]
theorem Zz5 (a b:ByteArray):eqP (pK_S a) (pK_S b)=eqS a b:=by
 unfold eqP;rw[Zzn];unfold ordS;cases h:ltS a b
 ·cases h2:eqS a b
  ·simp
  ·simp
 ·cases h2:eqS a b
  ·simp
  ·unfold eqS at h2;have h3:a.toList=b.toList:=by simpa using h2
   unfold ltS at h;rw[h3,Zku]at h;cases h
theorem Zvj {fl:List Bool} (h:∀ j,j<fl.length→fl.getD j false=false):Zbe (bmL fl) fl.length=0:=by
 unfold Zbe;rw[List.filter_eq_nil_iff.2,List.length_nil];intro j hj;have hj2:=List.mem_range.1 hj;have hb:=(Zgh fl).2.2 j (by rw[(Zgh fl).1];have:=Zj1 fl.length;omega);simp only[h j hj2,Bool.and_false]at hb;simp[hb]
theorem Zj3 (wd k:Nat) (op:Int) (ws:List Nat) (lim:Nat) (hop:Zxw op=true) (hk:k≤65536) :
  Zcj wd k op ws lim=true↔Za8 wd k ws=true∧∀ j,j<k→Zcc op (L.laneOf wd ws j) lim=false:=by
 constructor
 ·intro h;obtain⟨h1,h2,h3,h4⟩:=Zce h;exact⟨(Zbl ws h1 h2).2 h3,h4⟩
 ·rintro⟨h1,h2⟩;have hc:Zho wd k op ws=true:=by unfold Zho;rw[hop,h1];rfl
  unfold Zcj;rw[hc,Bool.true_and,cmpR,if_pos hc];have hfl:((List.range (k:Int).toNat).map (cmpF (wd:Int).toNat op ws lim)).length=k:=by simp
  have h6:Za8 1 k (bmL ((List.range (k:Int).toNat).map (cmpF (wd:Int).toNat op ws lim)))=true:=by
   refine(Zbl _ (by decide) hk).2 ?_;have:=L.pack_isPack (w:=1) (by omega) (((List.range (k:Int).toNat).map (cmpF (wd:Int).toNat op ws lim)).map Bool.toNat) (toNat_lt _)
   rwa [List.length_map,hfl]at this
  rw[Zeg,if_pos ⟨h6,by omega,by omega⟩];have h7:=Zvj (fl:=(List.range (k:Int).toNat).map (cmpF (wd:Int).toNat op ws lim)) (fun j hj=>by
   rw[hfl]at hj;have:=h2 j hj;simpa [List.getD,List.getElem?_map,List.getElem?_range hj,cmpF]using this)
  rw[hfl]at h7;have hkk:(k:Int).toNat=k:=Int.toNat_natCast k;rw[hkk]at h7 ⊢;rw[h7];rfl
abbrev kN_I:Nat:=1
abbrev kN_S:Nat:=2
theorem Zwn:kN_I=1∨kN_I=2:=.inl rfl
theorem Zwf:kN_S=1∨kN_S=2:=.inr rfl
theorem Z0n (m p:Nat) (xs:List Nat) (hp:p≤xs.length) :
  (rdI m (xs.drop p) false).2.1=Zbx kN_I m p xs∧(Zbx kN_I m p xs=true→(rdI m (xs.drop p) false).1.map pK_I=Zdi kN_I m p xs∧(rdI m (xs.drop p) false).2.2.1=xs.drop (Zb0 kN_I m p xs)∧(rdI m (xs.drop p) false).2.2.2=false∧Zb0 kN_I m p xs≤xs.length):=Zz3 m p xs hp
theorem Z0a (m p:Nat) (xs:List Nat) (hp:p≤xs.length) :
  (rdS m (xs.drop p) false).2.1=Zbx kN_S m p xs∧(Zbx kN_S m p xs=true→(rdS m (xs.drop p) false).1.map pK_S=Zdi kN_S m p xs∧(rdS m (xs.drop p) false).2.2.1=xs.drop (Zb0 kN_S m p xs)∧(rdS m (xs.drop p) false).2.2.2=false∧Zb0 kN_S m p xs≤xs.length):=Zzw m p xs hp
theorem Zya (vs:List Int):Zbb geP (vs.map pK_I)=Zbb geI vs:=by rw[Zfu];congr 1;funext a b;exact Zzx a b
theorem Zyj (vs:List ByteArray):Zbb geP (vs.map pK_S)=Zbb geS vs:=by rw[Zfu];congr 1;funext a b;exact Z0o a b
theorem Zy1 (vs:List Int):Zbb eqP (vs.map pK_I)=Zbb eqI vs:=by rw[Zfu];congr 1;funext a b;exact Zz6 a b
theorem Zy5 (vs:List ByteArray):Zbb eqP (vs.map pK_S)=Zbb eqS vs:=by rw[Zfu];congr 1;funext a b;exact Zz5 a b
theorem Zez {α β : Type} (f : α→β) (xs:List α) (i:Nat) (a : α) (b : β) (h:i<xs.length):(xs.map f).getD i b=f (xs.getD i a):=by
 simp[List.getD,List.getElem?_map,List.getElem?_eq_getElem h]
theorem Zge (n:Nat) (xs:List Nat) (h:n≤xs.length):decide (xs.drop n=[])=decide (n=xs.length):=by
 by_cases h2:n=xs.length
 ·rw[decide_eq_true h2,decide_eq_true (List.drop_eq_nil_iff.2 (by omega))]
 ·rw[decide_eq_false h2,decide_eq_false (fun h3=>h2 (by have:=List.drop_eq_nil_iff.1 h3;omega))]
theorem Zm3 (es:List Int):∀ l m:Int,Za2 l es=some m→l+es.length≤m:=by
 induction es with
 | nil=>intro l m h;simp[Za2]at h;simp;omega
 | cons e r ih =>
  intro l m h;simp only[Za2]at h
  split at h
  ·cases h
  ·have:=ih e m h;simp only[List.length_cons];omega
theorem Zj2 (es:List Int):∀ l m:Int,Za2 l es=some m→∀ a,a<es.length→es.getD a 0≤m:=by
 induction es with
 | nil=>intro l m h a ha;simp at ha
 | cons e r ih =>
  intro l m h a ha;simp only[Za2]at h
  split at h
  ·cases h
  ·cases a with
   | zero=>have:=Ziv r e m h;simpa using this
   | succ a=>have:=ih e m h a (by simpa using ha);simpa using this
theorem Zlg (heads:List PV) (ends:List Nat):∀(i l:Nat),i≤ends.length→Za2 0 (nI (ends.take i))=some (l:Int)→∀ j,j<l→(Zgo heads ends i).getD j dfP=heads.getD (Zb8 (nI ends) ((j:Int)+1)) dfP
 | 0,l,_,h,j,hj=>by simp[nI,Za2]at h;omega
 | i+1,l,hi,h,j,hj=>by
  cases h0:Za2 0 (nI (ends.take i))with
  | none =>
   have e:ends.take (i+1)=ends.take i++[ends.getD i 0]:=by
    rw[List.take_succ_eq_append_getElem (by omega)];simp[List.getD,List.getElem?_eq_getElem (show i<ends.length by omega)]
   rw[e,Zeo,Zga _ _ _ h0]at h;cases h
  | some m =>
   have hm:=Ziv _ _ _ h0;obtain⟨m,rfl⟩:=Int.eq_ofNat_of_zero_le hm;have hlen:=Zf2 heads ends i m (by omega) h0;have hall:=Zj2 _ _ _ h0;rw[Zh6 ends i m (by omega) h0]at h
   split at h
   ·cases h
   ·rename_i hc
    injection h with h
    have hl:ends.getD i 0=l:=by omega
    simp only[Zgo];by_cases hjm:j<m
    ·have:=Zlg heads ends i m (by omega) h0 j hjm;rw[← this];simp only[List.getD];rw[List.getElem?_append_left (by omega)]
    ·have hf:Zb8 (nI ends) ((j:Int)+1)=i:=by
      refine Zhk _ _ _ (by rw[Zaq];omega) (fun a ha=>?_) (fun _=>?_)
      ·have h2:=hall a (by rw[Zaq,List.length_take];omega);rw[Znl _ _ (by rw[List.length_take];omega)]at h2;rw[Znl _ _ (by omega)];have h3:(ends.take i).getD a 0=ends.getD a 0:=by simp only[List.getD,List.getElem?_take];rw[if_pos ha]
       rw[h3]at h2;omega
      ·rw[Znl _ _ (by omega)];omega
     rw[hf];simp only[List.getD];rw[List.getElem?_append_right (by omega),hlen,List.getElem?_replicate,if_pos (by simp only[List.getD]at hl;omega)];rfl
theorem Zk9 (xl:List Nat):tkS (8*(xl.length/8)) xl false=false∧(decide (tkL (8*(xl.length/8)) xl=[])=decide (xl.length%8=0)):=by
 have h:8*(xl.length/8)≤xl.length:=by omega
 refine⟨by unfold tkS;rw[if_pos h],?_⟩;unfold tkL;rw[if_pos h,Zge _ _ h];by_cases h2:xl.length%8=0
 ·rw[decide_eq_true h2,decide_eq_true (by omega)]
 ·rw[decide_eq_false h2,decide_eq_false (by omega)]
def Zc4 (O:Out_I):Bool:=O.b&&(!O.short&&decide (O.left=[]))
theorem Zp6 (wd k P:Nat) (xs:List Nat) (hP:P≤xs.length) :
  Zc4 (Zbu wd k (xs.drop P) false)=(Zbx kN_I k P xs&&decide (Zb0 kN_I k P xs=xs.length)&&decide (wd=0)) ∧
  (Zbx kN_I k P xs=true→(Zbu wd k (xs.drop P) false).list.map pK_I=Zdi kN_I k P xs):=by
 obtain⟨h1,h2⟩:=Z0n k P xs hP;unfold Zc4 Zbu;generalize rdI k (xs.drop P) false=q at *;obtain⟨vals,ok,xl,s1⟩:=q;simp only at h1 h2 ⊢;subst h1;refine⟨?_,fun h=>(h2 h).1⟩;cases ho:Zbx kN_I k P xs
 ·simp
 ·obtain⟨h3,h4,h5,h6⟩:=h2 ho;rw[h5,h4,Zge _ _ h6];have hw:decide ((wd:Int)=0)=decide (wd=0):=by by_cases h:wd=0<;>simp[h]
  rw[hw];generalize decide (wd=0)=a;generalize decide (Zb0 kN_I k P xs=xs.length)=b;cases a<;>cases b<;>rfl
theorem Zra (wd k P:Nat) (xs:List Nat) (hP:P≤xs.length) (hk:k≤65536) :
  Zc4 (Zbv wd k (xs.drop P) false)=((Zex kN_I wd k P xs).1&&decide ((Zex kN_I wd k P xs).2.length=k)) ∧
  ((Zex kN_I wd k P xs).1=true→∀ j,j<k→(Zex kN_I wd k P xs).2.getD j dfP=pK_I ((Zbv wd k (xs.drop P) false).list.getD (L.laneOf wd (Zbv wd k (xs.drop P) false).lanes j) dfI)):=by
 by_cases h4:4≤xs.length-P
 rotate_left
 ·have e1:Zex kN_I wd k P xs=(false,[]):=by
   unfold Zex;rw[if_pos (.inl (by unfold Zb9;exact decide_eq_false (by omega)))]
  have e2:(Zbv wd k (xs.drop P) false).b=false:=by
   have e3:tk 4 (xs.drop P)=[]:=by unfold tk;rw[dl,if_neg h4]
   have e4:tkS 4 (xs.drop P) false=true:=by unfold tkS;rw[dl,if_neg h4]
   unfold Zbv;rw[e3,e4]
   split
   ·rfl
   ·have hno:=Zle (L.wordOf 8 []) (tkL 4 (xs.drop P));generalize rdI (L.wordOf 8 []) (tkL 4 (xs.drop P)) true=q at *;obtain⟨vals,ok,xl,s1⟩:=q;simp only at hno ⊢;subst hno;rfl
  rw[e1];refine⟨?_,fun h=>by cases h⟩;unfold Zc4;rw[e2];rfl
 have e3:tk 4 (xs.drop P)=(xs.drop P).take 4:=by unfold tk;rw[dl,if_pos h4]
 have e4:tkS 4 (xs.drop P) false=false:=by unfold tkS;rw[dl,if_pos h4]
 have e5:tkL 4 (xs.drop P)=xs.drop (P+4):=by unfold tkL;rw[dl,if_pos h4,List.drop_drop]
 have hno:Zb9 4 P xs.length=true:=by unfold Zb9;exact decide_eq_true ⟨hP,h4⟩
 have hdn:dN P xs=L.wordOf 8 ((xs.drop P).take 4):=by unfold dN;rw[if_pos hno]
 unfold Zbv Zex;rw[e3,e4,e5,hno,hdn];generalize L.wordOf 8 ((xs.drop P).take 4)=d;have hgg:(256<d∨(wd:Int)≠(Zgf d:Int))↔(256<d∨wd≠Zgf d):=by omega
 by_cases hg:256<d∨wd≠Zgf d
 ·rw[if_pos (hgg.2 hg),if_pos (.inr hg)];exact⟨rfl,fun h=>by cases h⟩
 rw[if_neg (fun h=>hg (hgg.1 h)),if_neg (fun h=>h.elim (fun h=>by cases h) hg)];obtain⟨h1,h2⟩:=Z0n d (P+4) xs (by omega);generalize rdI d (xs.drop (P+4)) false=q at *;obtain⟨vals,ok,xl,s1⟩:=q;simp only at h1 h2 ⊢;subst h1;cases ho:Zbx kN_I d (P+4) xs
 ·simp only[Bool.false_and,Bool.false_eq_true,if_false,true_or,if_true];exact⟨by simp[Zc4],fun h=>by cases h⟩
 obtain⟨h3,h5,h6,h7⟩:=h2 ho;have hll:=Zek kN_I d (P+4) xs ho Zwn;rw[← h3,List.length_map]at hll;rw[← h3,Zya,h5,h6];cases hnp:Zbb geI vals
 ·simp only[Bool.and_false,Bool.false_eq_true,if_false,or_true,if_true];exact⟨by simp[Zc4],fun h=>by cases h⟩
 generalize Zb0 kN_I d (P+4) xs=nx at *;simp only[Bool.and_self,if_true,Bool.true_eq_false,or_self,if_false];obtain⟨m1,m2⟩:=Zk9 (xs.drop nx);have hlk:Zby wd k nx xs=(decide ((xs.drop nx).length%8=0)&&Za8 wd k (Za6 (xs.drop nx))):=by
  unfold Zby;rw[dl];congr 1
  by_cases h:(xs.length-nx)%8=0
  ·rw[decide_eq_true h,decide_eq_true ⟨h7,h⟩]
  ·rw[decide_eq_false h,decide_eq_false (fun h2=>h h2.2)]
 have hlb:=Zj3 wd k 6 (Za6 (xs.drop nx)) d (by decide) hk;have hst:∀ j,Zcc 6 (L.laneOf wd (Za6 (xs.drop nx)) j) d=decide (d≤L.laneOf wd (Za6 (xs.drop nx)) j):=fun j=>rfl
 unfold Zc4;simp only[m1,m2];cases hkk:Zby wd k nx xs
 ·have hv:Zbo wd k nx xs=[]:=by unfold Zbo;rw[hkk];simp
  rw[hv];refine⟨?_,fun h=>?_⟩
  ·have hf:¬ (Zcj wd k 6 (Za6 (xs.drop nx)) d=true∧(xs.drop nx).length%8=0):=by
    rintro⟨a,b⟩;rw[hlk,decide_eq_true b,(hlb.1 a).1]at hkk;cases hkk
   simp only[List.all_nil,Bool.true_eq_false,if_false,Bool.false_and,Bool.not_false,Bool.true_and];rw[Bool.and_eq_false_iff];by_cases ha:Zcj wd k 6 (Za6 (xs.drop nx)) d=true
   ·exact .inr (decide_eq_false (fun hb=>hf ⟨ha,hb⟩))
   ·exact .inl (by simpa using ha)
  ·simp at h
 ·have hv:Zbo wd k nx xs=L.lanesL wd k (Za6 (xs.drop nx)):=by unfold Zbo;rw[hkk,if_pos rfl]
  rw[hlk,Bool.and_eq_true,decide_eq_true_eq]at hkk;rw[hv];have hall:((L.lanesL wd k (Za6 (xs.drop nx))).all fun c=>decide (c<d))=Zcj wd k 6 (Za6 (xs.drop nx)) d:=by
   rw[Bool.eq_iff_iff,hlb,List.all_eq_true];constructor
   ·intro h;refine⟨hkk.2,fun j hj=>?_⟩;rw[hst,decide_eq_false_iff_not];have:=h (L.laneOf wd (Za6 (xs.drop nx)) j) (List.mem_map.2 ⟨j,List.mem_range.2 hj,rfl⟩);rw[decide_eq_true_eq]at this;omega
   ·rintro⟨_,h⟩ x hx;obtain⟨j,hj,rfl⟩:=List.mem_map.1 hx;have:=h j (List.mem_range.1 hj);rw[hst,decide_eq_false_iff_not]at this;rw[decide_eq_true_eq];omega
  rw[hall];cases hb:Zcj wd k 6 (Za6 (xs.drop nx)) d
  ·simp only[if_true];exact⟨rfl,fun h=>by cases h⟩
  ·simp only[Bool.true_eq_false,if_false];refine⟨?_,fun _ j hj=>?_⟩
   ·have h8:=hkk.1;rw[dl]at h8;simp[h8,L.lanesL_length]
   ·have hlt:L.laneOf wd (Za6 (xs.drop nx)) j<vals.length:=by
     have:=(hlb.1 hb).2 j hj;rw[hst,decide_eq_false_iff_not]at this;omega
    rw[Zez (fun c=>(vals.map pK_I).getD c dfP) (L.lanesL wd k (Za6 (xs.drop nx))) j 0 dfP (by rw[L.lanesL_length];exact hj),L.lanesL_get _ _ _ _ hj,Zez pK_I vals _ dfI dfP hlt]
theorem Zrq (wd k P:Nat) (xs:List Nat) (hP:P≤xs.length) (hk:k≤65536) :
  Zc4 (Zbp wd k (xs.drop P) false)=((Zd7 kN_I k P xs).1&&decide (wd=0)&&decide ((Zd7 kN_I k P xs).2.length=k)) ∧
  ((Zd7 kN_I k P xs).1=true→decide (wd=0)=true→∀ j,j<k→(Zd7 kN_I k P xs).2.getD j dfP=pK_I ((Zbp wd k (xs.drop P) false).list.getD (Zb8 (nI (Zbp wd k (xs.drop P) false).ends) ((j:Int)+1)) dfI)):=by
 have hno0:∀(c:Nat) (X:List Nat) (E:List Nat) (b:Bool) (r:Out_I),(if (wd:Int)≠0∨b=false then ({ b:=false,left:=r.left,short:=r.short,list:=[],ends:=E,lanes:=[] }:Out_I)else match rdI c X true with
   | (vals,ok,xl,s3)=>{ b:=ok&&Zbb eqI vals,left:=xl,short:=s3,list:=vals,ends:=E,lanes:=[] }).b=false:=by
  intro c X E b r
  split
  ·rfl
  ·have hno:=Zle c X;generalize rdI c X true=q at *;obtain⟨vals,ok,xl,s1⟩:=q;simp only at hno ⊢;subst hno;rfl
 by_cases h4:4≤xs.length-P
 rotate_left
 ·have e1:Zd7 kN_I k P xs=(false,[]):=by
   unfold Zd7;rw[if_pos (.inl (by unfold Zb9;exact decide_eq_false (by omega)))]
  have e2:(Zbp wd k (xs.drop P) false).b=false:=by
   have e4:tkS 4 (xs.drop P) false=true:=by unfold tkS;rw[dl,if_neg h4]
   unfold Zbp;rw[e4,Zdp];exact hno0 _ _ _ _ ⟨false,_,_,[],[],[]⟩
  rw[e1];refine⟨?_,fun h=>by cases h⟩;unfold Zc4;rw[e2];rfl
 have e3:tk 4 (xs.drop P)=(xs.drop P).take 4:=by unfold tk;rw[dl,if_pos h4]
 have e4:tkS 4 (xs.drop P) false=false:=by unfold tkS;rw[dl,if_pos h4]
 have e5:tkL 4 (xs.drop P)=xs.drop (P+4):=by unfold tkL;rw[dl,if_pos h4,List.drop_drop]
 have hno:Zb9 4 P xs.length=true:=by unfold Zb9;exact decide_eq_true ⟨hP,h4⟩
 have hdn:dN P xs=L.wordOf 8 ((xs.drop P).take 4):=by unfold dN;rw[if_pos hno]
 unfold Zbp Zd7;rw[e3,e4,e5,hno,hdn];generalize L.wordOf 8 ((xs.drop P).take 4)=c;by_cases hn:4*c≤xs.length-(P+4)
 rotate_left
 ·have t2:tkS (4*c) (xs.drop (P+4)) false=true:=by unfold tkS;rw[dl,if_neg hn]
  have hns:Zau 4 c (P+4) xs.length=false:=by unfold Zau;exact decide_eq_false (by omega)
  rw[t2,hns];have hr:(if true=false∨k<c then ((false,[]):Bool×List PV)else if false=false then (false,[])
    else if Zbx kN_I c (P+4+4*c) xs=false∨¬ Zb0 kN_I c (P+4+4*c) xs=xs.length then (false,[])
    else if Zbb eqP (Zdi kN_I c (P+4+4*c) xs)=false∨Zax (nI (numL 4 (tk (4*c) (xs.drop (P+4))))) k=false then (false,[])
    else (true,Zgo (Zdi kN_I c (P+4+4*c) xs) (numL 4 (tk (4*c) (xs.drop (P+4)))) c))=(false,[]):=by
   split
   ·rfl
   ·rfl
  rw[hr];refine⟨?_,fun h=>by cases h⟩;unfold Zc4;rw[hno0 c _ _ _ ⟨false,_,_,[],[],[]⟩];rfl
 have t2:tkS (4*c) (xs.drop (P+4)) false=false:=by unfold tkS;rw[dl,if_pos hn]
 have t3:tkL (4*c) (xs.drop (P+4))=xs.drop (P+4+4*c):=by unfold tkL;rw[dl,if_pos hn,List.drop_drop]
 have hns:Zau 4 c (P+4) xs.length=true:=by unfold Zau;exact decide_eq_true ⟨by omega,hn⟩
 have hel:=Zos c (P+4) xs hns;rw[t2,t3,hns];generalize numL 4 (tk (4*c) (xs.drop (P+4)))=E at *;obtain⟨re,hre⟩:∃ re,Zax (nI E) k=re:=⟨_,rfl⟩;rw[hre];by_cases hkc:k<c
 ·have hf:re=false:=by
   rw[← hre,← Bool.not_eq_true];intro h;have h1:Za2 0 (nI E)=some (k:Int):=by simpa [Zax]using h
   have:=Zm3 _ _ _ h1;rw[Zaq]at this;omega
  subst hf;rw[if_pos (.inr rfl),if_pos (.inr hkc)];exact⟨rfl,fun h=>by cases h⟩
 rw[if_neg (c:=true=false∨k<c) (fun h=>h.elim (fun h=>by cases h) hkc)];simp only[Bool.true_eq_false,if_false];cases re
 ·rw[if_pos (.inr rfl)];have hr:∀(p:Prop) [Decidable p] (q:Prop) [Decidable q] (hq:q) (x:List PV),(if p then ((false,[]):Bool×List PV)else if q then (false,[])else (true,x))=(false,[]):=by
   intro p _ q _ hq x
   split
   ·rfl
   ·rfl
  rw[hr _ _ (.inr rfl)];exact⟨rfl,fun h=>by cases h⟩
 by_cases hw:wd=0
 rotate_left
 ·rw[if_pos (.inl (by omega))];rw[decide_eq_false hw,Bool.and_false,Bool.false_and];exact⟨rfl,fun _ h=>by cases h⟩
 rw[if_neg (by simp;omega),decide_eq_true hw,Bool.and_true];have hke:Za2 0 (nI E)=some (k:Int):=by simpa [Zax]using hre
 obtain⟨h1,h2⟩:=Z0n c (P+4+4*c) xs (by omega);have hll:=fun ho=>Zek kN_I c (P+4+4*c) xs ho Zwn
 generalize rdI c (xs.drop (P+4+4*c)) false=q at *;obtain⟨vals,ok,xl,s1⟩:=q;simp only at h1 h2 ⊢;subst h1;cases ho:Zbx kN_I c (P+4+4*c) xs
 ·simp only[Bool.false_and,true_or,if_true];exact⟨rfl,fun h=>by cases h⟩
 obtain⟨h3,h5,h6,h7⟩:=h2 ho;have hvl:=hll ho;rw[← h3,List.length_map]at hvl;rw[← h3,Zy1,h5,h6];by_cases hx:Zb0 kN_I c (P+4+4*c) xs=xs.length
 rotate_left
 ·rw[if_pos (.inr hx)];refine⟨?_,fun h=>by cases h⟩;unfold Zc4;simp only;rw[Zge _ _ h7,decide_eq_false hx];simp
 rw[if_neg (c:=true=false∨¬ Zb0 kN_I c (P+4+4*c) xs=xs.length) (fun h=>h.elim (fun h=>by cases h) (fun h=>h hx))];cases hnp:Zbb eqI vals
 ·simp only[true_or,if_true];exact⟨rfl,fun h=>by cases h⟩
 simp only[Bool.true_eq_false,or_self,if_false];have htk:E.take c=E:=by rw[← hel,List.take_length]
 have hfl:=Zf2 (vals.map pK_I) E c k (by omega) (by rw[htk];exact hke);refine⟨?_,fun _ _ j hj=>?_⟩
 ·unfold Zc4;simp only;rw[Zge _ _ h7,decide_eq_true hx,hfl];simp
 ·rw[Zlg (vals.map pK_I) E c k (by omega) (by rw[htk];exact hke) j hj,Zez pK_I vals _ dfI dfP];have:=Ze2 hre ((j:Int)+1) (by omega) (by omega);rw[Zaq]at this;omega
def Zd8 (O:Out_S):Bool:=O.b&&(!O.short&&decide (O.left=[]))
theorem Zqc (wd k P:Nat) (xs:List Nat) (hP:P≤xs.length) :
  Zd8 (Zbk wd k (xs.drop P) false)=(Zbx kN_S k P xs&&decide (Zb0 kN_S k P xs=xs.length)&&decide (wd=0)) ∧
  (Zbx kN_S k P xs=true→(Zbk wd k (xs.drop P) false).list.map pK_S=Zdi kN_S k P xs):=by
 obtain⟨h1,h2⟩:=Z0a k P xs hP;unfold Zd8 Zbk;generalize rdS k (xs.drop P) false=q at *;obtain⟨vals,ok,xl,s1⟩:=q;simp only at h1 h2 ⊢;subst h1;refine⟨?_,fun h=>(h2 h).1⟩;cases ho:Zbx kN_S k P xs
 ·simp
 ·obtain⟨h3,h4,h5,h6⟩:=h2 ho;rw[h5,h4,Zge _ _ h6];have hw:decide ((wd:Int)=0)=decide (wd=0):=by by_cases h:wd=0<;>simp[h]
  rw[hw];generalize decide (wd=0)=a;generalize decide (Zb0 kN_S k P xs=xs.length)=b;cases a<;>cases b<;>rfl
theorem Zsc (wd k P:Nat) (xs:List Nat) (hP:P≤xs.length) (hk:k≤65536) :
  Zd8 (Zbm wd k (xs.drop P) false)=((Zex kN_S wd k P xs).1&&decide ((Zex kN_S wd k P xs).2.length=k)) ∧
  ((Zex kN_S wd k P xs).1=true→∀ j,j<k→(Zex kN_S wd k P xs).2.getD j dfP=pK_S ((Zbm wd k (xs.drop P) false).list.getD (L.laneOf wd (Zbm wd k (xs.drop P) false).lanes j) dfS)):=by
 by_cases h4:4≤xs.length-P
 rotate_left
 ·have e1:Zex kN_S wd k P xs=(false,[]):=by
   unfold Zex;rw[if_pos (.inl (by unfold Zb9;exact decide_eq_false (by omega)))]
  have e2:(Zbm wd k (xs.drop P) false).b=false:=by
   have e3:tk 4 (xs.drop P)=[]:=by unfold tk;rw[dl,if_neg h4]
   have e4:tkS 4 (xs.drop P) false=true:=by unfold tkS;rw[dl,if_neg h4]
   unfold Zbm;rw[e3,e4]
   split
   ·rfl
   ·have hno:=Zls (L.wordOf 8 []) (tkL 4 (xs.drop P));generalize rdS (L.wordOf 8 []) (tkL 4 (xs.drop P)) true=q at *;obtain⟨vals,ok,xl,s1⟩:=q;simp only at hno ⊢;subst hno;rfl
  rw[e1];refine⟨?_,fun h=>by cases h⟩;unfold Zd8;rw[e2];rfl
 have e3:tk 4 (xs.drop P)=(xs.drop P).take 4:=by unfold tk;rw[dl,if_pos h4]
 have e4:tkS 4 (xs.drop P) false=false:=by unfold tkS;rw[dl,if_pos h4]
 have e5:tkL 4 (xs.drop P)=xs.drop (P+4):=by unfold tkL;rw[dl,if_pos h4,List.drop_drop]
 have hno:Zb9 4 P xs.length=true:=by unfold Zb9;exact decide_eq_true ⟨hP,h4⟩
 have hdn:dN P xs=L.wordOf 8 ((xs.drop P).take 4):=by unfold dN;rw[if_pos hno]
 unfold Zbm Zex;rw[e3,e4,e5,hno,hdn];generalize L.wordOf 8 ((xs.drop P).take 4)=d;have hgg:(256<d∨(wd:Int)≠(Zgf d:Int))↔(256<d∨wd≠Zgf d):=by omega
 by_cases hg:256<d∨wd≠Zgf d
 ·rw[if_pos (hgg.2 hg),if_pos (.inr hg)];exact⟨rfl,fun h=>by cases h⟩
 rw[if_neg (fun h=>hg (hgg.1 h)),if_neg (fun h=>h.elim (fun h=>by cases h) hg)];obtain⟨h1,h2⟩:=Z0a d (P+4) xs (by omega);generalize rdS d (xs.drop (P+4)) false=q at *;obtain⟨vals,ok,xl,s1⟩:=q;simp only at h1 h2 ⊢;subst h1;cases ho:Zbx kN_S d (P+4) xs
 ·simp only[Bool.false_and,Bool.false_eq_true,if_false,true_or,if_true];exact⟨by simp[Zd8],fun h=>by cases h⟩
 obtain⟨h3,h5,h6,h7⟩:=h2 ho;have hll:=Zek kN_S d (P+4) xs ho Zwf;rw[← h3,List.length_map]at hll;rw[← h3,Zyj,h5,h6];cases hnp:Zbb geS vals
 ·simp only[Bool.and_false,Bool.false_eq_true,if_false,or_true,if_true];exact⟨by simp[Zd8],fun h=>by cases h⟩
 generalize Zb0 kN_S d (P+4) xs=nx at *;simp only[Bool.and_self,if_true,Bool.true_eq_false,or_self,if_false];obtain⟨m1,m2⟩:=Zk9 (xs.drop nx);have hlk:Zby wd k nx xs=(decide ((xs.drop nx).length%8=0)&&Za8 wd k (Za6 (xs.drop nx))):=by
  unfold Zby;rw[dl];congr 1
  by_cases h:(xs.length-nx)%8=0
  ·rw[decide_eq_true h,decide_eq_true ⟨h7,h⟩]
  ·rw[decide_eq_false h,decide_eq_false (fun h2=>h h2.2)]
 have hlb:=Zj3 wd k 6 (Za6 (xs.drop nx)) d (by decide) hk;have hst:∀ j,Zcc 6 (L.laneOf wd (Za6 (xs.drop nx)) j) d=decide (d≤L.laneOf wd (Za6 (xs.drop nx)) j):=fun j=>rfl
 unfold Zd8;simp only[m1,m2];cases hkk:Zby wd k nx xs
 ·have hv:Zbo wd k nx xs=[]:=by unfold Zbo;rw[hkk];simp
  rw[hv];refine⟨?_,fun h=>?_⟩
  ·have hf:¬ (Zcj wd k 6 (Za6 (xs.drop nx)) d=true∧(xs.drop nx).length%8=0):=by
    rintro⟨a,b⟩;rw[hlk,decide_eq_true b,(hlb.1 a).1]at hkk;cases hkk
   simp only[List.all_nil,Bool.true_eq_false,if_false,Bool.false_and,Bool.not_false,Bool.true_and];rw[Bool.and_eq_false_iff];by_cases ha:Zcj wd k 6 (Za6 (xs.drop nx)) d=true
   ·exact .inr (decide_eq_false (fun hb=>hf ⟨ha,hb⟩))
   ·exact .inl (by simpa using ha)
  ·simp at h
 ·have hv:Zbo wd k nx xs=L.lanesL wd k (Za6 (xs.drop nx)):=by unfold Zbo;rw[hkk,if_pos rfl]
  rw[hlk,Bool.and_eq_true,decide_eq_true_eq]at hkk;rw[hv];have hall:((L.lanesL wd k (Za6 (xs.drop nx))).all fun c=>decide (c<d))=Zcj wd k 6 (Za6 (xs.drop nx)) d:=by
   rw[Bool.eq_iff_iff,hlb,List.all_eq_true];constructor
   ·intro h;refine⟨hkk.2,fun j hj=>?_⟩;rw[hst,decide_eq_false_iff_not];have:=h (L.laneOf wd (Za6 (xs.drop nx)) j) (List.mem_map.2 ⟨j,List.mem_range.2 hj,rfl⟩);rw[decide_eq_true_eq]at this;omega
   ·rintro⟨_,h⟩ x hx;obtain⟨j,hj,rfl⟩:=List.mem_map.1 hx;have:=h j (List.mem_range.1 hj);rw[hst,decide_eq_false_iff_not]at this;rw[decide_eq_true_eq];omega
  rw[hall];cases hb:Zcj wd k 6 (Za6 (xs.drop nx)) d
  ·simp only[if_true];exact⟨rfl,fun h=>by cases h⟩
  ·simp only[Bool.true_eq_false,if_false];refine⟨?_,fun _ j hj=>?_⟩
   ·have h8:=hkk.1;rw[dl]at h8;simp[h8,L.lanesL_length]
   ·have hlt:L.laneOf wd (Za6 (xs.drop nx)) j<vals.length:=by
     have:=(hlb.1 hb).2 j hj;rw[hst,decide_eq_false_iff_not]at this;omega
    rw[Zez (fun c=>(vals.map pK_S).getD c dfP) (L.lanesL wd k (Za6 (xs.drop nx))) j 0 dfP (by rw[L.lanesL_length];exact hj),L.lanesL_get _ _ _ _ hj,Zez pK_S vals _ dfS dfP hlt]
theorem Ztb (wd k P:Nat) (xs:List Nat) (hP:P≤xs.length) (hk:k≤65536) :
  Zd8 (Zbh wd k (xs.drop P) false)=((Zd7 kN_S k P xs).1&&decide (wd=0)&&decide ((Zd7 kN_S k P xs).2.length=k)) ∧
  ((Zd7 kN_S k P xs).1=true→decide (wd=0)=true→∀ j,j<k→(Zd7 kN_S k P xs).2.getD j dfP=pK_S ((Zbh wd k (xs.drop P) false).list.getD (Zb8 (nI (Zbh wd k (xs.drop P) false).ends) ((j:Int)+1)) dfS)):=by
 have hno0:∀(c:Nat) (X:List Nat) (E:List Nat) (b:Bool) (r:Out_S),(if (wd:Int)≠0∨b=false then ({ b:=false,left:=r.left,short:=r.short,list:=[],ends:=E,lanes:=[] }:Out_S)else match rdS c X true with
   | (vals,ok,xl,s3)=>{ b:=ok&&Zbb eqS vals,left:=xl,short:=s3,list:=vals,ends:=E,lanes:=[] }).b=false:=by
  intro c X E b r
  split
  ·rfl
  ·have hno:=Zls c X;generalize rdS c X true=q at *;obtain⟨vals,ok,xl,s1⟩:=q;simp only at hno ⊢;subst hno;rfl
 by_cases h4:4≤xs.length-P
 rotate_left
 ·have e1:Zd7 kN_S k P xs=(false,[]):=by
   unfold Zd7;rw[if_pos (.inl (by unfold Zb9;exact decide_eq_false (by omega)))]
  have e2:(Zbh wd k (xs.drop P) false).b=false:=by
   have e4:tkS 4 (xs.drop P) false=true:=by unfold tkS;rw[dl,if_neg h4]
   unfold Zbh;rw[e4,Zdp];exact hno0 _ _ _ _ ⟨false,_,_,[],[],[]⟩
  rw[e1];refine⟨?_,fun h=>by cases h⟩;unfold Zd8;rw[e2];rfl
 have e3:tk 4 (xs.drop P)=(xs.drop P).take 4:=by unfold tk;rw[dl,if_pos h4]
 have e4:tkS 4 (xs.drop P) false=false:=by unfold tkS;rw[dl,if_pos h4]
 have e5:tkL 4 (xs.drop P)=xs.drop (P+4):=by unfold tkL;rw[dl,if_pos h4,List.drop_drop]
 have hno:Zb9 4 P xs.length=true:=by unfold Zb9;exact decide_eq_true ⟨hP,h4⟩
 have hdn:dN P xs=L.wordOf 8 ((xs.drop P).take 4):=by unfold dN;rw[if_pos hno]
 unfold Zbh Zd7;rw[e3,e4,e5,hno,hdn];generalize L.wordOf 8 ((xs.drop P).take 4)=c;by_cases hn:4*c≤xs.length-(P+4)
 rotate_left
 ·have t2:tkS (4*c) (xs.drop (P+4)) false=true:=by unfold tkS;rw[dl,if_neg hn]
  have hns:Zau 4 c (P+4) xs.length=false:=by unfold Zau;exact decide_eq_false (by omega)
  rw[t2,hns];have hr:(if true=false∨k<c then ((false,[]):Bool×List PV)else if false=false then (false,[])
    else if Zbx kN_S c (P+4+4*c) xs=false∨¬ Zb0 kN_S c (P+4+4*c) xs=xs.length then (false,[])
    else if Zbb eqP (Zdi kN_S c (P+4+4*c) xs)=false∨Zax (nI (numL 4 (tk (4*c) (xs.drop (P+4))))) k=false then (false,[])
    else (true,Zgo (Zdi kN_S c (P+4+4*c) xs) (numL 4 (tk (4*c) (xs.drop (P+4)))) c))=(false,[]):=by
   split
   ·rfl
   ·rfl
  rw[hr];refine⟨?_,fun h=>by cases h⟩;unfold Zd8;rw[hno0 c _ _ _ ⟨false,_,_,[],[],[]⟩];rfl
 have t2:tkS (4*c) (xs.drop (P+4)) false=false:=by unfold tkS;rw[dl,if_pos hn]
 have t3:tkL (4*c) (xs.drop (P+4))=xs.drop (P+4+4*c):=by unfold tkL;rw[dl,if_pos hn,List.drop_drop]
 have hns:Zau 4 c (P+4) xs.length=true:=by unfold Zau;exact decide_eq_true ⟨by omega,hn⟩
 have hel:=Zos c (P+4) xs hns;rw[t2,t3,hns];generalize numL 4 (tk (4*c) (xs.drop (P+4)))=E at *;obtain⟨re,hre⟩:∃ re,Zax (nI E) k=re:=⟨_,rfl⟩;rw[hre];by_cases hkc:k<c
 ·have hf:re=false:=by
   rw[← hre,← Bool.not_eq_true];intro h;have h1:Za2 0 (nI E)=some (k:Int):=by simpa [Zax]using h
   have:=Zm3 _ _ _ h1;rw[Zaq]at this;omega
  subst hf;rw[if_pos (.inr rfl),if_pos (.inr hkc)];exact⟨rfl,fun h=>by cases h⟩
 rw[if_neg (c:=true=false∨k<c) (fun h=>h.elim (fun h=>by cases h) hkc)];simp only[Bool.true_eq_false,if_false];cases re
 ·rw[if_pos (.inr rfl)];have hr:∀(p:Prop) [Decidable p] (q:Prop) [Decidable q] (hq:q) (x:List PV),(if p then ((false,[]):Bool×List PV)else if q then (false,[])else (true,x))=(false,[]):=by
   intro p _ q _ hq x
   split
   ·rfl
   ·rfl
  rw[hr _ _ (.inr rfl)];exact⟨rfl,fun h=>by cases h⟩
 by_cases hw:wd=0
 rotate_left
 ·rw[if_pos (.inl (by omega))];rw[decide_eq_false hw,Bool.and_false,Bool.false_and];exact⟨rfl,fun _ h=>by cases h⟩
 rw[if_neg (by simp;omega),decide_eq_true hw,Bool.and_true];have hke:Za2 0 (nI E)=some (k:Int):=by simpa [Zax]using hre
 obtain⟨h1,h2⟩:=Z0a c (P+4+4*c) xs (by omega);have hll:=fun ho=>Zek kN_S c (P+4+4*c) xs ho Zwf
 generalize rdS c (xs.drop (P+4+4*c)) false=q at *;obtain⟨vals,ok,xl,s1⟩:=q;simp only at h1 h2 ⊢;subst h1;cases ho:Zbx kN_S c (P+4+4*c) xs
 ·simp only[Bool.false_and,true_or,if_true];exact⟨rfl,fun h=>by cases h⟩
 obtain⟨h3,h5,h6,h7⟩:=h2 ho;have hvl:=hll ho;rw[← h3,List.length_map]at hvl;rw[← h3,Zy5,h5,h6];by_cases hx:Zb0 kN_S c (P+4+4*c) xs=xs.length
 rotate_left
 ·rw[if_pos (.inr hx)];refine⟨?_,fun h=>by cases h⟩;unfold Zd8;simp only;rw[Zge _ _ h7,decide_eq_false hx];simp
 rw[if_neg (c:=true=false∨¬ Zb0 kN_S c (P+4+4*c) xs=xs.length) (fun h=>h.elim (fun h=>by cases h) (fun h=>h hx))];cases hnp:Zbb eqS vals
 ·simp only[true_or,if_true];exact⟨rfl,fun h=>by cases h⟩
 simp only[Bool.true_eq_false,or_self,if_false];have htk:E.take c=E:=by rw[← hel,List.take_length]
 have hfl:=Zf2 (vals.map pK_S) E c k (by omega) (by rw[htk];exact hke);refine⟨?_,fun _ _ j hj=>?_⟩
 ·unfold Zd8;simp only;rw[Zge _ _ h7,decide_eq_true hx,hfl];simp
 ·rw[Zlg (vals.map pK_S) E c k (by omega) (by rw[htk];exact hke) j hj,Zez pK_S vals _ dfS dfP];have:=Ze2 hre ((j:Int)+1) (by omega) (by omega);rw[Zaq]at this;omega
end Go.Proofs.YtmcjknjlihgihaaGreatDoor
