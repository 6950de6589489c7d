/- The code's answer and the plain answer meet: lists of values, lanes. Plain mathematics. -/
import Derived.Test.YtmcjknjlihgihaaGreatDoorLawparseuptoM17
set_option linter.unusedVariables false
set_option linter.unusedSimpArgs false
set_option linter.unnecessarySimpa false
set_option maxRecDepth 20000
namespace Go.Proofs.YtmcjknjlihgihaaGreatDoor
open Go.RowKit
theorem Zb6 {n:Nat} {xs:List Nat} {s:Bool} (h:tkS n xs s=false):n≤xs.length∧s=false:=by
 unfold tkS at h;split at h
 ·rename_i hn;exact⟨hn,h⟩
 ·cases h
theorem Zk1 {n:Nat} {xs:List Nat} (h:n≤xs.length):(tk n xs).length=n:=by unfold tk;rw[if_pos h,List.length_take];omega
theorem Zei {c:Nat} {xs:List Nat} {s:Bool} (h:(rdI c xs s).2.1=true) (h2:(rdI c xs s).2.2.2=false):(rdI c xs s).1.length=c:=by
 unfold rdI at h2 ⊢;obtain⟨h3,_⟩:=Zb6 h2;simp only[List.length_map,Zan,Zk1 h3];omega
theorem Zej {c:Nat} {xs:List Nat} {s:Bool} (h:(rdS c xs s).2.1=true) (h2:(rdS c xs s).2.2.2=false):(rdS c xs s).1.length=c:=by
 unfold rdS at h ⊢;simp only at h ⊢
 split at h
 ·cases h
 ·split at h
  ·cases h
  ·rename_i sz hsz hs
   have hs2:tkS sz.toNat (tkL (4*c) xs) (tkS (4*c) xs s)=false:=by simpa using hs
   obtain⟨h3,_⟩:=Zb6 (Zb6 hs2).2;rw[if_neg hs];rw[Zd0,Zas,Zan,Zk1 h3];omega
theorem Zkm (c:Nat) (xs:List Nat) (s:Bool) (h:(rdI c xs s).2.2.2=false):s=false:=(Zb6 h).2
theorem Zkd (c:Nat) (xs:List Nat) (s:Bool) (h:(rdS c xs s).2.2.2=false):s=false:=by
 unfold rdS at h;simp only at h
 split at h
 ·exact(Zb6 h).2
 ·split at h
  ·cases h
  ·rename_i sz hsz hs
   exact(Zb6 (Zb6 (by simpa using hs)).2).2
theorem Zws {fl:List Bool} (h:Zaw (bmL fl) fl.length=0) (j:Nat) (hj:j<fl.length):fl.getD j false=false:=by
 unfold Zaw at h;have h1:Zar (bmL fl) j=false:=by
  have h2:=List.filter_eq_nil_iff.1 (List.eq_nil_of_length_eq_zero h) j (List.mem_range.2 hj);simpa using h2
 have hb:=(Zgr fl).2.2 j (by rw[(Zgr fl).1];have:=Zks fl.length;omega);rw[h1]at hb;simpa [hj]using hb.symm
theorem Zcd {wd k:Nat} {op:Int} {ws:List Nat} {lim:Nat} (h:Zck wd k op ws lim=true):wd≤64∧k≤65536∧L.IsPack wd k ws∧∀ j,j<k→Zcc op (L.laneOf wd ws j) lim=false:=by
 unfold Zck at h;rw[Bool.and_eq_true]at h;obtain⟨h1,h2⟩:=h;have h3:Za9 wd k ws=true:=by unfold Zh8 at h1;rw[Bool.and_eq_true]at h1;exact h1.2
 have h4:wd≤64∧k≤65536:=by
  unfold Za9 Zj2 at h3;simp only[Bool.and_eq_true,decide_eq_true_eq]at h3;omega
 have h5:=(Zbl ws h4.1 h4.2).1 h3;refine⟨h4.1,h4.2,h5,fun j hj=>?_⟩;rw[cmpR,if_pos h1]at h2;have hfl:((List.range (k:Int).toNat).map (cmpF (wd:Int).toNat op ws lim)).length=k:=by simp
 have h6:Za9 1 k (bmL ((List.range (k:Int).toNat).map (cmpF (wd:Int).toNat op ws lim)))=true:=by
  refine(Zbl _ (by decide) h4.2).2 ?_;have:=L.pack_isPack (w:=1) (by omega) (((List.range (k:Int).toNat).map (cmpF (wd:Int).toNat op ws lim)).map Bool.toNat) (toNat_lt _)
  rwa [List.length_map,hfl]at this
 rw[Zee,if_pos ⟨h6,by omega,by omega⟩]at h2;have h7:Zaw (bmL ((List.range (k:Int).toNat).map (cmpF (wd:Int).toNat op ws lim))) k=0:=by simpa using h2
 have h8:=Zws (fl:=(List.range (k:Int).toNat).map (cmpF (wd:Int).toNat op ws lim)) (by rw[hfl];exact h7) j (by rw[hfl];exact hj);simpa [List.getD,List.getElem?_map,List.getElem?_range hj,cmpF]using h8
theorem Zhx {wd k:Nat} {ws:List Nat} (hw:wd≤64) (h:L.IsPack wd k ws) (j:Nat) (hj:j<k) (h0:0<wd):j/(64/wd)<ws.length:=by
 rw[h.1,L.lt_nWords h0 hw];exact Nat.lt_of_le_of_lt (Nat.div_mul_le_self _ _) hj
theorem Zi7 (es:List Int):∀ l k,Za4 l es=some k→∀ i,i<es.length→l<es.getD i 0:=by
 induction es with
 | nil=>intro l k h i hi;simp at hi
 | cons e r ih =>
  intro l k h i hi;simp only[Za4]at h
  split at h
  ·cases h
  ·rename_i hc
   cases i with
   | zero=>simp;omega
   | succ i=>have:=ih e k h i (by simpa using hi);simp only[List.getD_cons_succ];omega
theorem Zvo (es:List Int):∀ l k,Za4 l es=some k→∀ a b,a<b→b<es.length→es.getD a 0<es.getD b 0:=by
 induction es with
 | nil=>intro l k h a b hab hb;simp at hb
 | cons e r ih =>
  intro l k h a b hab hb;simp only[Za4]at h
  split at h
  ·cases h
  ·cases b with
   | zero=>omega
   | succ b =>
    cases a with
    | zero=>have:=Zi7 r e k h b (by simpa using hb);simpa using this
    | succ a=>have:=ih e k h a b (by omega) (by simpa using hb);simpa using this
theorem Zs1 (es:List Int):∀ l k,Za4 l es=some k→(es=[]∧k=l)∨k∈es:=by
 induction es with
 | nil=>intro l k h;simp[Za4]at h;exact .inl ⟨rfl,h.symm⟩
 | cons e r ih =>
  intro l k h;simp only[Za4]at h
  split at h
  ·cases h
  ·rcases ih e k h with ⟨h1,h2⟩ | h1
   ·subst h2;exact .inr (by simp)
   ·exact .inr (by simp[h1])
theorem Ze3 {es:List Int} {k:Int} (h:Za1 es k=true) (t:Int) (h0:0<t) (ht:t≤k):Zb7 es t<es.length:=by
 have h1:Za4 0 es=some k:=by simpa [Za1]using h
 unfold Zb7;rw[List.findIdx_lt_length];rcases Zs1 es 0 k h1 with ⟨h2,h3⟩ | h2
 ·omega
 ·exact⟨k,h2,by simpa using ht⟩
theorem Ze8 {es:List Int} {k:Int} (h:Za1 es k=true):∀ a b,a<b→b<es.length→es.getD a 0<es.getD b 0:=by
 have h1:Za4 0 es=some k:=by simpa [Za1]using h
 exact Zvo es 0 k h1
theorem Zfn {xs:List Nat} (h:∀ x∈xs,x<256):∀ x∈Za7 xs,x<18446744073709551616:=by unfold Za7;exact Zdz (Zdh h) (by omega)
theorem Zq4 (c:Nat) (xs:List Nat) (hl:xs.length≤16777216):(numL 4 (tk c xs)).length≤16777216:=by
 rw[Zan];unfold tk;split
 ·rw[List.length_take];omega
 ·simp
theorem Zoo (rows:Nat) (xs:List Nat) (hb:∀ x∈xs,x<256) (hl:xs.length≤16777216) (hrr:rows≤65536) (h:Zce rows xs=true):Valid_I rows xs:=by
 unfold Zce Zgu at h;simp only[Bool.and_eq_true,Bool.not_eq_true',decide_eq_true_eq]at h;obtain⟨⟨hpk,hcd⟩,hOb,hOs,hOl⟩:=h;have hnl:=((Zbl (wd:=1) (n:=rows) _ (by decide) hrr).1 hpk).1;rw[Zj6]at hnl;have hx3:(Zaa rows xs).left.length≤16777216:=Nat.le_trans (Zbn _ _) (Nat.le_trans (Zbn _ _) (Nat.le_trans (Zbn _ _) hl));have hb3:∀ x∈(Zaa rows xs).left,x<256:=Zau (Zau (Zau hb));have hnv:∀ x∈(Zaa rows xs).nulls,x<18446744073709551616:=Zdz (Zdh (Zau (Zau hb))) (by omega);have key:(Zal rows xs).list.length≤16777216∧(Zal rows xs).ends.length≤16777216∧(∀ x∈(Zal rows xs).lanes,x<18446744073709551616) ∧
   ∀ j,j<Za8 rows (Zaa rows xs).nulls→Zoh (Zaa rows xs).codec (Zaa rows xs).wd (Zal rows xs).list (Zal rows xs).ends (Zal rows xs).lanes j:=by
  unfold Zal at *;generalize Za8 rows (Zaa rows xs).nulls=k at *;generalize (Zaa rows xs).left=x3 at *;generalize (Zaa rows xs).short=t3 at *;generalize (Zaa rows xs).codec=cd at *;generalize (Zaa rows xs).wd=wd at *;have hcdk:1≤cd∧cd≤5:=by
   unfold Zbj at hcd
   split at hcd
   ·omega
   ·simp only[decide_eq_true_eq]at hcd;omega
  unfold Zbf at *;by_cases h1:cd=1
  ·subst h1;rw[if_pos rfl]at *;unfold Zbt at *;simp only[Bool.and_eq_true,decide_eq_true_eq]at *;have hf:=Zei hOb.1 hOs;exact⟨Zjw _ _ _ hx3,by simp,by simp,fun j hj=>.inr (.inl ⟨rfl,by rw[hf];exact hj⟩)⟩
  by_cases h2:cd=2
  ·subst h2;rw[if_neg (by decide),if_pos rfl]at *;unfold Zbu at *
   split at hOb
   ·cases hOb
   ·rename_i hc
    rw[if_neg hc]at *;have hxl1:(tkL 4 x3).length≤16777216:=Nat.le_trans (Zbn _ _) hx3;have hxb1:∀ x∈tkL 4 x3,x<256:=Zau hb3;have hrl:=Zjw (L.wordOf 8 (tk 4 x3)) (tkL 4 x3) (tkS 4 x3 t3) hxl1;have hrb:=(Zeq (L.wordOf 8 (tk 4 x3)) (tkL 4 x3) (tkS 4 x3 t3)).2 256 hxb1;have hfl:=@Zei (L.wordOf 8 (tk 4 x3)) (tkL 4 x3) (tkS 4 x3 t3);generalize rdI (L.wordOf 8 (tk 4 x3)) (tkL 4 x3) (tkS 4 x3 t3)=R at *;generalize L.wordOf 8 (tk 4 x3)=d at *;obtain⟨vals,ok,xl,s1⟩:=R;simp only at *
    split at hOb
    ·rename_i hoa
     rw[if_pos hoa]at *;simp only at *;obtain⟨l1,l2,l3,l4⟩:=Zcd hOb;have hs1:=(Zb6 hOs).2;have hvl:=hfl (by simp only[Bool.and_eq_true]at hoa;exact hoa.1) hs1;refine⟨hrl,by simp,Zfn hrb,fun j hj=>.inr (.inr (.inl ⟨rfl,?_,l1,fun h0=>Zhx l1 l3 j hj h0⟩))⟩;have:=l4 j hj;unfold Zcc at this;simp at this;omega
    ·cases hOb
  by_cases h3:cd=3
  ·subst h3;rw[if_neg (by decide),if_neg (by decide),if_pos rfl]at *;unfold Zbo at *
   split at hOb
   ·cases hOb
   ·rename_i hc
    rw[if_neg hc]at *;have hxl1:(tkL 4 x3).length≤16777216:=Nat.le_trans (Zbn _ _) hx3;have hxl2:(tkL (4*L.wordOf 8 (tk 4 x3)) (tkL 4 x3)).length≤16777216:=Nat.le_trans (Zbn _ _) hxl1;have hrl:=Zjw (L.wordOf 8 (tk 4 x3)) (tkL (4*L.wordOf 8 (tk 4 x3)) (tkL 4 x3)) (tkS (4*L.wordOf 8 (tk 4 x3)) (tkL 4 x3) (tkS 4 x3 t3)) hxl2;have hfl:=@Zei (L.wordOf 8 (tk 4 x3)) (tkL (4*L.wordOf 8 (tk 4 x3)) (tkL 4 x3)) (tkS (4*L.wordOf 8 (tk 4 x3)) (tkL 4 x3) (tkS 4 x3 t3));have hsh:=Zkm (L.wordOf 8 (tk 4 x3)) (tkL (4*L.wordOf 8 (tk 4 x3)) (tkL 4 x3)) (tkS (4*L.wordOf 8 (tk 4 x3)) (tkL 4 x3) (tkS 4 x3 t3));have hen:=Zq4 (4*L.wordOf 8 (tk 4 x3)) (tkL 4 x3) hxl1;have hel:tkS (4*L.wordOf 8 (tk 4 x3)) (tkL 4 x3) (tkS 4 x3 t3)=false→(numL 4 (tk (4*L.wordOf 8 (tk 4 x3)) (tkL 4 x3))).length=L.wordOf 8 (tk 4 x3):=fun h=>by
     rw[Zan,Zk1 (Zb6 h).1];omega
    generalize rdI (L.wordOf 8 (tk 4 x3)) (tkL (4*L.wordOf 8 (tk 4 x3)) (tkL 4 x3)) (tkS (4*L.wordOf 8 (tk 4 x3)) (tkL 4 x3) (tkS 4 x3 t3))=R at *;generalize numL 4 (tk (4*L.wordOf 8 (tk 4 x3)) (tkL 4 x3))=es at *;generalize tkS (4*L.wordOf 8 (tk 4 x3)) (tkL 4 x3) (tkS 4 x3 t3)=s2 at *;generalize L.wordOf 8 (tk 4 x3)=d at *;obtain⟨vals,ok,xl,s1⟩:=R;simp only[Bool.and_eq_true]at *;have hvl:=hfl hOb.1 hOs;have hed:=hel (hsh hOs);have hre:Za1 (nI es) k=true:=by
     cases hx:Za1 (nI es) k with
     | true=>rfl
     | false=>exact absurd (.inr hx) hc
    refine⟨hrl,hen,by simp,fun j hj=>.inr (.inr (.inr ⟨rfl,?_,Ze8 hre⟩))⟩;have:=Ze3 hre ((j:Int)+1) (by omega) (by omega);rw[Zas,hed]at this;rw[hvl];exact this
  ·rw[if_neg h1,if_neg h2,if_neg h3]at *;have h45:cd=4∨cd=5:=by omega
   rcases h45 with rfl | rfl
   ·rw[if_pos rfl]at *;unfold Zdr at *;simp only at *;obtain⟨l1,l2,l3,l4⟩:=Zcd hOb;exact⟨by simp,by simp,Zfn (Zau hb3),fun j hj=>.inl ⟨.inl rfl,l1,fun h0=>Zhx l1 l3 j hj h0⟩⟩
   ·rw[if_neg (by decide)]at *;unfold Zdr at *;simp only at *;obtain⟨l1,l2,l3,l4⟩:=Zcd hOb;exact⟨by simp,by simp,Zfn hb3,fun j hj=>.inl ⟨.inr rfl,l1,fun h0=>Zhx l1 l3 j hj h0⟩⟩
 exact⟨hnl,hnv,key.1,key.2.1,key.2.2.1,key.2.2.2⟩
theorem Zl4 (rows:Nat) (xs:List Nat) (hb:∀ x∈xs,x<256) (hl:xs.length≤16777216) (hrr:rows≤65536) (h:Zcg rows xs=true):Valid_S rows xs:=by
 unfold Zcg Zgu at h;simp only[Bool.and_eq_true,Bool.not_eq_true',decide_eq_true_eq]at h;obtain⟨⟨hpk,hcd⟩,hOb,hOs,hOl⟩:=h;have hnl:=((Zbl (wd:=1) (n:=rows) _ (by decide) hrr).1 hpk).1;rw[Zj6]at hnl;have hx3:(Zaa rows xs).left.length≤16777216:=Nat.le_trans (Zbn _ _) (Nat.le_trans (Zbn _ _) (Nat.le_trans (Zbn _ _) hl));have hb3:∀ x∈(Zaa rows xs).left,x<256:=Zau (Zau (Zau hb));have hnv:∀ x∈(Zaa rows xs).nulls,x<18446744073709551616:=Zdz (Zdh (Zau (Zau hb))) (by omega);have key:(Zaj rows xs).list.length≤16777216∧(Zaj rows xs).ends.length≤16777216∧(∀ x∈(Zaj rows xs).lanes,x<18446744073709551616) ∧
   ∀ j,j<Za8 rows (Zaa rows xs).nulls→Zla (Zaa rows xs).codec (Zaa rows xs).wd (Zaj rows xs).list (Zaj rows xs).ends (Zaj rows xs).lanes j:=by
  unfold Zaj at *;generalize Za8 rows (Zaa rows xs).nulls=k at *;generalize (Zaa rows xs).left=x3 at *;generalize (Zaa rows xs).short=t3 at *;generalize (Zaa rows xs).codec=cd at *;generalize (Zaa rows xs).wd=wd at *;have hcdk:1≤cd∧cd≤3:=by
   unfold Zbj at hcd
   split at hcd
   ·omega
   ·simp only[decide_eq_true_eq]at hcd;unfold Zkw at hcd;omega
  unfold Zbq at *;by_cases h1:cd=1
  ·subst h1;rw[if_pos rfl]at *;unfold Zbk at *;simp only[Bool.and_eq_true,decide_eq_true_eq]at *;have hf:=Zej hOb.1 hOs;exact⟨Zjk _ _ _ hx3,by simp,by simp,fun j hj=>.inl ⟨rfl,by rw[hf];exact hj⟩⟩
  by_cases h2:cd=2
  ·subst h2;rw[if_neg (by decide),if_pos rfl]at *;unfold Zbp at *
   split at hOb
   ·cases hOb
   ·rename_i hc
    rw[if_neg hc]at *;have hxl1:(tkL 4 x3).length≤16777216:=Nat.le_trans (Zbn _ _) hx3;have hxb1:∀ x∈tkL 4 x3,x<256:=Zau hb3;have hrl:=Zjk (L.wordOf 8 (tk 4 x3)) (tkL 4 x3) (tkS 4 x3 t3) hxl1;have hrb:=(Zem (L.wordOf 8 (tk 4 x3)) (tkL 4 x3) (tkS 4 x3 t3)).2 256 hxb1;have hfl:=@Zej (L.wordOf 8 (tk 4 x3)) (tkL 4 x3) (tkS 4 x3 t3);generalize rdS (L.wordOf 8 (tk 4 x3)) (tkL 4 x3) (tkS 4 x3 t3)=R at *;generalize L.wordOf 8 (tk 4 x3)=d at *;obtain⟨vals,ok,xl,s1⟩:=R;simp only at *
    split at hOb
    ·rename_i hoa
     rw[if_pos hoa]at *;simp only at *;obtain⟨l1,l2,l3,l4⟩:=Zcd hOb;have hs1:=(Zb6 hOs).2;have hvl:=hfl (by simp only[Bool.and_eq_true]at hoa;exact hoa.1) hs1;refine⟨hrl,by simp,Zfn hrb,fun j hj=>.inr (.inl ⟨rfl,?_,l1,fun h0=>Zhx l1 l3 j hj h0⟩)⟩;have:=l4 j hj;unfold Zcc at this;simp at this;omega
    ·cases hOb
  ·obtain rfl:cd=3:=by omega
   rw[if_neg (by decide),if_neg (by decide)]at *;unfold Zbi at *
   split at hOb
   ·cases hOb
   ·rename_i hc
    rw[if_neg hc]at *;have hxl1:(tkL 4 x3).length≤16777216:=Nat.le_trans (Zbn _ _) hx3;have hxl2:(tkL (4*L.wordOf 8 (tk 4 x3)) (tkL 4 x3)).length≤16777216:=Nat.le_trans (Zbn _ _) hxl1;have hrl:=Zjk (L.wordOf 8 (tk 4 x3)) (tkL (4*L.wordOf 8 (tk 4 x3)) (tkL 4 x3)) (tkS (4*L.wordOf 8 (tk 4 x3)) (tkL 4 x3) (tkS 4 x3 t3)) hxl2;have hfl:=@Zej (L.wordOf 8 (tk 4 x3)) (tkL (4*L.wordOf 8 (tk 4 x3)) (tkL 4 x3)) (tkS (4*L.wordOf 8 (tk 4 x3)) (tkL 4 x3) (tkS 4 x3 t3));have hsh:=Zkd (L.wordOf 8 (tk 4 x3)) (tkL (4*L.wordOf 8 (tk 4 x3)) (tkL 4 x3)) (tkS (4*L.wordOf 8 (tk 4 x3)) (tkL 4 x3) (tkS 4 x3 t3));have hen:=Zq4 (4*L.wordOf 8 (tk 4 x3)) (tkL 4 x3) hxl1;have hel:tkS (4*L.wordOf 8 (tk 4 x3)) (tkL 4 x3) (tkS 4 x3 t3)=false→(numL 4 (tk (4*L.wordOf 8 (tk 4 x3)) (tkL 4 x3))).length=L.wordOf 8 (tk 4 x3):=fun h=>by
     rw[Zan,Zk1 (Zb6 h).1];omega
    generalize rdS (L.wordOf 8 (tk 4 x3)) (tkL (4*L.wordOf 8 (tk 4 x3)) (tkL 4 x3)) (tkS (4*L.wordOf 8 (tk 4 x3)) (tkL 4 x3) (tkS 4 x3 t3))=R at *;generalize numL 4 (tk (4*L.wordOf 8 (tk 4 x3)) (tkL 4 x3))=es at *;generalize tkS (4*L.wordOf 8 (tk 4 x3)) (tkL 4 x3) (tkS 4 x3 t3)=s2 at *;generalize L.wordOf 8 (tk 4 x3)=d at *;obtain⟨vals,ok,xl,s1⟩:=R;simp only[Bool.and_eq_true]at *;have hvl:=hfl hOb.1 hOs;have hed:=hel (hsh hOs);have hre:Za1 (nI es) k=true:=by
     cases hx:Za1 (nI es) k with
     | true=>rfl
     | false=>exact absurd (.inr hx) hc
    refine⟨hrl,hen,by simp,fun j hj=>.inr (.inr ⟨rfl,?_,Ze8 hre⟩)⟩;have:=Ze3 hre ((j:Int)+1) (by omega) (by omega);rw[Zas,hed]at this;rw[hvl];exact this
 exact⟨hnl,hnv,key.1,key.2.1,key.2.2.1,key.2.2.2⟩
def pK_I (x:Int):PV:=pI x
def pK_S (x:ByteArray):PV:=pS x
theorem dl (p:Nat) (xs:List Nat):(xs.drop p).length=xs.length-p:=List.length_drop
theorem Zlp (m:Nat) (X:List Nat):(rdI m X true).2.1=false:=by
 unfold rdI tkS;simp
theorem Zds (n:Nat) (X:List Nat):tkS n X true=true:=by unfold tkS;simp
theorem Zmn (m:Nat) (X:List Nat):(rdS m X true).2.1=false:=by
 unfold rdS;simp only[Zds]
 split
 ·rfl
 ·simp
theorem Z0m (m p:Nat) (xs:List Nat) (hp:p≤xs.length) :
  (rdI m (xs.drop p) false).2.1=Zbw 1 m p xs∧(Zbw 1 m p xs=true→(rdI m (xs.drop p) false).1.map pK_I=Zdo 1 m p xs∧(rdI m (xs.drop p) false).2.2.1=xs.drop (Zbz 1 m p xs)∧(rdI m (xs.drop p) false).2.2.2=false∧Zbz 1 m p xs≤xs.length):=by
 have e1:Zbw 1 m p xs=decide (8*m≤xs.length-p):=by
  unfold Zbw Zav;rw[if_pos rfl];simp[hp]
 refine⟨?_,fun h=>?_⟩
 ·rw[e1];unfold rdI tkS;rw[dl];by_cases h:8*m≤xs.length-p<;>simp[h]
 ·rw[e1,decide_eq_true_eq]at h;have e2:Zbz 1 m p xs=p+8*m:=by
   unfold Zbz Zav;rw[if_pos rfl,if_pos (by simp[hp,h])]
  rw[e2];refine⟨rfl,?_,?_,by omega⟩
  ·unfold rdI tkL;simp only;rw[dl,if_pos h,List.drop_drop]
  ·unfold rdI tkS;simp only;rw[dl,if_pos h]
theorem Zxd (t:List Nat) (es:List Int):∀(a sz:Int),0≤a→Zay a es=some sz→cutS a (t.take sz.toNat) es=cutS a t es:=by
 induction es with
 | nil=>intro a sz _ _;rfl
 | cons e r ih =>
  intro a sz h0 h;simp only[Zay]at h
  split at h
  ·cases h
  ·rename_i hc
   have hle:=Ze1 r e sz h;simp only[cutS];rw[ih e sz (by omega) h,List.drop_take,List.take_take,Nat.min_eq_left (by omega)]
theorem Z1j (m p:Nat) (xs:List Nat) (hp:p≤xs.length) :
  (rdS m (xs.drop p) false).2.1=Zbw 2 m p xs∧(Zbw 2 m p xs=true→(rdS m (xs.drop p) false).1.map pK_S=Zdo 2 m p xs∧(rdS m (xs.drop p) false).2.2.1=xs.drop (Zbz 2 m p xs)∧(rdS m (xs.drop p) false).2.2.2=false∧Zbz 2 m p xs≤xs.length):=by
 have e0:Zbw 2 m p xs=Ze6 m p xs:=by unfold Zbw;rw[if_neg (by decide)]
 have e3:Zbz 2 m p xs=Zju m p xs:=by unfold Zbz;rw[if_neg (by decide)]
 have e4:Zdo 2 m p xs=(Zng m p xs).map pS:=by unfold Zdo;rw[if_neg (by decide)]
 rw[e0,e3,e4];by_cases hn:4*m≤xs.length-p
 ·have hno:Zav 4 m p xs.length=true:=by unfold Zav;exact decide_eq_true ⟨hp,hn⟩
  have t1:tkL (4*m) (xs.drop p)=xs.drop (p+4*m):=by unfold tkL;rw[dl,if_pos hn,List.drop_drop]
  have t2:tkS (4*m) (xs.drop p) false=false:=by unfold tkS;rw[dl,if_pos hn]
  unfold Zng Zju;have e1:Ze6 m p xs=match Zay 0 (nI (numL 4 (tk (4*m) (xs.drop p))))with
    | none=>false
    | some sz=>decide (sz≤((xs.length-(p+4*m):Nat):Int)):=by unfold Ze6;rw[hno,Bool.true_and];rfl
  unfold rdS;simp only[t1,t2];rw[e1];generalize nI (numL 4 (tk (4*m) (xs.drop p)))=ends at *;cases hte:Zay 0 ends with
  | none=>simp
  | some sz =>
   have hs0:=Ze1 ends 0 sz hte;simp only;have t3:tkS sz.toNat (xs.drop (p+4*m)) false=!decide (sz≤((xs.length-(p+4*m):Nat):Int)):=by
    unfold tkS;rw[dl];by_cases h:sz≤((xs.length-(p+4*m):Nat):Int)
    ·rw[if_pos (by omega),decide_eq_true h];rfl
    ·rw[if_neg (by omega),decide_eq_false h];rfl
   rw[t3];by_cases h:sz≤((xs.length-(p+4*m):Nat):Int)
   ·have hd:=decide_eq_true h;simp only[hd,Bool.not_true,Bool.false_eq_true,if_false,if_true,true_and];intro _;have hz:sz.toNat≤xs.length-(p+4*m):=by omega
    have t4:tk sz.toNat (xs.drop (p+4*m))=(xs.drop (p+4*m)).take sz.toNat:=by unfold tk;rw[dl,if_pos hz]
    have t5:tkL sz.toNat (xs.drop (p+4*m))=xs.drop (p+4*m+sz.toNat):=by unfold tkL;rw[dl,if_pos hz,List.drop_drop]
    rw[t4,t5,Zxd _ _ 0 sz (by omega) hte];refine⟨rfl,?_,?_⟩
    ·rw[tsz,hte];rfl
    ·rw[tsz,hte];simp only[Option.getD_some];omega
   ·have hd:=decide_eq_false h;simp[hd]
 ·have hno:Zav 4 m p xs.length=false:=by unfold Zav;exact decide_eq_false (by omega)
  have e1:Ze6 m p xs=false:=by unfold Ze6;rw[hno,Bool.false_and]
  rw[e1];have t2:tkS (4*m) (xs.drop p) false=true:=by unfold tkS;rw[dl,if_neg hn]
  refine⟨?_,fun h=>by cases h⟩;unfold rdS;simp only[t2,Zds]
  split
  ·rfl
  ·simp
theorem Zga {α β : Type} (r : β→β→Bool) (f : α→β):∀ xs:List α,Zbd r (xs.map f)=Zbd (fun a b=>r (f a) (f b)) xs
 | []=>rfl
 | [a]=>rfl
 | a :: b :: t=>by
  have ih:=Zga r f (b :: t);simp only[List.map_cons,Zbd]at ih ⊢;rw[ih]
theorem Zr0:ordS ByteArray.empty ByteArray.empty=0:=by decide +kernel
theorem Z0y (a b:Int):geP (pK_I a) (pK_I b)=geI a b:=by
 unfold geP geI pK_I pI ordP;simp only[Zr0];by_cases h1:a<b
 ·rw[if_pos h1,decide_eq_false (by omega),decide_eq_false (by omega)]
 ·rw[if_neg h1];by_cases h2:b<a
  ·rw[if_pos h2,decide_eq_true (by omega),decide_eq_true (by omega)]
  ·rw[if_neg h2,decide_eq_true (by omega),decide_eq_true (by omega)]
theorem Z0j (a b:Int):eqP (pK_I a) (pK_I b)=eqI a b:=by
 unfold eqP eqI pK_I pI ordP;simp only[Zr0];by_cases h1:a<b
 ·rw[if_pos h1,decide_eq_false (by omega)];simp;omega
 ·rw[if_neg h1];by_cases h2:b<a
  ·rw[if_pos h2,decide_eq_false (by omega)];simp;omega
  ·rw[if_neg h2,decide_eq_true (by omega)];simp;omega
theorem Z0d (a b:ByteArray):ordP (pK_S a) (pK_S b)=ordS a b:=by
 unfold ordP pK_S pS;simp
theorem Z0x (a b:ByteArray):geP (pK_S a) (pK_S b)=geS a b:=by
 unfold geP geS;rw[Z0d];unfold ordS;cases h:ltS a b
 ·simp only[Bool.false_eq_true,if_false,Bool.not_false]
  split<;>decide
 ·simp
theorem Zk9:∀ l:List UInt8,Op.bytesLess l l=false:=by
 intro l
 induction l with
 | nil=>rfl
 | cons a r ih=>simp[Op.bytesLess,ih]
theorem Z1a (a b:ByteArray):eqP (pK_S a) (pK_S b)=eqS a b:=by
 unfold eqP;rw[Z0d];unfold ordS;cases h:ltS a b
 ·cases h2:eqS a b
  ·simp
  ·simp
 ·cases h2:eqS a b
  ·simp
  ·unfold eqS at h2;have h3:a.toList=b.toList:=by simpa using h2
   unfold ltS at h;rw[h3,Zk9]at h;cases h
theorem Zvp {fl:List Bool} (h:∀ j,j<fl.length→fl.getD j false=false):Zaw (bmL fl) fl.length=0:=by
 unfold Zaw;rw[List.filter_eq_nil_iff.2,List.length_nil];intro j hj;have hj2:=List.mem_range.1 hj;have hb:=(Zgr fl).2.2 j (by rw[(Zgr fl).1];have:=Zks fl.length;omega);simp only[h j hj2,Bool.and_false]at hb;simp[hb]
theorem Zkr (wd k:Nat) (op:Int) (ws:List Nat) (lim:Nat) (hop:Zw3 op=true) (hk:k≤65536) :
  Zck wd k op ws lim=true↔Za9 wd k ws=true∧∀ j,j<k→Zcc op (L.laneOf wd ws j) lim=false:=by
 constructor
 ·intro h;obtain⟨h1,h2,h3,h4⟩:=Zcd h;exact⟨(Zbl ws h1 h2).2 h3,h4⟩
 ·rintro⟨h1,h2⟩;have hc:Zh8 wd k op ws=true:=by unfold Zh8;rw[hop,h1];rfl
  unfold Zck;rw[hc,Bool.true_and,cmpR,if_pos hc];have hfl:((List.range (k:Int).toNat).map (cmpF (wd:Int).toNat op ws lim)).length=k:=by simp
  have h6:Za9 1 k (bmL ((List.range (k:Int).toNat).map (cmpF (wd:Int).toNat op ws lim)))=true:=by
   refine(Zbl _ (by decide) hk).2 ?_;have:=L.pack_isPack (w:=1) (by omega) (((List.range (k:Int).toNat).map (cmpF (wd:Int).toNat op ws lim)).map Bool.toNat) (toNat_lt _)
   rwa [List.length_map,hfl]at this
  rw[Zee,if_pos ⟨h6,by omega,by omega⟩];have h7:=Zvp (fl:=(List.range (k:Int).toNat).map (cmpF (wd:Int).toNat op ws lim)) (fun j hj=>by
   rw[hfl]at hj;have:=h2 j hj;simpa [List.getD,List.getElem?_map,List.getElem?_range hj,cmpF]using this)
  rw[hfl]at h7;have hkk:(k:Int).toNat=k:=Int.toNat_natCast k;rw[hkk]at h7 ⊢;rw[h7];rfl
abbrev kN_I:Nat:=1
abbrev kN_S:Nat:=2
theorem Zxf:kN_I=1∨kN_I=2:=.inl rfl
theorem Zw6:kN_S=1∨kN_S=2:=.inr rfl
theorem Z1d (m p:Nat) (xs:List Nat) (hp:p≤xs.length) :
  (rdI m (xs.drop p) false).2.1=Zbw kN_I m p xs∧(Zbw kN_I m p xs=true→(rdI m (xs.drop p) false).1.map pK_I=Zdo kN_I m p xs∧(rdI m (xs.drop p) false).2.2.1=xs.drop (Zbz kN_I m p xs)∧(rdI m (xs.drop p) false).2.2.2=false∧Zbz kN_I m p xs≤xs.length):=Z0m m p xs hp
theorem Z05 (m p:Nat) (xs:List Nat) (hp:p≤xs.length) :
  (rdS m (xs.drop p) false).2.1=Zbw kN_S m p xs∧(Zbw kN_S m p xs=true→(rdS m (xs.drop p) false).1.map pK_S=Zdo kN_S m p xs∧(rdS m (xs.drop p) false).2.2.1=xs.drop (Zbz kN_S m p xs)∧(rdS m (xs.drop p) false).2.2.2=false∧Zbz kN_S m p xs≤xs.length):=Z1j m p xs hp
theorem Zz1 (vs:List Int):Zbd geP (vs.map pK_I)=Zbd geI vs:=by rw[Zga];congr 1;funext a b;exact Z0y a b
theorem Zy9 (vs:List ByteArray):Zbd geP (vs.map pK_S)=Zbd geS vs:=by rw[Zga];congr 1;funext a b;exact Z0x a b
theorem Zy4 (vs:List Int):Zbd eqP (vs.map pK_I)=Zbd eqI vs:=by rw[Zga];congr 1;funext a b;exact Z0j a b
theorem Zzz (vs:List ByteArray):Zbd eqP (vs.map pK_S)=Zbd eqS vs:=by rw[Zga];congr 1;funext a b;exact Z1a a b
theorem Zey {α β : Type} (f : α→β) (xs:List α) (i:Nat) (a : α) (b : β) (h:i<xs.length):(xs.map f).getD i b=f (xs.getD i a):=by
 simp[List.getD,List.getElem?_map,List.getElem?_eq_getElem h]
theorem Zgt (n:Nat) (xs:List Nat) (h:n≤xs.length):decide (xs.drop n=[])=decide (n=xs.length):=by
 by_cases h2:n=xs.length
 ·rw[decide_eq_true h2,decide_eq_true (List.drop_eq_nil_iff.2 (by omega))]
 ·rw[decide_eq_false h2,decide_eq_false (fun h3=>h2 (by have:=List.drop_eq_nil_iff.1 h3;omega))]
theorem Zny (es:List Int):∀ l m:Int,Za4 l es=some m→l+es.length≤m:=by
 induction es with
 | nil=>intro l m h;simp[Za4]at h;simp;omega
 | cons e r ih =>
  intro l m h;simp only[Za4]at h
  split at h
  ·cases h
  ·have:=ih e m h;simp only[List.length_cons];omega
theorem Zkf (es:List Int):∀ l m:Int,Za4 l es=some m→∀ a,a<es.length→es.getD a 0≤m:=by
 induction es with
 | nil=>intro l m h a ha;simp at ha
 | cons e r ih =>
  intro l m h a ha;simp only[Za4]at h
  split at h
  ·cases h
  ·cases a with
   | zero=>have:=Zi5 r e m h;simpa using this
   | succ a=>have:=ih e m h a (by simpa using ha);simpa using this
theorem Zlt (heads:List PV) (ends:List Nat):∀(i l:Nat),i≤ends.length→Za4 0 (nI (ends.take i))=some (l:Int)→∀ j,j<l→(Zgy heads ends i).getD j dfP=heads.getD (Zb7 (nI ends) ((j:Int)+1)) dfP
 | 0,l,_,h,j,hj=>by simp[nI,Za4]at h;omega
 | i+1,l,hi,h,j,hj=>by
  cases h0:Za4 0 (nI (ends.take i))with
  | none =>
   have e:ends.take (i+1)=ends.take i++[ends.getD i 0]:=by
    rw[List.take_succ_eq_append_getElem (by omega)];simp[List.getD,List.getElem?_eq_getElem (show i<ends.length by omega)]
   rw[e,Zek,Zgm _ _ _ h0]at h;cases h
  | some m =>
   have hm:=Zi5 _ _ _ h0;obtain⟨m,rfl⟩:=Int.eq_ofNat_of_zero_le hm;have hlen:=Zf1 heads ends i m (by omega) h0;have hall:=Zkf _ _ _ h0;rw[Ziv ends i m (by omega) h0]at h
   split at h
   ·cases h
   ·rename_i hc
    injection h with h
    have hl:ends.getD i 0=l:=by omega
    simp only[Zgy];by_cases hjm:j<m
    ·have:=Zlt heads ends i m (by omega) h0 j hjm;rw[← this];simp only[List.getD];rw[List.getElem?_append_left (by omega)]
    ·have hf:Zb7 (nI ends) ((j:Int)+1)=i:=by
      refine Zhv _ _ _ (by rw[Zas];omega) (fun a ha=>?_) (fun _=>?_)
      ·have h2:=hall a (by rw[Zas,List.length_take];omega);rw[Zok _ _ (by rw[List.length_take];omega)]at h2;rw[Zok _ _ (by omega)];have h3:(ends.take i).getD a 0=ends.getD a 0:=by simp only[List.getD,List.getElem?_take];rw[if_pos ha]
       rw[h3]at h2;omega
      ·rw[Zok _ _ (by omega)];omega
     rw[hf];simp only[List.getD];rw[List.getElem?_append_right (by omega),hlen,List.getElem?_replicate,if_pos (by simp only[List.getD]at hl;omega)];rfl
theorem Zmu (xl:List Nat):tkS (8*(xl.length/8)) xl false=false∧(decide (tkL (8*(xl.length/8)) xl=[])=decide (xl.length%8=0)):=by
 have h:8*(xl.length/8)≤xl.length:=by omega
 refine⟨by unfold tkS;rw[if_pos h],?_⟩;unfold tkL;rw[if_pos h,Zgt _ _ h];by_cases h2:xl.length%8=0
 ·rw[decide_eq_true h2,decide_eq_true (by omega)]
 ·rw[decide_eq_false h2,decide_eq_false (by omega)]
end Go.Proofs.YtmcjknjlihgihaaGreatDoor
