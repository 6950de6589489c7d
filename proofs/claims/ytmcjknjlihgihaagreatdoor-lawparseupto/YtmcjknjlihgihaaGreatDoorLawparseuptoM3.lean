/- Package bitvec's Pack and Unpack. -/
import Derived.Test.YtmcjknjlihgihaaGreatDoorLawparseuptoM1
set_option linter.unusedVariables false
set_option linter.unusedSimpArgs false
set_option linter.unnecessarySimpa false
set_option maxRecDepth 512
namespace Go.Proofs.YtmcjknjlihgihaaGreatDoor.L
theorem wordOf_testBit {w:Nat} (h0:0<w) (aZ:List Nat) (h:∀ a∈aZ,a<2^w) (p:Nat):(wordOf w aZ).testBit p=(aZ.getD (p/w) 0).testBit (p%w):=by
 induction aZ generalizing p with
 | nil=>simp[wordOf]
 | cons v vs ih =>
  have hv:=h v (by simp);simp only[wordOf];rw[Nat.add_comm,Nat.testBit_two_pow_mul_add _ hv];by_cases hp:p<w
  ·rw[if_pos hp,Nat.div_eq_of_lt hp,Nat.mod_eq_of_lt hp];rfl
  ·rw[if_neg hp,ih (fun a ha=>h a (by simp[ha]))];have e:p=(p-w)+w:=by omega
   have e1:p/w=(p-w)/w+1:=by conv=>lhs;rw[e,Nat.add_div_right _ h0]
   have e2:p%w=(p-w)%w:=by conv=>lhs;rw[e,Nat.add_mod_right]
   rw[e1,e2];rfl
theorem Zn1 (w:Nat):∀(xs ys:List Nat),xs.length=ys.length→(∀ i,ys.getD i 0≤xs.getD i 0)→wordOf w ys≤wordOf w xs∧wordOf w xs-wordOf w ys=wordOf w (List.zipWith (· - ·) xs ys)
 | [],[],_,_=>by simp[wordOf]
 | x :: xs,y :: ys,hl,h=>by
  have h0:=h 0;have ih:=Zn1 w xs ys (by simpa using hl) (fun i=>by have:=h (i+1);simpa using this);simp only[List.getD_cons_zero]at h0;simp only[wordOf,List.zipWith_cons_cons,← ih.2];have hm:2^w*wordOf w ys≤2^w*wordOf w xs:=Nat.mul_le_mul_left _ ih.1;refine⟨by omega,?_⟩;rw[Nat.mul_sub];omega
 | [],_ :: _,hl,_=>by simp at hl
 | _ :: _,[],hl,_=>by simp at hl
def M64:Nat:=18446744073709551615
theorem M64_sub_testBit (x p:Nat) (hx:x<2^64):(M64-x).testBit p=(decide (p<64)&&!x.testBit p):=by
 have e:M64-x=2^64-(x+1):=by unfold M64;omega
 rw[e,Nat.testBit_two_pow_sub_succ hx]
def lessN (a b t:Nat):Nat:=(((M64-a) &&& b) ||| ((M64-(a ^^^ b)) &&& (M64-((a ||| t)-(b &&& (M64-t)))))) &&& t
theorem Zwo (w a:Nat) (ha:a<2^(w+1)):a ||| 2^w=2^w+a%2^w:=by
 have hm:a%2^w<2^w:=Nat.mod_lt _ (Nat.pow_pos (by omega));rw[Nat.add_comm,← or_bit _ _ hm];apply Nat.eq_of_testBit_eq;intro i;rw[Nat.testBit_or,Nat.testBit_or,Nat.testBit_mod_two_pow,Nat.testBit_two_pow];by_cases h:i<w
 ·simp[h]
 ·by_cases h2:w=i
  ·simp[h2]
  ·have:a.testBit i=false:=Nat.testBit_lt_two_pow (Nat.lt_of_lt_of_le ha (Nat.pow_le_pow_right (by omega) (by omega)));simp[h,this]
theorem Zo1 (w a:Nat) (ha:a<2^(w+1)):a.testBit w=decide (2^w≤a):=by
 rw[Nat.testBit_eq_decide_div_mod_eq];have hp:0<2^w:=Nat.pow_pos (by omega);rw[Nat.pow_succ]at ha;by_cases h:2^w≤a
 ·have:a/2^w=1:=by
   apply Nat.div_eq_of_lt_le<;>omega
  simp[this,h]
 ·rw[Nat.div_eq_of_lt (by omega)];simp[h]
section
variable {w n : Nat} {aZ bs : List Nat}
theorem getD_lt (h:∀ a∈aZ,a<2^w) (j:Nat):aZ.getD j 0<2^w:=by
 by_cases hj:j<aZ.length
 ·apply h;simp[List.getD,List.getElem?_eq_getElem hj]
 ·simp only[List.getD,List.getElem?_eq_none (show aZ.length≤j by omega),Option.getD_none];exact Nat.pow_pos (by omega)
theorem Zlm (f:Nat→Nat) (j:Nat) (hj:j<aZ.length):(aZ.map f).getD j 0=f (aZ.getD j 0):=by
 simp[List.getD,List.getElem?_eq_getElem hj]
theorem getD_out (j:Nat) (hj:aZ.length≤j):aZ.getD j 0=0:=by simp[List.getD,List.getElem?_eq_none hj]
theorem notLess (hn1:aZ.length=n) (hn2:bs.length=n) (ha:∀ a∈aZ,a<2^(w+1)) (hb:∀ b∈bs,b<2^(w+1)) (h64:n*(w+1)≤64) :
  wordOf (w+1) bs &&& (M64-wordOf (w+1) (List.replicate n (2^w)))≤wordOf (w+1) aZ ||| wordOf (w+1) (List.replicate n (2^w)) ∧
  (wordOf (w+1) aZ ||| wordOf (w+1) (List.replicate n (2^w)))-(wordOf (w+1) bs &&& (M64-wordOf (w+1) (List.replicate n (2^w)))) =
   wordOf (w+1) (List.zipWith (· - ·) (aZ.map (· ||| 2^w)) (bs.map (· % 2^w))):=by
 have hp:0<2^w:=Nat.pow_pos (by omega);have hpw:2^w<2^(w+1):=Nat.pow_lt_pow_right (by omega) (by omega);have ht:∀ t∈List.replicate n (2^w),t<2^(w+1):=fun t ht=>by rw[List.eq_of_mem_replicate ht];exact hpw
 have hT:wordOf (w+1) (List.replicate n (2^w))<2^64:=by
  have:=wordOf_lt (w+1) _ ht;rw[List.length_replicate,Nat.mul_comm]at this;exact Nat.lt_of_lt_of_le this (Nat.pow_le_pow_right (by omega) h64)
 have hor:∀ x∈aZ.map (· ||| 2^w),x<2^(w+1):=by
  intro x hx;obtain⟨a,haa,rfl⟩:=List.mem_map.1 hx;exact Nat.or_lt_two_pow (ha a haa) hpw
 have hmd:∀ x∈bs.map (· % 2^w),x<2^(w+1):=by
  intro x hx;obtain⟨b,hbb,rfl⟩:=List.mem_map.1 hx;exact Nat.lt_trans (Nat.mod_lt _ hp) hpw
 have hTr:∀ j,(List.replicate n (2^w)).getD j 0=if j<n then 2^w else 0:=by
  intro j;simp only[List.getD,List.getElem?_replicate];split<;>rfl
 have e1:wordOf (w+1) aZ ||| wordOf (w+1) (List.replicate n (2^w))=wordOf (w+1) (aZ.map (· ||| 2^w)):=by
  apply Nat.eq_of_testBit_eq;intro p;rw[Nat.testBit_or,wordOf_testBit (by omega) aZ ha,wordOf_testBit (by omega) _ ht,wordOf_testBit (by omega) _ hor,hTr];by_cases hj:p/(w+1)<n
  ·rw[if_pos hj,Zlm _ _ (by omega),Nat.testBit_or]
  ·rw[if_neg hj,getD_out _ (by omega),getD_out _ (by simp;omega)];simp
 have e2:wordOf (w+1) bs &&& (M64-wordOf (w+1) (List.replicate n (2^w)))=wordOf (w+1) (bs.map (· % 2^w)):=by
  apply Nat.eq_of_testBit_eq;intro p;rw[Nat.testBit_and,M64_sub_testBit _ _ hT,wordOf_testBit (by omega) bs hb,wordOf_testBit (by omega) _ ht,wordOf_testBit (by omega) _ hmd,hTr];by_cases hj:p/(w+1)<n
  ·have hp64:p<64:=by
    have h1:=Nat.div_add_mod p (w+1);have h2:p%(w+1)<w+1:=Nat.mod_lt _ (by omega);have h3:(p/(w+1)+1)*(w+1)≤n*(w+1):=Nat.mul_le_mul_right _ hj;rw[Nat.add_mul,Nat.one_mul,Nat.mul_comm]at h3;omega
   rw[if_pos hj,Zlm _ _ (by omega),Nat.testBit_mod_two_pow,Nat.testBit_two_pow];have hr:p%(w+1)<w+1:=Nat.mod_lt _ (by omega);by_cases hrw:p%(w+1)<w
   ·have:¬ w=p%(w+1):=by omega
    simp[hp64,hrw,this]
   ·have:w=p%(w+1):=by omega
    simp[← this]
  ·rw[if_neg hj,getD_out _ (by omega),getD_out (aZ:=bs.map _) _ (by simp;omega)];simp
 rw[e1,e2];apply Zn1
 ·simp;omega
 ·intro j;by_cases hj:j<n
  ·rw[Zlm _ _ (by omega),Zlm _ _ (by omega),Zwo w _ (getD_lt ha j)];have:bs.getD j 0%2^w<2^w:=Nat.mod_lt _ hp;omega
  ·rw[getD_out _ (by simp;omega),getD_out _ (by simp;omega)];exact Nat.le_refl _
theorem lessN_bit (hn1:aZ.length=n) (hn2:bs.length=n) (ha:∀ a∈aZ,a<2^(w+1)) (hb:∀ b∈bs,b<2^(w+1)) (h64:n*(w+1)≤64) (p:Nat) :
  (lessN (wordOf (w+1) aZ) (wordOf (w+1) bs) (wordOf (w+1) (List.replicate n (2^w)))).testBit p =
   (decide (p/(w+1)<n∧p%(w+1)=w)&&decide (aZ.getD (p/(w+1)) 0<bs.getD (p/(w+1)) 0)):=by
 have hp:0<2^w:=Nat.pow_pos (by omega);have hpw:2^w<2^(w+1):=Nat.pow_lt_pow_right (by omega) (by omega);have ht:∀ t∈List.replicate n (2^w),t<2^(w+1):=fun t ht=>by rw[List.eq_of_mem_replicate ht];exact hpw
 have hTr:∀ j,(List.replicate n (2^w)).getD j 0=if j<n then 2^w else 0:=by
  intro j;simp only[List.getD,List.getElem?_replicate];split<;>rfl
 have hA64:∀ cs:List Nat,cs.length=n→(∀ c∈cs,c<2^(w+1))→wordOf (w+1) cs<2^64:=by
  intro cs hl hc;have:=wordOf_lt (w+1) cs hc;rw[hl,Nat.mul_comm]at this;exact Nat.lt_of_lt_of_le this (Nat.pow_le_pow_right (by omega) h64)
 have hnl:=notLess hn1 hn2 ha hb h64;unfold lessN;rw[hnl.2];have hdl:∀ d∈List.zipWith (· - ·) (aZ.map (· ||| 2^w)) (bs.map (· % 2^w)),d<2^(w+1):=by
  intro d hd;obtain⟨i,hi,rfl⟩:=List.getElem_of_mem hd;rw[List.getElem_zipWith,List.getElem_map];refine Nat.lt_of_le_of_lt (Nat.sub_le _ _) (Nat.or_lt_two_pow (ha _ (List.getElem_mem _)) hpw)
 have hD64:=hA64 (List.zipWith (· - ·) (aZ.map (· ||| 2^w)) (bs.map (· % 2^w))) (by simp;omega) hdl;have hA:=hA64 aZ hn1 ha;have hB:=hA64 bs hn2 hb;have hX:wordOf (w+1) aZ ^^^ wordOf (w+1) bs<2^64:=Nat.xor_lt_two_pow hA hB;rw[Nat.testBit_and,Nat.testBit_or,Nat.testBit_and,Nat.testBit_and,M64_sub_testBit _ _ hA,M64_sub_testBit _ _ hX,M64_sub_testBit _ _ hD64,Nat.testBit_xor,
  wordOf_testBit (by omega) aZ ha,wordOf_testBit (by omega) bs hb,wordOf_testBit (by omega) _ ht,wordOf_testBit (by omega) _ hdl,hTr]
 by_cases hj:p/(w+1)<n
 ·by_cases hr:p%(w+1)=w
  ·have hp64:p<64:=by
    have h1:=Nat.div_add_mod p (w+1);have h3:(p/(w+1)+1)*(w+1)≤n*(w+1):=Nat.mul_le_mul_right _ hj;rw[Nat.add_mul,Nat.one_mul,Nat.mul_comm]at h3;omega
   generalize p/(w+1)=j at *;have e3:(List.zipWith (· - ·) (aZ.map (· ||| 2^w)) (bs.map (· % 2^w))).getD j 0=2^w+aZ.getD j 0%2^w-bs.getD j 0%2^w:=by
    rw[← Zwo w _ (getD_lt ha j)];simp[List.getD,List.getElem?_eq_getElem (show j<aZ.length by omega),List.getElem?_eq_getElem (show j<bs.length by omega),List.getElem?_zipWith]
   rw[if_pos hj,hr,e3,Zo1 w _ (getD_lt ha j),Zo1 w _ (getD_lt hb j)];have ha1:=getD_lt ha j;have hb1:=getD_lt hb j;generalize aZ.getD j 0=x at *;generalize bs.getD j 0=y at *;rw[Nat.pow_succ]at ha1 hb1;have hxm:=Nat.mod_lt x hp;have hym:=Nat.mod_lt y hp;have hd:(2^w+x%2^w-y%2^w).testBit w=decide (y%2^w≤x%2^w):=by
    rw[Zo1 w _ (by rw[Nat.pow_succ];omega)];rw[decide_eq_decide];omega
   rw[hd];have hxe:x=x%2^w+if 2^w≤x then 2^w else 0:=by
    split
    ·rename_i h
     have:x/2^w=1:=by apply Nat.div_eq_of_lt_le<;>omega
     have:=Nat.div_add_mod x (2^w);rw[‹x/2^w=1›]at this;omega
    ·rw[Nat.mod_eq_of_lt (by omega)];rfl
   have hye:y=y%2^w+if 2^w≤y then 2^w else 0:=by
    split
    ·rename_i h
     have:y/2^w=1:=by apply Nat.div_eq_of_lt_le<;>omega
     have:=Nat.div_add_mod y (2^w);rw[‹y/2^w=1›]at this;omega
    ·rw[Nat.mod_eq_of_lt (by omega)];rfl
   have htt:(2^w).testBit w=true:=by rw[Nat.testBit_two_pow];simp
   rw[htt];generalize x%2^w=xm at *;generalize y%2^w=ym at *;by_cases c1:2^w≤x
   ·rw[if_pos c1]at hxe;by_cases c2:2^w≤y
    ·rw[if_pos c2]at hye;by_cases c3:ym≤xm
     ·have c4:¬ x<y:=by omega
      simp[c1,c2,c3,c4,hp64,hj]
     ·have c4:x<y:=by omega
      simp[c1,c2,c3,c4,hp64,hj]
    ·have c4:¬ x<y:=by omega
     simp[c1,c2,c4,hp64,hj]
   ·rw[if_neg c1]at hxe;by_cases c2:2^w≤y
    ·have c4:x<y:=by omega
     simp[c1,c2,c4,hp64,hj]
    ·rw[if_neg c2]at hye;by_cases c3:ym≤xm
     ·have c4:¬ x<y:=by omega
      simp[c1,c2,c3,c4,hp64,hj]
     ·have c4:x<y:=by omega
      simp[c1,c2,c3,c4,hp64,hj]
  ·have:(2^w).testBit (p%(w+1))=false:=by rw[Nat.testBit_two_pow];simp;omega
   rw[if_pos hj,this];simp[hr]
 ·rw[if_neg hj];simp[hj]
end
end Go.Proofs.YtmcjknjlihgihaaGreatDoor.L
namespace Go.Proofs.YtmcjknjlihgihaaGreatDoor.L
def popN:Nat→Nat→Nat
 | 0,_=>0
 | n+1,x=>x%2+popN n (x/2)
theorem popN_le (n x:Nat):popN n x≤n:=by
 induction n generalizing x with
 | zero=>simp[popN]
 | succ n ih=>simp only[popN];have:=ih (x/2);omega
theorem popN_add (m n x:Nat):popN (m+n) x=popN m x+popN n (x/2^m):=by
 induction m generalizing x with
 | zero=>simp[popN]
 | succ m ih =>
  rw[Nat.succ_add];simp only[popN,ih];rw[Nat.div_div_eq_div_mul,Nat.pow_succ,Nat.mul_comm 2,Nat.add_assoc]
theorem popN_mod (m x:Nat):popN m (x%2^m)=popN m x:=by
 induction m generalizing x with
 | zero=>simp[popN]
 | succ m ih =>
  simp only[popN];have e1:x%2^(m+1)%2=x%2:=Nat.mod_mod_of_dvd x ⟨2^m,by rw[Nat.pow_succ,Nat.mul_comm]⟩;have e2:x%2^(m+1)/2=x/2%2^m:=by
   rw[Nat.pow_succ,Nat.mul_comm,Nat.mod_mul_right_div_self]
  rw[e1,e2,ih]
theorem popN_snoc (n x:Nat):popN (n+1) x=popN n x+if x.testBit n then 1 else 0:=by
 rw[popN_add];simp only[popN,Nat.add_zero];rw[Nat.testBit_eq_decide_div_mod_eq];have:x/2^n%2=0∨x/2^n%2=1:=by omega
 rcases this with h | h<;>simp[h]
theorem and_join (w x y X Y:Nat) (hx:x<2^w) (hy:y<2^w):(x+2^w*X) &&& (y+2^w*Y)=(x &&& y)+2^w*(X &&& Y):=by
 apply Nat.eq_of_testBit_eq;intro i;have hxy:x &&& y<2^w:=Nat.lt_of_le_of_lt Nat.and_le_left hx;rw[Nat.testBit_and,Nat.add_comm x,Nat.add_comm y,Nat.add_comm (x &&& y),Nat.testBit_two_pow_mul_add _ hx,Nat.testBit_two_pow_mul_add _ hy,Nat.testBit_two_pow_mul_add _ hxy]
 split<;>simp[Nat.testBit_and]
theorem Z1w:∀ b:Fin 256,∀ e:Fin 2,(b.val/2+128*e.val) &&& 85=b.val/2 &&& 85:=by decide +kernel
theorem Z16:∀ b:Fin 256,∀ e:Fin 4,(b.val/4+64*e.val) &&& 51=b.val/4 &&& 51:=by decide +kernel
theorem Z19:∀ b:Fin 256,∀ e:Fin 16,(b.val/16+b.val+16*e.val) &&& 15=(b.val/16+b.val) &&& 15:=by decide +kernel
def f1 (b:Nat):Nat:=(b/2 &&& 85)+(b &&& 85)
def f2 (b:Nat):Nat:=(b/4 &&& 51)+(b &&& 51)
def f3 (b:Nat):Nat:=(b/16+b) &&& 15
theorem f123:∀ b:Fin 256,f3 (f2 (f1 b.val))=popN 8 b.val∧f1 b.val<256∧f2 (f1 b.val)≤68∧f2 (f1 b.val)%16≤4:=by decide +kernel
theorem Z2e (bs:List Nat) (h:∀ b∈bs,b<256):(wordOf 8 bs/2 &&& wordOf 8 (bs.map fun _=>85))+(wordOf 8 bs &&& wordOf 8 (bs.map fun _=>85))=wordOf 8 (bs.map f1):=by
 induction bs with
 | nil=>simp[wordOf]
 | cons b bs ih =>
  have hb:=h b (by simp);have ih:=ih fun x hx=>h x (by simp[hx])
  simp only[List.map_cons,wordOf];generalize wordOf 8 bs=X at *;generalize wordOf 8 (bs.map fun _=>85)=M at *;have e:(b+2^8*X)/2=(b/2+128*(X%2))+2^8*(X/2):=by omega
  rw[e,and_join 8 _ 85 _ M (by omega) (by omega),and_join 8 b 85 X M (by omega) (by omega)];have hs:=Z1w ⟨b,hb⟩ ⟨X%2,by omega⟩;simp only at hs;rw[hs,← ih,f1];omega
theorem Z2b (bs:List Nat) (h:∀ b∈bs,b<256):(wordOf 8 bs/4 &&& wordOf 8 (bs.map fun _=>51))+(wordOf 8 bs &&& wordOf 8 (bs.map fun _=>51))=wordOf 8 (bs.map f2):=by
 induction bs with
 | nil=>simp[wordOf]
 | cons b bs ih =>
  have hb:=h b (by simp);have ih:=ih fun x hx=>h x (by simp[hx])
  simp only[List.map_cons,wordOf];generalize wordOf 8 bs=X at *;generalize wordOf 8 (bs.map fun _=>51)=M at *;have e:(b+2^8*X)/4=(b/4+64*(X%4))+2^8*(X/4):=by omega
  rw[e,and_join 8 _ 51 _ M (by omega) (by omega),and_join 8 b 51 X M (by omega) (by omega)];have hs:=Z16 ⟨b,hb⟩ ⟨X%4,by omega⟩;simp only at hs;rw[hs,← ih,f2];omega
theorem Z2c (bs:List Nat) (h:∀ b∈bs,b≤68∧b%16≤4):(wordOf 8 bs/16+wordOf 8 bs) &&& wordOf 8 (bs.map fun _=>15)=wordOf 8 (bs.map f3)∧wordOf 8 bs%16≤4:=by
 induction bs with
 | nil=>simp[wordOf]
 | cons b bs ih =>
  have hb:=h b (by simp);have ih:=ih fun x hx=>h x (by simp[hx])
  simp only[List.map_cons,wordOf];generalize wordOf 8 bs=X at *;generalize wordOf 8 (bs.map fun _=>15)=M at *;have e:(b+2^8*X)/16+(b+2^8*X)=(b/16+b+16*(X%16))+2^8*(X/16+X):=by omega
  rw[e,and_join 8 _ 15 _ M (by omega) (by omega)];have hs:=Z19 ⟨b,by omega⟩ ⟨X%16,by omega⟩;simp only at hs;rw[hs,ih.1,f3];omega
def swar3 (x:Nat):Nat :=
 let a:=(x/2 &&& 6148914691236517205)+(x &&& 6148914691236517205)
 let b:=(a/4 &&& 3689348814741910323)+(a &&& 3689348814741910323)
 (b/16+b) &&& 1085102592571150095
theorem Zsu (x:Nat) (hx:x<18446744073709551616):swar3 x=wordOf 8 ((List.range 8).map fun j=>popN 8 (x/2^(j*8)%2^8)):=by
 have hw:=wordOf_lanes 8 8 x (by simpa using hx);obtain⟨bs,hbs⟩:∃ bs,(List.range 8).map (fun j=>x/2^(j*8)%2^8)=bs:=⟨_,rfl⟩;have hl:bs.length=8:=by rw[← hbs];simp
 have hb:∀ b∈bs,b<256:=by
  intro b hb;rw[← hbs]at hb;obtain⟨j,_,rfl⟩:=List.mem_map.1 hb;exact Nat.mod_lt _ (by decide)
 rw[hbs]at hw;have hm:∀(ds:List Nat) (c:Nat),ds.length=8→wordOf 8 (ds.map fun _=>c)=wordOf 8 (List.replicate 8 c):=by
  intro ds c hd;have:ds.map (fun _=>c)=List.replicate 8 c:=by rw[← hd];exact List.map_const' ..
  rw[this]
 have m0:wordOf 8 (List.replicate 8 85)=6148914691236517205:=by decide
 have m1:wordOf 8 (List.replicate 8 51)=3689348814741910323:=by decide
 have m2:wordOf 8 (List.replicate 8 15)=1085102592571150095:=by decide
 have h1:=Z2e bs hb;rw[hm bs 85 hl,m0,hw]at h1;have h2:=Z2b (bs.map f1) (by intro b hb';obtain⟨c,hc,rfl⟩:=List.mem_map.1 hb';exact(f123 ⟨c,hb c hc⟩).2.1);rw[hm (bs.map f1) 51 (by simpa using hl),m1]at h2;have h3:=(Z2c ((bs.map f1).map f2) (by
  intro b hb';obtain⟨c,hc,rfl⟩:=List.mem_map.1 hb';obtain⟨d,hd,rfl⟩:=List.mem_map.1 hc;exact(f123 ⟨d,hb d hd⟩).2.2)).1
 rw[hm ((bs.map f1).map f2) 15 (by simpa using hl),m2]at h3;unfold swar3;simp only;rw[h1,h2,h3];rw[show (List.range 8).map (fun j=>popN 8 (x/2^(j*8)%2^8))=bs.map (popN 8)from by rw[← hbs,List.map_map];rfl];rw[List.map_map,List.map_map];congr 1
 apply List.map_congr_left;intro b hb';exact(f123 ⟨b,hb b hb'⟩).1
def swar (x:Nat):Nat :=
 let a:=swar3 x
 let b:=a+a/256
 let c:=b+b/65536
 (c+c/4294967296)%128
theorem swar_pop (x:Nat) (hx:x<18446744073709551616):swar x=popN 64 x∧swar3 x<1000000000000000000:=by
 have e:popN 64 x=popN 8 (x/2^(0*8)%2^8)+(popN 8 (x/2^(1*8)%2^8)+(popN 8 (x/2^(2*8)%2^8)+(popN 8 (x/2^(3*8)%2^8)+(popN 8 (x/2^(4*8)%2^8) +
   (popN 8 (x/2^(5*8)%2^8)+(popN 8 (x/2^(6*8)%2^8)+popN 8 (x/2^(7*8)%2^8))))))):=by
  simp only[popN_mod];rw[show (64:Nat)=8+56 from rfl,popN_add,show (56:Nat)=8+48 from rfl,popN_add,show (48:Nat)=8+40 from rfl,popN_add,show (40:Nat)=8+32 from rfl,popN_add,
   show (32:Nat)=8+24 from rfl,popN_add,show (24:Nat)=8+16 from rfl,popN_add,show (16:Nat)=8+8 from rfl,popN_add]
  simp only[Nat.div_div_eq_div_mul,← Nat.pow_add];simp
 have hl:∀ y,popN 8 y≤8:=popN_le 8;unfold swar;rw[Zsu x hx,e];simp only[show List.range 8=[0,1,2,3,4,5,6,7]from rfl,List.map_cons,List.map_nil,wordOf];have h0:=hl (x/2^(0*8)%2^8);have h1:=hl (x/2^(1*8)%2^8);have h2:=hl (x/2^(2*8)%2^8);have h3:=hl (x/2^(3*8)%2^8);have h4:=hl (x/2^(4*8)%2^8);have h5:=hl (x/2^(5*8)%2^8);have h6:=hl (x/2^(6*8)%2^8);have h7:=hl (x/2^(7*8)%2^8);generalize popN 8 (x/2^(0*8)%2^8)=c0 at *;generalize popN 8 (x/2^(1*8)%2^8)=c1 at *;generalize popN 8 (x/2^(2*8)%2^8)=c2 at *;generalize popN 8 (x/2^(3*8)%2^8)=c3 at *;generalize popN 8 (x/2^(4*8)%2^8)=c4 at *;generalize popN 8 (x/2^(5*8)%2^8)=c5 at *;generalize popN 8 (x/2^(6*8)%2^8)=c6 at *;generalize popN 8 (x/2^(7*8)%2^8)=c7 at *;clear hl e hx;obtain⟨x3,hx3⟩:∃ x3,c0+2^8*(c1+2^8*(c2+2^8*(c3+2^8*(c4+2^8*(c5+2^8*(c6+2^8*(c7+2^8*0)))))))=x3:=⟨_,rfl⟩;rw[hx3];have e3:x3=1*c0+256*c1+65536*c2+16777216*c3+4294967296*c4+1099511627776*c5+281474976710656*c6+72057594037927936*c7:=by omega
 clear hx3;have d1:x3/256=1*c1+256*c2+65536*c3+16777216*c4+4294967296*c5+1099511627776*c6+281474976710656*c7:=by omega
 obtain⟨x4,hx4⟩:∃ x4,x3+x3/256=x4:=⟨_,rfl⟩;simp only[hx4];have e4:x4=1*c0+257*c1+65792*c2+16842752*c3+4311744512*c4+1103806595072*c5+282574488338432*c6+72339069014638592*c7:=by omega
 have hb:x3<1000000000000000000:=by omega
 clear hx4 d1 e3;have d2:x4/65536=1*c2+257*c3+65792*c4+16842752*c5+4311744512*c6+1103806595072*c7:=by omega
 obtain⟨x5,hx5⟩:∃ x5,x4+x4/65536=x5:=⟨_,rfl⟩;simp only[hx5];have e5:x5=1*c0+257*c1+65793*c2+16843009*c3+4311810304*c4+1103823437824*c5+282578800082944*c6+72340172821233664*c7:=by omega
 clear hx5 d2 e4;have d3:x5/4294967296=1*c4+257*c5+65793*c6+16843009*c7:=by omega
 refine⟨?_,hb⟩;rw[d3,e5];omega
end Go.Proofs.YtmcjknjlihgihaaGreatDoor.L
namespace Go.Proofs.YtmcjknjlihgihaaGreatDoor
open Go.RowKit
theorem Zhy (x q:Nat) (hx:x<18446744073709551616):(bits BinOp.and IntKind.u64 ((x:Int)/2^q) 1==1)=x.testBit q:=by
 have e:((x:Int)/2^q)=((x/2^q:Nat):Int):=by simp
 have h1:x/2^q≤x:=Nat.div_le_self _ _;rw[e,show (1:Int)=((1:Nat):Int)from rfl,u64_and_nat _ _ (by omega) (by decide),nat_mask1];rw[Nat.testBit_eq_decide_div_mod_eq];have:x/2^q%2=0∨x/2^q%2=1:=by omega
 rcases this with h | h<;>rw[h]<;>rfl
theorem Zne (v wd:Nat) (hv:v<2^64) (hb:∀ i,wd≤i→i<64→v.testBit i=false):v<2^wd:=by
 apply Nat.lt_pow_two_of_testBit;intro i hi;rcases Nat.lt_or_ge i 64 with h | h
 ·exact hb i hi h
 ·exact Nat.testBit_lt_two_pow (Nat.lt_of_lt_of_le hv (Nat.pow_le_pow_right (by omega) h))
set_option maxHeartbeats 400000 in
theorem Zrg (v wd:Nat) (w:World) (h1:v<18446744073709551616) (h3:wd≤64) :
  Calls Tryz.prog 182 #[.int .u64 v,.int .i64 wd] w fun e w'=>e=.returned (.bool (decide (v<2^wd)))∧w'=w:=by
 go_enter Tryz.func182,Tryz.ntmps182;go_wp2;go_loop [5] (fun i=>∃ k:Nat,wd≤k∧k≤64∧i=.int .i64 k∧∀ t,wd≤t→t<k→v.testBit t=false) (fun i=>64-(intOf i).toNat)
 case atStart=>exact⟨wd,by omega,by omega,rfl,fun t h1 h2=>by omega⟩
 case round =>
  obtain⟨k,hk,hk2,rfl,hall⟩:=hrel;have HA:=hid hall;clear hall;by_cases hlt:k<64
  ·have HT:=hid (Zhy v k h1);go_wp2
   ·have h:(bits BinOp.and IntKind.u64 (↑v/2^k) 1==1)=true:=by assumption
    go_ret;refine⟨Zae ?_,rfl⟩;rw[HT.out]at h
    symm
    rw[decide_eq_false_iff_not];intro hc;have:v.testBit k=false:=Nat.testBit_lt_two_pow (Nat.lt_of_lt_of_le hc (Nat.pow_le_pow_right (by omega) hk));rw[this]at h;cases h
   ·have h:(bits BinOp.and IntKind.u64 (↑v/2^k) 1==1)=false:=by assumption
    go_round
    case rel =>
     refine⟨k+1,by omega,by omega,by go_num,fun t ht1 ht2=>?_⟩;by_cases htk:t=k
     ·subst htk;rw[← HT.out];exact h
     ·exact HA.out t ht1 (by omega)
    case measure=>simp[intOf];omega
  ·go_wp2;go_ret;refine⟨Zae ?_,rfl⟩
   symm
   rw[decide_eq_true_eq];exact Zne v wd h1 fun i hi1 hi2=>HA.out i hi1 (by omega)
theorem Zis (j t wd p c:Nat) (w:World) (h0:0<wd) (h:wd≤64) (ht:t<wd) (hj:j≤65536) (hp:64/wd=p) (hc:64*(j/p)+j%p*wd+t=c) :
  Calls Tryz.prog 183 #[.int .i64 j,.int .i64 t,.int .i64 wd] w fun e w'=>e=.returned (.int .i64 c)∧∃ n,w'=w.drewN n:=by
 have hpp:=L.per_pos h0 h;have hp64:64/wd≤64:=Nat.div_le_self _ _;have HP:=hid hp;rw[hp]at hpp hp64;obtain⟨a,ha⟩:∃ a,j/p=a:=⟨_,rfl⟩;obtain⟨b,hb⟩:∃ b,j%p=b:=⟨_,rfl⟩;have ha':(j:Int)/(p:Int)=(a:Int):=by rw[← ha];simp
 have hb':(j:Int)%(p:Int)=(b:Int):=by rw[← hb];simp
 have hale:a≤j:=by rw[← ha];exact Nat.div_le_self _ _
 have hble:b<p:=by rw[← hb];exact Nat.mod_lt _ hpp
 obtain⟨q,hq⟩:∃ q,b*wd=q:=⟨_,rfl⟩;have hq':(b:Int)*(wd:Int)=(q:Int):=by rw[← hq];simp
 have hq64:q≤64:=by
  rw[← hq];exact Nat.le_trans (Nat.mul_le_mul_right wd (Nat.le_of_lt hble)) (by rw[← hp];exact L.per_mul wd)
 rw[ha,hb,hq]at hc;have HC:=hid hc;clear hp hc ha hb hq;have hpi:(64:Int)/(wd:Int)=(p:Int):=by rw[← HP.out];simp
 have hne:¬ ((p:Int)=0):=by omega
 go_enter Tryz.func183,Tryz.ntmps183;go_wp2;go_quiet (fail)
 go_wp2
 all_goals go_ret
 refine⟨Zc0 ?_,_,rfl⟩;rw[← HC.out];simp
def Zar (xs:List Nat) (i:Nat):Bool:=(xs.getD (i/64) 0).testBit (i%64)
set_option maxHeartbeats 400000 in
theorem Zf4 (v:Value) (xs:List Nat) (i:Nat) (w:World) (hx:Rd w v xs.length 1 (u64s xs)) (hv:∀ x∈xs,x<18446744073709551616) (hl:xs.length≤maxLen) (hi:i≤9223372036854775807) :
  Calls Tryz.prog 133 #[v,.int .i64 i] w fun e w'=>e=.returned (.bool (Zar xs i))∧w'=w:=by
 unfold maxLen at hl;obtain⟨A,ca,rfl,hlc,hcm,hA⟩:=hx.form;clear hx hlc hcm;obtain⟨d,hd⟩:∃ d,i/64=d:=⟨_,rfl⟩;obtain⟨r,hr⟩:∃ r,i%64=r:=⟨_,rfl⟩;have hd':(i:Int)/64=(d:Int):=by omega
 have hr':(i:Int)%64=(r:Int):=by omega
 have hr64:r<64:=by omega
 have hdi:d≤i:=by omega
 have HB:Hid (Zar xs i=(xs.getD d 0).testBit r):=by refine hid ?_;rw[Zar,hd,hr]
 clear hd hr;by_cases hlt:d<xs.length
 ·obtain⟨b,o,rfl,hs⟩:=hA (by omega);have c1:=hs.word d hlt;have hvd:=hv (xs.getD d 0) (by simp[List.getD,List.getElem?_eq_getElem hlt]);have HT:=hid (Zhy (xs.getD d 0) r hvd);clear hA hs hvd;generalize xs.getD d 0=x at *;go_enter Tryz.func133,Tryz.ntmps133;go_wp2;go_ret;exact⟨Zae (by rw[HB.out,HT.out]),rfl⟩
 ·have hz:xs.getD d 0=0:=by simp[List.getD,List.getElem?_eq_none (show xs.length≤d by omega)]
  rw[hz,Nat.zero_testBit]at HB;clear hz hA;go_enter Tryz.func133,Tryz.ntmps133;go_wp2;go_ret;exact⟨Zae (by rw[HB.out]),rfl⟩
set_option maxRecDepth 20000
theorem Zul (x q wd:Nat) (hx:x<18446744073709551616) (hw:wd≤64) :
  bits BinOp.and IntKind.u64 ((x:Int)/2^q) ((2^wd-1:Nat):Int)=((x/2^q%2^wd:Nat):Int):=by
 have e:((x:Int)/2^q)=((x/2^q:Nat):Int):=by simp
 have h:=Zcw hw;have h0:0<2^wd:=Nat.pow_pos (by omega);have h1:x/2^q≤x:=Nat.div_le_self _ _;rw[e,u64_and_nat _ _ (by omega) (by omega),Nat.and_two_pow_sub_one_eq_mod]
def lay (cs:List Value) (o:Nat) (vs:List Value):List Value:=cs.take o++vs++cs.drop (o+vs.length)
def Zid (wd:Int) (xs:List Nat):Bool:=Zj2 wd xs.length&&xs.all fun x=>decide (x<2^wd.toNat)
def Zp3 (wd:Int) (xs:List Nat):List Nat:=if Zid wd xs=true then L.packL wd.toNat xs else []
def Zfk (wd n:Int) (xs:List Nat):List Nat:=if Za9 wd n xs=true then L.lanesL wd.toNat n.toNat xs else []
end Go.Proofs.YtmcjknjlihgihaaGreatDoor
