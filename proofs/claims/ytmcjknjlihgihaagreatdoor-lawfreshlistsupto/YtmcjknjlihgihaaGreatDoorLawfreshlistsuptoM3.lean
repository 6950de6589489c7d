/- slices.BinarySearch over ints. -/
import Derived.Lib.TrailingZeros
import Derived.Test.YtmcjknjlihgihaaGreatDoorLawfreshlistsuptoM2
set_option linter.unusedVariables false
set_option linter.unusedSimpArgs false
set_option linter.unnecessarySimpa false
set_option maxRecDepth 20000
namespace Go.Proofs.YtmcjknjlihgihaaGreatDoor
open Go.RowKit
theorem Zyh {wd:Nat} (h0:0<wd) (h:wd≤64) (xs:List Nat) (j t p d s c:Nat) (hp:64/wd=p) (hd:j/p=d) (hs:j%p*wd+t=s) (ht:t<wd) (hs64:s<64) (hc:c=64*d+s) :
  Za0 xs c=(L.laneOf wd xs j).testBit t:=by
 have h1:c/64=d:=by omega
 have h2:c%64=s:=by omega
 rw[Za0,h1,h2];simp only[L.laneOf,show wd≠0 from by omega,if_false,hp,hd];rw[Nat.testBit_mod_two_pow,Nat.testBit_div_two_pow];simp[ht,← hs,Nat.add_comm]
theorem Zu0 (y t:Nat) (hb:y.testBit t=true):y%2^t ||| 2^t=y%2^(t+1):=by
 rw[L.mod_succ_bit,if_pos hb,L.or_bit _ _ (Nat.mod_lt _ (Nat.pow_pos (by omega)))]
theorem Zz7 (A B:List Value) (x:Value) (i:Nat) (hi:i=A.length):(A++[x]++B)[i]? = some x:=by subst hi;simp
theorem Z0e (A B:List Value) (x y:Value) (i:Nat) (hi:i=A.length):(A++[x]++B).set i y=A++[y]++B:=by subst hi;simp
theorem Zqk (wd n:Nat) (hwd:wd≤64) (hn:n≤65536) (xs:List Nat):Zhy (wd:Int) (L.lanesL wd n xs)=true:=by
 simp only[Zhy,Zjt,Bool.and_eq_true,List.all_eq_true,decide_eq_true_eq,Int.toNat_natCast,L.lanesL_length];exact⟨by omega,fun x hx=>L.lanesL_lt wd n xs x hx⟩
set_option maxHeartbeats 4000000 in
theorem Zov (v:Value) (xs:List Nat) (wd n:Int) (w:World) (hx:Rd w v xs.length 1 (u64s xs)) (hv:∀ x∈xs,x<18446744073709551616) (hl:xs.length≤maxLen) :
  Calls Tryz.prog 239 #[v,.int .i64 wd,.int .i64 n] w fun e w'=>∃ r,e=.returned (.tuple #[r,.bool (Za8 wd n xs)]) ∧
   w'.ownsRow w.heap.size 73 1 r (Ze6 wd n xs).length (u64s (Ze6 wd n xs))∧Below w.heap.size w w':=by
 have HLM:=hid hl;unfold maxLen at hl;obtain⟨A,ca,rfl,hlc,hcm,hA⟩:=hx.form;have HX:=hid hx;clear hlc hcm hx;by_cases hin:0≤wd∧wd≤64∧0≤n∧n≤65536
 ·obtain⟨wd,rfl⟩:=Int.eq_ofNat_of_zero_le hin.1;obtain⟨n,rfl⟩:=Int.eq_ofNat_of_zero_le hin.2.2.1;have hwd:wd≤64:=by omega
  have hn:n≤65536:=by omega
  clear hin;go_enter Tryz.func239,Tryz.ntmps239;go_wp2;refine Zda 73 (.int .u64 0) 8 Tryz.underlying37 Tryz.info45 rfl n (by omega) (by omega) (by omega) (by unfold maxLen;omega) ?_;intro w1 hrow hb1 hsz1;have Qx:=hid hsz1;clear hsz1;go_wp2;go_loopw [33] (fun i wr=>∃ j:Nat,j≤n∧i=.int .i64 j∧Row wr w.heap.size 73 (u64s ((L.lanesL wd n xs).take j)++List.replicate (n-j) (.int .u64 0))∧Below w.heap.size w wr∧Hid (wr.heap.size=w.heap.size+1)) (fun i _=>n-(intOf i).toNat)
  case atStart=>exact⟨0,by omega,rfl,by simpa [u64s]using hrow,hb1,Qx⟩
  case round =>
   obtain⟨j,hj,rfl,hr,hb,hz⟩:=hrel;clear hrow hb1 Qx;have HR:=hid hr;clear hr;by_cases hlt:j<n
   ·have hll:(L.lanesL wd n xs).length=n:=L.lanesL_length _ _ _;have Jz:Hid ((L.lanesL wd n xs).take (j+1)=(L.lanesL wd n xs).take j++[L.laneOf wd xs j]):=by
     refine hid ?_;rw[List.take_succ_eq_append_getElem (by omega)];congr 1
     simp[L.lanesL]
    have Yl:Hid ((u64s ((L.lanesL wd n xs).take j)).length=j):=by refine hid ?_;simp[u64s];omega
    have HY:=hid (L.laneOf_lt wd xs j);go_wp2;have hsplit:List.replicate (n-j) (Value.int .u64 0)=[Value.int .u64 ((L.laneOf wd xs j%2^0:Nat):Int)]++List.replicate (n-j-1) (Value.int .u64 0):=by
     obtain⟨k,hk⟩:∃ k,n-j=k+1:=⟨n-j-1,by omega⟩;rw[hk,List.replicate_succ,Nat.pow_zero,Nat.mod_one];rfl
    rw[hsplit,← List.append_assoc]at HR;clear hsplit;generalize hAj:u64s ((L.lanesL wd n xs).take j)=Aj at *;have HAJ:=hid hAj;clear hAj hll;go_loopw [10] (fun i wv=>∃ t:Nat,t≤wd∧i=.int .i64 t∧Row wv w.heap.size 73 (Aj++[.int .u64 ((L.laneOf wd xs j%2^t:Nat):Int)]++List.replicate (n-j-1) (.int .u64 0))∧Below w.heap.size w wv∧Hid (wv.heap.size=w.heap.size+1)) (fun i _=>wd-(intOf i).toNat)
    case atStart=>exact⟨0,by omega,rfl,HR.out,hb,hz⟩
    case round =>
     obtain⟨t,ht,rfl,hr,hb',hz'⟩:=hrel;clear hb hz HR;have HR:=hid hr;clear hr;by_cases htw:t<wd
     ·obtain⟨p,hp⟩:∃ p,64/wd=p:=⟨_,rfl⟩;have hpp:=L.per_pos (w:=wd) (by omega) hwd;rw[hp]at hpp;obtain⟨d,hd⟩:∃ d,j/p=d:=⟨_,rfl⟩;obtain⟨s,hs⟩:∃ s,j%p*wd+t=s:=⟨_,rfl⟩;have hs64:s<64:=by
       have h1:(j%p+1)*wd≤p*wd:=Nat.mul_le_mul_right wd (Nat.mod_lt _ hpp);have h2:p*wd≤64:=by rw[← hp];exact L.per_mul wd
       rw[Nat.add_mul,Nat.one_mul]at h1;omega
      obtain⟨c,hc⟩:∃ c,64*(j/p)+j%p*wd+t=c:=⟨_,rfl⟩;have hdj:d≤j:=by rw[← hd];exact Nat.div_le_self _ _
      have hcd:c=64*d+s:=by rw[← hc,hd,← hs];omega
      have ZV:=hid (Zyh (by omega) hwd xs j t p d s c hp hd hs htw hs64 hcd);have hcle:c≤64*65536+64:=by omega
      have HC:=hid hc;have HP:=hid hp;have hcell:wr.cell? ⟨w.heap.size,j,none⟩=some (.int .u64 ((L.laneOf wd xs j%2^t:Nat):Int)):=by
       rw[HR.out.cell];exact Zz7 _ _ _ _ Yl.out.symm
      have hfr:=HR.out.frozen j;have hy64:L.laneOf wd xs j%2^t<18446744073709551616:=by
       have h1:=Zcr hwd;have h2:=HY.out;have h3:=Nat.mod_le (L.laneOf wd xs j) (2^t);omega
      have Vi:=hid (Zhm (L.laneOf wd xs j%2^t) t hy64 (by omega));have HMB:=hid (Zu0 (L.laneOf wd xs j) t);have ZI:=hid (L.mod_succ_bit (L.laneOf wd xs j) t);clear hc hp hd hs hpp hcd;generalize L.laneOf wd xs j=y at *;cases htb:y.testBit t
      ·have Qc:Hid (Za0 xs c=false):=by refine hid ?_;rw[ZV.out,htb]
       have YW:Hid (y%2^(t+1)=y%2^t):=by refine hid ?_;rw[ZI.out,htb];rfl
       clear htb;generalize hq:y%2^t=q at *;have HQ:=hid hq;clear hq;go_wp2_with (first
        | (go_at_call 183;refine(Zh3 j t wd p c _ (by omega) hwd htw (by omega) HP.out HC.out).mono ?_;rintro e w2 ⟨rfl,nd,rfl⟩)
        | (go_at_call 133;refine(Zfy _ xs c _ (HX.out.mono (Go.below_drewN hb' nd)) hv HLM.out (by omega)).mono ?_;rintro e w2 ⟨rfl,rfl⟩;rw[Qc.out]))
       go_roundw
       case rel=>exact⟨t+1,by omega,by go_num,by rw[YW.out];exact HR.out,Go.below_drewN hb' _,hz'⟩
       case measure=>simp[intOf];omega
      ·have Qc:Hid (Za0 xs c=true):=by refine hid ?_;rw[ZV.out,htb]
       have YW:=hid (HMB.out htb);clear htb;generalize hq:y%2^t=q at *;have HQ:=hid hq;clear hq;go_wp2_with (first
        | (go_at_call 183;refine(Zh3 j t wd p c _ (by omega) hwd htw (by omega) HP.out HC.out).mono ?_;rintro e w2 ⟨rfl,nd,rfl⟩)
        | (go_at_call 133;refine(Zfy _ xs c _ (HX.out.mono (Go.below_drewN hb' nd)) hv HLM.out (by omega)).mono ?_;rintro e w2 ⟨rfl,rfl⟩;rw[Qc.out]))
       go_roundw
       case rel =>
        refine⟨t+1,by omega,by go_num,?_,Zac (Go.below_drewN hb' nd) _ _ _ (Nat.le_refl _),?_⟩
        ·rw[Vi.out,YW.out];have hs2:=(HR.out.mono (Go.below_drewN (Below.refl _ wr) nd)).set j (.int .u64 ((y%2^(t+1):Nat):Int));rw[Z0e _ _ _ _ _ Yl.out.symm]at hs2;exact hs2
        ·show _=_;rw[← hz'.out];simp[World.setCell]
       case measure=>simp[intOf];omega
     ·obtain rfl:t=wd:=by omega
      go_wp2;go_roundw
      case rel =>
       refine⟨j+1,by omega,by go_num,?_,hb',hz'⟩;have hr:=HR.out;rw[Nat.mod_eq_of_lt HY.out]at hr;rw[Jz.out,Ze4,HAJ.out,← Nat.sub_sub n j 1];exact hr
      case measure=>simp[intOf];omega
   ·have hjn:j=n:=by omega
    have hr:=HR.out;rw[hjn,List.take_of_length_le (by rw[L.lanesL_length];omega),Nat.sub_self,List.replicate_zero,List.append_nil]at hr;have HR:=hid hr;clear hr;have hll:(L.lanesL wd n xs).length=n:=L.lanesL_length _ _ _;have hlv:∀ x∈L.lanesL wd n xs,x<18446744073709551616:=fun x hx=>Nat.lt_of_lt_of_le (L.lanesL_lt wd n xs x hx) (Zcr hwd)
    have hokv:=Zqk wd n hwd hn xs;have hpr:Zpo (wd:Int) (L.lanesL wd n xs)=L.packL wd (L.lanesL wd n xs):=by rw[Zpo,if_pos hokv,Int.toNat_natCast]
    have hokp:Za8 (wd:Int) (n:Int) xs=decide (L.packL wd (L.lanesL wd n xs)=xs):=by simp[Za8,Zjt];omega
    have HUN:Hid (L.packL wd (L.lanesL wd n xs)=xs→Ze6 (wd:Int) (n:Int) xs=L.lanesL wd n xs):=by
     intro h;rw[Ze6,hokp,h];simp
    have HUN2:Hid (¬ L.packL wd (L.lanesL wd n xs)=xs→Ze6 (wd:Int) (n:Int) xs=[]):=by
     intro h;rw[Ze6,hokp];simp[h]
    have hpl:(L.packL wd (L.lanesL wd n xs)).length≤65536:=by
     rw[L.packL_length,hll];exact Nat.le_trans (L.nWords_le hwd) hn
    have VW:=hid hokp;have Yf:=hid hpr;have HOKV:=hid hokv;have Zz:=hid hlv;have Y9:=hid hll;clear hokp hpr hokv hlv hll;obtain rfl:j=n:=hjn;generalize L.lanesL wd j xs=ls at *;by_cases hne:(L.packL wd ls).length=xs.length
    ·have e1:(((L.packL wd ls).length:Int) != (xs.length:Int))=false:=by rw[hne];simp
     have HNE:=hid hne;clear hne;go_wp2_with (go_at_call 150;refine(Zma _ ls wd _ (by rw[Y9.out];exact Row.rd' HR.out (by simp[u64s];exact Y9.out) (by unfold maxLen;omega)) Zz.out (by rw[Y9.out];unfold maxLen;omega)).mono ?_;rintro e w2 ⟨r2,rfl,ho2,hb2⟩;rw[HOKV.out];rw[Yf.out]at ho2;obtain⟨A2,cap2,rfl,hnc2,hcm2,hlen2,hform2⟩:=Zaj ho2;have HFO2:=hid hform2;clear hform2 hlen2 ho2 hcm2 hnc2)
     have hb3:=Below.then' hb hb2 hb.size;have Qk:=hid hb3;have hr2:=HR.out.mono hb2;have Qd:Hid (w2.ownsRow w.heap.size 73 1 (.slice (some ⟨w.heap.size,0,none⟩) j j) ls.length (u64s ls)):=by
      refine hid ?_;have:=hr2.owns (B:=w.heap.size) (Nat.le_refl _) (n:=j) (by simp[u64s];exact Y9.out) (by unfold maxLen;omega);rw[Y9.out];exact this
     clear hb2 hb hr2;go_loop [70] (fun i=>∃ k:Nat,k≤(L.packL wd ls).length∧i=.int .i64 k∧(L.packL wd ls).take k=xs.take k) (fun i=>(L.packL wd ls).length-(intOf i).toNat)
     case atStart=>exact⟨0,by omega,rfl,rfl⟩
     case round =>
      obtain⟨k,hk,rfl,hp⟩:=hrel;have HP:=hid hp;clear hp;generalize hpk:L.packL wd ls=pk at *;have HPK:=hid hpk;clear hpk;by_cases hlt':k<pk.length
      ·have hkx:k<xs.length:=by have:=HNE.out;omega
       obtain⟨b,o,rfl,hs⟩:=hA (by omega);obtain⟨g2,rfl,_,_,hc2,_⟩:=HFO2.out (by omega);have c1:=(hs.mono Qk.out).word k hkx;have c2:w2.cell? ⟨g2,k,none⟩=some (.int .u64 ((pk.getD k 0:Nat):Int)):=by rw[hc2 k hlt'];exact Zhl pk k hlt'
       have HE:Hid (pk.getD k 0=xs.getD k 0→pk.take (k+1)=xs.take (k+1)):=Zv3 pk xs k HNE.out HP.out hlt';have HF:Hid (pk.getD k 0≠xs.getD k 0→pk≠xs):=fun h e=>h (by rw[e])
       generalize pk.getD k 0=f1 at *;generalize xs.getD k 0=f2 at *;clear hA hs hc2;go_wp2
       ·have h:((f1:Int) != (f2:Int))=true:=by assumption
        go_ret2
        have hne:¬ pk=xs:=HF.out (by rw[bne_iff_ne]at h;omega);refine⟨.slice none 0 0,?_,by rw[HUN2.out hne];exact World.ownsRow_nil _ _ _ _,Qk.out⟩;rw[VW.out,decide_eq_false hne];rfl
       ·have h:((f1:Int) != (f2:Int))=false:=by assumption
        go_round
        case rel=>exact⟨k+1,by omega,by go_num,HE.out (by rw[bne_eq_false_iff_eq]at h;omega)⟩
        case measure=>simp[intOf];omega
      ·go_wp2;go_ret2
       have heq:pk=xs:=by
        have h1:=HP.out;rw[show k=pk.length from by omega,List.take_length,HNE.out,List.take_length]at h1;exact h1
       refine⟨.slice (some ⟨w.heap.size,0,none⟩) j j,?_,by rw[HUN.out heq];exact Qd.out,Qk.out⟩;rw[VW.out,decide_eq_true heq];rfl
    ·have e1:(((L.packL wd ls).length:Int) != (xs.length:Int))=true:=by rw[bne_iff_ne];omega
     have hne2:¬ L.packL wd ls=xs:=fun h=>hne (by rw[h])
     have HNE:=hid hne2;clear hne hne2;go_wp2_with (go_at_call 150;refine(Zma _ ls wd _ (by rw[Y9.out];exact Row.rd' HR.out (by simp[u64s];exact Y9.out) (by unfold maxLen;omega)) Zz.out (by rw[Y9.out];unfold maxLen;omega)).mono ?_;rintro e w2 ⟨r2,rfl,ho2,hb2⟩;rw[HOKV.out];rw[Yf.out]at ho2;obtain⟨A2,cap2,rfl,hnc2,hcm2,hlen2,hform2⟩:=Zaj ho2;have HFO2:=hid hform2;clear hform2 hlen2 ho2 hcm2 hnc2)
     have hb3:=Below.then' hb hb2 hb.size;have Qk:=hid hb3;have hr2:=HR.out.mono hb2;have Qd:Hid (w2.ownsRow w.heap.size 73 1 (.slice (some ⟨w.heap.size,0,none⟩) j j) ls.length (u64s ls)):=by
      refine hid ?_;have:=hr2.owns (B:=w.heap.size) (Nat.le_refl _) (n:=j) (by simp[u64s];exact Y9.out) (by unfold maxLen;omega);rw[Y9.out];exact this
     clear hb2 hb hr2;go_ret2
     refine⟨.slice none 0 0,?_,by rw[HUN2.out HNE.out];exact World.ownsRow_nil _ _ _ _,Qk.out⟩;rw[VW.out,decide_eq_false HNE.out];rfl
 ·have hno:Za8 wd n xs=false:=Zcz xs hin;have hf:Ze6 wd n xs=[]:=by rw[Ze6,hno];rfl
  have HO:=hid hno;have HF:=hid hf;clear hno hf;go_enter Tryz.func239,Tryz.ntmps239;go_wp2
  all_goals go_ret2
  all_goals exact⟨.slice none 0 0,by rw[HO.out];rfl,by rw[HF.out];exact World.ownsRow_nil _ _ _ _,Below.refl _ _⟩
end Go.Proofs.YtmcjknjlihgihaaGreatDoor
set_option maxRecDepth 512
namespace Go.Proofs.YtmcjknjlihgihaaGreatDoor
def bmL (fl:List Bool):List Nat:=L.packL 1 (fl.map Bool.toNat)
def IsBm (n:Nat) (ws:List Nat) (f:Nat→Bool):Prop:=ws.length=L.nWords 1 n∧(∀ x∈ws,x<18446744073709551616)∧∀ i,i<64*ws.length→Za0 ws i=(decide (i<n)&&f i)
theorem Zjp (n:Nat):L.nWords 1 n=(n+63)/64:=by simp[L.nWords]
theorem Zj1 (n:Nat):n≤64*L.nWords 1 n:=by rw[Zjp];omega
theorem Zw8 (ws:List Nat) (i:Nat) (h:64*ws.length≤i):Za0 ws i=false:=by
 unfold Za0;rw[L.getD_out (i/64) (by omega)];simp
theorem Z1f {a b:List Nat} (hl:a.length=b.length) (ha:∀ x∈a,x<18446744073709551616) (hb:∀ x∈b,x<18446744073709551616) (h:∀ i,i<64*a.length→Za0 a i=Za0 b i):a=b:=by
 apply L.ext_getD hl;intro k hk;apply Nat.eq_of_testBit_eq;intro p;have hx:a.getD k 0<2^64:=by apply ha;simp[List.getD,List.getElem?_eq_getElem hk]
 have hy:b.getD k 0<2^64:=by apply hb;simp[List.getD,List.getElem?_eq_getElem (show k<b.length by omega)]
 by_cases hp:p<64
 ·have:=h (64*k+p) (by omega);unfold Za0 at this;rw[show (64*k+p)/64=k from by omega,show (64*k+p)%64=p from by omega]at this;exact this
 ·rw[Nat.testBit_lt_two_pow (Nat.lt_of_lt_of_le hx (Nat.pow_le_pow_right (by omega) (by omega))),Nat.testBit_lt_two_pow (Nat.lt_of_lt_of_le hy (Nat.pow_le_pow_right (by omega) (by omega)))]
theorem IsBm.unique {n:Nat} {a b:List Nat} {f:Nat→Bool} (ha:IsBm n a f) (hb:IsBm n b f):a=b :=
 Z1f (ha.1.trans hb.1.symm) ha.2.1 hb.2.1 fun i hi=>by rw[ha.2.2 i hi,hb.2.2 i (by rw[hb.1,← ha.1];exact hi)]
theorem Zug (ws:List Nat) (i:Nat):L.laneOf 1 ws i=(Za0 ws i).toNat:=by
 unfold L.laneOf Za0;rw[if_neg (by omega),Nat.div_one,Nat.mul_one,Nat.pow_one,Nat.testBit_eq_decide_div_mod_eq];have:ws.getD (i/64) 0/2^(i%64)%2=0∨ws.getD (i/64) 0/2^(i%64)%2=1:=by omega
 rcases this with h | h<;>rw[h]<;>rfl
theorem Zw0 {a b:Bool} (h:a.toNat=b.toNat):a=b:=by cases a<;>cases b<;>simp_all
theorem toNat_lt (fl:List Bool):∀ x∈fl.map Bool.toNat,x<2^1:=by
 intro x hx;obtain⟨b,_,rfl⟩:=List.mem_map.1 hx;cases b<;>decide
theorem Zwb {w n:Nat} {ws:List Nat} (h:L.IsPack w n ws):∀ x∈ws,x<18446744073709551616:=by
 intro x hx;obtain⟨k,hk,rfl⟩:=List.getElem_of_mem hx;have h1:=h.2 k hk;have h2:=Zcr (L.inWord_le w n k);simp only[List.getD,List.getElem?_eq_getElem hk,Option.getD_some]at h1;omega
theorem Zit {n:Nat} {ws:List Nat} (h:L.IsPack 1 n ws) (i:Nat) (hi:n≤i):Za0 ws i=false:=by
 by_cases hl:i/64<ws.length
 ·have h1:=h.2 (i/64) hl;unfold Za0;apply Nat.testBit_lt_two_pow;refine Nat.lt_of_lt_of_le h1 (Nat.pow_le_pow_right (by omega) ?_);unfold L.inWord;omega
 ·exact Zw8 ws i (by omega)
theorem Zgh (fl:List Bool):IsBm fl.length (bmL fl) (fun i=>fl.getD i false):=by
 have hpk:=L.pack_isPack (w:=1) (by omega) (fl.map Bool.toNat) (toNat_lt fl);rw[List.length_map]at hpk;refine⟨hpk.1,Zwb hpk,fun i _=>?_⟩;by_cases hi:i<fl.length
 ·have h1:=L.lanes_pack (w:=1) (by omega) (fl.map Bool.toNat) (toNat_lt fl);have h2:=L.lanesL_get 1 (fl.map Bool.toNat).length (bmL fl) i (by simpa using hi);have h3:(L.lanesL 1 (fl.map Bool.toNat).length (bmL fl))=fl.map Bool.toNat:=h1;rw[h3,Zug]at h2;have h4:(fl.map Bool.toNat).getD i 0=(fl.getD i false).toNat:=by simp[List.getD,List.getElem?_eq_getElem hi]
  rw[h4]at h2;simp only[hi,decide_true,Bool.true_and];exact(Zw0 h2).symm
 ·have hz:=Zit hpk i (by omega);unfold bmL;rw[hz];simp[hi]
theorem IsBm.eq_bmL {n:Nat} {a:List Nat} {f:Nat→Bool} (ha:IsBm n a f):a=bmL ((List.range n).map f):=by
 apply ha.unique;have h:=Zgh ((List.range n).map f);rw[List.length_map,List.length_range]at h;refine⟨h.1,h.2.1,fun i hi=>?_⟩;rw[h.2.2 i hi];by_cases hin:i<n
 ·simp[hin,List.getD,List.getElem?_range hin]
 ·simp[hin]
theorem Zq0 (ws:List Nat) (i:Nat) (hi:i<64*ws.length) (j:Nat):Za0 (ws.set (i/64) (ws.getD (i/64) 0 ||| 2^(i%64))) j=(Za0 ws j||decide (j=i)):=by
 unfold Za0;have hl:i/64<ws.length:=by omega
 by_cases hk:j/64=i/64
 ·have e:(ws.set (i/64) (ws.getD (i/64) 0 ||| 2^(i%64))).getD (j/64) 0=ws.getD (i/64) 0 ||| 2^(i%64):=by
   rw[hk];simp[List.getD,hl]
  rw[e,Nat.testBit_or,Nat.testBit_two_pow,hk];congr 1
  rw[decide_eq_decide];omega
 ·have e:(ws.set (i/64) (ws.getD (i/64) 0 ||| 2^(i%64))).getD (j/64) 0=ws.getD (j/64) 0:=by
   simp only[List.getD];rw[List.getElem?_set_ne (by omega)]
  have:¬ j=i:=fun h=>hk (by rw[h])
  rw[e];simp[this]
theorem Ztg (ws:List Nat) (hw:∀ x∈ws,x<18446744073709551616) (i:Nat):∀ x∈ws.set (i/64) (ws.getD (i/64) 0 ||| 2^(i%64)),x<18446744073709551616:=by
 intro x hx;rcases List.mem_or_eq_of_mem_set hx with h | h
 ·exact hw x h
 ·rw[h];have h1:ws.getD (i/64) 0<2^64:=L.getD_lt (w:=64) (fun a ha=>by have:=hw a ha;omega) (i/64);have h2:2^(i%64)<2^64:=Nat.pow_lt_pow_right (by omega) (by omega);have:=Nat.or_lt_two_pow h1 h2;omega
theorem Zys (x:Nat) (h0:x≠0) (h:x<18446744073709551616):∃ m,x=2^Lib.ctz 64 x+2^(Lib.ctz 64 x+1)*m∧Lib.ctz 64 x<64:=by
 obtain⟨m,hm,hk⟩:=Lib.ctzFrom_spec 64 x (by omega) (by omega);have e:Lib.ctz 64 x=Lib.ctzFrom 64 x:=by simp[Lib.ctz,h0]
 rw[e];refine⟨m,?_,hk⟩
 conv=>lhs;rw[hm]
 rw[Nat.mul_add,Nat.mul_one,Nat.pow_succ,Nat.mul_assoc,Nat.add_comm]
theorem Zkg (x:Nat) (h0:x≠0) (h:x<18446744073709551616) (p:Nat):(x &&& (x-1)).testBit p=(x.testBit p&&decide (p≠Lib.ctz 64 x))∧x.testBit (Lib.ctz 64 x)=true∧(x &&& (x-1))<x:=by
 obtain⟨m,hm,hk⟩:=Zys x h0 h;generalize Lib.ctz 64 x=t at *;have hp:0<2^t:=Nat.pow_pos (by omega);have hlt:2^t<2^(t+1):=Nat.pow_lt_pow_right (by omega) (by omega);have hand:x &&& (x-1)=2^(t+1)*m:=by
  rw[show x-1=(2^t-1)+2^(t+1)*m from by omega]
  conv=>lhs;rw[hm]
  rw[L.and_join (t+1) _ _ m m hlt (by omega),Nat.and_self];have:2^t &&& (2^t-1)=0:=by rw[Nat.and_two_pow_sub_one_eq_mod,Nat.mod_self]
  rw[this,Nat.zero_add]
 have hb:∀ q,x.testBit q=if q<t+1 then decide (t=q)else m.testBit (q-(t+1)):=by
  intro q;rw[hm,Nat.add_comm,Nat.testBit_two_pow_mul_add _ hlt,Nat.testBit_two_pow]
 refine⟨?_,by rw[hb];simp,by rw[hand];omega⟩;rw[hand,hb,show 2^(t+1)*m=2^(t+1)*m+0 from rfl,Nat.testBit_two_pow_mul_add _ (Nat.pow_pos (by omega))];by_cases hq:p<t+1
 ·rw[if_pos hq,if_pos hq];by_cases ht:t=p
  ·simp[ht]
  ·simp[ht]
 ·rw[if_neg hq,if_neg hq];have:p≠t:=by omega
  simp[this]
end Go.Proofs.YtmcjknjlihgihaaGreatDoor
set_option maxRecDepth 20000
namespace Go.Proofs.YtmcjknjlihgihaaGreatDoor
open Go.RowKit
theorem Zj8 (a b:Nat) (h:a+b<18446744073709551616):IntKind.u64.wrap ((a:Int)+(b:Int))=((a+b:Nat):Int):=by rw[IntKind.wrap_u64];omega
set_option maxHeartbeats 1000000 in
theorem Zis (x:Nat) (w:World) (hx:x<18446744073709551616):Calls Tryz.prog 189 #[.int .u64 x] w fun e w'=>e=.returned (.int .i64 (L.popN 64 x:Nat))∧w'=w:=by
 obtain⟨a,ha⟩:∃ a,(x/2 &&& 6148914691236517205)+(x &&& 6148914691236517205)=a:=⟨_,rfl⟩;obtain⟨b,hb⟩:∃ b,(a/4 &&& 3689348814741910323)+(a &&& 3689348814741910323)=b:=⟨_,rfl⟩;obtain⟨c,hc⟩:∃ c,(b/16+b) &&& 1085102592571150095=c:=⟨_,rfl⟩;have m0:∀ y,y &&& 6148914691236517205≤6148914691236517205:=fun y=>Nat.and_le_right
 have m1:∀ y,y &&& 3689348814741910323≤3689348814741910323:=fun y=>Nat.and_le_right
 have hal:a≤12297829382473034410:=by have:=m0 (x/2);have:=m0 x;omega
 have hbl:b≤7378697629483820646:=by have:=m1 (a/4);have:=m1 a;omega
 have hsw:=L.swar_pop x hx;have hs3:L.swar3 x=c:=by unfold L.swar3;simp only;rw[ha,hb,hc]
 have h1:IntKind.u64.wrap (bits BinOp.and IntKind.u64 ((x:Int)/2) 6148914691236517205+bits BinOp.and IntKind.u64 (x:Int) 6148914691236517205)=(a:Int):=by
  have e1:=u64_and_nat (x/2) 6148914691236517205 (by omega) (by decide);have e2:=u64_and_nat x 6148914691236517205 hx (by decide);have e3:((x:Int)/2)=((x/2:Nat):Int):=by simp
  rw[e3,show (6148914691236517205:Int)=((6148914691236517205:Nat):Int)from rfl,e1,e2,Zj8 _ _ (by have:=m0 (x/2);have:=m0 x;omega),ha]
 have h2:IntKind.u64.wrap (bits BinOp.and IntKind.u64 ((a:Int)/4) 3689348814741910323+bits BinOp.and IntKind.u64 (a:Int) 3689348814741910323)=(b:Int):=by
  have e1:=u64_and_nat (a/4) 3689348814741910323 (by omega) (by decide);have e2:=u64_and_nat a 3689348814741910323 (by omega) (by decide);have e3:((a:Int)/4)=((a/4:Nat):Int):=by simp
  rw[e3,show (3689348814741910323:Int)=((3689348814741910323:Nat):Int)from rfl,e1,e2,Zj8 _ _ (by have:=m1 (a/4);have:=m1 a;omega),hb]
 have h3:bits BinOp.and IntKind.u64 (IntKind.u64.wrap ((b:Int)/16+(b:Int))) 1085102592571150095=(c:Int):=by
  have e3:((b:Int)/16)=((b/16:Nat):Int):=by simp
  have hb16:b/16+b<18446744073709551616:=by omega
  have e1:=u64_and_nat (b/16+b) 1085102592571150095 hb16 (by decide);rw[e3,Zj8 _ _ hb16,show (1085102592571150095:Int)=((1085102592571150095:Nat):Int)from rfl,e1,hc]
 rw[hs3]at hsw;have HSW:=hid hsw;have J2:=hid hs3;clear ha hb hc m0 m1 hal hbl hs3 hsw;obtain⟨d,hd⟩:∃ d,c+c/256=d:=⟨_,rfl⟩;obtain⟨e,he⟩:∃ e,d+d/65536=e:=⟨_,rfl⟩;obtain⟨f,hf⟩:∃ f,e+e/4294967296=f:=⟨_,rfl⟩;have hcl:=HSW.out.2;have h4:IntKind.u64.wrap ((c:Int)+(c:Int)/256)=(d:Int):=by
  have e3:((c:Int)/256)=((c/256:Nat):Int):=by simp
  rw[e3,Zj8 _ _ (by omega),hd]
 have h5:IntKind.u64.wrap ((d:Int)+(d:Int)/65536)=(e:Int):=by
  have e3:((d:Int)/65536)=((d/65536:Nat):Int):=by simp
  rw[e3,Zj8 _ _ (by omega),he]
 have h6:IntKind.u64.wrap ((e:Int)+(e:Int)/4294967296)=(f:Int):=by
  have e3:((e:Int)/4294967296)=((e/4294967296:Nat):Int):=by simp
  rw[e3,Zj8 _ _ (by omega),hf]
 have hfl:f<9223372036854775808:=by omega
 have HP:Hid (f%128=L.popN 64 x):=by
  refine hid ?_;rw[← HSW.out.1];unfold L.swar;simp only;rw[J2.out,hd,he,hf]
 have J0:=hid hfl;clear hd he hf hcl hfl;go_enter Tryz.func189,Tryz.ntmps189;go_wp2;go_ret;refine⟨Zc9 ?_,rfl⟩;rw[i64_and127];have h7:wrap64 (f:Int)=(f:Int):=by have:=J0.out;unfold wrap64;omega
 rw[h7,← HP.out];simp
theorem Zio (x:Nat) (w:World) (hx:x<18446744073709551616):Calls Tryz.prog 187 #[.int .u64 x] w fun e w'=>e=.returned (.int .i64 (L.popN 64 x:Nat))∧w'=w:=by
 go_enter Tryz.func187,Tryz.ntmps187;go_wp2_with (go_at_call 189;refine(Zis x _ hx).mono ?_;rintro e w' ⟨rfl,rfl⟩)
 go_ret;exact⟨rfl,rfl⟩
def popL:List Nat→Nat
 | []=>0
 | x :: xs=>L.popN 64 x+popL xs
theorem Zh5 (a b:List Nat):popL (a++b)=popL a+popL b:=by
 induction a with
 | nil=>simp[popL]
 | cons x a ih=>simp only[List.cons_append,popL,ih];omega
theorem Zrs (a:List Nat):popL a≤64*a.length:=by
 induction a with
 | nil=>simp[popL]
 | cons x a ih=>simp only[popL,List.length_cons];have:=L.popN_le 64 x;omega
set_option maxHeartbeats 400000 in
theorem Zqy (v:Value) (xs:List Nat) (w:World) (hx:Rd w v xs.length 1 (u64s xs)) (hv:∀ x∈xs,x<18446744073709551616) (hl:xs.length≤65536) :
  Calls Tryz.prog 186 #[v] w fun e w'=>e=.returned (.int .i64 (popL xs:Nat))∧w'=w:=by
 obtain⟨A,ca,rfl,hlc,hcm,hA⟩:=hx.form;clear hx hlc hcm;go_enter Tryz.func186,Tryz.ntmps186;go_wp2;go_loop [3,8] (fun c i=>∃ j:Nat,j≤xs.length∧i=.int .i64 j∧c=.int .i64 (popL (xs.take j):Nat)) (fun _ i=>xs.length-(intOf i).toNat)
 case atStart=>exact⟨0,by omega,rfl,by simp[popL]⟩
 case round =>
  obtain⟨j,hj,rfl,rfl⟩:=hrel;by_cases hlt:j<xs.length
  ·obtain⟨b,o,rfl,hs⟩:=hA (by omega);have c1:=hs.word j hlt;have HX:=hid (hv (xs.getD j 0) (by simp[List.getD,List.getElem?_eq_getElem hlt]));have HT:Hid (popL (xs.take (j+1))=popL (xs.take j)+L.popN 64 (xs.getD j 0)):=by
    refine hid ?_;rw[List.take_succ_eq_append_getElem hlt,Zh5];simp[popL,List.getD,List.getElem?_eq_getElem hlt]
   have hle:=Zrs (xs.take j);have hll:(xs.take j).length=j:=by rw[List.length_take];omega
   rw[hll]at hle;have hp:=L.popN_le 64 (xs.getD j 0);clear hs hA hll;generalize xs.getD j 0=x at *;generalize popL (xs.take j)=a at *;have HC:=hid (Zio x w HX.out);generalize L.popN 64 x=pc at *;go_wp2_with (go_at_call 187;refine HC.out.mono ?_;rintro e w' ⟨rfl,rfl⟩)
   go_round
   case rel=>exact⟨j+1,by omega,by go_num,by rw[HT.out];go_num⟩
   case measure=>simp[intOf];omega
  ·go_wp2;go_ret;rw[show j=xs.length from by omega,List.take_length];exact⟨rfl,rfl⟩
def Zbe (ws:List Nat) (i:Nat):Nat:=((List.range i).filter (Za0 ws)).length
theorem Ze3 (ws:List Nat) (i:Nat):Zbe ws (i+1)=Zbe ws i+if Za0 ws i then 1 else 0:=by
 unfold Zbe;rw[List.range_succ,List.filter_append,List.length_append];congr 1
 cases h:Za0 ws i<;>simp[List.filter_cons,h]
theorem Zmx (ws:List Nat) (q r:Nat) (hr:r≤64):Zbe ws (64*q+r)=Zbe ws (64*q)+L.popN r (ws.getD q 0):=by
 induction r with
 | zero=>simp[L.popN]
 | succ r ih =>
  rw[← Nat.add_assoc,Ze3,ih (by omega),L.popN_snoc];have e:Za0 ws (64*q+r)=(ws.getD q 0).testBit r:=by
   unfold Za0;rw[show (64*q+r)/64=q from by omega,show (64*q+r)%64=r from by omega]
  rw[e];omega
theorem Zsb (ws:List Nat) (q:Nat) (hq:q≤ws.length):Zbe ws (64*q)=popL (ws.take q):=by
 induction q with
 | zero=>simp[Zbe,popL]
 | succ q ih =>
  rw[show 64*(q+1)=64*q+64 from by omega,Zmx ws q 64 (by omega),ih (by omega),List.take_succ_eq_append_getElem (by omega),Zh5];simp[popL,List.getD,List.getElem?_eq_getElem (show q<ws.length by omega)]
theorem Zyo (x r:Nat) (hr:r≤64):L.popN 64 (x &&& (2^r-1))=L.popN r x:=by
 rw[Nat.and_two_pow_sub_one_eq_mod];have h:=L.popN_add r (64-r) (x%2^r);rw[show r+(64-r)=64 from by omega,L.popN_mod,Nat.div_eq_of_lt (Nat.mod_lt _ (Nat.pow_pos (by omega)))]at h;have hz:∀ k,L.popN k 0=0:=by intro k;induction k with | zero=>rfl | succ k ih=>simp[L.popN,ih]
 rw[h,hz,Nat.add_zero]
theorem Zph (v:Value) (xs:List Nat) (n:Int) (w:World) (hx:Rd w v xs.length 1 (u64s xs)) (hv:∀ x∈xs,x<18446744073709551616) (hl:xs.length≤maxLen) :
  Calls Tryz.prog 185 #[v,.int .i64 n] w fun e w'=>e=.returned (.bool (Za8 1 n xs))∧w'=w:=by
 have H:=hid (Zin v xs 1 n w hx hv hl);clear hx hl;go_enter Tryz.func185,Tryz.ntmps185;go_wp2_with (go_at_call 224;refine H.out.mono ?_;rintro e w' ⟨rfl,rfl⟩)
 go_ret;exact⟨rfl,rfl⟩
def Zeg (n i:Int) (xs:List Nat):Int:=if Za8 1 n xs=true∧0≤i∧i≤n then (Zbe xs i.toNat:Int)else -1
theorem Rd.take {w:World} {A:Option Addr} {n cap:Nat} {xs:List Nat} (h:Rd w (.slice A n cap) n 1 (u64s xs)) (q:Nat) (hq:q≤n):Rd w (.slice A q cap) q 1 (u64s (xs.take q)):=by
 have hl:xs.length=n:=by have:=h.1;simpa [u64s]using this
 have e:u64s (xs.take q)=(u64s xs).take q:=by simp[u64s,List.map_take]
 rcases h.2 with ⟨⟨A',hA'⟩,rfl⟩ | ⟨b,o,cap',hA',h1,h2,hs⟩
 ·have:q=0:=by omega
  subst this;simp only[Value.slice.injEq]at hA';obtain⟨rfl,-,rfl⟩:=hA';exact⟨by simp[u64s],.inl ⟨⟨_,rfl⟩,rfl⟩⟩
 ·simp only[Value.slice.injEq]at hA';obtain⟨rfl,-,rfl⟩:=hA';refine⟨by rw[e];simp[u64s];omega,.inr ⟨b,o,_,rfl,by omega,h2,?_⟩⟩;intro i v hv;rw[e,List.getElem?_take]at hv
  split at hv
  ·exact hs i v hv
  ·cases hv
set_option maxHeartbeats 1000000 in
theorem Zk7 (v:Value) (xs:List Nat) (n i:Int) (w:World) (hx:Rd w v xs.length 1 (u64s xs)) (hv:∀ x∈xs,x<18446744073709551616) (hl:xs.length≤maxLen) :
  Calls Tryz.prog 154 #[v,.int .i64 n,.int .i64 i] w fun e w'=>e=.returned (.int .i64 (Zeg n i xs))∧∃ m,w'=w.drewN m:=by
 obtain⟨A,ca,rfl,hlc,hcm,hA⟩:=hx.form;have H:=hid (Zph _ xs n w hx hv hl);obtain⟨R,hR⟩:∃ R,Zeg n i xs=R:=⟨_,rfl⟩;rw[hR];have HR:=hid hR;clear hR;generalize hok:Za8 1 n xs=ok at *;have Q7:=hid hok;have HV:=hid hv;clear hok hv;go_enter Tryz.func154,Tryz.ntmps154;cases ok
 ·go_wp2_with (go_at_call 185;refine H.out.mono ?_;rintro e w' ⟨rfl,rfl⟩)
  go_ret;exact⟨Zc9 (by rw[← HR.out,Zeg,if_neg (by rw[Q7.out];simp)]),0,rfl⟩
 ·by_cases h0:i<0
  ·go_wp2_with (go_at_call 185;refine H.out.mono ?_;rintro e w' ⟨rfl,rfl⟩)
   go_ret;exact⟨Zc9 (by rw[← HR.out,Zeg,if_neg (by omega)]),0,rfl⟩
  ·by_cases h1:n<i
   ·go_wp2_with (go_at_call 185;refine H.out.mono ?_;rintro e w' ⟨rfl,rfl⟩)
    go_ret;exact⟨Zc9 (by rw[← HR.out,Zeg,if_neg (by omega)]),0,rfl⟩
   ·obtain⟨k,rfl⟩:=Int.eq_ofNat_of_zero_le (show 0≤i by omega);obtain⟨m,rfl⟩:=Int.eq_ofNat_of_zero_le (show 0≤n by omega);have hm:m≤65536:=by
     refine Decidable.byContradiction fun hc=>?_
     have:=Q7.out;rw[Zcz _ (by omega)]at this;cases this
    have hlen:xs.length=(m+63)/64:=((Zbl (wd:=1) (n:=m) xs (by decide) hm).1 Q7.out).1.trans (by rw[L.nWords_cases (by decide) (by decide)];simp only[Nat.div_one];split<;>omega);obtain⟨q,hq⟩:∃ q,k/64=q:=⟨_,rfl⟩;obtain⟨r,hr⟩:∃ r,k%64=r:=⟨_,rfl⟩;have hq':(k:Int)/64=(q:Int):=by omega
    have hr':(k:Int)%64=(r:Int):=by omega
    have hr64:r<64:=by omega
    have hqx:q≤xs.length:=by omega
    have HQ:Hid (R=((Zbe xs (64*q+r):Nat):Int)):=by
     refine hid ?_;rw[← HR.out,Zeg,if_pos ⟨Q7.out,by omega,by omega⟩];congr 2;simp;omega
    have hqs:r≠0→q<xs.length:=by omega
    have Yl:=hid hqs;have HC:=hid (Zqy _ (xs.take q) w (by have:=hx.take q hqx;rwa [show (xs.take q).length=q from by simp;omega]) (fun x hx=>HV.out x (List.mem_of_mem_take hx)) (by simp;omega));have Yo:=hid (Zsb xs q hqx);have YP:=hid (Zrs (xs.take q));generalize popL (xs.take q)=pc at *;clear hq hr hlen hqs;by_cases hr0:r=0
    ·have Qj:=hid hr0;have hrz:((r:Int)==0)=true:=by simpa using hr0
     clear hr0;go_wp2_with (first | (go_at_call 185;refine H.out.mono ?_;rintro e w' ⟨rfl,rfl⟩) | (go_at_call 186;refine HC.out.mono ?_;rintro e w' ⟨rfl,rfl⟩))
     go_ret;exact⟨Zc9 (by rw[HQ.out,Qj.out,Nat.add_zero,Yo.out]),0,rfl⟩
    ·have hrz:((r:Int)==0)=false:=by simpa using hr0
     have hqlt:=Yl.out hr0;obtain⟨b,o,rfl,hs⟩:=hA (by omega);have c1:=hs.word q hqlt;have hxv:=HV.out (xs.getD q 0) (by simp[List.getD,List.getElem?_eq_getElem hqlt]);have JW:=hid (Zmx xs q r (by omega));have hpn:=Zyo (xs.getD q 0) r (by omega);have Z0:=hid (u64_and_nat (xs.getD q 0) (2^r-1) hxv (by have:=Zcr (show r≤64 by omega);omega));have hxa:xs.getD q 0 &&& (2^r-1)<18446744073709551616:=Nat.lt_of_le_of_lt Nat.and_le_left hxv;have HCW:=hid (fun w=>Zio _ w hxa);have hple:=L.popN_le r (xs.getD q 0);rw[hpn]at HCW;generalize xs.getD q 0 &&& (2^r-1)=xa at *;generalize L.popN r (xs.getD q 0)=pw at *;generalize xs.getD q 0=x at *;have HL:=hid (fun w=>Zed r w (by omega));generalize 2^r-1=lo at *;clear hs hA hr0 hxv hpn hxa;have hpl:pc≤4194304:=by have:=YP.out;rw[List.length_take]at this;omega
     go_wp2_with (first | (go_at_call 185;refine H.out.mono ?_;rintro e w' ⟨rfl,rfl⟩) | (go_at_call 186;refine HC.out.mono ?_;rintro e w' ⟨rfl,rfl⟩))
     go_quiet (first | (go_at_call 188;exact Calls.quiet_of_same (HL.out _)) | (go_at_call 187;try rw[Z0.out];exact Calls.quiet_of_same (HCW.out _)))
     go_wp2;go_ret;refine⟨Zc9 ?_,_,rfl⟩;rw[HQ.out,JW.out,Yo.out];go_num
theorem Zxt (ws:List Nat) (x:Nat):popL (ws++[x])=popL ws+L.popN 64 x:=by rw[Zh5];simp[popL]
def befL (ws:List Nat):List Int:=(List.range ws.length).map fun k=>(popL (ws.take k):Int)
set_option maxHeartbeats 2000000 in
theorem Zg7 (v:Value) (xs:List Nat) (w:World) (hx:Rd w v xs.length 1 (u64s xs)) (hv:∀ x∈xs,x<18446744073709551616) (hl:xs.length≤65536) :
  Calls Tryz.prog 155 #[v] w fun e w'=>e=.returned (.slice (some ⟨w.heap.size,0,none⟩) xs.length xs.length)∧Row w' w.heap.size 3 (i64s (befL xs))∧Below w.heap.size w w':=by
 obtain⟨A,ca,rfl,hlc,hcm,hA⟩:=hx.form;have HX:=hid hx;clear hx hA;obtain⟨p,hp⟩:∃ p,w.heap.size=p:=⟨_,rfl⟩;have HP:=hid hp;rw[hp];clear hp;go_enter Tryz.func155,Tryz.ntmps155;go_wp2;refine Zda 3 (.int .i64 0) 8 Tryz.underlying23 Tryz.infoI64 rfl xs.length (by omega) (by omega) (by omega) (by unfold maxLen;omega) ?_;intro w1 hrow hb1 hsz1;rw[HP.out]at hrow hb1 hsz1 ⊢;have Q3:=hid hrow;have Qa:=hid hb1;have Ue:=hid (HX.out.mono (by rw[HP.out];exact hb1));have hp1:p<w1.heap.size:=by omega
 clear hrow hb1;go_wp2;go_loopw [4,12] (fun u i wr=>∃ j:Nat,j≤xs.length∧i=.int .i64 j∧u=.int .i64 (popL (xs.take j):Nat)∧Row wr p 3 (i64s ((List.range j).map fun k=>(popL (xs.take k):Int))++List.replicate (xs.length-j) (.int .i64 0))∧Below p w1 wr) (fun _ i _=>xs.length-(intOf i).toNat)
 case atStart=>exact⟨0,by omega,rfl,by simp[popL],by simpa [i64s]using Q3.out,Below.refl _ _⟩
 case round =>
  obtain⟨j,hj,rfl,rfl,hr,hb⟩:=hrel;by_cases hlt:j<xs.length
  ·have hcell:wr.cell? ⟨p,j,none⟩=some (.int .i64 0):=by
    rw[hr.cell];exact Zhd _ _ _ _ (by simp[i64s]) (by omega)
   have hfr:=hr.frozen j;have hx2:Rd wr (.slice A xs.length ca) xs.length 1 (u64s xs):=HX.out.mono (by rw[HP.out];exact Qa.out.trans hb);obtain⟨A',ca',he,_,_,hA⟩:=hx2.form;cases he;obtain⟨b,o,rfl,hs⟩:=hA (by omega);have c1:=hs.word j hlt;have hvj:xs.getD j 0<18446744073709551616:=hv _ (by simp[List.getD,List.getElem?_eq_getElem hlt]);have hsn:popL (xs.take (j+1))=popL (xs.take j)+L.popN 64 (xs.getD j 0):=by
    rw[List.take_succ_eq_append_getElem hlt,Zxt];simp[List.getD,List.getElem?_eq_getElem hlt]
   have hpl:=Zrs (xs.take j);have hpl2:=L.popN_le 64 (xs.getD j 0);rw[List.length_take,Nat.min_eq_left hj]at hpl;have Yo:=hid hr;have QJ:=hid hsn;clear hr hs hA hx2 hsn;generalize ha:popL (xs.take j)=a at *;have HA':=hid ha;clear ha;generalize hq:xs.getD j 0=q at *;clear hq;go_wp2_with (go_at_call 189;refine(Zis q _ hvj).mono ?_;rintro e w3 ⟨rfl,hw⟩;subst hw)
   go_roundw
   case rel =>
    refine⟨j+1,by omega,by go_num,?_,?_,Zac hb _ _ _ (Nat.le_refl _)⟩
    ·rw[QJ.out];go_num
    ·have hss:=Yo.out.set j (.int .i64 (a:Nat));rw[Zhj _ _ _ _ _ (by simp[i64s]) (by omega)]at hss;rw[List.range_succ,List.map_append,Zfe,List.map_singleton,HA'.out,← Nat.sub_sub xs.length j 1];exact hss
   case measure=>simp[intOf];omega
  ·obtain rfl:j=xs.length:=by omega
   go_wp2;go_ret;refine⟨rfl,?_,Qa.out.trans hb⟩;have:=hr;rw[Nat.sub_self,List.replicate_zero,List.append_nil]at this;exact this
theorem Zvd (x:Int) (w:World):Calls Tryz.prog 293 #[.int .i64 x] w fun e w'=>e=.returned (.bool false)∧w'=w:=by
 have e1:(x != x)=false:=by simp
 go_enter Tryz.func293,Tryz.ntmps293;go_wp2;go_ret;exact⟨rfl,rfl⟩
theorem Zvg (x:Int) (w:World):Calls Tryz.prog 281 #[.int .i64 x] w fun e w'=>e=.returned (.bool false)∧w'=w:=by
 have e1:(x != x)=false:=by simp
 go_enter Tryz.func281,Tryz.ntmps281;go_wp2;go_ret;exact⟨rfl,rfl⟩
theorem Zx7 (x y:Int) (w:World):Calls Tryz.prog 280 #[.int .i64 x,.int .i64 y] w fun e w'=>e=.returned (.bool (decide (x<y)))∧w'=w:=by
 go_enter Tryz.func280,Tryz.ntmps280;go_wp2_with (go_at_call 293;refine(Zvd _ _).mono ?_;rintro e w' ⟨rfl,rfl⟩)
 all_goals go_ret
 all_goals exact⟨rfl,rfl⟩
def Zb8 (es:List Int) (t:Int):Nat:=es.findIdx fun e=>decide (t≤e)
theorem Zhk (es:List Int) (t:Int) (i:Nat) (hi:i≤es.length) (h1:∀ a,a<i→es.getD a 0<t) (h2:i<es.length→t≤es.getD i 0):Zb8 es t=i:=by
 unfold Zb8;by_cases hlt:i<es.length
 ·rw[List.findIdx_eq hlt];refine⟨?_,fun j hj=>?_⟩
  ·have:=h2 hlt;simpa [List.getD,List.getElem?_eq_getElem hlt]using this
  ·have:=h1 j hj;have hjl:j<es.length:=by omega
   simp only[List.getD,List.getElem?_eq_getElem hjl,Option.getD_some]at this;simpa using this
 ·have:i=es.length:=by omega
  rw[this,List.findIdx_eq_length];intro x hx;obtain⟨j,hj,rfl⟩:=List.getElem_of_mem hx;have:=h1 j (by omega);simp only[List.getD,List.getElem?_eq_getElem hj,Option.getD_some]at this;simpa using this
set_option maxHeartbeats 2000000 in
theorem Zgm (v:Value) (es:List Int) (t:Int) (w:World) (hx:Rd w v es.length 1 (i64s es)) (hl:es.length≤16777216) (hup:∀ a b,a<b→b<es.length→es.getD a 0<es.getD b 0) :
  Calls Tryz.prog 253 #[v,.int .i64 t] w fun e w'=>(∃ b:Value,e=.returned (.tuple #[.int .i64 (Zb8 es t:Nat),b]))∧∃ n,w'=w.drewN n:=by
 obtain⟨A,ca,rfl,hlc,hcm,hA⟩:=hx.form;have HX:=hid hx;have VX:=hid hup;clear hx hup;go_enter Tryz.func253,Tryz.ntmps253;go_wp2;go_loop [7,8] (fun u x=>∃ i j:Nat,i≤j∧j≤es.length∧u=.int .i64 i∧x=.int .i64 j∧(∀ a,a<i→es.getD a 0<t)∧(∀ a,j≤a→a<es.length→t≤es.getD a 0)) (fun u x=>(intOf x).toNat-(intOf u).toNat)
 case atStart=>exact⟨0,es.length,by omega,by omega,rfl,rfl,fun a h=>by omega,fun a h1 h2=>by omega⟩
 case round =>
  obtain⟨i,j,hij,hj,rfl,rfl,h1,h2⟩:=hrel;have H1:=hid h1;have H2:=hid h2;clear h1 h2;by_cases hlt:i<j
  ·obtain⟨b,o,rfl,hs⟩:=hA (by omega);obtain⟨m,hm⟩:∃ m,(i+j)/2=m:=⟨_,rfl⟩;have hm':((i:Int)+(j:Int))/2=(m:Int):=by omega
   have hml:m<es.length:=by omega
   have c1:=hs.int m hml;have him:i≤m:=by omega
   have hmj:m<j:=by omega
   have Yl:Hid (es.getD m 0<t→∀ a,a<m+1→es.getD a 0<t):=by
    intro h a ha;by_cases ham:a=m
    ·subst ham;exact h
    ·have:=VX.out a m (by omega) hml;omega
   have HGE:Hid (t≤es.getD m 0→∀ a,m≤a→a<es.length→t≤es.getD a 0):=by
    intro h a ha1 ha2;by_cases ham:a=m
    ·subst ham;exact h
    ·have:=VX.out m a (by omega) ha2;omega
   clear hs hA hm;generalize es.getD m 0=x at *;go_wp2_with (go_at_call 280;refine(Zx7 _ _ _).mono ?_;rintro e w' ⟨rfl,hw⟩;subst hw)
   ·go_round
    case rel=>exact⟨m+1,j,by omega,by omega,by go_num,rfl,Yl.out (by assumption),H2.out⟩
    case measure=>simp[intOf];omega
   ·go_round
    case rel=>exact⟨i,m,by omega,by omega,rfl,rfl,H1.out,HGE.out (by omega)⟩
    case measure=>simp[intOf];omega
  ·have hf:Zb8 es t=i:=Zhk es t i (by omega) H1.out (fun h=>H2.out i (by omega) h);have HF:=hid hf;clear hf;by_cases hie:i<es.length
   ·obtain⟨b,o,rfl,hs⟩:=hA (by omega);have c1:=hs.int i hie;clear hs hA;generalize es.getD i 0=x at *;go_wp2_with (go_at_call 281;refine(Zvg _ _).mono ?_;rintro e w' ⟨rfl,hw⟩;subst hw)
    all_goals go_ret2
    all_goals exact⟨⟨_,by rw[HF.out];rfl⟩,0,rfl⟩
   ·go_wp2
    all_goals go_ret2
    all_goals exact⟨⟨_,by rw[HF.out];rfl⟩,0,rfl⟩
end Go.Proofs.YtmcjknjlihgihaaGreatDoor
