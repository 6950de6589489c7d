/- A chunk in memory, and its lane. -/
import Derived.OwnWalk
import Derived.Test.YtmcjknjlihgihaaGreatDoorLawfreshlistsuptoM4
set_option linter.unusedVariables false
set_option linter.unusedSimpArgs false
set_option linter.unnecessarySimpa false
set_option maxRecDepth 20000
namespace Go.Proofs.YtmcjknjlihgihaaGreatDoor
open Go.RowKit
theorem Zrv (m:Nat):L.wordOf 1 (List.replicate m 1)=2^m-1:=by
 induction m with
 | zero=>simp[L.wordOf]
 | succ m ih =>
  rw[List.replicate_succ',L.wordOf_snoc,ih,List.length_replicate,Nat.one_mul,Nat.one_mul,Nat.pow_succ];have:0<2^m:=Nat.pow_pos (by omega);omega
theorem Zll (n k:Nat) (b:Bool) (hk:k<L.nWords 1 n):(bmL (List.replicate n b)).getD k 0=if b then 2^L.inWord 1 n k-1 else 0:=by
 unfold bmL;rw[List.map_replicate,L.packL_get 1 _ k (by simpa using hk),List.drop_replicate,List.take_replicate,Zjs];have e:min (64/1) (n-k*(64/1))=L.inWord 1 n k:=rfl;rw[e,Zrv];cases b<;>simp
theorem Znx (n:Nat):bmL (List.replicate n false)=List.replicate (L.nWords 1 n) 0:=by
 apply L.ext_getD
 ·rw[Zmf];simp
 ·intro k hk;rw[Zmf,List.length_replicate]at hk;rw[Zll n k false hk,Zk5];simp
set_option maxHeartbeats 1000000 in
theorem Zse (n:Nat) (b:Bool) (w:World) (hn:n≤65536) :
  Calls Tryz.prog 275 #[.int .i64 n,.bool b] w fun e w'=>e=.returned (.slice (some ⟨w.heap.size,0,none⟩) (L.nWords 1 n) (L.nWords 1 n)) ∧
   Row w' w.heap.size 73 (u64s (bmL (List.replicate n b)))∧Below w.heap.size w w'∧w'.heap.size=w.heap.size+1:=by
 have hml:=L.nWords_le (w:=1) (n:=n) (by omega);have Qg:=hid (Zkd n w hn);have HGET:Hid (∀ k,k<L.nWords 1 n→(bmL (List.replicate n true)).getD k 0=2^L.inWord 1 n k-1):=fun k hk=>by rw[Zll n k true hk];rfl
 have Yq:Hid ((bmL (List.replicate n true)).length=L.nWords 1 n):=by refine hid ?_;rw[Zmf];simp
 have VZ:=hid (Znx n);have Yl:Hid (∀ k,k<L.nWords 1 n→k*64<n):=fun k hk=>by have:=(L.lt_nWords (w:=1) (by omega) (by omega)).1 hk;omega
 generalize L.nWords 1 n=m at *;cases b
 ·go_enter Tryz.func275,Tryz.ntmps275;go_wp2_with (go_at_call 209;refine Qg.out.mono ?_;rintro e w' ⟨rfl,rfl⟩)
  refine Zda 73 (.int .u64 0) 8 Tryz.underlying37 Tryz.info45 rfl m (by omega) (by omega) (by omega) (by unfold maxLen;omega) ?_;intro w1 hrow hb1 hsz1;have Qx:=hid hsz1;clear hsz1;go_wp2;go_ret;refine⟨rfl,?_,hb1,Qx.out⟩;rw[VZ.out];have e:u64s (List.replicate m 0)=List.replicate m (.int .u64 0):=by simp[u64s,u64]
  rw[e];exact hrow
 ·go_enter Tryz.func275,Tryz.ntmps275;go_wp2_with (go_at_call 209;refine Qg.out.mono ?_;rintro e w' ⟨rfl,rfl⟩)
  refine Zda 73 (.int .u64 0) 8 Tryz.underlying37 Tryz.info45 rfl m (by omega) (by omega) (by omega) (by unfold maxLen;omega) ?_;intro w1 hrow hb1 hsz1;have Qx:=hid hsz1;clear hsz1;go_wp2;go_loopw [15] (fun i wr=>∃ k:Nat,k≤m∧i=.int .i64 k∧Row wr w'.heap.size 73 (u64s ((bmL (List.replicate n true)).take k)++List.replicate (m-k) (.int .u64 0))∧Below w'.heap.size w' wr∧Hid (wr.heap.size=w'.heap.size+1)) (fun i _=>m-(intOf i).toNat)
  case atStart=>exact⟨0,by omega,rfl,by simpa [u64s]using hrow,hb1,Qx⟩
  case round =>
   obtain⟨k,hk,rfl,hr,hb,hz⟩:=hrel;clear hrow hb1 Qx;by_cases hlt:k<m
   ·have hcell:wr.cell? ⟨w'.heap.size,k,none⟩=some (.int .u64 0):=by
     rw[hr.cell];exact Zhd _ _ _ _ (by simp[u64s,Yq.out];omega) (by omega)
    have hfr:=hr.frozen k;have HR:=hid hr;clear hr;have hkn:=Yl.out k hlt;have hg:=HGET.out k hlt;obtain⟨c,hc⟩:∃ c,L.inWord 1 n k=c:=⟨_,rfl⟩;have hc64:c≤64:=by have:=L.inWord_le 1 n k;omega
    rw[hc]at hg;have HC:=hid hc;have HG:=hid hg;clear hc hg;obtain⟨z,hzz⟩:∃ z,2^c-1=z:=⟨_,rfl⟩;have HZZ:=hid hzz;clear hzz;go_wp2_with (first
     | (go_at_call 248;refine(Ze5 1 n k c _ (by omega) (by omega) (by omega) (by omega) HC.out).mono ?_;rintro e w'' ⟨rfl,rfl⟩)
     | (go_at_call 188;refine(Zed c _ (by omega)).mono ?_;rintro e w'' ⟨rfl,rfl⟩;rw[HZZ.out]))
    go_roundw
    case rel =>
     refine⟨k+1,by omega,by go_num,?_,Zac hb _ _ _ (Nat.le_refl _),?_⟩
     ·have hs:=HR.out.set k (.int .u64 (z:Int));rw[Zhj _ _ _ _ _ (by simp[u64s,Yq.out];omega) (by omega)]at hs;have hlk:k<(bmL (List.replicate n true)).length:=by rw[Yq.out];exact hlt
      rw[List.take_succ_eq_append_getElem hlk,Ze4,← Nat.sub_sub m k 1];have e:(bmL (List.replicate n true))[k]=z:=by
       have:=HG.out;rw[HZZ.out]at this;simpa [List.getD,List.getElem?_eq_getElem hlk]using this
      rw[e];exact hs
     ·show _=_;rw[← hz.out];simp[World.setCell]
    case measure=>simp[intOf];omega
   ·obtain rfl:k=m:=by omega
    go_wp2;go_ret;refine⟨rfl,?_,hb,hz.out⟩;rw[List.take_of_length_le (by rw[Yq.out];exact Nat.le_refl _),Nat.sub_self]at hr;simpa using hr
theorem Zum (op:Int) (a c:Nat) (h:a<c):Zcc op a c=Zcc op 0 c:=by
 unfold Zcc;have h1:¬ a=c:=by omega
 have h2:¬ 0=c:=by omega
 have h3:a≤c:=by omega
 have h4:0≤c:=by omega
 have h5:¬ c<a:=by omega
 have h6:¬ c<0:=by omega
 have h7:0<c:=by omega
 have h8:¬ c≤a:=by omega
 have h9:¬ c≤0:=by omega
 simp[h1,h2,h3,h4,h5,h6,h7,h8,h9,h]
theorem Zs4 (wd n:Nat) (op:Int) (xs:List Nat) (c:Nat) (h:wd=0∨2^wd≤c):(List.range n).map (cmpF wd op xs c)=List.replicate n (Zcc op 0 c):=by
 apply List.eq_replicate_iff.2;refine⟨by simp,fun b hb=>?_⟩;obtain⟨i,_,rfl⟩:=List.mem_map.1 hb;unfold cmpF;rcases h with h | h
 ·subst h;simp[L.laneOf]
 ·exact Zum op _ c (Nat.lt_of_lt_of_le (L.laneOf_lt wd xs i) h)
theorem Zz9 (a q:Nat) (h:a*2^q<18446744073709551616):IntKind.u64.wrap ((a:Int)*2^q)=((a*2^q:Nat):Int):=Zt2 a q h
theorem Zzv (a b:Nat) (h:a*b<18446744073709551616):IntKind.u64.wrap ((a:Int)*(b:Int))=((a*b:Nat):Int):=by
 have e:((a:Int)*(b:Int))=((a*b:Nat):Int):=by simp
 rw[e,Zgq _ h]
set_option maxHeartbeats 4000000 in
theorem Zlq (v:Value) (xs:List Nat) (wd n op:Int) (c:Nat) (w:World) (ht:Tab w) (hx:Rd w v xs.length 1 (u64s xs)) (hv:∀ x∈xs,x<18446744073709551616) (hc:c<18446744073709551616) (hl:xs.length≤maxLen) :
  Calls Tryz.prog 252 #[v,.int .i64 wd,.int .i64 n,.int .i64 op,.int .u64 c] w fun e w'=>∃ r,e=.returned (.tuple #[r,.bool (Zho wd n op xs)]) ∧
   w'.ownsRow w.heap.size 73 1 r (cmpR wd n op xs c).length (u64s (cmpR wd n op xs c))∧Below w.heap.size w w':=by
 have JF:=hid (Zin v xs wd n w hx hv hl);have ZW:=hid (Zmt op w);unfold maxLen at hl;obtain⟨A,ca,rfl,hlc,hcm,hA⟩:=hx.form;have HX:=hid hx;clear hx hlc hcm;cases hrel:Zxw op
 ·have hno:Zho wd n op xs=false:=by simp[Zho,hrel]
  have hf:cmpR wd n op xs c=[]:=by rw[cmpR,hno];rfl
  have Q6:=hid hno;have HF:=hid hf;rw[hrel]at ZW;clear hno hf hrel;go_enter Tryz.func252,Tryz.ntmps252;go_wp2_with (go_at_call 274;refine ZW.out.mono ?_;rintro e w' ⟨rfl,rfl⟩)
  go_ret2
  exact⟨.slice none 0 0,by rw[Q6.out];rfl,by rw[HF.out];exact World.ownsRow_nil _ _ _ _,Below.refl _ _⟩
 ·rw[hrel]at ZW;cases hok:Za8 wd n xs
  ·have hno:Zho wd n op xs=false:=by simp[Zho,hok]
   have hf:cmpR wd n op xs c=[]:=by rw[cmpR,hno];rfl
   have Q6:=hid hno;have HF:=hid hf;rw[hok]at JF;clear hno hf hrel hok;go_enter Tryz.func252,Tryz.ntmps252;go_wp2_with (first
    | (go_at_call 274;refine ZW.out.mono ?_;rintro e w' ⟨rfl,rfl⟩)
    | (go_at_call 224;refine JF.out.mono ?_;rintro e w' ⟨rfl,rfl⟩))
   go_ret2
   exact⟨.slice none 0 0,by rw[Q6.out];rfl,by rw[HF.out];exact World.ownsRow_nil _ _ _ _,Below.refl _ _⟩
  ·have hin:0≤wd∧wd≤64∧0≤n∧n≤65536:=by
    have:=hok;simp only[Za8,Zjt,Bool.and_eq_true,decide_eq_true_eq]at this;exact this.1
   obtain⟨wd,rfl⟩:=Int.eq_ofNat_of_zero_le hin.1;obtain⟨n,rfl⟩:=Int.eq_ofNat_of_zero_le hin.2.2.1;have hwd:wd≤64:=by omega
   have hn:n≤65536:=by omega
   have HIP:=hid ((Zbl xs hwd hn).1 hok);have hyes:Zho (wd:Int) (n:Int) op xs=true:=by simp[Zho,hok,hrel]
   have hf:cmpR (wd:Int) (n:Int) op xs c=bmL ((List.range n).map (cmpF wd op xs c)):=by rw[cmpR,hyes];rfl
   have QG:=hid hyes;have HF:=hid hf;rw[hok]at JF;clear hyes hf hrel hok hin;by_cases hu:wd=0∨2^wd≤c
   ·have HU:=hid (Zs4 wd n op xs c hu);have h2:0<2^wd:=Nat.pow_pos (by omega);have HUNI:=hid (Zse n (Zcc op 0 c) w hn);have hml:=L.nWords_le (w:=1) (n:=n) (by omega);have e0:(bmL (List.replicate n (Zcc op 0 c))).length=L.nWords 1 n:=by rw[Zmf];simp
    have fin:∀ w2,Row w2 w.heap.size 73 (u64s (bmL (List.replicate n (Zcc op 0 c))))→Below w.heap.size w w2 →
      ∃ r,Ending.returned (.tuple #[.slice (some ⟨w.heap.size,0,none⟩) (L.nWords 1 n) (L.nWords 1 n),.bool true])=.returned (.tuple #[r,.bool (Zho (wd:Int) (n:Int) op xs)]) ∧
       w2.ownsRow w.heap.size 73 1 r (cmpR (wd:Int) (n:Int) op xs c).length (u64s (cmpR (wd:Int) (n:Int) op xs c))∧Below w.heap.size w w2:=by
     intro w2 hr2 hb2;refine⟨.slice (some ⟨w.heap.size,0,none⟩) (L.nWords 1 n) (L.nWords 1 n),by rw[QG.out],?_,hb2⟩;rw[HF.out,HU.out,e0];exact Row.owns hr2 (Nat.le_refl _) (by rw[Zh7,e0]) (by unfold maxLen;omega)
    clear e0;rcases Nat.eq_zero_or_pos wd with hz | hz
    ·subst hz;clear hu;go_enter Tryz.func252,Tryz.ntmps252;go_wp2_with (first
      | (go_at_call 274;refine ZW.out.mono ?_;rintro e w' ⟨rfl,rfl⟩)
      | (go_at_call 224;refine JF.out.mono ?_;rintro e w' ⟨rfl,rfl⟩)
      | (go_at_call 276;refine(Zkr 0 op c _).mono ?_;rintro e w' ⟨rfl,rfl⟩)
      | (go_at_call 275;refine HUNI.out.mono ?_;rintro e w2 ⟨rfl,hr2,hb2,_⟩))
     go_ret2
     exact fin _ hr2 hb2
    ·have hwz:((wd:Int)==0)=false:=by simpa using (show wd≠0 by omega)
     have hzc:2^wd-1<c:=by rcases hu with h | h<;>omega
     generalize hzz:2^wd-1=z at *;have HZZ:=hid hzz;clear hu h2 hzz;go_enter Tryz.func252,Tryz.ntmps252;go_wp2_with (first
      | (go_at_call 274;refine ZW.out.mono ?_;rintro e w' ⟨rfl,rfl⟩)
      | (go_at_call 224;refine JF.out.mono ?_;rintro e w' ⟨rfl,rfl⟩)
      | (go_at_call 188;refine(Zed wd _ (by omega)).mono ?_;rintro e w' ⟨rfl,rfl⟩;rw[HZZ.out])
      | (go_at_call 276;refine(Zkr 0 op c _).mono ?_;rintro e w' ⟨rfl,rfl⟩)
      | (go_at_call 275;refine HUNI.out.mono ?_;rintro e w2 ⟨rfl,hr2,hb2,_⟩))
     go_ret2
     exact fin _ hr2 hb2
   ·have hw0:0<wd:=by omega
    have hcw:c<2^wd:=by omega
    have hwz:((wd:Int)==0)=false:=by simpa using (show wd≠0 by omega)
    have hcz:c≤2^wd-1:=by omega
    obtain⟨p,hp⟩:∃ p,64/wd=p:=⟨_,rfl⟩;have hpw:p*wd≤64:=by rw[← hp];exact L.per_mul wd
    have h1w:(1:Nat)<2^wd:=Nat.one_lt_two_pow (by omega);obtain⟨q,rfl⟩:∃ q,wd=q+1:=⟨wd-1,by omega⟩;have hqq:(((q+1:Nat):Int))-1=(q:Int):=by omega
    have hqp:2^q<2^(q+1):=Nat.pow_lt_pow_right (by omega) (by omega);have hones:=Zgb (q+1) p (List.replicate p 1) (by simp) (Zlk h1w) hpw;have htops:=Zgb (q+1) p (List.replicate p (2^q)) (by simp) (Zlk hqp) hpw;have hspr:=Zgb (q+1) p (List.replicate p c) (by simp) (Zlk hcw) hpw;have e1:L.wordOf (q+1) (List.replicate p 1)*2^q=L.wordOf (q+1) (List.replicate p (2^q)):=by rw[Zjs (q+1) p (2^q),Nat.mul_comm]
    have e2:L.wordOf (q+1) (List.replicate p 1)*c=L.wordOf (q+1) (List.replicate p c):=by rw[Zjs (q+1) p c,Nat.mul_comm]
    have J3:=hid (Zjg (q+1) p w hw0 hwd hp);have Qg:=hid (Zkd n w hn);have hsh:=Zz9 (L.wordOf (q+1) (List.replicate p 1)) q (by rw[e1];exact htops);have hmu:=Zzv (L.wordOf (q+1) (List.replicate p 1)) c (by rw[e2];exact hspr);rw[e1]at hsh;rw[e2]at hmu;generalize hzz:2^(q+1)-1=z at *;have HZZ:=hid hzz;have HP:=hid hp;have Ug:=hid hones;have HH2:=hid htops;have HH3:=hid hspr;have hml:=L.nWords_le (w:=1) (n:=n) (by omega);clear hu hzz hp hones htops hspr e1 e2 h1w hqp;generalize hO:L.wordOf (q+1) (List.replicate p 1)=O at *;generalize hT:L.wordOf (q+1) (List.replicate p (2^q))=T at *;generalize hS:L.wordOf (q+1) (List.replicate p c)=S at *;have HO:=hid hO;have HTT:=hid hT;have HS:=hid hS;clear hO hT hS;generalize hmm:L.nWords 1 n=m at *;have HMM:=hid hmm;clear hmm;generalize hwq:q+1=wd at *;have Uh:=hid hwq;clear hwq;go_enter Tryz.func252,Tryz.ntmps252;go_wp2_with (first
     | (go_at_call 274;refine ZW.out.mono ?_;rintro e w' ⟨rfl,rfl⟩)
     | (go_at_call 224;refine JF.out.mono ?_;rintro e w' ⟨rfl,rfl⟩)
     | (go_at_call 188;refine(Zed wd _ (by omega)).mono ?_;rintro e w' ⟨rfl,rfl⟩;rw[HZZ.out])
     | (go_at_call 209;refine Qg.out.mono ?_;rintro e w' ⟨rfl,rfl⟩))
    refine Zda 73 (.int .u64 0) 8 Tryz.underlying37 Tryz.info45 rfl m (by omega) (by omega) (by omega) (by unfold maxLen;omega) ?_;intro w1 hrow hb1 hsz1;have Qx:=hid hsz1;clear hsz1;go_wp2_with fail
    refine(Zjg wd p _ hw0 hwd HP.out).mono ?_;rintro e w1' ⟨rfl,rfl⟩;rw[HO.out];go_wp2_with fail
    have hgt:1<w'.heap.size:=ht.lt;have HT:=hid ht;go_loopw [58] (fun i wr=>∃(k:Nat) (zs:List Nat),k≤xs.length∧i=.int .i64 k∧Row wr w'.heap.size 73 (u64s zs)∧zs.length=m∧(∀ x∈zs,x<18446744073709551616) ∧
      (∀ j,Za0 zs j=(decide (j<k*p∧j<n)&&cmpF wd op xs c j))∧Below w'.heap.size w' wr∧Hid (wr.heap.size=w'.heap.size+1)) (fun i _=>xs.length-(intOf i).toNat)
    case atStart =>
     refine⟨0,List.replicate m 0,by omega,rfl,by simpa [u64s,u64]using hrow,by simp,Zlk (by omega),fun j=>?_,hb1,Qx⟩;have:Za0 (List.replicate m 0) j=false:=by
      unfold Za0;rw[Zk5];split<;>simp
     rw[this];simp
    case round =>
     obtain⟨k,zs,hk,rfl,hr,hzl,hzv,hzb,hb,hz⟩:=hrel;clear hrow hb1 Qx ht;have HR:=hid hr;have HZL:=hid hzl;have VJ:=hid hzv;have Va:=hid hzb;clear hr hzl hzv hzb;by_cases hlt:k<xs.length
     ·obtain⟨b,o,rfl,hs⟩:=hA (by omega);have c1:=(hs.mono (hb.mono (Nat.le_refl _))).word k hlt;have hxk:=hv (xs.getD k 0) (by simp[List.getD,List.getElem?_eq_getElem hlt]);have hkp:k*(64/wd)<n:=(L.lt_nWords hw0 hwd).1 (by rw[← HIP.out.1];exact hlt);obtain⟨cn,hcn⟩:∃ cn,L.inWord wd n k=cn:=⟨_,rfl⟩;have hxl:=HIP.out.2 k hlt;rw[hcn]at hxl;have hcp:cn≤p:=by rw[← hcn,← HP.out];exact Nat.min_le_left _ _
      have hcw2:cn*wd≤64:=by rw[← hcn];exact L.inWord_le wd n k
      have HKP:=hid hkp;have Ui:=hid hcn;have hcn2:cn=min p (n-k*p):=by rw[← hcn,L.inWord,HP.out]
      rw[HP.out]at hkp;obtain⟨fst,hfst⟩:∃ fst,k*p=fst:=⟨_,rfl⟩;have hf':(k:Int)*(p:Int)=(fst:Int):=by rw[← hfst];simp
      rw[hfst]at hkp hcn2;obtain⟨u,hu⟩:∃ u,cn*wd=u:=⟨_,rfl⟩;have hu':(cn:Int)*(wd:Int)=(u:Int):=by rw[← hu];simp
      have hu64:u≤64:=by omega
      have HU:=hid hu;have Xa:=hid hfst;have HCN2:=hid hcn2;have HXP:Hid (L.wordOf wd ((List.range p).map fun j=>xs.getD k 0/2^(j*wd)%2^wd)=xs.getD k 0) :=
       L.wordOf_lanes wd p (xs.getD k 0) (Nat.lt_of_lt_of_le hxl (Nat.pow_le_pow_right (by omega) (Nat.mul_le_mul_right wd hcp)))
      have Xb:Hid (∀ x∈(List.range p).map fun j=>xs.getD k 0/2^(j*wd)%2^wd,x<2^wd):=by
       intro x hx;obtain⟨j,_,rfl⟩:=List.mem_map.1 hx;exact Nat.mod_lt _ (Nat.pow_pos (by omega))
      have Yr:Hid (∀ j,j<p→cmpF wd op xs c (k*p+j)=Zcc op (xs.getD k 0/2^(j*wd)%2^wd) c):=by
       intro j hj;have e1:(k*p+j)/p=k:=by rw[Nat.mul_comm k p,Nat.mul_add_div (by omega),Nat.div_eq_of_lt hj,Nat.add_zero]
       have e2:(k*p+j)%p=j:=by rw[Nat.mul_comm k p,Nat.mul_add_mod,Nat.mod_eq_of_lt hj]
       simp only[cmpF,L.laneOf,show wd≠0 from by omega,if_false,HP.out,e1,e2]
      clear hs hA hcn hfst hu hcn2 hxl;generalize hxx:xs.getD k 0=x at *;clear hxx;have hla:((List.range p).map fun j=>x/2^(j*wd)%2^wd).length=p:=by simp
      have hlb:(List.replicate p c).length=p:=by simp
      have hxvb:=Zlk (n:=p) hcw;have HIT:Hid (∀ i,Zkx wd fst (cmpN op x S T &&& (2^u-1)) i=(decide (fst≤i∧i<fst+cn)&&cmpF wd op xs c i)):=by
       intro i;have h1:=Z0i (w:=q) op cn fst i hla hlb (by rw[Uh.out];exact Xb.out) (by rw[Uh.out];exact hxvb) (by rw[Uh.out];exact hpw) hcp;rw[Uh.out,HXP.out,HS.out,HTT.out,HU.out]at h1;rw[h1];by_cases hi:fst≤i∧i<fst+cn
       ·have hj:i-fst<p:=by omega
        have h2:=Yr.out (i-fst) hj;rw[Xa.out,show fst+(i-fst)=i from by omega]at h2;have h3:((List.range p).map fun j=>x/2^(j*wd)%2^wd).getD (i-fst) 0=x/2^((i-fst)*wd)%2^wd:=by
         simp[List.getD,List.getElem?_range hj]
        rw[h2,h3,Zk5,if_pos hj]
       ·rw[decide_eq_false hi,Bool.false_and,Bool.false_and]
      have hn1:=(L.notLess (w:=q) hla hlb (by rw[Uh.out];exact Xb.out) (by rw[Uh.out];exact hxvb) (by rw[Uh.out];exact hpw)).1;have hn2:=(L.notLess (w:=q) hlb hla (by rw[Uh.out];exact hxvb) (by rw[Uh.out];exact Xb.out) (by rw[Uh.out];exact hpw)).1;rw[Uh.out,HXP.out,HS.out,HTT.out]at hn1 hn2;have HCW:=hid (Zl9 x S T op wr hxk HH3.out HH2.out hn1 hn2);have hX64:cmpN op x S T<18446744073709551616:=by
       have h1:=Zfi x S T HH2.out;have h2:=Zfi S x T HH2.out;unfold cmpN
       split
       ·exact Zey _ HH2.out
       ·split
        ·exact Zoy h1 h2
        ·split
         ·exact h1
         ·split
          ·exact Zey _ HH2.out
          ·split
           ·exact h2
           ·exact Zey _ HH2.out
      have hZ64:2^u-1<18446744073709551616:=by have:=Zcr hu64;have:0<2^u:=Nat.pow_pos (by omega);omega
      have hand:=u64_and_nat _ _ hX64 hZ64;have VY:Hid (∀ b,(cmpN op x S T &&& (2^u-1)).testBit b=true→fst+b/wd<64*m):=by
       intro b hb;rw[Nat.testBit_and,Nat.testBit_two_pow_sub_one]at hb;simp only[Bool.and_eq_true,decide_eq_true_eq]at hb;have h1:b/wd<cn:=Nat.div_lt_of_lt_mul (by rw[Nat.mul_comm,HU.out];exact hb.2);have h2:=Zj1 n;rw[HMM.out]at h2;have h3:=HCN2.out;generalize b/wd=e at *;omega
      have HH4:=hid (Zey (2^u-1) hX64);clear hn1 hn2 hla hlb hxvb hX64 hZ64;generalize hXX:cmpN op x S T=X at *;generalize hZ2:2^u-1=Z2 at *;have ZX:=hid hZ2;generalize hHH:X &&& Z2=H at *;have HXA:=hid Xb;clear hXX hZ2 hHH HXP Xb HXA;go_wp2_with (first
       | (go_at_call 248;refine(Ze5 _ _ _ cn _ (by omega) (by omega) (by omega) (Nat.le_of_lt HKP.out) Ui.out).mono ?_;rintro e w'' ⟨rfl,rfl⟩)
       | (go_at_call 188;refine(Zed u _ (by omega)).mono ?_;rintro e w'' ⟨rfl,rfl⟩;rw[ZX.out])
       | (go_at_call 278;refine HCW.out.mono ?_;rintro e w'' ⟨rfl,rfl⟩)
       | (go_at_call 246;refine(Zdo _ p _ (by omega) (by omega) HP.out).mono ?_;rintro e w'' ⟨rfl,rfl⟩)
       | (go_at_call 279;refine(Zon _ m m fst wd H zs _ (HT.out.mono hb hgt) hgt HR.out HZL.out (Nat.le_refl _) (by omega) VJ.out hw0 hwd HH4.out (by omega) VY.out).mono ?_;rintro e w2 ⟨rfl,⟨zs2,hr2,hl2,hv2,hb2⟩,hbb2,hs2⟩;have Qc:=hid hb2;have Qq:=hid hr2;have Z1:=hid hl2;have ZJ:=hid hv2;have YX:=hid hs2;clear hb2 hr2 hl2 hv2 hs2))
      go_roundw
      case rel =>
       refine⟨k+1,zs2,by omega,by go_num,Qq.out,Z1.out,ZJ.out,fun j=>?_,hb.trans hbb2,?_⟩
       ·rw[Qc.out j,Va.out j,HIT.out j,Xa.out,Nat.succ_mul,Xa.out];have h3:=HCN2.out;by_cases h1:j<fst∧j<n
        ·have h2:j<fst+p∧j<n:=by omega
         have h4:¬ (fst≤j∧j<fst+cn):=by omega
         simp[h1,h2,h4]
        ·by_cases h2:fst≤j∧j<fst+cn
         ·have h4:j<fst+p∧j<n:=by omega
          simp[h1,h2,h4]
         ·have h4:¬ (j<fst+p∧j<n):=by omega
          rw[decide_eq_false h1,decide_eq_false h2,decide_eq_false h4];simp
       ·show _=_;rw[YX.out];exact hz.out
      case measure=>simp[intOf];omega
     ·obtain rfl:k=xs.length:=by omega
      go_wp2;go_ret2
      have hge:n≤xs.length*p:=by
       have h1:=(L.lt_nWords (n:=n) (k:=xs.length) hw0 hwd).2;rw[← HIP.out.1,HP.out]at h1;rcases Nat.lt_or_ge (xs.length*p) n with h2 | h2
       ·have:=h1 h2;omega
       ·exact h2
      have hbm:IsBm n zs (cmpF wd op xs c):=by
       refine⟨by rw[HZL.out,HMM.out],VJ.out,fun i _=>?_⟩;rw[Va.out i];congr 1
       rw[decide_eq_decide];omega
      have heq:=hbm.eq_bmL;refine⟨.slice (some ⟨w'.heap.size,0,none⟩) m m,by rw[QG.out];rfl,?_,hb⟩;rw[HF.out,← heq,HZL.out];exact Row.owns HR.out (Nat.le_refl _) (by rw[Zh7,HZL.out]) (by unfold maxLen;omega)
set_option maxRecDepth 512
def Zcj (wd k op:Int) (ws:List Nat) (lim:Nat):Bool:=Zho wd k op ws&&(Zeg k k (cmpR wd k op ws lim)==0)
def nilS:Value:=.slice none 0 0
theorem Zel (c:Nat) (xs:List Nat) (s:Bool):(rdI c xs s).2.2.1.length≤xs.length∧∀ B,(∀ x∈xs,x<B)→∀ x∈(rdI c xs s).2.2.1,x<B:=by
 unfold rdI;exact⟨Zbn _ _,fun B h=>Zas h⟩
theorem Ziq (c:Nat) (xs:List Nat) (s:Bool) (hl:xs.length≤16777216):(rdI c xs s).1.length≤16777216:=by
 unfold rdI;simp only[List.length_map,Zal];unfold tk;split
 ·rw[List.length_take];omega
 ·simp
def lstI (xs:List Int):List Value:=i64s xs
def lstS (xs:List ByteArray):List Value:=strs xs
def vI (x:Int):Value:=.int .i64 x
def vS (x:ByteArray):Value:=.string x
def dfI:Int:=0
def dfS:ByteArray:=default
theorem Zi7 (xs:List Int) (i:Nat) (h:i<xs.length):(lstI xs)[i]? = some (vI (xs.getD i dfI)):=Znn xs i h
theorem Zim (xs:List ByteArray) (i:Nat) (h:i<xs.length):(lstS xs)[i]? = some (vS (xs.getD i dfS)):=Ztf xs i h
theorem Zep (c:Nat) (xs:List Nat) (s:Bool):(rdS c xs s).2.2.1.length≤xs.length∧∀ B,(∀ x∈xs,x<B)→∀ x∈(rdS c xs s).2.2.1,x<B:=by
 unfold rdS;simp only
 split
 ·exact⟨Zbn _ _,fun B h=>Zas h⟩
 ·split
  ·exact⟨Nat.le_trans (Zbn _ _) (Zbn _ _),fun B h=>Zas (Zas h)⟩
  ·exact⟨Nat.le_trans (Zbn _ _) (Zbn _ _),fun B h=>Zas (Zas h)⟩
theorem Ziu (c:Nat) (xs:List Nat) (s:Bool) (hl:xs.length≤16777216):(rdS c xs s).1.length≤16777216:=by
 have h1:(nI (numL 4 (tk (4*c) xs))).length≤16777216:=by
  rw[Zaq,Zal];unfold tk;split
  ·rw[List.length_take];omega
  ·simp
 unfold rdS;simp only
 split
 ·simp
 ·split
  ·simp
  ·rw[Zds];exact h1
set_option maxRecDepth 100000
theorem Zqs (x:Nat) (r:List Nat):L.wordOf 8 (x :: r)=x+256*L.wordOf 8 r:=by simp[L.wordOf]
def Zb9 (size p n:Nat):Bool:=decide (p≤n∧size≤n-p)
set_option maxHeartbeats 1000000 in
theorem Zct (v:Value) (xs:List Nat) (p size:Nat) (w:World) (hx:Rd w v xs.length 1 (u8s xs)) (hb:∀ x∈xs,x<256) (hl:xs.length≤16777216) (hs:size≤8) (hp:p≤1099511627776) :
  Calls Tryz.prog 91 #[v,.int .i64 p,.int .i64 size] w fun e w' =>
   e=.returned (.tuple #[.int .u64 (if Zb9 size p xs.length=true then L.wordOf 8 ((xs.drop p).take size)else 0:Nat),.bool (Zb9 size p xs.length)])∧w'=w:=by
 obtain⟨A,ca,rfl,hlc,hcm,hA⟩:=hx.form;clear hx;by_cases hok:p≤xs.length∧size≤xs.length-p
 ·have hno:Zb9 size p xs.length=true:=by unfold Zb9;simpa using hok
  rw[hno,if_pos rfl];have h1:¬ (p:Int)<0:=by omega
  have h2:¬ (p:Int) > (xs.length:Int):=by omega
  have h3:¬ (size:Int) > (xs.length:Int)-(p:Int):=by omega
  clear hno;go_enter Tryz.func91,Tryz.ntmps91;go_wp2;go_loop [8,9] (fun u i=>∃ c:Nat,c≤size∧i=.int .i64 ((size:Int)-1-c)∧u=.int .u64 (L.wordOf 8 ((xs.drop (p+(size-c))).take c):Nat)) (fun _ i=>(intOf i+1).toNat)
  case atStart=>exact⟨0,by omega,by simp,by simp[L.wordOf]⟩
  case round =>
   obtain⟨c,hc,rfl,rfl⟩:=hrel;by_cases hlt:c<size
   ·obtain⟨b,o,rfl,hseg⟩:=hA (by omega);obtain⟨q,hq⟩:∃ q,p+(size-(c+1))=q:=⟨_,rfl⟩;have hqi:(p:Int)+((size:Int)-1-(c:Int))=(q:Int):=by omega
    have hql:q<xs.length:=by omega
    have c1:=hseg.byte q hql;have hvb:xs.getD q 0<256:=hb _ (by simp[List.getD,List.getElem?_eq_getElem hql]);have hstep:(xs.drop q).take (c+1)=xs.getD q 0 :: (xs.drop (p+(size-c))).take c:=by
     rw[List.drop_eq_getElem_cons hql,List.take_succ_cons,show p+(size-c)=q+1 by omega];simp[List.getD,List.getElem?_eq_getElem hql]
    have hlt64:L.wordOf 8 ((xs.drop (p+(size-c))).take c)<2^(8*c):=by
     have:=L.wordOf_lt 8 ((xs.drop (p+(size-c))).take c) (fun x hx=>hb x (List.mem_of_mem_drop (List.mem_of_mem_take hx)));rw[List.length_take,List.length_drop,Nat.min_eq_left (by omega)]at this;exact this
    have hpow:2^(8*c)*256≤18446744073709551616:=by
     have:2^(8*c)*2^8≤2^64:=by rw[← Nat.pow_add];exact Nat.pow_le_pow_right (by omega) (by omega)
     simpa using this
    have QE:Hid (L.wordOf 8 ((xs.drop (p+(size-(c+1)))).take (c+1))=xs.getD q 0+256*L.wordOf 8 ((xs.drop (p+(size-c))).take c)):=hid (by rw[hq,hstep,Zqs]);have hidx:(size:Int)-1-(c:Int) ≥ 0:=by omega
    clear hstep hseg hA hq;generalize xs.getD q 0=x at *;generalize L.wordOf 8 ((xs.drop (p+(size-c))).take c)=a at *;generalize 2^(8*c)=pw at *;go_wp2;go_round
    case rel=>exact⟨c+1,by omega,by congr 1;omega,by rw[QE.out];congr 1;omega⟩
    case measure=>simp[intOf];omega
   ·have hidx:¬ ((size:Int)-1-(c:Int) ≥ 0):=by omega
    obtain rfl:c=size:=by omega
    go_wp2;go_ret2
    exact⟨by simp,rfl⟩
 ·have hno:Zb9 size p xs.length=false:=by unfold Zb9;simpa using hok
  rw[hno,if_neg (by simp)];have h1:¬ (p:Int)<0:=by omega
  clear hno hA;go_enter Tryz.func91,Tryz.ntmps91;by_cases h2:p≤xs.length
  ·have h2':¬ (p:Int) > (xs.length:Int):=by omega
   have h3:(size:Int) > (xs.length:Int)-(p:Int):=by omega
   go_wp2;go_ret2
   exact⟨rfl,rfl⟩
  ·have h2':(p:Int) > (xs.length:Int):=by omega
   go_wp2;go_ret2
   exact⟨rfl,rfl⟩
theorem Zjm (k:Int) (w:World):Calls Tryz.prog 69 #[.int .i64 k] w fun e w'=>e=.returned (.bool (Za3 k))∧w'=w:=by
 go_enter Tryz.func69,Tryz.ntmps69;go_wp2
 all_goals go_ret
 all_goals refine⟨Zae ?_,rfl⟩
 all_goals by_cases h1:k=1<;>by_cases h2:k=2<;>simp_all [Za3]
def Zau (size count p n:Nat):Bool:=decide (p≤n∧size*count≤n-p)
theorem Zqw (size count p:Nat) (xs:List Nat) (h:p≤xs.length∧size*count≤xs.length-p) (i:Nat) (hi:i<count) :
  ((tk (size*count) (xs.drop p)).drop (size*i)).take size=(xs.drop (p+size*i)).take size:=by
 have h1:size*i+size≤size*count:=by rw[← Nat.mul_succ];exact Nat.mul_le_mul_left _ hi
 unfold tk;rw[if_pos (by rw[List.length_drop];exact h.2),List.drop_take,List.take_take,List.drop_drop,Nat.min_eq_left (by omega)]
theorem Zvq (size count p:Nat) (xs:List Nat) (h0:0<size) (h:p≤xs.length∧size*count≤xs.length-p) (i:Nat) (hi:i<count) :
  (numL size (tk (size*count) (xs.drop p))).take (i+1)=(numL size (tk (size*count) (xs.drop p))).take i++[L.wordOf 8 ((xs.drop (p+size*i)).take size)]:=by
 have hlen:(numL size (tk (size*count) (xs.drop p))).length=count:=by
  rw[Zal];unfold tk;rw[if_pos (by rw[List.length_drop];exact h.2),List.length_take,List.length_drop,Nat.min_eq_left (by omega)];exact Nat.mul_div_cancel_left _ h0
 rw[List.take_succ_eq_append_getElem (by omega)];congr 2
 unfold numL;rw[List.getElem_map,List.getElem_range,Zqw size count p xs h i hi]
set_option maxHeartbeats 2000000 in
theorem Zcm (v:Value) (xs:List Nat) (p size count:Nat) (w:World) (hx:Rd w v xs.length 1 (u8s xs)) (hb:∀ x∈xs,x<256) (hl:xs.length≤16777216) (hs:size=4∨size=8) (hp:p≤1099511627776) (hc:count≤4294967296) :
  Calls Tryz.prog 89 #[v,.int .i64 p,.int .i64 size,.int .i64 count] w fun e w' =>
   ∃ u,e=.returned (.tuple #[u,.int .i64 (if Zau size count p xs.length=true then p+size*count else 0:Nat),.bool (Zau size count p xs.length)]) ∧
    w'.ownsRow w.heap.size 73 1 u (numL size (tk (size*count) (xs.drop p))).length (u64s (numL size (tk (size*count) (xs.drop p))))∧Below w.heap.size w w':=by
 obtain⟨A,ca,rfl,hlc,hcm,hA⟩:=hx.form;clear hA;have h0:0<size:=by omega
 by_cases hok:p≤xs.length∧size*count≤xs.length-p
 ·have hno:Zau size count p xs.length=true:=by unfold Zau;simpa using hok
  rw[hno,if_pos rfl];have hlen:(numL size (tk (size*count) (xs.drop p))).length=count:=by
   rw[Zal];unfold tk;rw[if_pos (by rw[List.length_drop];exact hok.2),List.length_take,List.length_drop,Nat.min_eq_left (by omega)];exact Nat.mul_div_cancel_left _ h0
  have QJ:=hid (Zvq size count p xs h0 hok);have HX:=hid hx;have hcl:count≤16777216:=by rcases hs with rfl | rfl<;>omega
  have h1:¬ (count:Int)<0:=by omega
  have h2:¬ (p:Int)<0:=by omega
  have h3:¬ (p:Int) > (xs.length:Int):=by omega
  have h4:¬ (count:Int) > ((xs.length:Int)-(p:Int))/(size:Int):=by rcases hs with rfl | rfl<;>omega
  obtain⟨M,hM⟩:∃ M,numL size (tk (size*count) (xs.drop p))=M:=⟨_,rfl⟩;rw[hM]at hlen QJ ⊢;have hfin:(count:Int)*(size:Int)=((size*count:Nat):Int):=by rw[Nat.mul_comm];simp
  obtain⟨sc,hsc⟩:∃ sc,size*count=sc:=⟨_,rfl⟩;rw[hsc]at hok hfin ⊢;have hscl:sc≤16777216:=by omega
  obtain⟨B,hB⟩:∃ B,w.heap.size=B:=⟨_,rfl⟩;have Ya:=hid hB;rw[hB];clear hx hno hM hB;go_enter Tryz.func89,Tryz.ntmps89;go_wp2;go_loopw [11,12] (fun u i wr=>∃ j:Nat,j≤count∧i=.int .i64 j∧wr.ownsRow B 73 1 u j (u64s (M.take j))∧Below w.heap.size w wr) (fun _ i _=>count-(intOf i).toNat)
  case atStart=>exact⟨0,by omega,rfl,by simpa [u64s]using World.ownsRow_nil _ _ _ _,Below.refl _ _⟩
  case round =>
   obtain⟨j,hj,rfl,hown,hbw⟩:=hrel;have Qd:=hid hown;obtain⟨A2,c2,rfl,_,_,_⟩:=Zaj hown;clear hown;by_cases hlt:j<count
   ·obtain⟨q,hq⟩:∃ q,p+size*j=q:=⟨_,rfl⟩;have hmul:(j:Int)*(size:Int)=((size*j:Nat):Int):=by rw[Nat.mul_comm];simp
    have hsj:size*j+size≤sc:=by rw[← hsc,← Nat.mul_succ];exact Nat.mul_le_mul_left _ hlt
    have hq':(p:Int)+((size*j:Nat):Int)=(q:Int):=by omega
    have hnum1:q≤xs.length:=by omega
    have hnum2:size≤xs.length-q:=by omega
    have hnum:Zb9 size q xs.length=true:=by unfold Zb9;exact decide_eq_true ⟨hnum1,hnum2⟩
    have HN:=hid (Zct _ xs q size wr (HX.out.mono hbw) hb hl (by omega) (by omega));rw[hnum,if_pos rfl]at HN;have QE:=hid (QJ.out j hlt);rw[hq]at QE;have hsjl:size*j≤16777216:=by omega
    generalize L.wordOf 8 ((xs.drop q).take size)=x at *;generalize size*j=sj at *;clear hnum hq;have hBw:B≤wr.heap.size:=by have:=Ya.out;have:=hbw.size;omega
    go_wp2_with (first
     | (go_at_call 91;refine HN.out.mono ?_;rintro e w3 ⟨rfl,hw⟩;replace hw:=hw.symm;subst hw)
     | (at_builtin;refine Zdk rfl (.tmp 53) (.tmp 55) rfl 73 (.int .u64 0) 8 Tryz.underlying37 Tryz.info45 rfl rfl rfl Qd.out hBw (by rfl) (by unfold maxLen;omega) (by omega) ?_;intro v' w' ho hb3 _))
    go_roundw
    case rel =>
     refine⟨j+1,by omega,by go_num,?_,hbw.trans (hb3.mono (by have:=Ya.out;omega))⟩;rw[QE.out,Ze4];exact ho
    case measure=>simp[intOf];omega
   ·obtain rfl:j=count:=by omega
    go_wp2;refine bodyPost_ret (v:=.tuple #[.slice A2 j c2,.int .i64 ((p+sc:Nat):Int),.bool true]) ?_ rfl ⟨_,rfl,?_,by rw[← Ya.out];exact hbw⟩
    ·simp[results,Tryz.results89,go_sem]
    have:=Qd.out;rw[← hlen,List.take_length]at this;rw[hlen]at this ⊢;exact this
 ·have hno:Zau size count p xs.length=false:=by unfold Zau;simpa using hok
  rw[hno,if_neg (by simp)];have hM:numL size (tk (size*count) (xs.drop p))=[]:=by
   unfold tk numL;by_cases h2:p≤xs.length
   ·rw[if_neg (by rw[List.length_drop];exact fun h=>hok ⟨h2,h⟩)];simp
   ·rw[List.drop_of_length_le (by omega)];split<;>simp
  rw[hM];have h1:¬ (count:Int)<0:=by omega
  have h2:¬ (p:Int)<0:=by omega
  clear hno hM hx;go_enter Tryz.func89,Tryz.ntmps89;by_cases h3:p≤xs.length
  ·have h3':¬ (p:Int) > (xs.length:Int):=by omega
   have h4:(count:Int) > ((xs.length:Int)-(p:Int))/(size:Int):=by rcases hs with rfl | rfl<;>omega
   go_wp2;refine bodyPost_ret (v:=.tuple #[.slice none 0 0,.int .i64 0,.bool false]) ?_ rfl ⟨_,rfl,World.ownsRow_nil _ _ _ _,Zab w⟩;simp[results,Tryz.results89,go_sem]
  ·have h3':(p:Int) > (xs.length:Int):=by omega
   go_wp2;refine bodyPost_ret (v:=.tuple #[.slice none 0 0,.int .i64 0,.bool false]) ?_ rfl ⟨_,rfl,World.ownsRow_nil _ _ _ _,Zab w⟩;simp[results,Tryz.results89,go_sem]
def Zuo (x:Int):List Value:=[.bool false,.int .i64 x,.string ByteArray.empty]
def Zyx (x:ByteArray):List Value:=[.bool false,.int .i64 0,.string x]
def aggv (cs:List Value):Value:=.agg cs.toArray
theorem Zht (w:World):Calls Tryz.prog 319 #[.agg #[]] w fun e w'=>e=.returned (.int .i64 1)∧Below w.heap.size w w':=by
 go_enter Tryz.func319,Tryz.ntmps319;go_wp2;go_ret;exact⟨rfl,(Zab w).alloc (Nat.le_refl _) _⟩
theorem Zhz (w:World):Calls Tryz.prog 313 #[.agg #[]] w fun e w'=>e=.returned (.int .i64 2)∧Below w.heap.size w w':=by
 go_enter Tryz.func313,Tryz.ntmps313;go_wp2;go_ret;exact⟨rfl,(Zab w).alloc (Nat.le_refl _) _⟩
theorem Zpb (x:Int) (w:World):Calls Tryz.prog 318 #[.agg #[],.int .i64 x] w fun e w'=>e=.returned (aggv (Zuo x))∧Below w.heap.size w w':=by
 go_enter Tryz.func318,Tryz.ntmps318;go_wp2;refine bodyPost_ret (v:=aggv (Zuo x)) ?_ rfl ⟨rfl,?_⟩
 ·simp[results,Tryz.results318,go_sem];rfl
 ·exact((Zab w).alloc (Nat.le_refl _) _).alloc (by simp) _
theorem Znz (x:Int) (w:World):Calls Tryz.prog 320 #[.agg #[],aggv (Zuo x)] w fun e w'=>e=.returned (.int .i64 x)∧Below w.heap.size w w':=by
 unfold aggv Zuo;go_enter Tryz.func320,Tryz.ntmps320;go_wp2;go_ret;refine⟨rfl,((Zab w).alloc (Nat.le_refl _) _).alloc (by simp) _⟩
theorem Zqe (x:ByteArray) (w:World):Calls Tryz.prog 312 #[.agg #[],.string x] w fun e w'=>e=.returned (aggv (Zyx x))∧Below w.heap.size w w':=by
 go_enter Tryz.func312,Tryz.ntmps312;go_wp2;refine bodyPost_ret (v:=aggv (Zyx x)) ?_ rfl ⟨rfl,?_⟩
 ·simp[results,Tryz.results312,go_sem];rfl
 ·exact((Zab w).alloc (Nat.le_refl _) _).alloc (by simp) _
theorem Zws (x:Int) (w:World):Calls Tryz.prog 318 #[.agg #[],.int .i64 x] w fun e w'=>e=.returned (.agg #[.bool false,.int .i64 x,.string ByteArray.empty])∧Below w.heap.size w w':=Zpb x w
theorem Zxe (x:ByteArray) (w:World):Calls Tryz.prog 312 #[.agg #[],.string x] w fun e w'=>e=.returned (.agg #[.bool false,.int .i64 0,.string x])∧Below w.heap.size w w':=Zqe x w
theorem Zt7:∀ w:World,(method 457 159 (.agg #[]) "Cell").run Tryz.prog w=.ok (318,.agg #[]) w:=fun _=>by kernel_rfl
theorem Ztd:∀ w:World,(method 457 157 (.agg #[]) "Cell").run Tryz.prog w=.ok (312,.agg #[]) w:=fun _=>by kernel_rfl
theorem Zx2:∀ w:World,(method 457 159 (.agg #[]) "Value").run Tryz.prog w=.ok (320,.agg #[]) w:=fun _=>by kernel_rfl
theorem Zju:∀ w:World,(method 457 159 (.agg #[]) "Number").run Tryz.prog w=.ok (319,.agg #[]) w:=fun _=>by kernel_rfl
theorem Zjz:∀ w:World,(method 457 157 (.agg #[]) "Number").run Tryz.prog w=.ok (313,.agg #[]) w:=fun _=>by kernel_rfl
def Zil (w:World) (p:Nat) (cs:List Value):World:=((w.setCell ⟨p,0,none⟩ (cs.getD 0 undef)).setCell ⟨p,1,none⟩ (cs.getD 1 undef)).setCell ⟨p,2,none⟩ (cs.getD 2 undef)
theorem Zf0 {w:World} {p:Nat} {e:TypeId} {a b c:Value} (h:Row w p e [a,b,c]) (x y z:Value):Row (Zil w p [x,y,z]) p e [x,y,z]:=((h.set 0 x).set 1 y).set 2 z
theorem Zd9 {B:Nat} {w0 w:World} (h:Below B w0 w) (p:Nat) (hp:B≤p) (cs:List Value):Below B w0 (Zil w p cs):=Zac (Zac (Zac h _ _ _ hp) _ _ _ hp) _ _ _ hp
def Zdb (A:Nat→Bool) (B:Nat→Int) (C:Nat→ByteArray):Nat→List Value
 | 0=>[]
 | n+1=>Zdb A B C n++[.bool (A n),.int .i64 (B n),.string (C n)]
theorem Zmk (A:Nat→Bool) (B:Nat→Int) (C:Nat→ByteArray) (n:Nat):(Zdb A B C n).length=n*3:=by
 induction n with
 | zero=>rfl
 | succ n ih=>simp[Zdb,ih];omega
theorem Tryz.infoCell:(Tryz.prog.info? 36).map (fun i=>(i.zero,i.size,i.bytes))=some (some (.agg [.bool false,.int .i64 0,.string ByteArray.empty].toArray),3,32):=by kernel_rfl
def setL (w:World) (a:Nat):Nat→List Value→World
 | _,[]=>w
 | o,v :: r=>setL (w.setCell ⟨a,o,none⟩ v) a (o+1) r
theorem Zyl {a:Nat} {e:TypeId} (vs:List Value):∀(w:World) (pre cs:List Value),Row w a e (pre++cs)→vs.length=cs.length→Row (setL w a pre.length vs) a e (pre++vs):=by
 induction vs with
 | nil=>intro w pre cs h hl;have:cs=[]:=List.eq_nil_of_length_eq_zero hl.symm;subst this;exact h
 | cons v r ih =>
  intro w pre cs h hl
  match cs,hl with
  | c :: cs',hl =>
   have h1:=h.set pre.length v;rw[List.set_append_right _ _ (Nat.le_refl _),Nat.sub_self,List.set_cons_zero]at h1;have h2:=ih (w.setCell ⟨a,pre.length,none⟩ v) (pre++[v]) cs' (by simpa using h1) (by simpa using hl);rw[List.length_append]at h2;simpa [setL]using h2
theorem Zcx {w:World} {a:Nat} {e:TypeId} {cs:List Value} (h:Row w a e cs) (vs:List Value) (hl:vs.length=cs.length):Row (setL w a 0 vs) a e vs:=Zyl vs w [] cs h hl
theorem Zcg {B:Nat} {w0:World} (a:Nat) (ha:B≤a) (vs:List Value):∀(w:World) (o:Nat),Below B w0 w→Below B w0 (setL w a o vs):=by
 induction vs with
 | nil=>intro w o h;exact h
 | cons v r ih=>intro w o h;exact ih _ _ (Zac h _ _ _ ha)
theorem Zuy (a:Nat) (vs:List Value):∀(w:World) (o k:Nat),k≠a→(setL w a o vs).heap[k]? = w.heap[k]?:=by
 induction vs with
 | nil=>intro w o k h;rfl
 | cons v r ih=>intro w o k h;rw[setL,ih _ _ _ h,heap_setCell_other _ _ _ _ (by simpa using h)]
theorem Ztx (a:Nat) (vs:List Value) (w:World) (o:Nat):Chg a a w (setL w a o vs):=by
 have hsz:∀(vs:List Value) (w:World) (o:Nat),Below 0 w (setL w a o vs):=fun vs w o=>Zcg (w0:=w) a (Nat.zero_le _) vs w o (Below.refl _ _)
 have h:=hsz vs w o;exact⟨h.os,h.tape,h.output,h.size,fun k _ h1 _=>Zuy a vs w o k h1⟩
theorem Zza (d w:Nat) (h1:d≤2^w) (h2:∀ t,t<w→2^t<d):Zgf d=w:=by
 unfold Zgf;cases w with
 | zero=>rw[if_pos (by simp at h1;omega)]
 | succ t =>
  have h3:=h2 t (by omega);have h4:1≤2^t:=Nat.one_le_two_pow;rw[if_neg (by omega)];have h5:(d-1).log2=t:=(Nat.log2_eq_iff (by omega)).2 ⟨by omega,by omega⟩;omega
set_option maxHeartbeats 1000000 in
theorem Zyv (d:Nat) (w:World) (hd:d≤256):Calls Tryz.prog 117 #[.int .i64 d] w fun e w'=>e=.returned (.int .i64 (Zgf d:Nat))∧w'=w:=by
 go_enter Tryz.func117,Tryz.ntmps117;go_wp2;go_loop [3] (fun i=>∃ k:Nat,k≤8∧i=.int .i64 k∧∀ t,t<k→2^t<d) (fun i=>9-(intOf i).toNat)
 case atStart=>exact⟨0,by omega,rfl,fun t h=>absurd h (Nat.not_lt_zero t)⟩
 case round =>
  obtain⟨k,hk,rfl,hall⟩:=hrel;have Qr:=hid hall;clear hall;obtain⟨pw,hpw⟩:∃ pw,2^k=pw:=⟨_,rfl⟩;have hpl:pw≤256:=by rw[← hpw];exact Nat.le_trans (Nat.pow_le_pow_right (by omega) hk) (by decide)
  have hk8:pw<d→k<8:=by
   intro h;by_cases h8:k=8
   ·subst h8;rw[show (2:Nat)^8=256 from rfl]at hpw;omega
   ·omega
  have hpi:(2:Int)^k=(pw:Int):=by rw[← hpw];simp
  have Vk:=hid hpw;clear hpw;by_cases hlt:pw<d
  ·have hk7:=hk8 hlt;have hli:(pw:Int)<(d:Int):=by omega
   clear hk8;go_wp2;go_round
   case rel =>
    refine⟨k+1,by omega,by go_num,fun t ht=>?_⟩;by_cases htk:t=k
    ·subst htk;rw[Vk.out];exact hlt
    ·exact Qr.out t (by omega)
   case measure=>simp[intOf];omega
  ·have hli:¬ (pw:Int)<(d:Int):=by omega
   clear hk8;go_wp2;go_ret;exact⟨Zc9 (by rw[Zza d k (by rw[Vk.out];omega) Qr.out]),rfl⟩
def ordS (a b:ByteArray):Int:=if ltS a b=true then -1 else if (!(ltS a b||eqS a b))=true then 1 else 0
set_option maxRecDepth 20000
def ck_I (rows codec width:Int) (nulls:Value) (count:Int) (list ends:Value) (base:Int) (lanes kind bef:Value):List Value :=
 [i64 rows,i64 codec,i64 width,nulls,i64 count,list,ends,i64 base,lanes,kind,bef]
set_option maxHeartbeats 1000000 in
theorem Zxm (w:World) (g:Nat) (rows codec:Int) (wd:Nat) (nulls:Value) (count:Int) (list ends:Value) (base:Int) (lanes kind bef:Value) (ws:List Nat) (j:Nat)
  (h:Row w g 207 (ck_I rows codec wd nulls count list ends base lanes kind bef)) (hx:Rd w lanes ws.length 1 (u64s ws)) (hv:∀ x∈ws,x<18446744073709551616)
  (hw:wd≤64) (hj:j≤65536) (hin:0<wd→j/(64/wd)<ws.length) :
  Calls Tryz.prog 237 #[.pointer (some ⟨g,0,none⟩),.int .i64 j] w fun e w'=>e=.returned (.int .u64 (L.laneOf wd ws j:Nat))∧∃ n,w'=w.drewN n:=by
 have c2:w.cell? ⟨g,0+2,none⟩=some (.int .i64 wd):=by rw[h.cell];rfl
 by_cases h0:wd=0
 ·subst h0;go_enter Tryz.func237,Tryz.ntmps237;go_wp2;go_ret;exact⟨by simp[L.laneOf],0,rfl⟩
 ·obtain⟨A,ca,rfl,hlc,hcm,hA⟩:=hx.form;have hlt:=hin (by omega);obtain⟨b,o,rfl,hs⟩:=hA (Nat.lt_of_le_of_lt (Nat.zero_le _) hlt);have c8:w.cell? ⟨g,0+8,none⟩=some (.slice (some ⟨b,o,none⟩) ws.length ca):=by rw[h.cell];rfl
  have c1:=hs.word _ hlt;have hvj:ws.getD (j/(64/wd)) 0<18446744073709551616:=hv _ (by simp[List.getD,List.getElem?_eq_getElem hlt]);have hp:=L.per_pos (by omega) hw;have hp2:64/wd≤64:=Nat.div_le_self 64 wd;obtain⟨p,hP⟩:∃ p,64/wd=p:=⟨_,rfl⟩;have hPi:(64:Int)/(wd:Int)=(p:Int):=by rw[← hP];simp
  rw[hP]at c1 hvj hp hp2 hlt;have hmul:j%p*wd≤64:=by
   have h1:=L.per_mul wd;rw[hP]at h1;exact Nat.le_trans (Nat.mul_le_mul_right wd (Nat.le_of_lt (Nat.mod_lt _ hp))) h1
  obtain⟨q,hq⟩:∃ q,j%p*wd=q:=⟨_,rfl⟩;have hq':((j:Int)%(p:Int))*(wd:Int)=(q:Int):=by rw[← hq];simp
  rw[hq]at hmul;obtain⟨d,hd⟩:∃ d,j/p=d:=⟨_,rfl⟩;have hd':(j:Int)/(p:Int)=(d:Int):=by rw[← hd];simp
  have hdj:d≤65536:=by rw[← hd];exact Nat.le_trans (Nat.div_le_self _ _) hj
  rw[hd]at c1 hvj hlt;have HL:Hid (L.laneOf wd ws j=ws.getD d 0/2^q%2^wd):=hid (by unfold L.laneOf;rw[if_neg h0,hP,hd,hq]);have hne:¬ (wd:Int)=0:=by omega
  have hpe:¬ (p:Int)=0:=by omega
  clear hA hs hx hv hin hP hq hd h;generalize ws.getD d 0=x at *;have Z0:=hid (Zte x q wd hvj hw);generalize hz:2^wd-1=z at *;have HZ:=hid hz;clear hz;have hw1:(wd:Int)≤64:=by omega
  have ZH:Hid (IntKind.u64.wrap (IntKind.u64.wrap (2^wd)-1)=(z:Int)):=hid (by rw[← HZ.out];exact Zo6 wd hw);go_enter Tryz.func237,Tryz.ntmps237;go_wp2;rw[hPi,ZH.out];go_quiet (fail)
  go_wp2;go_ret;exact⟨Zer (by rw[Z0.out,HL.out]),_,rfl⟩
end Go.Proofs.YtmcjknjlihgihaaGreatDoor
