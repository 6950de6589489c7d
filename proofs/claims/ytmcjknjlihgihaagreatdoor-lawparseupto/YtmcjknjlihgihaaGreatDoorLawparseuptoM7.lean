/- Package chunk: the kinds' own methods over cells. -/
import Derived.Test.YtmcjknjlihgihaaGreatDoorLawparseuptoM6
set_option linter.unusedVariables false
set_option linter.unusedSimpArgs false
set_option linter.unnecessarySimpa false
set_option maxRecDepth 20000
namespace Go.Proofs.YtmcjknjlihgihaaGreatDoor
open Go.RowKit
theorem Zst (m:Nat):L.wordOf 1 (List.replicate m 1)=2^m-1:=by
 induction m with
 | zero=>simp[L.wordOf]
 | succ m ih =>
  rw[List.replicate_succ',L.wordOf_snoc,ih,List.length_replicate,Nat.one_mul,Nat.one_mul,Nat.pow_succ];have:0<2^m:=Nat.pow_pos (by omega);omega
theorem Zl8 (n k:Nat) (b:Bool) (hk:k<L.nWords 1 n):(bmL (List.replicate n b)).getD k 0=if b then 2^L.inWord 1 n k-1 else 0:=by
 unfold bmL;rw[List.map_replicate,L.packL_get 1 _ k (by simpa using hk),List.drop_replicate,List.take_replicate,Zkg];have e:min (64/1) (n-k*(64/1))=L.inWord 1 n k:=rfl;rw[e,Zst];cases b<;>simp
theorem Zos (n:Nat):bmL (List.replicate n false)=List.replicate (L.nWords 1 n) 0:=by
 apply L.ext_getD
 ·rw[Zlu];simp
 ·intro k hk;rw[Zlu,List.length_replicate]at hk;rw[Zl8 n k false hk,Zlj];simp
set_option maxHeartbeats 1000000 in
theorem Zsf (n:Nat) (b:Bool) (w:World) (hn:n≤65536) :
  Calls Tryz.prog 275 #[.int .i64 n,.bool b] w fun e w'=>e=.returned (.slice (some ⟨w.heap.size,0,none⟩) (L.nWords 1 n) (L.nWords 1 n)) ∧
   Row w' w.heap.size 73 (u64s (bmL (List.replicate n b)))∧Below w.heap.size w w'∧w'.heap.size=w.heap.size+1:=by
 have hml:=L.nWords_le (w:=1) (n:=n) (by omega);have Ql:=hid (Zk7 n w hn);have HGET:Hid (∀ k,k<L.nWords 1 n→(bmL (List.replicate n true)).getD k 0=2^L.inWord 1 n k-1):=fun k hk=>by rw[Zl8 n k true hk];rfl
 have Yw:Hid ((bmL (List.replicate n true)).length=L.nWords 1 n):=by refine hid ?_;rw[Zlu];simp
 have Xo:=hid (Zos n);have Yi:Hid (∀ k,k<L.nWords 1 n→k*64<n):=fun k hk=>by have:=(L.lt_nWords (w:=1) (by omega) (by omega)).1 hk;omega
 generalize L.nWords 1 n=m at *;cases b
 ·go_enter Tryz.func275,Tryz.ntmps275;go_wp2_with (go_at_call 209;refine Ql.out.mono ?_;rintro e w' ⟨rfl,rfl⟩)
  refine Zcx 73 (.int .u64 0) 8 Tryz.underlying37 Tryz.info45 rfl m (by omega) (by omega) (by omega) (by unfold maxLen;omega) ?_;intro w1 hrow hb1 hsz1;have Qy:=hid hsz1;clear hsz1;go_wp2;go_ret;refine⟨rfl,?_,hb1,Qy.out⟩;rw[Xo.out];have e:u64s (List.replicate m 0)=List.replicate m (.int .u64 0):=by simp[u64s,u64]
  rw[e];exact hrow
 ·go_enter Tryz.func275,Tryz.ntmps275;go_wp2_with (go_at_call 209;refine Ql.out.mono ?_;rintro e w' ⟨rfl,rfl⟩)
  refine Zcx 73 (.int .u64 0) 8 Tryz.underlying37 Tryz.info45 rfl m (by omega) (by omega) (by omega) (by unfold maxLen;omega) ?_;intro w1 hrow hb1 hsz1;have Qy:=hid hsz1;clear hsz1;go_wp2;go_loopw [15] (fun i wr=>∃ k:Nat,k≤m∧i=.int .i64 k∧Row wr w'.heap.size 73 (u64s ((bmL (List.replicate n true)).take k)++List.replicate (m-k) (.int .u64 0))∧Below w'.heap.size w' wr∧Hid (wr.heap.size=w'.heap.size+1)) (fun i _=>m-(intOf i).toNat)
  case atStart=>exact⟨0,by omega,rfl,by simpa [u64s]using hrow,hb1,Qy⟩
  case round =>
   obtain⟨k,hk,rfl,hr,hb,hz⟩:=hrel;clear hrow hb1 Qy;by_cases hlt:k<m
   ·have hcell:wr.cell? ⟨w'.heap.size,k,none⟩=some (.int .u64 0):=by
     rw[hr.cell];exact Zfm _ _ _ _ (by simp[u64s,Yw.out];omega) (by omega)
    have hfr:=hr.frozen k;have HR:=hid hr;clear hr;have hkn:=Yi.out k hlt;have hg:=HGET.out k hlt;obtain⟨c,hc⟩:∃ c,L.inWord 1 n k=c:=⟨_,rfl⟩;have hc64:c≤64:=by have:=L.inWord_le 1 n k;omega
    rw[hc]at hg;have HC:=hid hc;have HG:=hid hg;clear hc hg;obtain⟨z,hzz⟩:∃ z,2^c-1=z:=⟨_,rfl⟩;have HZZ:=hid hzz;clear hzz;go_wp2_with (first
     | (go_at_call 248;refine(Zfd 1 n k c _ (by omega) (by omega) (by omega) (by omega) HC.out).mono ?_;rintro e w'' ⟨rfl,rfl⟩)
     | (go_at_call 188;refine(Zeg c _ (by omega)).mono ?_;rintro e w'' ⟨rfl,rfl⟩;rw[HZZ.out]))
    go_roundw
    case rel =>
     refine⟨k+1,by omega,by go_num,?_,Zad hb _ _ _ (Nat.le_refl _),?_⟩
     ·have hs:=HR.out.set k (.int .u64 (z:Int));rw[Zfo _ _ _ _ _ (by simp[u64s,Yw.out];omega) (by omega)]at hs;have hlk:k<(bmL (List.replicate n true)).length:=by rw[Yw.out];exact hlt
      rw[List.take_succ_eq_append_getElem hlk,Zfi,← Nat.sub_sub m k 1];have e:(bmL (List.replicate n true))[k]=z:=by
       have:=HG.out;rw[HZZ.out]at this;simpa [List.getD,List.getElem?_eq_getElem hlk]using this
      rw[e];exact hs
     ·show _=_;rw[← hz.out];simp[World.setCell]
    case measure=>simp[intOf];omega
   ·obtain rfl:k=m:=by omega
    go_wp2;go_ret;refine⟨rfl,?_,hb,hz.out⟩;rw[List.take_of_length_le (by rw[Yw.out];exact Nat.le_refl _),Nat.sub_self]at hr;simpa using hr
theorem Zwj (op:Int) (a c:Nat) (h:a<c):Zcc op a c=Zcc op 0 c:=by
 unfold Zcc;have h1:¬ a=c:=by omega
 have h2:¬ 0=c:=by omega
 have h3:a≤c:=by omega
 have h4:0≤c:=by omega
 have h5:¬ c<a:=by omega
 have h6:¬ c<0:=by omega
 have h7:0<c:=by omega
 have h8:¬ c≤a:=by omega
 have h9:¬ c≤0:=by omega
 simp[h1,h2,h3,h4,h5,h6,h7,h8,h9,h]
theorem Ztz (wd n:Nat) (op:Int) (xs:List Nat) (c:Nat) (h:wd=0∨2^wd≤c):(List.range n).map (cmpF wd op xs c)=List.replicate n (Zcc op 0 c):=by
 apply List.eq_replicate_iff.2;refine⟨by simp,fun b hb=>?_⟩;obtain⟨i,_,rfl⟩:=List.mem_map.1 hb;unfold cmpF;rcases h with h | h
 ·subst h;simp[L.laneOf]
 ·exact Zwj op _ c (Nat.lt_of_lt_of_le (L.laneOf_lt wd xs i) h)
theorem Z07 (a q:Nat) (h:a*2^q<18446744073709551616):IntKind.u64.wrap ((a:Int)*2^q)=((a*2^q:Nat):Int):=Zt9 a q h
theorem Z1f (a b:Nat) (h:a*b<18446744073709551616):IntKind.u64.wrap ((a:Int)*(b:Int))=((a*b:Nat):Int):=by
 have e:((a:Int)*(b:Int))=((a*b:Nat):Int):=by simp
 rw[e,Zhe _ h]
set_option maxHeartbeats 4000000 in
theorem Zm6 (v:Value) (xs:List Nat) (wd n op:Int) (c:Nat) (w:World) (ht:Tab w) (hx:Rd w v xs.length 1 (u64s xs)) (hv:∀ x∈xs,x<18446744073709551616) (hc:c<18446744073709551616) (hl:xs.length≤maxLen) :
  Calls Tryz.prog 252 #[v,.int .i64 wd,.int .i64 n,.int .i64 op,.int .u64 c] w fun e w'=>∃ r,e=.returned (.tuple #[r,.bool (Zh8 wd n op xs)]) ∧
   w'.ownsRow w.heap.size 73 1 r (cmpR wd n op xs c).length (u64s (cmpR wd n op xs c))∧Below w.heap.size w w':=by
 have JP:=hid (Zjb v xs wd n w hx hv hl);have Jk:=hid (Znl op w);unfold maxLen at hl;obtain⟨A,ca,rfl,hlc,hcm,hA⟩:=hx.form;have HX:=hid hx;clear hx hlc hcm;cases hrel:Zw3 op
 ·have hno:Zh8 wd n op xs=false:=by simp[Zh8,hrel]
  have hf:cmpR wd n op xs c=[]:=by rw[cmpR,hno];rfl
  have Q8:=hid hno;have HF:=hid hf;rw[hrel]at Jk;clear hno hf hrel;go_enter Tryz.func252,Tryz.ntmps252;go_wp2_with (go_at_call 274;refine Jk.out.mono ?_;rintro e w' ⟨rfl,rfl⟩)
  go_ret2
  exact⟨.slice none 0 0,by rw[Q8.out];rfl,by rw[HF.out];exact World.ownsRow_nil _ _ _ _,Below.refl _ _⟩
 ·rw[hrel]at Jk;cases hok:Za9 wd n xs
  ·have hno:Zh8 wd n op xs=false:=by simp[Zh8,hok]
   have hf:cmpR wd n op xs c=[]:=by rw[cmpR,hno];rfl
   have Q8:=hid hno;have HF:=hid hf;rw[hok]at JP;clear hno hf hrel hok;go_enter Tryz.func252,Tryz.ntmps252;go_wp2_with (first
    | (go_at_call 274;refine Jk.out.mono ?_;rintro e w' ⟨rfl,rfl⟩)
    | (go_at_call 224;refine JP.out.mono ?_;rintro e w' ⟨rfl,rfl⟩))
   go_ret2
   exact⟨.slice none 0 0,by rw[Q8.out];rfl,by rw[HF.out];exact World.ownsRow_nil _ _ _ _,Below.refl _ _⟩
  ·have hin:0≤wd∧wd≤64∧0≤n∧n≤65536:=by
    have:=hok;simp only[Za9,Zj2,Bool.and_eq_true,decide_eq_true_eq]at this;exact this.1
   obtain⟨wd,rfl⟩:=Int.eq_ofNat_of_zero_le hin.1;obtain⟨n,rfl⟩:=Int.eq_ofNat_of_zero_le hin.2.2.1;have hwd:wd≤64:=by omega
   have hn:n≤65536:=by omega
   have HIP:=hid ((Zbl xs hwd hn).1 hok);have hyes:Zh8 (wd:Int) (n:Int) op xs=true:=by simp[Zh8,hok,hrel]
   have hf:cmpR (wd:Int) (n:Int) op xs c=bmL ((List.range n).map (cmpF wd op xs c)):=by rw[cmpR,hyes];rfl
   have QL:=hid hyes;have HF:=hid hf;rw[hok]at JP;clear hyes hf hrel hok hin;by_cases hu:wd=0∨2^wd≤c
   ·have HU:=hid (Ztz wd n op xs c hu);have h2:0<2^wd:=Nat.pow_pos (by omega);have HUNI:=hid (Zsf n (Zcc op 0 c) w hn);have hml:=L.nWords_le (w:=1) (n:=n) (by omega);have e0:(bmL (List.replicate n (Zcc op 0 c))).length=L.nWords 1 n:=by rw[Zlu];simp
    have fin:∀ w2,Row w2 w.heap.size 73 (u64s (bmL (List.replicate n (Zcc op 0 c))))→Below w.heap.size w w2 →
      ∃ r,Ending.returned (.tuple #[.slice (some ⟨w.heap.size,0,none⟩) (L.nWords 1 n) (L.nWords 1 n),.bool true])=.returned (.tuple #[r,.bool (Zh8 (wd:Int) (n:Int) op xs)]) ∧
       w2.ownsRow w.heap.size 73 1 r (cmpR (wd:Int) (n:Int) op xs c).length (u64s (cmpR (wd:Int) (n:Int) op xs c))∧Below w.heap.size w w2:=by
     intro w2 hr2 hb2;refine⟨.slice (some ⟨w.heap.size,0,none⟩) (L.nWords 1 n) (L.nWords 1 n),by rw[QL.out],?_,hb2⟩;rw[HF.out,HU.out,e0];exact Row.owns hr2 (Nat.le_refl _) (by rw[Ziz,e0]) (by unfold maxLen;omega)
    clear e0;rcases Nat.eq_zero_or_pos wd with hz | hz
    ·subst hz;clear hu;go_enter Tryz.func252,Tryz.ntmps252;go_wp2_with (first
      | (go_at_call 274;refine Jk.out.mono ?_;rintro e w' ⟨rfl,rfl⟩)
      | (go_at_call 224;refine JP.out.mono ?_;rintro e w' ⟨rfl,rfl⟩)
      | (go_at_call 276;refine(Zk6 0 op c _).mono ?_;rintro e w' ⟨rfl,rfl⟩)
      | (go_at_call 275;refine HUNI.out.mono ?_;rintro e w2 ⟨rfl,hr2,hb2,_⟩))
     go_ret2
     exact fin _ hr2 hb2
    ·have hwz:((wd:Int)==0)=false:=by simpa using (show wd≠0 by omega)
     have hzc:2^wd-1<c:=by rcases hu with h | h<;>omega
     generalize hzz:2^wd-1=z at *;have HZZ:=hid hzz;clear hu h2 hzz;go_enter Tryz.func252,Tryz.ntmps252;go_wp2_with (first
      | (go_at_call 274;refine Jk.out.mono ?_;rintro e w' ⟨rfl,rfl⟩)
      | (go_at_call 224;refine JP.out.mono ?_;rintro e w' ⟨rfl,rfl⟩)
      | (go_at_call 188;refine(Zeg wd _ (by omega)).mono ?_;rintro e w' ⟨rfl,rfl⟩;rw[HZZ.out])
      | (go_at_call 276;refine(Zk6 0 op c _).mono ?_;rintro e w' ⟨rfl,rfl⟩)
      | (go_at_call 275;refine HUNI.out.mono ?_;rintro e w2 ⟨rfl,hr2,hb2,_⟩))
     go_ret2
     exact fin _ hr2 hb2
   ·have hw0:0<wd:=by omega
    have hcw:c<2^wd:=by omega
    have hwz:((wd:Int)==0)=false:=by simpa using (show wd≠0 by omega)
    have hcz:c≤2^wd-1:=by omega
    obtain⟨p,hp⟩:∃ p,64/wd=p:=⟨_,rfl⟩;have hpw:p*wd≤64:=by rw[← hp];exact L.per_mul wd
    have h1w:(1:Nat)<2^wd:=Nat.one_lt_two_pow (by omega);obtain⟨q,rfl⟩:∃ q,wd=q+1:=⟨wd-1,by omega⟩;have hqq:(((q+1:Nat):Int))-1=(q:Int):=by omega
    have hqp:2^q<2^(q+1):=Nat.pow_lt_pow_right (by omega) (by omega);have hones:=Zge (q+1) p (List.replicate p 1) (by simp) (Zml h1w) hpw;have htops:=Zge (q+1) p (List.replicate p (2^q)) (by simp) (Zml hqp) hpw;have hspr:=Zge (q+1) p (List.replicate p c) (by simp) (Zml hcw) hpw;have e1:L.wordOf (q+1) (List.replicate p 1)*2^q=L.wordOf (q+1) (List.replicate p (2^q)):=by rw[Zkg (q+1) p (2^q),Nat.mul_comm]
    have e2:L.wordOf (q+1) (List.replicate p 1)*c=L.wordOf (q+1) (List.replicate p c):=by rw[Zkg (q+1) p c,Nat.mul_comm]
    have HEL:=hid (Zjc (q+1) p w hw0 hwd hp);have Ql:=hid (Zk7 n w hn);have hsh:=Z07 (L.wordOf (q+1) (List.replicate p 1)) q (by rw[e1];exact htops);have hmu:=Z1f (L.wordOf (q+1) (List.replicate p 1)) c (by rw[e2];exact hspr);rw[e1]at hsh;rw[e2]at hmu;generalize hzz:2^(q+1)-1=z at *;have HZZ:=hid hzz;have HP:=hid hp;have Ur:=hid hones;have HH2:=hid htops;have HH3:=hid hspr;have hml:=L.nWords_le (w:=1) (n:=n) (by omega);clear hu hzz hp hones htops hspr e1 e2 h1w hqp;generalize hO:L.wordOf (q+1) (List.replicate p 1)=O at *;generalize hT:L.wordOf (q+1) (List.replicate p (2^q))=T at *;generalize hS:L.wordOf (q+1) (List.replicate p c)=S at *;have HO:=hid hO;have HTT:=hid hT;have HS:=hid hS;clear hO hT hS;generalize hmm:L.nWords 1 n=m at *;have HMM:=hid hmm;clear hmm;generalize hwq:q+1=wd at *;have Us:=hid hwq;clear hwq;go_enter Tryz.func252,Tryz.ntmps252;go_wp2_with (first
     | (go_at_call 274;refine Jk.out.mono ?_;rintro e w' ⟨rfl,rfl⟩)
     | (go_at_call 224;refine JP.out.mono ?_;rintro e w' ⟨rfl,rfl⟩)
     | (go_at_call 188;refine(Zeg wd _ (by omega)).mono ?_;rintro e w' ⟨rfl,rfl⟩;rw[HZZ.out])
     | (go_at_call 209;refine Ql.out.mono ?_;rintro e w' ⟨rfl,rfl⟩))
    refine Zcx 73 (.int .u64 0) 8 Tryz.underlying37 Tryz.info45 rfl m (by omega) (by omega) (by omega) (by unfold maxLen;omega) ?_;intro w1 hrow hb1 hsz1;have Qy:=hid hsz1;clear hsz1;go_wp2_with fail
    refine(Zjc wd p _ hw0 hwd HP.out).mono ?_;rintro e w1' ⟨rfl,rfl⟩;rw[HO.out];go_wp2_with fail
    have hgt:1<w'.heap.size:=ht.lt;have HT:=hid ht;go_loopw [58] (fun i wr=>∃(k:Nat) (zs:List Nat),k≤xs.length∧i=.int .i64 k∧Row wr w'.heap.size 73 (u64s zs)∧zs.length=m∧(∀ x∈zs,x<18446744073709551616) ∧
      (∀ j,Zar zs j=(decide (j<k*p∧j<n)&&cmpF wd op xs c j))∧Below w'.heap.size w' wr∧Hid (wr.heap.size=w'.heap.size+1)) (fun i _=>xs.length-(intOf i).toNat)
    case atStart =>
     refine⟨0,List.replicate m 0,by omega,rfl,by simpa [u64s,u64]using hrow,by simp,Zml (by omega),fun j=>?_,hb1,Qy⟩;have:Zar (List.replicate m 0) j=false:=by
      unfold Zar;rw[Zlj];split<;>simp
     rw[this];simp
    case round =>
     obtain⟨k,zs,hk,rfl,hr,hzl,hzv,hzb,hb,hz⟩:=hrel;clear hrow hb1 Qy ht;have HR:=hid hr;have HZL:=hid hzl;have Xb:=hid hzv;have Vm:=hid hzb;clear hr hzl hzv hzb;by_cases hlt:k<xs.length
     ·obtain⟨b,o,rfl,hs⟩:=hA (by omega);have c1:=(hs.mono (hb.mono (Nat.le_refl _))).word k hlt;have hxk:=hv (xs.getD k 0) (by simp[List.getD,List.getElem?_eq_getElem hlt]);have hkp:k*(64/wd)<n:=(L.lt_nWords hw0 hwd).1 (by rw[← HIP.out.1];exact hlt);obtain⟨cn,hcn⟩:∃ cn,L.inWord wd n k=cn:=⟨_,rfl⟩;have hxl:=HIP.out.2 k hlt;rw[hcn]at hxl;have hcp:cn≤p:=by rw[← hcn,← HP.out];exact Nat.min_le_left _ _
      have hcw2:cn*wd≤64:=by rw[← hcn];exact L.inWord_le wd n k
      have HKP:=hid hkp;have Ui:=hid hcn;have hcn2:cn=min p (n-k*p):=by rw[← hcn,L.inWord,HP.out]
      rw[HP.out]at hkp;obtain⟨fst,hfst⟩:∃ fst,k*p=fst:=⟨_,rfl⟩;have hf':(k:Int)*(p:Int)=(fst:Int):=by rw[← hfst];simp
      rw[hfst]at hkp hcn2;obtain⟨u,hu⟩:∃ u,cn*wd=u:=⟨_,rfl⟩;have hu':(cn:Int)*(wd:Int)=(u:Int):=by rw[← hu];simp
      have hu64:u≤64:=by omega
      have HU:=hid hu;have Xp:=hid hfst;have HCN2:=hid hcn2;have HXP:Hid (L.wordOf wd ((List.range p).map fun j=>xs.getD k 0/2^(j*wd)%2^wd)=xs.getD k 0) :=
       L.wordOf_lanes wd p (xs.getD k 0) (Nat.lt_of_lt_of_le hxl (Nat.pow_le_pow_right (by omega) (Nat.mul_le_mul_right wd hcp)))
      have Xq:Hid (∀ x∈(List.range p).map fun j=>xs.getD k 0/2^(j*wd)%2^wd,x<2^wd):=by
       intro x hx;obtain⟨j,_,rfl⟩:=List.mem_map.1 hx;exact Nat.mod_lt _ (Nat.pow_pos (by omega))
      have QP:Hid (∀ j,j<p→cmpF wd op xs c (k*p+j)=Zcc op (xs.getD k 0/2^(j*wd)%2^wd) c):=by
       intro j hj;have e1:(k*p+j)/p=k:=by rw[Nat.mul_comm k p,Nat.mul_add_div (by omega),Nat.div_eq_of_lt hj,Nat.add_zero]
       have e2:(k*p+j)%p=j:=by rw[Nat.mul_comm k p,Nat.mul_add_mod,Nat.mod_eq_of_lt hj]
       simp only[cmpF,L.laneOf,show wd≠0 from by omega,if_false,HP.out,e1,e2]
      clear hs hA hcn hfst hu hcn2 hxl;generalize hxx:xs.getD k 0=x at *;clear hxx;have hla:((List.range p).map fun j=>x/2^(j*wd)%2^wd).length=p:=by simp
      have hlb:(List.replicate p c).length=p:=by simp
      have hxvb:=Zml (n:=p) hcw;have HIT:Hid (∀ i,Zlc wd fst (cmpN op x S T &&& (2^u-1)) i=(decide (fst≤i∧i<fst+cn)&&cmpF wd op xs c i)):=by
       intro i;have h1:=Z1h (w:=q) op cn fst i hla hlb (by rw[Us.out];exact Xq.out) (by rw[Us.out];exact hxvb) (by rw[Us.out];exact hpw) hcp;rw[Us.out,HXP.out,HS.out,HTT.out,HU.out]at h1;rw[h1];by_cases hi:fst≤i∧i<fst+cn
       ·have hj:i-fst<p:=by omega
        have h2:=QP.out (i-fst) hj;rw[Xp.out,show fst+(i-fst)=i from by omega]at h2;have h3:((List.range p).map fun j=>x/2^(j*wd)%2^wd).getD (i-fst) 0=x/2^((i-fst)*wd)%2^wd:=by
         simp[List.getD,List.getElem?_range hj]
        rw[h2,h3,Zlj,if_pos hj]
       ·rw[decide_eq_false hi,Bool.false_and,Bool.false_and]
      have hn1:=(L.notLess (w:=q) hla hlb (by rw[Us.out];exact Xq.out) (by rw[Us.out];exact hxvb) (by rw[Us.out];exact hpw)).1;have hn2:=(L.notLess (w:=q) hlb hla (by rw[Us.out];exact hxvb) (by rw[Us.out];exact Xq.out) (by rw[Us.out];exact hpw)).1;rw[Us.out,HXP.out,HS.out,HTT.out]at hn1 hn2;have HCW:=hid (Zmr x S T op wr hxk HH3.out HH2.out hn1 hn2);have hX64:cmpN op x S T<18446744073709551616:=by
       have h1:=Zft x S T HH2.out;have h2:=Zft S x T HH2.out;unfold cmpN
       split
       ·exact Zex _ HH2.out
       ·split
        ·exact Zo5 h1 h2
        ·split
         ·exact h1
         ·split
          ·exact Zex _ HH2.out
          ·split
           ·exact h2
           ·exact Zex _ HH2.out
      have hZ64:2^u-1<18446744073709551616:=by have:=Zcw hu64;have:0<2^u:=Nat.pow_pos (by omega);omega
      have hand:=u64_and_nat _ _ hX64 hZ64;have Xn:Hid (∀ b,(cmpN op x S T &&& (2^u-1)).testBit b=true→fst+b/wd<64*m):=by
       intro b hb;rw[Nat.testBit_and,Nat.testBit_two_pow_sub_one]at hb;simp only[Bool.and_eq_true,decide_eq_true_eq]at hb;have h1:b/wd<cn:=Nat.div_lt_of_lt_mul (by rw[Nat.mul_comm,HU.out];exact hb.2);have h2:=Zks n;rw[HMM.out]at h2;have h3:=HCN2.out;generalize b/wd=e at *;omega
      have HH4:=hid (Zex (2^u-1) hX64);clear hn1 hn2 hla hlb hxvb hX64 hZ64;generalize hXX:cmpN op x S T=X at *;generalize hZ2:2^u-1=Z2 at *;have ZF:=hid hZ2;generalize hHH:X &&& Z2=H at *;have HXA:=hid Xq;clear hXX hZ2 hHH HXP Xq HXA;go_wp2_with (first
       | (go_at_call 248;refine(Zfd _ _ _ cn _ (by omega) (by omega) (by omega) (Nat.le_of_lt HKP.out) Ui.out).mono ?_;rintro e w'' ⟨rfl,rfl⟩)
       | (go_at_call 188;refine(Zeg u _ (by omega)).mono ?_;rintro e w'' ⟨rfl,rfl⟩;rw[ZF.out])
       | (go_at_call 278;refine HCW.out.mono ?_;rintro e w'' ⟨rfl,rfl⟩)
       | (go_at_call 246;refine(Zdv _ p _ (by omega) (by omega) HP.out).mono ?_;rintro e w'' ⟨rfl,rfl⟩)
       | (go_at_call 279;refine(Zp0 _ m m fst wd H zs _ (HT.out.mono hb hgt) hgt HR.out HZL.out (Nat.le_refl _) (by omega) Xb.out hw0 hwd HH4.out (by omega) Xn.out).mono ?_;rintro e w2 ⟨rfl,⟨zs2,hr2,hl2,hv2,hb2⟩,hbb2,hs2⟩;have Qb:=hid hb2;have Qm:=hid hr2;have ZK:=hid hl2;have Zc:=hid hv2;have YK:=hid hs2;clear hb2 hr2 hl2 hv2 hs2))
      go_roundw
      case rel =>
       refine⟨k+1,zs2,by omega,by go_num,Qm.out,ZK.out,Zc.out,fun j=>?_,hb.trans hbb2,?_⟩
       ·rw[Qb.out j,Vm.out j,HIT.out j,Xp.out,Nat.succ_mul,Xp.out];have h3:=HCN2.out;by_cases h1:j<fst∧j<n
        ·have h2:j<fst+p∧j<n:=by omega
         have h4:¬ (fst≤j∧j<fst+cn):=by omega
         simp[h1,h2,h4]
        ·by_cases h2:fst≤j∧j<fst+cn
         ·have h4:j<fst+p∧j<n:=by omega
          simp[h1,h2,h4]
         ·have h4:¬ (j<fst+p∧j<n):=by omega
          rw[decide_eq_false h1,decide_eq_false h2,decide_eq_false h4];simp
       ·show _=_;rw[YK.out];exact hz.out
      case measure=>simp[intOf];omega
     ·obtain rfl:k=xs.length:=by omega
      go_wp2;go_ret2
      have hge:n≤xs.length*p:=by
       have h1:=(L.lt_nWords (n:=n) (k:=xs.length) hw0 hwd).2;rw[← HIP.out.1,HP.out]at h1;rcases Nat.lt_or_ge (xs.length*p) n with h2 | h2
       ·have:=h1 h2;omega
       ·exact h2
      have hbm:IsBm n zs (cmpF wd op xs c):=by
       refine⟨by rw[HZL.out,HMM.out],Xb.out,fun i _=>?_⟩;rw[Vm.out i];congr 1
       rw[decide_eq_decide];omega
      have heq:=hbm.eq_bmL;refine⟨.slice (some ⟨w'.heap.size,0,none⟩) m m,by rw[QL.out];rfl,?_,hb⟩;rw[HF.out,← heq,HZL.out];exact Row.owns HR.out (Nat.le_refl _) (by rw[Ziz,HZL.out]) (by unfold maxLen;omega)
set_option maxRecDepth 512
def Zck (wd k op:Int) (ws:List Nat) (lim:Nat):Bool:=Zh8 wd k op ws&&(Zee k k (cmpR wd k op ws lim)==0)
def nilS:Value:=.slice none 0 0
theorem Zeq (c:Nat) (xs:List Nat) (s:Bool):(rdI c xs s).2.2.1.length≤xs.length∧∀ B,(∀ x∈xs,x<B)→∀ x∈(rdI c xs s).2.2.1,x<B:=by
 unfold rdI;exact⟨Zbn _ _,fun B h=>Zau h⟩
theorem Zjw (c:Nat) (xs:List Nat) (s:Bool) (hl:xs.length≤16777216):(rdI c xs s).1.length≤16777216:=by
 unfold rdI;simp only[List.length_map,Zan];unfold tk;split
 ·rw[List.length_take];omega
 ·simp
def lstI (xs:List Int):List Value:=i64s xs
def lstS (xs:List ByteArray):List Value:=strs xs
def vI (x:Int):Value:=.int .i64 x
def vS (x:ByteArray):Value:=.string x
def dfI:Int:=0
def dfS:ByteArray:=default
theorem Zje (xs:List Int) (i:Nat) (h:i<xs.length):(lstI xs)[i]? = some (vI (xs.getD i dfI)):=Zgj xs i h
theorem Zjo (xs:List ByteArray) (i:Nat) (h:i<xs.length):(lstS xs)[i]? = some (vS (xs.getD i dfS)):=Zut xs i h
theorem Zem (c:Nat) (xs:List Nat) (s:Bool):(rdS c xs s).2.2.1.length≤xs.length∧∀ B,(∀ x∈xs,x<B)→∀ x∈(rdS c xs s).2.2.1,x<B:=by
 unfold rdS;simp only
 split
 ·exact⟨Zbn _ _,fun B h=>Zau h⟩
 ·split
  ·exact⟨Nat.le_trans (Zbn _ _) (Zbn _ _),fun B h=>Zau (Zau h)⟩
  ·exact⟨Nat.le_trans (Zbn _ _) (Zbn _ _),fun B h=>Zau (Zau h)⟩
theorem Zjk (c:Nat) (xs:List Nat) (s:Bool) (hl:xs.length≤16777216):(rdS c xs s).1.length≤16777216:=by
 have h1:(nI (numL 4 (tk (4*c) xs))).length≤16777216:=by
  rw[Zas,Zan];unfold tk;split
  ·rw[List.length_take];omega
  ·simp
 unfold rdS;simp only
 split
 ·simp
 ·split
  ·simp
  ·rw[Zd0];exact h1
set_option maxRecDepth 100000
def Zhk (x:Int):List Value:=[.bool false,.int .i64 x,.string ByteArray.empty]
def Zi4 (x:ByteArray):List Value:=[.bool false,.int .i64 0,.string x]
def Zy7:List Value:=[.bool true,.int .i64 0,.string ByteArray.empty]
def aggv (cs:List Value):Value:=.agg cs.toArray
theorem Zif (w:World):Calls Tryz.prog 319 #[.agg #[]] w fun e w'=>e=.returned (.int .i64 1)∧Below w.heap.size w w':=by
 go_enter Tryz.func319,Tryz.ntmps319;go_wp2;go_ret;exact⟨rfl,(Zab w).alloc (Nat.le_refl _) _⟩
theorem Zib (w:World):Calls Tryz.prog 313 #[.agg #[]] w fun e w'=>e=.returned (.int .i64 2)∧Below w.heap.size w w':=by
 go_enter Tryz.func313,Tryz.ntmps313;go_wp2;go_ret;exact⟨rfl,(Zab w).alloc (Nat.le_refl _) _⟩
theorem Zrk (x:Int) (w:World):Calls Tryz.prog 318 #[.agg #[],.int .i64 x] w fun e w'=>e=.returned (aggv (Zhk x))∧Below w.heap.size w w':=by
 go_enter Tryz.func318,Tryz.ntmps318;go_wp2;refine bodyPost_ret (v:=aggv (Zhk x)) ?_ rfl ⟨rfl,?_⟩
 ·simp[results,Tryz.results318,go_sem];rfl
 ·exact((Zab w).alloc (Nat.le_refl _) _).alloc (by simp) _
theorem Zou (x:Int) (w:World):Calls Tryz.prog 320 #[.agg #[],aggv (Zhk x)] w fun e w'=>e=.returned (.int .i64 x)∧Below w.heap.size w w':=by
 unfold aggv Zhk;go_enter Tryz.func320,Tryz.ntmps320;go_wp2;go_ret;refine⟨rfl,((Zab w).alloc (Nat.le_refl _) _).alloc (by simp) _⟩
theorem Zqk (x:ByteArray) (w:World):Calls Tryz.prog 312 #[.agg #[],.string x] w fun e w'=>e=.returned (aggv (Zi4 x))∧Below w.heap.size w w':=by
 go_enter Tryz.func312,Tryz.ntmps312;go_wp2;refine bodyPost_ret (v:=aggv (Zi4 x)) ?_ rfl ⟨rfl,?_⟩
 ·simp[results,Tryz.results312,go_sem];rfl
 ·exact((Zab w).alloc (Nat.le_refl _) _).alloc (by simp) _
theorem Zrh (x:Int) (w:World):Calls Tryz.prog 318 #[.agg #[],.int .i64 x] w fun e w'=>e=.returned (.agg #[.bool false,.int .i64 x,.string ByteArray.empty])∧Below w.heap.size w w':=Zrk x w
theorem Zrs (x:ByteArray) (w:World):Calls Tryz.prog 312 #[.agg #[],.string x] w fun e w'=>e=.returned (.agg #[.bool false,.int .i64 0,.string x])∧Below w.heap.size w w':=Zqk x w
theorem Zpl:∀ w:World,(method 457 159 (.agg #[]) "Cell").run Tryz.prog w=.ok (318,.agg #[]) w:=fun _=>by kernel_rfl
theorem Zph:∀ w:World,(method 457 157 (.agg #[]) "Cell").run Tryz.prog w=.ok (312,.agg #[]) w:=fun _=>by kernel_rfl
theorem Zw5:∀ w:World,(method 457 159 (.agg #[]) "Value").run Tryz.prog w=.ok (320,.agg #[]) w:=fun _=>by kernel_rfl
theorem Zkc:∀ w:World,(method 457 159 (.agg #[]) "Number").run Tryz.prog w=.ok (319,.agg #[]) w:=fun _=>by kernel_rfl
theorem Zj8:∀ w:World,(method 457 157 (.agg #[]) "Number").run Tryz.prog w=.ok (313,.agg #[]) w:=fun _=>by kernel_rfl
theorem Zp9 (w:World) (p g o:Nat) (a b c:Value) (h:g≠p):(((w.setCell ⟨p,0,none⟩ a).setCell ⟨p,1,none⟩ b).setCell ⟨p,2,none⟩ c).cell? ⟨g,o,none⟩=w.cell? ⟨g,o,none⟩ :=
 World.cell?_of_block (w:=w) (by rw[heap_setCell_other _ _ _ _ (by simpa using h),heap_setCell_other _ _ _ _ (by simpa using h),heap_setCell_other _ _ _ _ (by simpa using h)])
def Zfy (w:World) (p:Nat) (cs:List Value):World:=((w.setCell ⟨p,0,none⟩ (cs.getD 0 undef)).setCell ⟨p,1,none⟩ (cs.getD 1 undef)).setCell ⟨p,2,none⟩ (cs.getD 2 undef)
theorem Zel {w:World} {p:Nat} {e:TypeId} {a b c:Value} (h:Row w p e [a,b,c]) (x y z:Value):Row (Zfy w p [x,y,z]) p e [x,y,z]:=((h.set 0 x).set 1 y).set 2 z
theorem Zdi {B:Nat} {w0 w:World} (h:Below B w0 w) (p:Nat) (hp:B≤p) (cs:List Value):Below B w0 (Zfy w p cs):=Zad (Zad (Zad h _ _ _ hp) _ _ _ hp) _ _ _ hp
theorem Zj9 {P:Program} {w:World} {o:Oper} {a:Act} {K:Act→World→Prop} {Q:Exit→Act→World→Prop} {t:TypeId} {kl kc:IntKind} {L C:Int}
  (e:TypeId) (zs:List Value) (bytes:Nat) (h1:P.underlying t=some (.slice e)) (h2:(P.info? e).map (fun i=>(i.zero,i.size,i.bytes))=some (some (.agg zs.toArray),3,bytes)) (hz:zs.length=3)
  (n:Nat) (hL:L=(n:Int)) (hC:C=(n:Int)) (b2:bytes*n≤281474976710656) (b3:n≤maxLen)
  (hK:∀ w' cs,cs.length=n*3→Row w' w.heap.size e cs→Below w.heap.size w w'→w'.heap.size=w.heap.size+1→K (a.put o.dst (.slice (some ⟨w.heap.size,0,none⟩) n n)) w') :
  o.upon P a K Q ((Sem.run P (Instr.makeSlice t (.int kl L) (.int kc C)) w).andThen fun b w'=>Result.ok (Next.value b) w'):=by
 obtain⟨i,hi,hz0,hz1,hz2⟩:=info_parts h2;subst hL;subst hC;have hb:(i.bytes:Int)*(n:Int)≤281474976710656:=by
  have h:((i.bytes*n:Nat):Int)≤281474976710656:=by rw[hz2];omega
  rwa [Int.natCast_mul]at h
 have h63:(n:Int)≤9223372036854775807:=by unfold maxLen at b3;omega
 have hr:=run_make (P:=P) w t e i _ h1 hi hz0 kl kc n n (by omega) (Int.le_refl _) hb h63;simp only[Int.toNat_natCast,hz1]at hr;refine Ze7 hr (hK _ (madeCells (Value.agg zs.toArray).cells (n*3)).toList (by rw[Array.length_toList,size_madeCells]) ?_ ((Below.refl _ _).alloc (Nat.le_refl _) _) (by simp));unfold Row;rw[heap_alloc_new]
def Za2 (A:Nat→Bool) (B:Nat→Int) (C:Nat→ByteArray):Nat→List Value
 | 0=>[]
 | n+1=>Za2 A B C n++[.bool (A n),.int .i64 (B n),.string (C n)]
theorem Zcq (A:Nat→Bool) (B:Nat→Int) (C:Nat→ByteArray) (n:Nat):(Za2 A B C n).length=n*3:=by
 induction n with
 | zero=>rfl
 | succ n ih=>simp[Za2,ih];omega
theorem Zro {w:World} {g:Nat} {e:TypeId} {cs:List Value} (h:Row w g e cs) (o:Nat) (ho:o+2<cs.length) :
  ∃ x y z,w.cell? ⟨g,o,none⟩=some x∧w.cell? ⟨g,o+1,none⟩=some y∧w.cell? ⟨g,o+2,none⟩=some z :=
 ⟨_,_,_,by rw[h.cell];exact List.getElem?_eq_getElem (by omega),by rw[h.cell];exact List.getElem?_eq_getElem (by omega),by rw[h.cell];exact List.getElem?_eq_getElem ho⟩
theorem Zqa (pre rest:List Value) (o:Nat) (ho:pre.length=o) (hr:3≤rest.length) (a b c:Value) :
  (((pre++rest).set o a).set (o+1) b).set (o+2) c=(pre++[a,b,c])++rest.drop 3:=by
 subst ho;obtain⟨x,y,z,r,rfl⟩:∃ x y z r,rest=x :: y :: z :: r:=by
  match rest,hr with
  | x :: y :: z :: r,_=>exact⟨x,y,z,r,rfl⟩
 simp[List.set_append_right,List.set_append]
theorem Tryz.infoCell:(Tryz.prog.info? 36).map (fun i=>(i.zero,i.size,i.bytes))=some (some (.agg [.bool false,.int .i64 0,.string ByteArray.empty].toArray),3,32):=by kernel_rfl
def setL (w:World) (a:Nat):Nat→List Value→World
 | _,[]=>w
 | o,v :: r=>setL (w.setCell ⟨a,o,none⟩ v) a (o+1) r
theorem Zy5 {a:Nat} {e:TypeId} (vs:List Value):∀(w:World) (pre cs:List Value),Row w a e (pre++cs)→vs.length=cs.length→Row (setL w a pre.length vs) a e (pre++vs):=by
 induction vs with
 | nil=>intro w pre cs h hl;have:cs=[]:=List.eq_nil_of_length_eq_zero hl.symm;subst this;exact h
 | cons v r ih =>
  intro w pre cs h hl
  match cs,hl with
  | c :: cs',hl =>
   have h1:=h.set pre.length v;rw[List.set_append_right _ _ (Nat.le_refl _),Nat.sub_self,List.set_cons_zero]at h1;have h2:=ih (w.setCell ⟨a,pre.length,none⟩ v) (pre++[v]) cs' (by simpa using h1) (by simpa using hl);rw[List.length_append]at h2;simpa [setL]using h2
theorem Zc8 {w:World} {a:Nat} {e:TypeId} {cs:List Value} (h:Row w a e cs) (vs:List Value) (hl:vs.length=cs.length):Row (setL w a 0 vs) a e vs:=Zy5 vs w [] cs h hl
theorem Zci {B:Nat} {w0:World} (a:Nat) (ha:B≤a) (vs:List Value):∀(w:World) (o:Nat),Below B w0 w→Below B w0 (setL w a o vs):=by
 induction vs with
 | nil=>intro w o h;exact h
 | cons v r ih=>intro w o h;exact ih _ _ (Zad h _ _ _ ha)
theorem Zvm (a:Nat) (vs:List Value):∀(w:World) (o k:Nat),k≠a→(setL w a o vs).heap[k]? = w.heap[k]?:=by
 induction vs with
 | nil=>intro w o k h;rfl
 | cons v r ih=>intro w o k h;rw[setL,ih _ _ _ h,heap_setCell_other _ _ _ _ (by simpa using h)]
theorem Zuz (a:Nat) (vs:List Value) (w:World) (o:Nat):Chg a a w (setL w a o vs):=by
 have hsz:∀(vs:List Value) (w:World) (o:Nat),Below 0 w (setL w a o vs):=fun vs w o=>Zci (w0:=w) a (Nat.zero_le _) vs w o (Below.refl _ _)
 have h:=hsz vs w o;exact⟨h.os,h.tape,h.output,h.size,fun k _ h1 _=>Zvm a vs w o k h1⟩
theorem Zxc (k:Nat):L.popN k 0=0:=by induction k with | zero=>rfl | succ k ih=>simp[L.popN,ih]
theorem Zy3 (x b:Nat) (hb:b<64):L.popN 64 (x*2^(63-b)%18446744073709551616)=L.popN (b+1) x:=by
 have e64:(18446744073709551616:Nat)=2^(63-b)*2^(b+1):=by rw[← Nat.pow_add,show 63-b+(b+1)=64 by omega]
 have h1:x*2^(63-b)%18446744073709551616=2^(63-b)*(x%2^(b+1)):=by
  rw[e64,Nat.mul_comm x,Nat.mul_mod_mul_left]
 rw[h1,show (64:Nat)=(63-b)+(b+1) by omega,L.popN_add,Nat.mul_div_cancel_left _ (Nat.pow_pos (by omega)),L.popN_mod];rw[← L.popN_mod,Nat.mul_mod_right,Zxc,Nat.zero_add]
theorem Zp6 (ws:List Nat) (r:Nat) (hr:r/64<ws.length) :
  popL (ws.take (r/64))+L.popN 64 (ws.getD (r/64) 0*2^(63-r%64)%18446744073709551616)=Zaw ws (r+1):=by
 rw[Zy3 _ _ (by omega),← Zmh ws _ (by omega),← Zkb ws (r/64) (r%64+1) (by omega)];congr 1
 omega
end Go.Proofs.YtmcjknjlihgihaaGreatDoor
