/- Bitmaps as plain mathematics: lanes of width 1. -/
import Derived.Lib.TrailingZeros
import Derived.Test.YtmcjknjlihgihaaGreatDoorLawparseuptoM3
set_option linter.unusedVariables false
set_option linter.unusedSimpArgs false
set_option linter.unnecessarySimpa false
set_option maxRecDepth 20000
namespace Go.Proofs.YtmcjknjlihgihaaGreatDoor
open Go.RowKit
def upTo (wd:Nat) (l:List Nat) (x t:Nat):List Nat:=L.packL wd (l++if t=0 then []else [x%2^t])
theorem Zmg (wd:Nat) (l:List Nat) (x:Nat):upTo wd l x 0=L.packL wd l:=by simp[upTo]
theorem Zyv (wd:Nat) (h:wd≤64) (l:List Nat) (x:Nat) (hx:x<2^wd):upTo wd l x wd=L.packL wd (l++[x]):=by
 unfold upTo;by_cases h0:wd=0
 ·subst h0;simp[L.packL_zero]
 ·rw[if_neg h0,Nat.mod_eq_of_lt hx]
theorem Zx0 {wd:Nat} (h0:0<wd) (h:wd≤64) (l:List Nat) (x t:Nat) (hl:l.length/(64/wd)<(upTo wd l x t).length):upTo wd l x t=L.packL wd (l++[x%2^t]):=by
 by_cases ht:t=0
 ·subst ht;rw[Zmg]at hl ⊢;rw[Nat.pow_zero,Nat.mod_one,L.packL_snoc_zero h0 h l hl]
 ·simp[upTo,ht]
theorem Zv8 {wd:Nat} (h0:0<wd) (h:wd≤64) (l:List Nat) (x t:Nat) (hl:(upTo wd l x t).length≤l.length/(64/wd)):upTo wd l x t++[0]=L.packL wd (l++[x%2^t]):=by
 by_cases ht:t=0
 ·subst ht;rw[Zmg]at hl ⊢;rw[Nat.pow_zero,Nat.mod_one,L.packL_snoc_zero_new h0 h l hl]
 ·exfalso;simp only[upTo,ht,if_false]at hl;rw[L.packL_snoc_length h0 h]at hl;omega
theorem Zzf {wd:Nat} (h0:0<wd) (h:wd≤64) (l:List Nat) (hl:∀ x∈l,x<2^wd) (x t:Nat) :
  (x.testBit t=false→upTo wd l x (t+1)=L.packL wd (l++[x%2^t])) ∧
  (x.testBit t=true→(L.packL wd (l++[x%2^t])).set (l.length/(64/wd)) ((L.packL wd (l++[x%2^t])).getD (l.length/(64/wd)) 0 ||| 2^(l.length%(64/wd)*wd+t))=upTo wd l x (t+1)):=by
 refine⟨fun hb=>?_,fun hb=>?_⟩
 ·simp[upTo,L.mod_succ_bit,hb]
 ·rw[L.packL_bit h0 h l hl x t hb];simp[upTo]
theorem Zpv (ys:List Nat) (i n:Nat):(u64s ys).set i (.int .u64 (n:Int))=u64s (ys.set i n):=by simp[u64s,u64,List.map_set]
theorem Zh1 (a s:Nat) (ha:a<18446744073709551616) (hs:s<64):bits BinOp.or IntKind.u64 (a:Int) (IntKind.u64.wrap (2^s))=((a ||| 2^s:Nat):Int):=by
 have h:2^s<18446744073709551616:=by
  have:2^s≤2^63:=Nat.pow_le_pow_right (by omega) (by omega);omega
 have e:((2:Int)^s)=((2^s:Nat):Int):=by simp
 rw[e,Zhe _ h,u64_or_nat _ _ ha h]
set_option maxHeartbeats 4000000 in
theorem Zl1 (v:Value) (xs:List Nat) (wd:Int) (w:World) (hx:Rd w v xs.length 1 (u64s xs)) (hv:∀ x∈xs,x<18446744073709551616) (hl:xs.length≤maxLen) :
  Calls Tryz.prog 150 #[v,.int .i64 wd] w fun e w'=>∃ r,e=.returned (.tuple #[r,.bool (Zid wd xs)]) ∧
   w'.ownsRow w.heap.size 73 1 r (Zp3 wd xs).length (u64s (Zp3 wd xs))∧Below w.heap.size w w':=by
 unfold maxLen at hl;obtain⟨A,ca,rfl,hlc,hcm,hA⟩:=hx.form;clear hlc hcm hx;by_cases hin:0≤wd∧wd≤64∧xs.length≤65536
 ·obtain⟨wd,rfl⟩:=Int.eq_ofNat_of_zero_le hin.1;have hwd:wd≤64:=by omega
  have hn:xs.length≤65536:=by omega
  clear hin;go_enter Tryz.func150,Tryz.ntmps150;go_wp2;go_loopw [6,24] (fun v6 i wr=>∃ j:Nat,j≤xs.length∧i=.int .i64 j∧wr.ownsRow w.heap.size 73 1 v6 (L.packL wd (xs.take j)).length (u64s (L.packL wd (xs.take j)))∧(∀ t,t<j→xs.getD t 0<2^wd)∧Below w.heap.size w wr) (fun _ i _=>xs.length-(intOf i).toNat)
  case atStart=>exact⟨0,by omega,rfl,by simpa [L.packL_nil wd hwd,u64s]using World.ownsRow_nil _ _ _ _,fun t h=>absurd h (Nat.not_lt_zero t),Below.refl _ _⟩
  case round =>
   obtain⟨j,hj,rfl,hown,hall,hb⟩:=hrel;have Qs:=hid hall;have Qi:=hid hown;clear hall hown;by_cases hlt:j<xs.length
   ·obtain⟨b,o,rfl,hs⟩:=hA (by omega);have c1:=(hs.mono (hb.mono (Nat.le_refl _))).word j hlt;have hvx:=hv (xs.getD j 0) (by simp[List.getD,List.getElem?_eq_getElem hlt]);have Jj:=hid hvx;have JC:Hid (xs.take (j+1)=xs.take j++[xs.getD j 0]):=by
     refine hid ?_;rw[List.take_succ_eq_append_getElem hlt];simp[List.getD,List.getElem?_eq_getElem hlt]
    have YG:Hid ((xs.take j).length=j):=by refine hid ?_;rw[List.length_take];omega
    have ZI:Hid (∀ x∈xs.take j,x<2^wd):=by
     intro x hx;obtain⟨t,ht,rfl⟩:=List.getElem_of_mem hx;have h2:t<j:=by rw[List.length_take]at ht;omega
     have:=Qs.out t h2;simpa [List.getD,List.getElem?_eq_getElem (show t<xs.length by omega)]using this
    have YH:Hid (¬ xs.getD j 0<2^wd→Zid (wd:Int) xs=false):=by
     intro h;rw[← Bool.not_eq_true];intro hp;simp only[Zid,Bool.and_eq_true,List.all_eq_true,decide_eq_true_eq,Int.toNat_natCast]at hp;exact h (hp.2 (xs.getD j 0) (by simp[List.getD,List.getElem?_eq_getElem hlt]))
    have HYX:Hid (xs.getD j 0<2^wd→∀ t,t<j+1→xs.getD t 0<2^wd):=by
     intro h t ht;by_cases htk:t=j
     ·subst htk;exact h
     ·exact Qs.out t (by omega)
    clear hs hvx Qs hA;generalize xs.getD j 0=x at *;generalize hl1:xs.take (j+1)=l1 at *;have Vs:=hid hl1;clear hl1;generalize xs.take j=l at *;by_cases hxw:x<2^wd
    ·have Xi:=hid hxw;have YI:Hid (decide (x<2^wd)=true):=by refine hid ?_;simpa using hxw
     clear hxw;go_wp2_with (go_at_call 182;refine(Zrg _ wd _ Jj.out (by omega)).mono ?_;rintro e w' ⟨rfl,rfl⟩;rw[YI.out])
     go_loopw [6,9] (fun v6 i wr=>∃ t:Nat,t≤wd∧i=.int .i64 t∧wr.ownsRow w.heap.size 73 1 v6 (upTo wd l x t).length (u64s (upTo wd l x t))∧Below w.heap.size w wr) (fun _ i _=>wd-(intOf i).toNat)
     case atStart=>exact⟨0,by omega,rfl,by rw[Zmg];exact Qi.out,hb⟩
     case round =>
      obtain⟨t,ht,rfl,hown,hb'⟩:=hrel;clear hb c1 Qi;have Qi:=hid hown;clear hown;by_cases htw:t<wd
      ·obtain⟨p,hp⟩:∃ p,64/wd=p:=⟨_,rfl⟩;have hpp:=L.per_pos (w:=wd) (by omega) hwd;rw[hp]at hpp;obtain⟨d,hd⟩:∃ d,j/p=d:=⟨_,rfl⟩;obtain⟨s,hs⟩:∃ s,j%p*wd+t=s:=⟨_,rfl⟩;have hs64:s<64:=by
        have h1:(j%p+1)*wd≤p*wd:=Nat.mul_le_mul_right wd (Nat.mod_lt _ hpp);have h2:p*wd≤64:=by rw[← hp];exact L.per_mul wd
        rw[Nat.add_mul,Nat.one_mul]at h1;omega
       obtain⟨c,hc⟩:∃ c,64*(j/p)+j%p*wd+t=c:=⟨_,rfl⟩;have hdj:d≤j:=by rw[← hd];exact Nat.div_le_self _ _
       have hcd:c=64*d+s:=by rw[← hc,hd,← hs];omega
       have hc1:(c:Int)/64=(d:Int):=by omega
       have hc2:(c:Int)%64=(s:Int):=by omega
       have HC:=hid hc;have HP:=hid hp;have Vt:=hid (Zv8 (wd:=wd) (by omega) hwd l x t);have HLO:=hid (Zx0 (wd:=wd) (by omega) hwd l x t);have Xj:=hid (Zzf (wd:=wd) (by omega) hwd l ZI.out x t);have JD:Hid ((L.packL wd (l++[x%2^t])).length=d+1):=by refine hid ?_;rw[L.packL_snoc_length (by omega) hwd,YG.out,hp,hd]
       rw[YG.out,hp,hd]at Vt HLO Xj;rw[hs]at Xj;have Um:Hid (∀ y∈L.packL wd (l++[x%2^t]),y<18446744073709551616):=by
        intro y hy;obtain⟨k,hk,rfl⟩:=List.getElem_of_mem hy;have hlv:∀ z∈l++[x%2^t],z<2^wd:=by
         intro z hz;rcases List.mem_append.1 hz with h | h
         ·exact ZI.out z h
         ·simp at h;subst h;exact Nat.lt_of_le_of_lt (Nat.mod_le _ _) Xi.out
        have h1:=(L.pack_isPack hwd _ hlv).2 k hk;have h2:=Zcw (L.inWord_le wd (l++[x%2^t]).length k);simp only[List.getD,List.getElem?_eq_getElem hk,Option.getD_some]at h1;omega
       have Un:=hid (Zhy x t Jj.out);clear hc hp hd hs hcd hpp;generalize L.packL wd (l++[x%2^t])=F at *;generalize upTo wd l x t=E at *;go_wp2_with (go_at_call 183;refine(Zis j t wd p c _ (by omega) hwd htw (by omega) HP.out HC.out).mono ?_;rintro e w2 ⟨rfl,nd,rfl⟩)
       have JE:=hid (Zbs Qi.out (Go.below_drewN (Below.refl _ wr) nd));have hb2:=Go.below_drewN hb' nd;clear Qi hb';generalize hwr2:wr.drewN nd=wr2 at *;clear hwr2;go_loopw [6] (fun v6 wv=>∃ ys:List Nat,(ys=E∨ys=F)∧wv.ownsRow w.heap.size 73 1 v6 ys.length (u64s ys)∧Below w.heap.size w wv) (fun v6 _=>d+1-Z1v v6)
       case atStart=>exact⟨E,.inl rfl,JE.out,hb2⟩
       case round =>
        obtain⟨ys,hyz,hown,hbv⟩:=hrel;clear JE hb2;have HYZ:=hid hyz;have Qi:=hid hown;clear hyz;obtain⟨A,cap,rfl,hnc,hcm,hlen,hform⟩:=Zao hown;unfold maxLen at hcm;clear hown hlen;by_cases hys:ys.length≤d
        ·have hE:E++[0]=F:=by
          rcases HYZ.out with h | h
          ·exact Vt.out (by rw[← h];exact hys)
          ·have:=JD.out;rw[h]at hys;omega
         have hyE:ys=E:=by
          rcases HYZ.out with h | h
          ·exact h
          ·have:=JD.out;rw[h]at hys;omega
         have HE:=hid hE;have HYE:=hid hyE;clear hE hyE hform;go_wp2_with (at_builtin;refine Zdp rfl (.tmp 47) (.tmp 48) rfl 73 (.int .u64 0) 8 Tryz.underlying37 Tryz.info45 rfl rfl rfl Qi.out hbv.size (by rfl) (by unfold maxLen;omega) (by omega) ?_;intro v' w' ho hb3 _)
         obtain⟨A2,cap2,rfl,_,_,_,_⟩:=Zao ho;go_roundw
         case rel =>
          refine⟨F,.inr rfl,?_,hbv.trans hb3⟩;have e:F.length=ys.length+1:=by rw[← HE.out,HYE.out];simp
          rw[e,← HE.out,Zfi,← HYE.out];exact ho
         case measure=>simp[Z1v];omega
        ·have hyF:ys=F:=by
          rcases HYZ.out with h | h
          ·rw[h];exact HLO.out (by rw[← h];omega)
          ·exact h
         have HYF:=hid hyF;obtain⟨g,rfl,hBg,hglt,hcells,hfrz⟩:=hform (by omega);have hcell:wr.cell? ⟨g,d,none⟩=some (.int .u64 ((F.getD d 0:Nat):Int)):=by
          rw[hcells d (by omega),hyF];exact Zh5 F d (by have:=JD.out;omega)
         have hfr:=hfrz d;have HFY:=hid (Um.out (F.getD d 0) (by have:=JD.out;simp[List.getD,List.getElem?_eq_getElem (show d<F.length by omega)]));have Qt:=hid (Zzr Qi.out d (.int .u64 ((F.getD d 0 ||| 2^s:Nat):Int)));have Vu:=hid (Zh1 (F.getD d 0) s HFY.out hs64);have QC:=hid Xj.out.2;clear hyF hcells hfrz;generalize F.getD d 0=f at *;cases htb:x.testBit t
         ·have Uo:Hid ((bits BinOp.and IntKind.u64 (↑x/2^t) 1==1)=false):=by refine hid ?_;rw[Un.out,htb]
          have Xk:=hid (Xj.out.1 htb);clear htb;go_wp2
          ·exfalso;have h:(bits BinOp.and IntKind.u64 (↑x/2^t) 1==1)=true:=by assumption
           rw[Uo.out]at h;cases h
          ·go_roundw
           case rel=>exact⟨t+1,by omega,by go_num,by rw[Xk.out,← HYF.out];exact Qi.out,hbv⟩
           case measure=>simp[intOf];omega
         ·have Uo:Hid ((bits BinOp.and IntKind.u64 (↑x/2^t) 1==1)=true):=by refine hid ?_;rw[Un.out,htb]
          have Xk:=hid (QC.out htb);clear htb;go_wp2
          ·go_roundw
           case rel =>
            refine⟨t+1,by omega,by go_num,?_,Zad hbv _ _ _ hBg⟩;rw[← Xk.out,List.length_set,← Zpv,← HYF.out];rw[Vu.out];exact Qt.out
           case measure=>simp[intOf];omega
          ·exfalso;have h:(bits BinOp.and IntKind.u64 (↑x/2^t) 1==1)=false:=by assumption
           rw[Uo.out]at h;cases h
      ·obtain rfl:t=wd:=by omega
       go_wp2;go_roundw
       case rel =>
        have hup:=Zyv t hwd l x Xi.out;have hown:=Qi.out;rw[hup,← JC.out,← Vs.out]at hown;exact⟨j+1,by omega,by go_num,hown,HYX.out Xi.out,hb'⟩
       case measure=>simp[intOf];omega
    ·have Xi:=hid hxw;have YI:Hid (decide (x<2^wd)=false):=by refine hid ?_;simpa using hxw
     clear hxw;go_wp2_with (go_at_call 182;refine(Zrg _ wd _ Jj.out (by omega)).mono ?_;rintro e w' ⟨rfl,rfl⟩;rw[YI.out])
     go_ret2
     have hf:=YH.out Xi.out;exact⟨.slice none 0 0,by rw[hf];rfl,by rw[Zp3,hf];exact World.ownsRow_nil _ _ _ _,hb⟩
   ·go_wp2;go_ret2
    obtain rfl:j=xs.length:=by omega
    have hok:Zid (wd:Int) xs=true:=by
     simp only[Zid,Zj2,Bool.and_eq_true,List.all_eq_true,decide_eq_true_eq,Int.toNat_natCast];refine⟨by omega,fun x hx=>?_⟩;obtain⟨t,ht,rfl⟩:=List.getElem_of_mem hx;have:=Qs.out t (by omega);simpa [List.getD,List.getElem?_eq_getElem ht]using this
    have hpk:Zp3 (wd:Int) xs=L.packL wd xs:=by rw[Zp3,if_pos hok,Int.toNat_natCast]
    have hown:=Qi.out;rw[List.take_length]at hown;exact⟨_,by rw[hok];rfl,by rw[hpk];exact hown,hb⟩
 ·have hno:Zid wd xs=false:=by simp[Zid,Zj2];intro a b c;omega
  go_enter Tryz.func150,Tryz.ntmps150;go_wp2
  all_goals go_ret2
  all_goals exact⟨.slice none 0 0,by first | rfl | (rw[hno];rfl),by rw[Zp3,hno];exact World.ownsRow_nil _ _ _ _,Below.refl _ _⟩
theorem Zy1 {wd:Nat} (h0:0<wd) (h:wd≤64) (xs:List Nat) (j t p d s c:Nat) (hp:64/wd=p) (hd:j/p=d) (hs:j%p*wd+t=s) (ht:t<wd) (hs64:s<64) (hc:c=64*d+s) :
  Zar xs c=(L.laneOf wd xs j).testBit t:=by
 have h1:c/64=d:=by omega
 have h2:c%64=s:=by omega
 rw[Zar,h1,h2];simp only[L.laneOf,show wd≠0 from by omega,if_false,hp,hd];rw[Nat.testBit_mod_two_pow,Nat.testBit_div_two_pow];simp[ht,← hs,Nat.add_comm]
theorem Zv6 (y t:Nat) (hb:y.testBit t=true):y%2^t ||| 2^t=y%2^(t+1):=by
 rw[L.mod_succ_bit,if_pos hb,L.or_bit _ _ (Nat.mod_lt _ (Nat.pow_pos (by omega)))]
theorem Z1l (A B:List Value) (x:Value) (i:Nat) (hi:i=A.length):(A++[x]++B)[i]? = some x:=by subst hi;simp
theorem Z0s (A B:List Value) (x y:Value) (i:Nat) (hi:i=A.length):(A++[x]++B).set i y=A++[y]++B:=by subst hi;simp
theorem Zrt (wd n:Nat) (hwd:wd≤64) (hn:n≤65536) (xs:List Nat):Zid (wd:Int) (L.lanesL wd n xs)=true:=by
 simp only[Zid,Zj2,Bool.and_eq_true,List.all_eq_true,decide_eq_true_eq,Int.toNat_natCast,L.lanesL_length];exact⟨by omega,fun x hx=>L.lanesL_lt wd n xs x hx⟩
set_option maxHeartbeats 4000000 in
theorem Zpw (v:Value) (xs:List Nat) (wd n:Int) (w:World) (hx:Rd w v xs.length 1 (u64s xs)) (hv:∀ x∈xs,x<18446744073709551616) (hl:xs.length≤maxLen) :
  Calls Tryz.prog 239 #[v,.int .i64 wd,.int .i64 n] w fun e w'=>∃ r,e=.returned (.tuple #[r,.bool (Za9 wd n xs)]) ∧
   w'.ownsRow w.heap.size 73 1 r (Zfk wd n xs).length (u64s (Zfk wd n xs))∧Below w.heap.size w w':=by
 have HLM:=hid hl;unfold maxLen at hl;obtain⟨A,ca,rfl,hlc,hcm,hA⟩:=hx.form;have HX:=hid hx;clear hlc hcm hx;by_cases hin:0≤wd∧wd≤64∧0≤n∧n≤65536
 ·obtain⟨wd,rfl⟩:=Int.eq_ofNat_of_zero_le hin.1;obtain⟨n,rfl⟩:=Int.eq_ofNat_of_zero_le hin.2.2.1;have hwd:wd≤64:=by omega
  have hn:n≤65536:=by omega
  clear hin;go_enter Tryz.func239,Tryz.ntmps239;go_wp2;refine Zcx 73 (.int .u64 0) 8 Tryz.underlying37 Tryz.info45 rfl n (by omega) (by omega) (by omega) (by unfold maxLen;omega) ?_;intro w1 hrow hb1 hsz1;have Qy:=hid hsz1;clear hsz1;go_wp2;go_loopw [33] (fun i wr=>∃ j:Nat,j≤n∧i=.int .i64 j∧Row wr w.heap.size 73 (u64s ((L.lanesL wd n xs).take j)++List.replicate (n-j) (.int .u64 0))∧Below w.heap.size w wr∧Hid (wr.heap.size=w.heap.size+1)) (fun i _=>n-(intOf i).toNat)
  case atStart=>exact⟨0,by omega,rfl,by simpa [u64s]using hrow,hb1,Qy⟩
  case round =>
   obtain⟨j,hj,rfl,hr,hb,hz⟩:=hrel;clear hrow hb1 Qy;have HR:=hid hr;clear hr;by_cases hlt:j<n
   ·have hll:(L.lanesL wd n xs).length=n:=L.lanesL_length _ _ _;have JC:Hid ((L.lanesL wd n xs).take (j+1)=(L.lanesL wd n xs).take j++[L.laneOf wd xs j]):=by
     refine hid ?_;rw[List.take_succ_eq_append_getElem (by omega)];congr 1
     simp[L.lanesL]
    have Yi:Hid ((u64s ((L.lanesL wd n xs).take j)).length=j):=by refine hid ?_;simp[u64s];omega
    have HY:=hid (L.laneOf_lt wd xs j);go_wp2;have hsplit:List.replicate (n-j) (Value.int .u64 0)=[Value.int .u64 ((L.laneOf wd xs j%2^0:Nat):Int)]++List.replicate (n-j-1) (Value.int .u64 0):=by
     obtain⟨k,hk⟩:∃ k,n-j=k+1:=⟨n-j-1,by omega⟩;rw[hk,List.replicate_succ,Nat.pow_zero,Nat.mod_one];rfl
    rw[hsplit,← List.append_assoc]at HR;clear hsplit;generalize hAj:u64s ((L.lanesL wd n xs).take j)=Aj at *;have HAJ:=hid hAj;clear hAj hll;go_loopw [10] (fun i wv=>∃ t:Nat,t≤wd∧i=.int .i64 t∧Row wv w.heap.size 73 (Aj++[.int .u64 ((L.laneOf wd xs j%2^t:Nat):Int)]++List.replicate (n-j-1) (.int .u64 0))∧Below w.heap.size w wv∧Hid (wv.heap.size=w.heap.size+1)) (fun i _=>wd-(intOf i).toNat)
    case atStart=>exact⟨0,by omega,rfl,HR.out,hb,hz⟩
    case round =>
     obtain⟨t,ht,rfl,hr,hb',hz'⟩:=hrel;clear hb hz HR;have HR:=hid hr;clear hr;by_cases htw:t<wd
     ·obtain⟨p,hp⟩:∃ p,64/wd=p:=⟨_,rfl⟩;have hpp:=L.per_pos (w:=wd) (by omega) hwd;rw[hp]at hpp;obtain⟨d,hd⟩:∃ d,j/p=d:=⟨_,rfl⟩;obtain⟨s,hs⟩:∃ s,j%p*wd+t=s:=⟨_,rfl⟩;have hs64:s<64:=by
       have h1:(j%p+1)*wd≤p*wd:=Nat.mul_le_mul_right wd (Nat.mod_lt _ hpp);have h2:p*wd≤64:=by rw[← hp];exact L.per_mul wd
       rw[Nat.add_mul,Nat.one_mul]at h1;omega
      obtain⟨c,hc⟩:∃ c,64*(j/p)+j%p*wd+t=c:=⟨_,rfl⟩;have hdj:d≤j:=by rw[← hd];exact Nat.div_le_self _ _
      have hcd:c=64*d+s:=by rw[← hc,hd,← hs];omega
      have ZE:=hid (Zy1 (by omega) hwd xs j t p d s c hp hd hs htw hs64 hcd);have hcle:c≤64*65536+64:=by omega
      have HC:=hid hc;have HP:=hid hp;have hcell:wr.cell? ⟨w.heap.size,j,none⟩=some (.int .u64 ((L.laneOf wd xs j%2^t:Nat):Int)):=by
       rw[HR.out.cell];exact Z1l _ _ _ _ Yi.out.symm
      have hfr:=HR.out.frozen j;have hy64:L.laneOf wd xs j%2^t<18446744073709551616:=by
       have h1:=Zcw hwd;have h2:=HY.out;have h3:=Nat.mod_le (L.laneOf wd xs j) (2^t);omega
      have Vv:=hid (Zh1 (L.laneOf wd xs j%2^t) t hy64 (by omega));have HMB:=hid (Zv6 (L.laneOf wd xs j) t);have Jc:=hid (L.mod_succ_bit (L.laneOf wd xs j) t);clear hc hp hd hs hpp hcd;generalize L.laneOf wd xs j=y at *;cases htb:y.testBit t
      ·have Qb:Hid (Zar xs c=false):=by refine hid ?_;rw[ZE.out,htb]
       have Zo:Hid (y%2^(t+1)=y%2^t):=by refine hid ?_;rw[Jc.out,htb];rfl
       clear htb;generalize hq:y%2^t=q at *;have HQ:=hid hq;clear hq;go_wp2_with (first
        | (go_at_call 183;refine(Zis j t wd p c _ (by omega) hwd htw (by omega) HP.out HC.out).mono ?_;rintro e w2 ⟨rfl,nd,rfl⟩)
        | (go_at_call 133;refine(Zf4 _ xs c _ (HX.out.mono (Go.below_drewN hb' nd)) hv HLM.out (by omega)).mono ?_;rintro e w2 ⟨rfl,rfl⟩;rw[Qb.out]))
       go_roundw
       case rel=>exact⟨t+1,by omega,by go_num,by rw[Zo.out];exact HR.out,Go.below_drewN hb' _,hz'⟩
       case measure=>simp[intOf];omega
      ·have Qb:Hid (Zar xs c=true):=by refine hid ?_;rw[ZE.out,htb]
       have Zo:=hid (HMB.out htb);clear htb;generalize hq:y%2^t=q at *;have HQ:=hid hq;clear hq;go_wp2_with (first
        | (go_at_call 183;refine(Zis j t wd p c _ (by omega) hwd htw (by omega) HP.out HC.out).mono ?_;rintro e w2 ⟨rfl,nd,rfl⟩)
        | (go_at_call 133;refine(Zf4 _ xs c _ (HX.out.mono (Go.below_drewN hb' nd)) hv HLM.out (by omega)).mono ?_;rintro e w2 ⟨rfl,rfl⟩;rw[Qb.out]))
       go_roundw
       case rel =>
        refine⟨t+1,by omega,by go_num,?_,Zad (Go.below_drewN hb' nd) _ _ _ (Nat.le_refl _),?_⟩
        ·rw[Vv.out,Zo.out];have hs2:=(HR.out.mono (Go.below_drewN (Below.refl _ wr) nd)).set j (.int .u64 ((y%2^(t+1):Nat):Int));rw[Z0s _ _ _ _ _ Yi.out.symm]at hs2;exact hs2
        ·show _=_;rw[← hz'.out];simp[World.setCell]
       case measure=>simp[intOf];omega
     ·obtain rfl:t=wd:=by omega
      go_wp2;go_roundw
      case rel =>
       refine⟨j+1,by omega,by go_num,?_,hb',hz'⟩;have hr:=HR.out;rw[Nat.mod_eq_of_lt HY.out]at hr;rw[JC.out,Zfi,HAJ.out,← Nat.sub_sub n j 1];exact hr
      case measure=>simp[intOf];omega
   ·have hjn:j=n:=by omega
    have hr:=HR.out;rw[hjn,List.take_of_length_le (by rw[L.lanesL_length];omega),Nat.sub_self,List.replicate_zero,List.append_nil]at hr;have HR:=hid hr;clear hr;have hll:(L.lanesL wd n xs).length=n:=L.lanesL_length _ _ _;have hlv:∀ x∈L.lanesL wd n xs,x<18446744073709551616:=fun x hx=>Nat.lt_of_lt_of_le (L.lanesL_lt wd n xs x hx) (Zcw hwd)
    have hokv:=Zrt wd n hwd hn xs;have hpr:Zp3 (wd:Int) (L.lanesL wd n xs)=L.packL wd (L.lanesL wd n xs):=by rw[Zp3,if_pos hokv,Int.toNat_natCast]
    have hokp:Za9 (wd:Int) (n:Int) xs=decide (L.packL wd (L.lanesL wd n xs)=xs):=by simp[Za9,Zj2];omega
    have HUN:Hid (L.packL wd (L.lanesL wd n xs)=xs→Zfk (wd:Int) (n:Int) xs=L.lanesL wd n xs):=by
     intro h;rw[Zfk,hokp,h];simp
    have HUN2:Hid (¬ L.packL wd (L.lanesL wd n xs)=xs→Zfk (wd:Int) (n:Int) xs=[]):=by
     intro h;rw[Zfk,hokp];simp[h]
    have hpl:(L.packL wd (L.lanesL wd n xs)).length≤65536:=by
     rw[L.packL_length,hll];exact Nat.le_trans (L.nWords_le hwd) hn
    have Xl:=hid hokp;have Yf:=hid hpr;have HOKV:=hid hokv;have ZI:=hid hlv;have YG:=hid hll;clear hokp hpr hokv hlv hll;obtain rfl:j=n:=hjn;generalize L.lanesL wd j xs=ls at *;by_cases hne:(L.packL wd ls).length=xs.length
    ·have e1:(((L.packL wd ls).length:Int) != (xs.length:Int))=false:=by rw[hne];simp
     have Vl:=hid hne;clear hne;go_wp2_with (go_at_call 150;refine(Zl1 _ ls wd _ (by rw[YG.out];exact Row.rd' HR.out (by simp[u64s];exact YG.out) (by unfold maxLen;omega)) ZI.out (by rw[YG.out];unfold maxLen;omega)).mono ?_;rintro e w2 ⟨r2,rfl,ho2,hb2⟩;rw[HOKV.out];rw[Yf.out]at ho2;obtain⟨A2,cap2,rfl,hnc2,hcm2,hlen2,hform2⟩:=Zao ho2;have HFO2:=hid hform2;clear hform2 hlen2 ho2 hcm2 hnc2)
     have hb3:=Below.then' hb hb2 hb.size;have Qe:=hid hb3;have hr2:=HR.out.mono hb2;have Qi:Hid (w2.ownsRow w.heap.size 73 1 (.slice (some ⟨w.heap.size,0,none⟩) j j) ls.length (u64s ls)):=by
      refine hid ?_;have:=hr2.owns (B:=w.heap.size) (Nat.le_refl _) (n:=j) (by simp[u64s];exact YG.out) (by unfold maxLen;omega);rw[YG.out];exact this
     clear hb2 hb hr2;go_loop [70] (fun i=>∃ k:Nat,k≤(L.packL wd ls).length∧i=.int .i64 k∧(L.packL wd ls).take k=xs.take k) (fun i=>(L.packL wd ls).length-(intOf i).toNat)
     case atStart=>exact⟨0,by omega,rfl,rfl⟩
     case round =>
      obtain⟨k,hk,rfl,hp⟩:=hrel;have HP:=hid hp;clear hp;generalize hpk:L.packL wd ls=pk at *;have HPK:=hid hpk;clear hpk;by_cases hlt':k<pk.length
      ·have hkx:k<xs.length:=by have:=Vl.out;omega
       obtain⟨b,o,rfl,hs⟩:=hA (by omega);obtain⟨g2,rfl,_,_,hc2,_⟩:=HFO2.out (by omega);have c1:=(hs.mono Qe.out).word k hkx;have c2:w2.cell? ⟨g2,k,none⟩=some (.int .u64 ((pk.getD k 0:Nat):Int)):=by rw[hc2 k hlt'];exact Zh5 pk k hlt'
       have HE:Hid (pk.getD k 0=xs.getD k 0→pk.take (k+1)=xs.take (k+1)):=Zxj pk xs k Vl.out HP.out hlt';have HF:Hid (pk.getD k 0≠xs.getD k 0→pk≠xs):=fun h e=>h (by rw[e])
       generalize pk.getD k 0=f1 at *;generalize xs.getD k 0=f2 at *;clear hA hs hc2;go_wp2
       ·have h:((f1:Int) != (f2:Int))=true:=by assumption
        go_ret2
        have hne:¬ pk=xs:=HF.out (by rw[bne_iff_ne]at h;omega);refine⟨.slice none 0 0,?_,by rw[HUN2.out hne];exact World.ownsRow_nil _ _ _ _,Qe.out⟩;rw[Xl.out,decide_eq_false hne];rfl
       ·have h:((f1:Int) != (f2:Int))=false:=by assumption
        go_round
        case rel=>exact⟨k+1,by omega,by go_num,HE.out (by rw[bne_eq_false_iff_eq]at h;omega)⟩
        case measure=>simp[intOf];omega
      ·go_wp2;go_ret2
       have heq:pk=xs:=by
        have h1:=HP.out;rw[show k=pk.length from by omega,List.take_length,Vl.out,List.take_length]at h1;exact h1
       refine⟨.slice (some ⟨w.heap.size,0,none⟩) j j,?_,by rw[HUN.out heq];exact Qi.out,Qe.out⟩;rw[Xl.out,decide_eq_true heq];rfl
    ·have e1:(((L.packL wd ls).length:Int) != (xs.length:Int))=true:=by rw[bne_iff_ne];omega
     have hne2:¬ L.packL wd ls=xs:=fun h=>hne (by rw[h])
     have Vl:=hid hne2;clear hne hne2;go_wp2_with (go_at_call 150;refine(Zl1 _ ls wd _ (by rw[YG.out];exact Row.rd' HR.out (by simp[u64s];exact YG.out) (by unfold maxLen;omega)) ZI.out (by rw[YG.out];unfold maxLen;omega)).mono ?_;rintro e w2 ⟨r2,rfl,ho2,hb2⟩;rw[HOKV.out];rw[Yf.out]at ho2;obtain⟨A2,cap2,rfl,hnc2,hcm2,hlen2,hform2⟩:=Zao ho2;have HFO2:=hid hform2;clear hform2 hlen2 ho2 hcm2 hnc2)
     have hb3:=Below.then' hb hb2 hb.size;have Qe:=hid hb3;have hr2:=HR.out.mono hb2;have Qi:Hid (w2.ownsRow w.heap.size 73 1 (.slice (some ⟨w.heap.size,0,none⟩) j j) ls.length (u64s ls)):=by
      refine hid ?_;have:=hr2.owns (B:=w.heap.size) (Nat.le_refl _) (n:=j) (by simp[u64s];exact YG.out) (by unfold maxLen;omega);rw[YG.out];exact this
     clear hb2 hb hr2;go_ret2
     refine⟨.slice none 0 0,?_,by rw[HUN2.out Vl.out];exact World.ownsRow_nil _ _ _ _,Qe.out⟩;rw[Xl.out,decide_eq_false Vl.out];rfl
 ·have hno:Za9 wd n xs=false:=Zda xs hin;have hf:Zfk wd n xs=[]:=by rw[Zfk,hno];rfl
  have HO:=hid hno;have HF:=hid hf;clear hno hf;go_enter Tryz.func239,Tryz.ntmps239;go_wp2
  all_goals go_ret2
  all_goals exact⟨.slice none 0 0,by rw[HO.out];rfl,by rw[HF.out];exact World.ownsRow_nil _ _ _ _,Below.refl _ _⟩
end Go.Proofs.YtmcjknjlihgihaaGreatDoor
set_option maxRecDepth 512
namespace Go.Proofs.YtmcjknjlihgihaaGreatDoor
def bmL (fl:List Bool):List Nat:=L.packL 1 (fl.map Bool.toNat)
def IsBm (n:Nat) (ws:List Nat) (f:Nat→Bool):Prop:=ws.length=L.nWords 1 n∧(∀ x∈ws,x<18446744073709551616)∧∀ i,i<64*ws.length→Zar ws i=(decide (i<n)&&f i)
theorem Zj6 (n:Nat):L.nWords 1 n=(n+63)/64:=by simp[L.nWords]
theorem Zks (n:Nat):n≤64*L.nWords 1 n:=by rw[Zj6];omega
theorem Zyj (ws:List Nat) (i:Nat) (h:64*ws.length≤i):Zar ws i=false:=by
 unfold Zar;rw[L.getD_out (i/64) (by omega)];simp
theorem Z1p {a b:List Nat} (hl:a.length=b.length) (ha:∀ x∈a,x<18446744073709551616) (hb:∀ x∈b,x<18446744073709551616) (h:∀ i,i<64*a.length→Zar a i=Zar b i):a=b:=by
 apply L.ext_getD hl;intro k hk;apply Nat.eq_of_testBit_eq;intro p;have hx:a.getD k 0<2^64:=by apply ha;simp[List.getD,List.getElem?_eq_getElem hk]
 have hy:b.getD k 0<2^64:=by apply hb;simp[List.getD,List.getElem?_eq_getElem (show k<b.length by omega)]
 by_cases hp:p<64
 ·have:=h (64*k+p) (by omega);unfold Zar at this;rw[show (64*k+p)/64=k from by omega,show (64*k+p)%64=p from by omega]at this;exact this
 ·rw[Nat.testBit_lt_two_pow (Nat.lt_of_lt_of_le hx (Nat.pow_le_pow_right (by omega) (by omega))),Nat.testBit_lt_two_pow (Nat.lt_of_lt_of_le hy (Nat.pow_le_pow_right (by omega) (by omega)))]
theorem IsBm.unique {n:Nat} {a b:List Nat} {f:Nat→Bool} (ha:IsBm n a f) (hb:IsBm n b f):a=b :=
 Z1p (ha.1.trans hb.1.symm) ha.2.1 hb.2.1 fun i hi=>by rw[ha.2.2 i hi,hb.2.2 i (by rw[hb.1,← ha.1];exact hi)]
theorem Zu4 (ws:List Nat) (i:Nat):L.laneOf 1 ws i=(Zar ws i).toNat:=by
 unfold L.laneOf Zar;rw[if_neg (by omega),Nat.div_one,Nat.mul_one,Nat.pow_one,Nat.testBit_eq_decide_div_mod_eq];have:ws.getD (i/64) 0/2^(i%64)%2=0∨ws.getD (i/64) 0/2^(i%64)%2=1:=by omega
 rcases this with h | h<;>rw[h]<;>rfl
theorem Zxg {a b:Bool} (h:a.toNat=b.toNat):a=b:=by cases a<;>cases b<;>simp_all
theorem toNat_lt (fl:List Bool):∀ x∈fl.map Bool.toNat,x<2^1:=by
 intro x hx;obtain⟨b,_,rfl⟩:=List.mem_map.1 hx;cases b<;>decide
theorem Zxk {w n:Nat} {ws:List Nat} (h:L.IsPack w n ws):∀ x∈ws,x<18446744073709551616:=by
 intro x hx;obtain⟨k,hk,rfl⟩:=List.getElem_of_mem hx;have h1:=h.2 k hk;have h2:=Zcw (L.inWord_le w n k);simp only[List.getD,List.getElem?_eq_getElem hk,Option.getD_some]at h1;omega
theorem Zjx {n:Nat} {ws:List Nat} (h:L.IsPack 1 n ws) (i:Nat) (hi:n≤i):Zar ws i=false:=by
 by_cases hl:i/64<ws.length
 ·have h1:=h.2 (i/64) hl;unfold Zar;apply Nat.testBit_lt_two_pow;refine Nat.lt_of_lt_of_le h1 (Nat.pow_le_pow_right (by omega) ?_);unfold L.inWord;omega
 ·exact Zyj ws i (by omega)
theorem Zgr (fl:List Bool):IsBm fl.length (bmL fl) (fun i=>fl.getD i false):=by
 have hpk:=L.pack_isPack (w:=1) (by omega) (fl.map Bool.toNat) (toNat_lt fl);rw[List.length_map]at hpk;refine⟨hpk.1,Zxk hpk,fun i _=>?_⟩;by_cases hi:i<fl.length
 ·have h1:=L.lanes_pack (w:=1) (by omega) (fl.map Bool.toNat) (toNat_lt fl);have h2:=L.lanesL_get 1 (fl.map Bool.toNat).length (bmL fl) i (by simpa using hi);have h3:(L.lanesL 1 (fl.map Bool.toNat).length (bmL fl))=fl.map Bool.toNat:=h1;rw[h3,Zu4]at h2;have h4:(fl.map Bool.toNat).getD i 0=(fl.getD i false).toNat:=by simp[List.getD,List.getElem?_eq_getElem hi]
  rw[h4]at h2;simp only[hi,decide_true,Bool.true_and];exact(Zxg h2).symm
 ·have hz:=Zjx hpk i (by omega);unfold bmL;rw[hz];simp[hi]
theorem IsBm.eq_bmL {n:Nat} {a:List Nat} {f:Nat→Bool} (ha:IsBm n a f):a=bmL ((List.range n).map f):=by
 apply ha.unique;have h:=Zgr ((List.range n).map f);rw[List.length_map,List.length_range]at h;refine⟨h.1,h.2.1,fun i hi=>?_⟩;rw[h.2.2 i hi];by_cases hin:i<n
 ·simp[hin,List.getD,List.getElem?_range hin]
 ·simp[hin]
theorem Zrq (ws:List Nat) (i:Nat) (hi:i<64*ws.length) (j:Nat):Zar (ws.set (i/64) (ws.getD (i/64) 0 ||| 2^(i%64))) j=(Zar ws j||decide (j=i)):=by
 unfold Zar;have hl:i/64<ws.length:=by omega
 by_cases hk:j/64=i/64
 ·have e:(ws.set (i/64) (ws.getD (i/64) 0 ||| 2^(i%64))).getD (j/64) 0=ws.getD (i/64) 0 ||| 2^(i%64):=by
   rw[hk];simp[List.getD,hl]
  rw[e,Nat.testBit_or,Nat.testBit_two_pow,hk];congr 1
  rw[decide_eq_decide];omega
 ·have e:(ws.set (i/64) (ws.getD (i/64) 0 ||| 2^(i%64))).getD (j/64) 0=ws.getD (j/64) 0:=by
   simp only[List.getD];rw[List.getElem?_set_ne (by omega)]
  have:¬ j=i:=fun h=>hk (by rw[h])
  rw[e];simp[this]
theorem Zuh (ws:List Nat) (hw:∀ x∈ws,x<18446744073709551616) (i:Nat):∀ x∈ws.set (i/64) (ws.getD (i/64) 0 ||| 2^(i%64)),x<18446744073709551616:=by
 intro x hx;rcases List.mem_or_eq_of_mem_set hx with h | h
 ·exact hw x h
 ·rw[h];have h1:ws.getD (i/64) 0<2^64:=L.getD_lt (w:=64) (fun a ha=>by have:=hw a ha;omega) (i/64);have h2:2^(i%64)<2^64:=Nat.pow_lt_pow_right (by omega) (by omega);have:=Nat.or_lt_two_pow h1 h2;omega
theorem Zyq (x:Nat) (h0:x≠0) (h:x<18446744073709551616):∃ m,x=2^Lib.ctz 64 x+2^(Lib.ctz 64 x+1)*m∧Lib.ctz 64 x<64:=by
 obtain⟨m,hm,hk⟩:=Lib.ctzFrom_spec 64 x (by omega) (by omega);have e:Lib.ctz 64 x=Lib.ctzFrom 64 x:=by simp[Lib.ctz,h0]
 rw[e];refine⟨m,?_,hk⟩
 conv=>lhs;rw[hm]
 rw[Nat.mul_add,Nat.mul_one,Nat.pow_succ,Nat.mul_assoc,Nat.add_comm]
theorem Zky (x:Nat) (h0:x≠0) (h:x<18446744073709551616) (p:Nat):(x &&& (x-1)).testBit p=(x.testBit p&&decide (p≠Lib.ctz 64 x))∧x.testBit (Lib.ctz 64 x)=true∧(x &&& (x-1))<x:=by
 obtain⟨m,hm,hk⟩:=Zyq x h0 h;generalize Lib.ctz 64 x=t at *;have hp:0<2^t:=Nat.pow_pos (by omega);have hlt:2^t<2^(t+1):=Nat.pow_lt_pow_right (by omega) (by omega);have hand:x &&& (x-1)=2^(t+1)*m:=by
  rw[show x-1=(2^t-1)+2^(t+1)*m from by omega]
  conv=>lhs;rw[hm]
  rw[L.and_join (t+1) _ _ m m hlt (by omega),Nat.and_self];have:2^t &&& (2^t-1)=0:=by rw[Nat.and_two_pow_sub_one_eq_mod,Nat.mod_self]
  rw[this,Nat.zero_add]
 have hb:∀ q,x.testBit q=if q<t+1 then decide (t=q)else m.testBit (q-(t+1)):=by
  intro q;rw[hm,Nat.add_comm,Nat.testBit_two_pow_mul_add _ hlt,Nat.testBit_two_pow]
 refine⟨?_,by rw[hb];simp,by rw[hand];omega⟩;rw[hand,hb,show 2^(t+1)*m=2^(t+1)*m+0 from rfl,Nat.testBit_two_pow_mul_add _ (Nat.pow_pos (by omega))];by_cases hq:p<t+1
 ·rw[if_pos hq,if_pos hq];by_cases ht:t=p
  ·simp[ht]
  ·simp[ht]
 ·rw[if_neg hq,if_neg hq];have:p≠t:=by omega
  simp[this]
end Go.Proofs.YtmcjknjlihgihaaGreatDoor
