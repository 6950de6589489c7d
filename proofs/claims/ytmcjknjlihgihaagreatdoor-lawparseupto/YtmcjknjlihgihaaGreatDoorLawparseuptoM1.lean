/- The laws' own helpers over lists of ints: layInts, sameInts. -/
import Derived.Test.YtmcjknjlihgihaaGreatDoorProg
import Derived.Deep.RegionWith
import Derived.Test.YtmcjknjlihgihaaGreatDoorLawparseuptoM0
set_option linter.unusedVariables false
set_option linter.unusedSimpArgs false
set_option linter.unnecessarySimpa false
set_option maxRecDepth 512
namespace Go.Proofs.YtmcjknjlihgihaaGreatDoor
open Go.RowKit
theorem Zc0 {a b:Int} (h:a=b):Ending.returned (.int .i64 a)=.returned (.int .i64 b):=by rw[h]
theorem Zer {a b:Int} (h:a=b):Ending.returned (.int .u64 a)=.returned (.int .u64 b):=by rw[h]
theorem Zae {a b:Bool} (h:a=b):Ending.returned (.bool a)=.returned (.bool b):=by rw[h]
theorem Zg5 (wd n:Int) (w:World) :
  Calls Tryz.prog 244 #[.int .i64 wd,.int .i64 n] w fun e w'=>e=.returned (.bool (decide (0≤wd∧wd≤64∧0≤n∧n≤65536)))∧w'=w:=by
 go_enter Tryz.func244,Tryz.ntmps244;go_wp2
 all_goals go_ret
 all_goals refine⟨Zae ?_,rfl⟩
 all_goals simp only[Bool.and_true,Bool.and_false,Bool.true_and,Bool.false_and,← Bool.decide_and,decide_eq_decide,true_eq_decide_iff,false_eq_decide_iff]
 all_goals omega
theorem Zcw {k:Nat} (h:k≤64):2^k≤18446744073709551616:=by
 have:2^k≤2^64:=Nat.pow_le_pow_right (by omega) h;simpa using this
theorem Zhe (n:Nat) (h:n<18446744073709551616):IntKind.u64.wrap (n:Int)=(n:Int):=by rw[IntKind.wrap_u64];omega
theorem Zpa (k:Nat) (hk:k≤64):IntKind.u64.wrap (IntKind.u64.wrap (2^k)-1)=((2^k-1:Nat):Int):=by
 have h:=Zcw hk;have h0:0<2^k:=Nat.pow_pos (by omega);have e:((2:Int)^k)=((2^k:Nat):Int):=by simp
 rw[e,IntKind.wrap_u64,IntKind.wrap_u64];omega
theorem Zt9 (p q:Nat) (h:p*2^q<18446744073709551616):IntKind.u64.wrap ((p:Int)*2^q)=((p*2^q:Nat):Int):=by
 have e:((p:Int)*2^q)=((p*2^q:Nat):Int):=by simp
 rw[e,Zhe _ h]
theorem Zw1 (a p wd j:Nat) (ha:a<2^(wd*j)) (hp:p<2^wd) (hj:(j+1)*wd≤64) :
  bits BinOp.or IntKind.u64 (a:Int) (IntKind.u64.wrap ((p:Int)*2^(j*wd)))=((a+p*2^(wd*j):Nat):Int):=by
 rw[Nat.mul_comm wd j]at ha ⊢;have h1:(p+1)*2^(j*wd)≤2^wd*2^(j*wd):=Nat.mul_le_mul_right _ hp;rw[← Nat.pow_add,Nat.add_comm wd,Nat.add_mul,Nat.one_mul]at h1;have h2:2^(j*wd+wd)≤18446744073709551616:=Zcw (by rw[Nat.add_mul,Nat.one_mul]at hj;exact hj);have h3:p*2^(j*wd)<18446744073709551616:=by omega
 rw[Zt9 p _ h3,u64_or_nat _ _ (by omega) h3];congr 1
 rw[Nat.or_comm,nat_join (j*wd) _ _ (Nat.mul_mod_left _ _) ha,Nat.add_comm]
theorem Zeg (k:Nat) (w:World) (hk:k≤64) :
  Calls Tryz.prog 188 #[.int .i64 k] w fun e w'=>e=.returned (.int .u64 ((2^k-1:Nat):Int))∧w'=w:=by
 go_enter Tryz.func188,Tryz.ntmps188;go_wp2;go_ret;exact⟨Zer (Zpa k hk),rfl⟩
theorem Zdv (wd p:Nat) (w:World) (h0:0<wd) (hk:wd≤64) (hp:64/wd=p) :
  Calls Tryz.prog 246 #[.int .i64 wd] w fun e w'=>e=.returned (.int .i64 p)∧w'=w:=by
 have HP:=hid hp;clear hp;go_enter Tryz.func246,Tryz.ntmps246;go_wp2
 all_goals go_ret
 exact⟨Zc0 (by rw[← HP.out];simp),rfl⟩
theorem Zjq (wd n m:Nat) (w:World) (hk:wd≤64) (hn:n≤65536) (hm:L.nWords wd n=m) :
  Calls Tryz.prog 245 #[.int .i64 wd,.int .i64 n] w fun e w'=>e=.returned (.int .i64 m)∧w'=w:=by
 by_cases h0:wd=0
 ·subst h0;obtain rfl:m=0:=by rw[← hm];rfl
  go_enter Tryz.func245,Tryz.ntmps245;go_wp2;go_ret;exact⟨rfl,rfl⟩
 ·have h1:((wd:Int)==0)=false:=by simpa using h0
  have hp:=L.per_pos (by omega) hk;have hp2:64/wd≤64:=Nat.div_le_self 64 wd;rw[L.nWords_pos (w:=wd) (by omega) n]at hm;obtain⟨p,hP⟩:∃ p,64/wd=p:=⟨_,rfl⟩;rw[hP]at hm hp hp2;have HM:=hid hm;have HP:=hid hP;clear hm hP;go_enter Tryz.func245,Tryz.ntmps245;go_wp2_with (go_at_call 246;refine(Zdv wd p _ (by omega) (by omega) HP.out).mono ?_;rintro e w' ⟨rfl,rfl⟩)
  all_goals go_ret
  refine⟨Zc0 ?_,rfl⟩;rw[← HM.out];have e:((n:Int)+p-1)=((n+p-1:Nat):Int):=by omega
  rw[e];simp
theorem Zfd (wd n k m:Nat) (w:World) (h0:0<wd) (hk:wd≤64) (hn:n≤65536) (hkn:k*(64/wd)≤n) (hm:L.inWord wd n k=m) :
  Calls Tryz.prog 248 #[.int .i64 wd,.int .i64 n,.int .i64 k] w fun e w'=>e=.returned (.int .i64 m)∧w'=w:=by
 have hp:=L.per_pos (by omega) hk;have hp2:64/wd≤64:=Nat.div_le_self 64 wd;unfold L.inWord at hm;obtain⟨p,hP⟩:∃ p,64/wd=p:=⟨_,rfl⟩;rw[hP]at hm hp hp2 hkn;have hk2:k≤n:=Nat.le_trans (Nat.le_mul_of_pos_right k hp) hkn;obtain⟨q,hq⟩:∃ q,k*p=q:=⟨_,rfl⟩;have hq':(k:Int)*(p:Int)=(q:Int):=by rw[← hq];simp
 rw[hq]at hm hkn;have HM:=hid hm;have HP:=hid hP;clear hm hP;go_enter Tryz.func248,Tryz.ntmps248;go_wp2_with (go_at_call 246;refine(Zdv wd p _ (by omega) (by omega) HP.out).mono ?_;rintro e w' ⟨rfl,rfl⟩)
 all_goals go_ret
 all_goals refine⟨Zc0 ?_,rfl⟩
 all_goals rw[← HM.out]
 all_goals omega
def Zj2 (wd n:Int):Bool:=decide (0≤wd∧wd≤64∧0≤n∧n≤65536)
def Za9 (wd n:Int) (ws:List Nat):Bool:=Zj2 wd n&&decide (L.packL wd.toNat (L.lanesL wd.toNat n.toNat ws)=ws)
theorem Zda {wd n:Int} (ws:List Nat) (h:¬ (0≤wd∧wd≤64∧0≤n∧n≤65536)):Za9 wd n ws=false:=by simp[Za9,Zj2,h]
theorem Zbl {wd n:Nat} (ws:List Nat) (h:wd≤64) (hn:n≤65536):Za9 wd n ws=true↔L.IsPack wd n ws:=by
 rw[L.isPack_iff h];simp[Za9,Zj2];omega
theorem Zwc (a s:Nat) (ha:a<18446744073709551616) (hs:s≤64):bits BinOp.andNot IntKind.u64 (a:Int) ((2^s-1:Nat):Int)=((a/2^s*2^s:Nat):Int):=by
 have h:=Zcw hs;have h0:0<2^s:=Nat.pow_pos (by omega);rw[u64_andNot_nat _ _ ha (by omega)];congr 1
 apply Nat.eq_of_testBit_eq;intro i;have e:18446744073709551615-(2^s-1)=2^64-((2^s-1)+1):=by omega
 rw[Nat.testBit_and,e,Nat.testBit_two_pow_sub_succ (by omega),Nat.testBit_two_pow_sub_one,Nat.testBit_mul_two_pow,Nat.testBit_div_two_pow];by_cases h1:s≤i
 ·by_cases h2:i<64
  ·simp[h1,h2]
  ·have:a.testBit i=false:=Nat.testBit_lt_two_pow (Nat.lt_of_lt_of_le ha (by
    have:2^64≤2^i:=Nat.pow_le_pow_right (by omega) (by omega);simpa using this))
   simp[h1,h2,this]
 ·simp[h1];intros;omega
theorem Zr4 (a s:Nat) (ha:a<18446744073709551616) (hs:s≤64):(bits BinOp.andNot IntKind.u64 (a:Int) ((2^s-1:Nat):Int) != 0)=decide (¬ a<2^s):=by
 have h0:0<2^s:=Nat.pow_pos (by omega);rw[Zwc a s ha hs];by_cases h:a<2^s
 ·simp[Nat.div_eq_of_lt h,h]
 ·have h1:0<a/2^s:=Nat.div_pos (by omega) h0;have h2:0<a/2^s*2^s:=Nat.mul_pos h1 h0;have h3:((a/2^s*2^s:Nat):Int)≠0:=by omega
  have h4:(((a/2^s*2^s:Nat):Int) != 0)=true:=by rw[bne_iff_ne];exact h3
  rw[h4];simp[h]
set_option maxHeartbeats 1000000 in
theorem Zjb (v:Value) (xs:List Nat) (wd n:Int) (w:World) (hx:Rd w v xs.length 1 (u64s xs)) (hv:∀ x∈xs,x<18446744073709551616) (hl:xs.length≤maxLen) :
  Calls Tryz.prog 224 #[v,.int .i64 wd,.int .i64 n] w fun e w'=>e=.returned (.bool (Za9 wd n xs))∧w'=w:=by
 unfold maxLen at hl;obtain⟨A,ca,rfl,hlc,hcm,hA⟩:=hx.form;clear hx;by_cases hin:0≤wd∧wd≤64∧0≤n∧n≤65536
 ·obtain⟨wd,rfl⟩:=Int.eq_ofNat_of_zero_le hin.1;obtain⟨n,rfl⟩:=Int.eq_ofNat_of_zero_le hin.2.2.1;have hwd:wd≤64:=by omega
  have hn:n≤65536:=by omega
  have HI:=hid hin;have hiff:=Zbl xs hwd hn;obtain⟨m,hm⟩:∃ m,L.nWords wd n=m:=⟨_,rfl⟩;have HM:=hid hm;have HF:=hid hiff;clear hin hm hiff;go_enter Tryz.func224,Tryz.ntmps224;by_cases hne:xs.length=m
  ·have e1:(((xs.length:Int)) != (m:Int))=false:=by rw[hne];simp
   have HN:=hid hne;clear hne;go_wp2_with (first
    | (go_at_call 244;refine(Zg5 _ _ _).mono ?_;rintro e w' ⟨rfl,rfl⟩;rw[decide_eq_true HI.out])
    | (go_at_call 245;refine(Zjq _ _ m _ (by omega) (by omega) HM.out).mono ?_;rintro e w' ⟨rfl,rfl⟩))
   go_loop [23] (fun i=>∃ k:Nat,k≤xs.length∧i=.int .i64 k∧∀ t,t<k→xs.getD t 0<2^(L.inWord wd n t*wd)) (fun i=>xs.length-(intOf i).toNat)
   case atStart=>exact⟨0,by omega,rfl,fun t h=>absurd h (Nat.not_lt_zero t)⟩
   case round =>
    obtain⟨k,hk,rfl,hall⟩:=hrel;have HA:=hid hall;clear hall;by_cases hlt:k<xs.length
    ·obtain⟨b,o,rfl,hs⟩:=hA (by omega);have c1:=hs.word k hlt;have hvk:xs.getD k 0<18446744073709551616:=hv _ (by simp[List.getD,List.getElem?_eq_getElem hlt]);have hw0:0<wd:=by
      rcases Nat.eq_zero_or_pos wd with h | h
      ·exfalso;subst h;have:=HM.out;rw[L.nWords_zero]at this;have:=HN.out;omega
      ·exact h
     have hkp:k*(64/wd)<n:=(L.lt_nWords hw0 hwd).1 (by rw[HM.out,← HN.out];exact hlt);obtain⟨c,hc⟩:∃ c,L.inWord wd n k=c:=⟨_,rfl⟩;have hcw:c*wd≤64:=by rw[← hc];exact L.inWord_le wd n k
     obtain⟨q,hq⟩:∃ q,c*wd=q:=⟨_,rfl⟩;have hq':(c:Int)*(wd:Int)=(q:Int):=by rw[← hq];simp
     rw[hq]at hcw;have HT:=hid (Zr4 (xs.getD k 0) q hvk hcw);have HC:=hid hc;have HKP:=hid (Nat.le_of_lt hkp);have HG:Hid (xs.getD k 0<2^q→∀ t,t<k+1→xs.getD t 0<2^(L.inWord wd n t*wd)):=by
      intro h t ht;by_cases htk:t=k
      ·subst htk;rw[hc,hq];exact h
      ·exact HA.out t (by omega)
     have HB:Hid (¬ xs.getD k 0<2^q→Za9 (wd:Int) (n:Int) xs=false):=by
      intro h;rw[← Bool.not_eq_true,HF.out];intro hp;have:=hp.2 k hlt;rw[hc,hq]at this;exact h this
     clear hA hs hv hq hc hkp;generalize xs.getD k 0=p at *;generalize hz:2^q-1=z at *;have HZ:=hid hz;clear hz;go_wp2_with (first
      | (go_at_call 248;refine(Zfd _ _ _ c _ (by omega) (by omega) (by omega) HKP.out HC.out).mono ?_;rintro e w' ⟨rfl,rfl⟩)
      | (go_at_call 188;refine(Zeg q _ (by omega)).mono ?_;rintro e w' ⟨rfl,rfl⟩;rw[HZ.out]))
     ·rename_i h
      go_ret;rw[HT.out]at h;exact⟨Zae (HB.out (by simpa using h)).symm,rfl⟩
     ·rename_i h
      go_round
      case rel=>exact⟨k+1,by omega,by go_num,HG.out (by rw[HT.out]at h;simpa using h)⟩
      case measure=>simp[intOf];omega
    ·go_wp2;go_ret;refine⟨Zae (HF.out.2 ⟨?_,?_⟩).symm,rfl⟩
     ·rw[HM.out];exact HN.out
     ·intro t ht;exact HA.out t (by omega)
  ·have e1:(((xs.length:Int)) != (m:Int))=true:=by rw[bne_iff_ne];omega
   go_wp2_with (first
    | (go_at_call 244;refine(Zg5 _ _ _).mono ?_;rintro e w' ⟨rfl,rfl⟩;rw[decide_eq_true HI.out])
    | (go_at_call 245;refine(Zjq _ _ m _ (by omega) (by omega) HM.out).mono ?_;rintro e w' ⟨rfl,rfl⟩))
   go_ret;refine⟨Zae ?_,rfl⟩
   symm
   rw[← Bool.not_eq_true,HF.out];exact fun h=>hne (h.1.trans HM.out)
 ·have hno:=Zda xs hin;go_enter Tryz.func224,Tryz.ntmps224;go_wp2_with (go_at_call 244;refine(Zg5 _ _ _).mono ?_;rintro e w' ⟨rfl,rfl⟩;rw[decide_eq_false hin])
  go_ret;exact⟨Zae hno.symm,rfl⟩
def u8 (n:Nat):Value:=.int .u8 (n:Int)
def u8s (xs:List Nat):List Value:=xs.map u8
theorem Zcm (xs:List Nat):(u8s xs).length=xs.length:=by simp[u8s]
theorem Zw2 (xs:List Nat) (i:Nat) (h:i<xs.length):(u8s xs)[i]? = some (.int .u8 ((xs.getD i 0:Nat):Int)):=by
 simp[u8s,u8,List.getElem?_eq_getElem h,List.getD]
theorem Zh6 (xs ys:List Nat):u8s (xs++ys)=u8s xs++u8s ys:=by simp[u8s]
theorem Zsp (xs:List Nat):∀ u∈u8s xs,u.oneCell'=true:=by
 intro u hu;simp only[u8s,List.mem_map]at hu;obtain⟨n,_,rfl⟩:=hu;rfl
theorem Seg.byte {w:World} {b o:Nat} {xs:List Nat} (h:Seg w b o (u8s xs)) (i:Nat) (hi:i<xs.length):w.cell? ⟨b,o+i,none⟩=some (.int .u8 ((xs.getD i 0:Nat):Int)) :=
 h i _ (Zw2 xs i hi)
structure Chg (a b:Nat) (w w':World):Prop where
 os:w'.os=w.os
 tape:w'.tape=w.tape
 output:w'.output=w.output
 size:w.heap.size≤w'.heap.size
 block:∀ k,k<w.heap.size→k≠a→k≠b→w'.heap[k]? = w.heap[k]?
theorem Chg.refl (a b:Nat) (w:World):Chg a b w w:=⟨rfl,rfl,rfl,Nat.le_refl _,fun _ _ _ _=>rfl⟩
theorem Chg.trans {a b:Nat} {x y z:World} (h:Chg a b x y) (k:Chg a b y z):Chg a b x z :=
 ⟨k.os.trans h.os,k.tape.trans h.tape,k.output.trans h.output,Nat.le_trans h.size k.size,fun i hi h1 h2=>(k.block i (Nat.lt_of_lt_of_le hi h.size) h1 h2).trans (h.block i hi h1 h2)⟩
theorem Chg.of_below {a b:Nat} {w w':World} (h:Below w.heap.size w w'):Chg a b w w':=⟨h.os,h.tape,h.output,h.size,fun k hk _ _=>h.block k hk⟩
theorem Chg.drewN {a b:Nat} {w w':World} (h:Chg a b w w') (n:Nat):Chg a b w (w'.drewN n):=h.trans (Chg.of_below (Zaf (Zab w') n))
theorem Chg.setCell {a b:Nat} {w w':World} (h:Chg a b w w') (g o:Nat) (v:Value) (hg:g=a∨g=b):Chg a b w (w'.setCell ⟨g,o,none⟩ v) :=
 ⟨by rw[← h.os];rfl,by rw[← h.tape];rfl,by rw[← h.output];rfl,by simpa [World.setCell]using h.size,fun k hk h1 h2=>by
  rw[heap_setCell_other w' ⟨g,o,none⟩ k v (by rcases hg with rfl | rfl<;>simpa)];exact h.block k hk h1 h2⟩
theorem Chg.wide {a b:Nat} {w w':World} (h:Chg a a w w'):Chg a b w w':=⟨h.os,h.tape,h.output,h.size,fun k hk h1 _=>h.block k hk h1 h1⟩
theorem Chg.wide' {a b:Nat} {w w':World} (h:Chg b b w w'):Chg a b w w':=⟨h.os,h.tape,h.output,h.size,fun k hk _ h1=>h.block k hk h1 h1⟩
theorem Chg.below {a b B:Nat} {w0 w w':World} (h:Chg a b w w') (h0:Below B w0 w) (hB:B≤w.heap.size) (ha:B≤a) (hb:B≤b):Below B w0 w' :=
 h0.trans ⟨h.os,h.tape,h.output,h.size,fun k hk=>h.block k (by omega) (by omega) (by omega)⟩
theorem Chg.then_below {a b p:Nat} {x y z:World} (h:Chg a b x y) (k:Below p y z) (hp:x.heap.size≤p):Chg a b x z :=
 ⟨k.os.trans h.os,k.tape.trans h.tape,k.output.trans h.output,Nat.le_trans h.size k.size,fun i hi h1 h2=>(k.block i (Nat.lt_of_lt_of_le hi hp)).trans (h.block i hi h1 h2)⟩
theorem Chg.row {a b:Nat} {w w':World} (h:Chg a b w w') {k:Nat} {e:TypeId} {cs:List Value} (hr:Row w k e cs) (h1:k≠a) (h2:k≠b):Row w' k e cs:=by
 unfold Row;rw[h.block k hr.lt h1 h2];exact hr
theorem Chg.cell {a b:Nat} {w w':World} (h:Chg a b w w') (k o:Nat) (hk:k<w.heap.size) (h1:k≠a) (h2:k≠b):w'.cell? ⟨k,o,none⟩=w.cell? ⟨k,o,none⟩ :=
 World.cell?_of_block (w:=w) (h.block k hk h1 h2)
theorem Row.drewN {w:World} {g:Nat} {e:TypeId} {cs:List Value} (h:Row w g e cs) (n:Nat):Row (w.drewN n) g e cs:=h.mono (Zaf (Zab w) n)
set_option maxHeartbeats 400000 in
theorem Zf9 (v:Value) (xs:List Nat) (w:World) (hx:Rd w v xs.length 1 (u8s xs)) (hl:xs.length≤8) (hv:∀ x∈xs,x<256) :
  Calls Tryz.prog 121 #[v] w fun e w'=>e=.returned (.int .u64 (L.wordOf 8 xs:Nat))∧w'=w:=by
 obtain⟨A,ca,rfl,hlc,hcm,hA⟩:=hx.form;clear hx;go_enter Tryz.func121,Tryz.ntmps121;go_wp2;go_loop [3,8] (fun u i=>∃ j:Nat,j≤xs.length∧i=.int .i64 j∧u=.int .u64 (L.wordOf 8 (xs.take j):Nat)) (fun _ i=>xs.length-(intOf i).toNat)
 case atStart=>exact⟨0,by omega,rfl,by simp[L.wordOf]⟩
 case round =>
  obtain⟨j,hj,rfl,rfl⟩:=hrel;have hlt64:L.wordOf 8 (xs.take j)<2^(8*j):=by
   have:=L.wordOf_lt 8 (xs.take j) fun x hx=>hv x (List.mem_of_mem_take hx)
   rwa [List.length_take,Nat.min_eq_left hj]at this
  by_cases hlt:j<xs.length
  ·obtain⟨b,o,rfl,hs⟩:=hA (by omega);have c1:=hs.byte j hlt;have hvj:xs.getD j 0<2^8:=hv _ (by simp[List.getD,List.getElem?_eq_getElem hlt]);have hsn:L.wordOf 8 (xs.take (j+1))=L.wordOf 8 (xs.take j)+xs.getD j 0*2^(8*j):=by
    rw[List.take_succ_eq_append_getElem hlt,L.wordOf_snoc,List.length_take,Nat.min_eq_left hj];simp[List.getD,List.getElem?_eq_getElem hlt]
   have HO:=hid (Zw1 (L.wordOf 8 (xs.take j)) (xs.getD j 0) 8 j hlt64 hvj (by omega));rw[← hsn]at HO;obtain⟨q,hq⟩:∃ q,8*j=q:=⟨_,rfl⟩;have hq':(8:Int)*(j:Int)=(q:Int):=by rw[← hq];simp
   have hq64:q≤64:=by omega
   rw[Nat.mul_comm j 8,hq]at HO;have hvj':xs.getD j 0<256:=hvj;clear hq hsn hA hs hv hvj hlt64;generalize xs.getD j 0=p at *;generalize L.wordOf 8 (xs.take j)=a at *;go_wp2;go_round
   case rel=>exact⟨j+1,by omega,by go_num,by rw[HO.out]⟩
   case measure=>simp[intOf];omega
  ·go_wp2;go_ret;rw[show j=xs.length from by omega,List.take_length];exact⟨rfl,rfl⟩
def tk (n:Nat) (xs:List Nat):List Nat:=if n≤xs.length then xs.take n else []
def tkL (n:Nat) (xs:List Nat):List Nat:=if n≤xs.length then xs.drop n else []
def tkS (n:Nat) (xs:List Nat) (s:Bool):Bool:=if n≤xs.length then s else true
set_option maxRecDepth 20000
def Zaq (w0 w:World) (g:Nat) (xs:List Nat) (s:Bool):Prop :=
 w0.heap.size≤g∧Below w0.heap.size w0 w∧∃ v,Row w g 189 [v,.bool s]∧Rd w0 v xs.length 1 (u8s xs)
theorem Zaq.row {w0 w:World} {g:Nat} {xs:List Nat} {s:Bool} (h:Zaq w0 w g xs s):∃ v,Row w g 189 [v,.bool s]∧Rd w0 v xs.length 1 (u8s xs):=h.2.2
theorem Zaq.mono {w0 w w':World} {g:Nat} {xs:List Nat} {s:Bool} (h:Zaq w0 w g xs s) (hb:Below w.heap.size w w'):Zaq w0 w' g xs s:=by
 obtain⟨h1,h2,v,hr,hv⟩:=h;exact⟨h1,Zac h2 hb,v,hr.mono hb,hv⟩
theorem Zaq.chg {w0 w w':World} {g a b:Nat} {xs:List Nat} {s:Bool} (h:Zaq w0 w g xs s) (hc:Chg a b w w') (h1:g≠a) (h2:g≠b) (ha:w0.heap.size≤a) (hb:w0.heap.size≤b):Zaq w0 w' g xs s:=by
 obtain⟨h3,h4,v,hr,hv⟩:=h;exact⟨h3,hc.below h4 h4.size ha hb,v,hc.row hr h1 h2,hv⟩
theorem Zaq.lt {w0 w:World} {g:Nat} {xs:List Nat} {s:Bool} (h:Zaq w0 w g xs s):g<w.heap.size:=by
 obtain⟨_,_,v,hr,_⟩:=h;exact hr.lt
theorem Zoj (xs:List Nat) (n:Nat):(u8s xs).take n=u8s (xs.take n):=by simp[u8s,List.map_take]
theorem Zuv (xs:List Nat) (n:Nat):(u8s xs).drop n=u8s (xs.drop n):=by simp[u8s,List.map_drop]
theorem Znp (w:World) (A:Option Addr):Rd w (.slice A 0 0) 0 1 []:=⟨rfl,.inl ⟨⟨A,rfl⟩,rfl⟩⟩
theorem Rd.front {w:World} {A:Option Addr} {ca:Nat} {xs:List Nat} (h:Rd w (.slice A xs.length ca) xs.length 1 (u8s xs)) (n:Nat) (hn:n≤xs.length) :
  Rd w (.slice A n n) (xs.take n).length 1 (u8s (xs.take n)):=by
 have hl:(xs.take n).length=n:=by rw[List.length_take];omega
 rw[hl];refine⟨by rw[Zcm,hl];omega,?_⟩;rcases h.2 with ⟨⟨A',e⟩,h0⟩ | ⟨b,o,cap,e,h1,h2,hs⟩
 ·obtain rfl:n=0:=by omega
  exact .inl ⟨⟨A,rfl⟩,rfl⟩
 ·cases e;refine .inr ⟨b,o,n,rfl,Nat.le_refl _,by omega,fun i v hv=>hs i v ?_⟩;rw[← Zoj,List.getElem?_take]at hv
  split at hv
  ·exact hv
  ·cases hv
theorem Rd.rear {w:World} {A:Option Addr} {ca:Nat} {xs:List Nat} (h:Rd w (.slice A xs.length ca) xs.length 1 (u8s xs)) (n:Nat) (hn:n≤xs.length) (hne:ca≠n) :
  Rd w (.slice (A.map fun x=>x.add n) (xs.length-n) (ca-n)) (xs.drop n).length 1 (u8s (xs.drop n)):=by
 have hl:(xs.drop n).length=xs.length-n:=by simp
 rw[hl];refine⟨by rw[Zcm,hl];omega,?_⟩;rcases h.2 with ⟨⟨A',e⟩,h0⟩ | ⟨b,o,cap,e,h1,h2,hs⟩
 ·simp only[Value.slice.injEq]at e;omega
 ·cases e;refine .inr ⟨b,o+n,ca-n,by simp[Zdl],by omega,by omega,fun i v hv=>?_⟩;rw[← Zuv,List.getElem?_drop]at hv;have:=hs (n+i) v hv
  rwa [← Nat.add_assoc]at this
theorem Rd.rear0 {w:World} {A:Option Addr} {ca:Nat} {xs:List Nat} (h:Rd w (.slice A xs.length ca) xs.length 1 (u8s xs)) (n:Nat) (hn:n≤xs.length) (hle:xs.length≤ca) (hne:ca=n) :
  Rd w (.slice A (xs.length-n) (ca-n)) (xs.drop n).length 1 (u8s (xs.drop n)):=by
 have hl:xs.length-n=0:=by omega
 have hl2:ca-n=0:=by omega
 rw[hl,hl2,List.drop_of_length_le (by omega)];exact Znp w A
set_option maxHeartbeats 1000000 in
theorem Zfs (w0 w:World) (g:Nat) (xs:List Nat) (s:Bool) (n:Nat) (h:Zaq w0 w g xs s) (hl:xs.length≤16777216) (hn:n≤1099511627776) :
  Calls Tryz.prog 80 #[.pointer (some ⟨g,0,none⟩),.int .i64 n] w fun e w'=>∃ t,e=.returned t∧Rd w0 t (tk n xs).length 1 (u8s (tk n xs)) ∧
   Zaq w0 w' g (tkL n xs) (tkS n xs s)∧Chg g g w w':=by
 obtain⟨hg,hb,v,hr,hv⟩:=h;obtain⟨A,ca,rfl,hlc,hcm,hA⟩:=hv.form;unfold maxLen at hcm;have c0:w.cell? ⟨g,0,none⟩=some (.slice A xs.length ca):=by rw[hr.cell];rfl
 have c1:w.cell? ⟨g,0+1,none⟩=some (.bool s):=by rw[hr.cell];rfl
 have f0:=hr.frozen 0;have f1:=hr.frozen (0+1);have HR:=hid hr;have HV:=hid hv;have HB:=hid hb;clear hr hv hb;go_enter Tryz.func80,Tryz.ntmps80;by_cases hlt:xs.length<n
 ·have e1:¬ n≤xs.length:=by omega
  have e2:(n:Int) > (xs.length:Int):=by omega
  clear hA;go_wp2;go_ret;refine⟨_,rfl,by rw[tk,if_neg e1];exact Znp _ _,⟨hg,Zad (Zad HB.out _ _ _ hg) _ _ _ hg,_,by rw[tkS,if_neg e1];exact(HR.out.set 0 _).set (0+1) _,by rw[tkL,if_neg e1];exact Znp _ _⟩,
   ((Chg.refl g g w).setCell g 0 _ (.inl rfl)).setCell g _ _ (.inl rfl)⟩
 ·have e1:n≤xs.length:=by omega
  have e2:¬ (n:Int) > (xs.length:Int):=by omega
  clear hA;go_wp2
  ·go_ret;refine⟨_,rfl,by rw[tk,if_pos e1];exact HV.out.front n e1,⟨hg,Zad HB.out _ _ _ hg,_,by rw[tkS,if_pos e1];exact HR.out.set 0 _,by rw[tkL,if_pos e1];have h2:=HV.out.rear0 n e1 hlc (by assumption);rw[show ca-n=0 by omega]at h2;exact h2⟩,
    (Chg.refl g g w).setCell g 0 _ (.inl rfl)⟩
  ·go_ret;refine⟨_,rfl,by rw[tk,if_pos e1];exact HV.out.front n e1,⟨hg,Zad HB.out _ _ _ hg,_,by rw[tkS,if_pos e1];exact HR.out.set 0 _,by rw[tkL,if_pos e1];exact HV.out.rear n e1 (by assumption)⟩,
    (Chg.refl g g w).setCell g 0 _ (.inl rfl)⟩
theorem Zit (n:Nat) (xs:List Nat):(tk n xs).length≤n:=by unfold tk;split<;>simp[List.length_take,Nat.min_le_left]
theorem Zdh {n:Nat} {xs:List Nat} {B:Nat} (h:∀ x∈xs,x<B):∀ x∈tk n xs,x<B:=by
 intro x hx;unfold tk at hx;split at hx
 ·exact h x (List.mem_of_mem_take hx)
 ·cases hx
theorem Zgc (xs:List Nat) (h:∀ x∈xs,x<256) (hl:xs.length≤8):L.wordOf 8 xs<18446744073709551616:=by
 have h1:=L.wordOf_lt 8 xs h;have h2:=Zcw (show 8*xs.length≤64 by omega);omega
theorem Zb0 (xs:List Nat) (h:∀ x∈xs,x<256) (hl:xs.length≤4):L.wordOf 8 xs<4294967296:=by
 have h1:=L.wordOf_lt 8 xs h;have h2:2^(8*xs.length)≤2^32:=Nat.pow_le_pow_right (by omega) (by omega);omega
set_option maxHeartbeats 1000000 in
theorem Zgs (w0 w:World) (g:Nat) (xs:List Nat) (s:Bool) (h:Zaq w0 w g xs s) (hv:∀ x∈xs,x<256) (hl:xs.length≤16777216) :
  Calls Tryz.prog 82 #[.pointer (some ⟨g,0,none⟩)] w fun e w'=>e=.returned (.int .i64 (L.wordOf 8 (tk 1 xs):Nat))∧Zaq w0 w' g (tkL 1 xs) (tkS 1 xs s)∧Chg g g w w':=by
 have hn:L.wordOf 8 (tk 1 xs)<4294967296:=Zb0 _ (Zdh hv) (Nat.le_trans (Zit 1 xs) (by omega));obtain⟨m,hm⟩:∃ m,L.wordOf 8 (tk 1 xs)=m:=⟨_,rfl⟩;rw[hm]at hn ⊢;have HM:=hid hm;clear hm;go_enter Tryz.func82,Tryz.ntmps82;go_wp2_with (first
  | (go_at_call 80;refine(Zfs w0 _ g xs s 1 h hl (by omega)).mono ?_;rintro e w1 ⟨t,rfl,hrd,hat,hch⟩;have Yd:=hid hat;have Ya:=hid hch;have Qx:=hid (hrd.mono (hat.2.1)))
  | (go_at_call 121;refine(Zf9 _ (tk 1 xs) _ Qx.out (Nat.le_trans (Zit 1 xs) (by omega)) (Zdh hv)).mono ?_;rintro e w2 ⟨rfl,hw⟩;subst hw;rw[HM.out]))
 go_ret;exact⟨by go_num,Yd.out,Ya.out⟩
set_option maxHeartbeats 1000000 in
theorem Zff (w0 w:World) (g:Nat) (xs:List Nat) (s:Bool) (h:Zaq w0 w g xs s) (hv:∀ x∈xs,x<256) (hl:xs.length≤16777216) :
  Calls Tryz.prog 81 #[.pointer (some ⟨g,0,none⟩)] w fun e w'=>e=.returned (.int .i64 (L.wordOf 8 (tk 4 xs):Nat))∧Zaq w0 w' g (tkL 4 xs) (tkS 4 xs s)∧Chg g g w w':=by
 have hn:L.wordOf 8 (tk 4 xs)<4294967296:=Zb0 _ (Zdh hv) (Nat.le_trans (Zit 4 xs) (by omega));obtain⟨m,hm⟩:∃ m,L.wordOf 8 (tk 4 xs)=m:=⟨_,rfl⟩;rw[hm]at hn ⊢;have HM:=hid hm;clear hm;go_enter Tryz.func81,Tryz.ntmps81;go_wp2_with (first
  | (go_at_call 80;refine(Zfs w0 _ g xs s 4 h hl (by omega)).mono ?_;rintro e w1 ⟨t,rfl,hrd,hat,hch⟩;have Yd:=hid hat;have Ya:=hid hch;have Qx:=hid (hrd.mono (hat.2.1)))
  | (go_at_call 121;refine(Zf9 _ (tk 4 xs) _ Qx.out (Nat.le_trans (Zit 4 xs) (by omega)) (Zdh hv)).mono ?_;rintro e w2 ⟨rfl,hw⟩;subst hw;rw[HM.out]))
 go_ret;exact⟨by go_num,Yd.out,Ya.out⟩
set_option maxHeartbeats 1000000 in
theorem Zx6 (w0 w:World) (g:Nat) (xs:List Nat) (s:Bool) (h:Zaq w0 w g xs s) (hv:∀ x∈xs,x<256) (hl:xs.length≤16777216) :
  Calls Tryz.prog 152 #[.pointer (some ⟨g,0,none⟩)] w fun e w'=>e=.returned (.int .u64 (L.wordOf 8 (tk 8 xs):Nat))∧Zaq w0 w' g (tkL 8 xs) (tkS 8 xs s)∧Chg g g w w':=by
 go_enter Tryz.func152,Tryz.ntmps152;go_wp2_with (first
  | (go_at_call 80;refine(Zfs w0 _ g xs s 8 h hl (by omega)).mono ?_;rintro e w1 ⟨t,rfl,hrd,hat,hch⟩;have Yd:=hid hat;have Ya:=hid hch;have Qx:=hid (hrd.mono (hat.2.1)))
  | (go_at_call 121;refine(Zf9 _ (tk 8 xs) _ Qx.out (Nat.le_trans (Zit 8 xs) (by omega)) (Zdh hv)).mono ?_;rintro e w2 ⟨rfl,hw⟩;subst hw))
 go_ret;exact⟨rfl,Yd.out,Ya.out⟩
theorem Zd3 (w0 w:World) (g:Nat) (xs:List Nat) (s:Bool) (h:Zaq w0 w g xs s) :
  Calls Tryz.prog 157 #[.pointer (some ⟨g,0,none⟩)] w fun e w'=>e=.returned (.bool s)∧w'=w:=by
 obtain⟨v,hr,hv⟩:=h.row;have c1:w.cell? ⟨g,0+1,none⟩=some (.bool s):=by rw[hr.cell];rfl
 clear hr hv h;go_enter Tryz.func157,Tryz.ntmps157;go_wp2;go_ret;exact⟨rfl,rfl⟩
theorem Zhz (w0 w:World) (g:Nat) (xs:List Nat) (s:Bool) (h:Zaq w0 w g xs s) (hl:xs.length≤16777216) :
  Calls Tryz.prog 158 #[.pointer (some ⟨g,0,none⟩)] w fun e w'=>e=.returned (.int .i64 xs.length)∧w'=w:=by
 obtain⟨v,hr,hv⟩:=h.row;obtain⟨A,ca,rfl,hlc,hcm,hA⟩:=hv.form;have c1:w.cell? ⟨g,0,none⟩=some (.slice A xs.length ca):=by rw[hr.cell];rfl
 clear hr hv h hA;go_enter Tryz.func158,Tryz.ntmps158;go_wp2;go_ret;exact⟨rfl,rfl⟩
set_option maxHeartbeats 1000000 in
theorem Zeu (w:World) (v:Value) (xs:List Nat) (hv:Rd w v xs.length 1 (u8s xs)) :
  Calls Tryz.prog 79 #[v] w fun e w'=>e=.returned (.pointer (some ⟨w.heap.size,0,none⟩))∧Zaq w w' w.heap.size xs false∧Below w.heap.size w w'∧w'.heap.size=w.heap.size+1:=by
 obtain⟨A,ca,rfl,hlc,hcm,hA⟩:=hv.form;have HV:=hid hv;clear hv hA;go_enter Tryz.func79,Tryz.ntmps79;go_wp2;go_ret;have hb:Below w.heap.size w (w.alloc (.cells #[.slice A xs.length ca,.bool false] 189 (0,0))):=(Zab w).alloc (Nat.le_refl _) _;exact⟨rfl,⟨Nat.le_refl _,hb,_,by unfold Row;rw[heap_alloc_new],HV.out⟩,hb,by simp⟩
def Zoy (r:Int):Nat:=(min (max r 0) 1024).toNat
theorem Zuo (r:Int):Zoy r≤1024:=by unfold Zoy;omega
theorem Zyw (r:Int) (w:World) :
  Calls Tryz.prog 29 #[.int .i64 r] w fun e w'=>e=.returned (.int .i64 (Zoy r:Nat))∧w'=w:=by
 go_enter Tryz.func29,Tryz.ntmps29;go_wp2
 all_goals go_ret
 all_goals refine⟨?_,rfl⟩
 all_goals simp[Zoy]
 all_goals omega
theorem Tryz.info45:(Tryz.prog.info? 73).map (fun i=>(i.zero,i.size,i.bytes))=some (some (.int .u64 0),1,8):=by kernel_rfl
theorem Zxj (xs ys:List Nat) (k:Nat) (h:xs.length=ys.length) (hp:xs.take k=ys.take k) (hk:k<xs.length) (he:xs.getD k 0=ys.getD k 0):xs.take (k+1)=ys.take (k+1):=by
 rw[List.take_succ_eq_append_getElem hk,List.take_succ_eq_append_getElem (h ▸ hk),hp];simp only[List.getD,List.getElem?_eq_getElem hk,List.getElem?_eq_getElem (h ▸ hk),Option.getD_some]at he;rw[he]
set_option maxHeartbeats 400000 in
theorem Zpk (x y:Value) (xs ys:List Nat) (w:World) (hx:Rd w x xs.length 1 (u64s xs)) (hy:Rd w y ys.length 1 (u64s ys)) (hl:xs.length≤maxLen) (hl2:ys.length≤maxLen) :
  Calls Tryz.prog 95 #[x,y] w fun e w'=>e=.returned (.bool (decide (xs=ys)))∧∃ n,w'=w.drewN n:=by
 unfold maxLen at hl hl2;obtain⟨A,ca,rfl,hlc,hcm,hA⟩:=hx.form;obtain⟨B,cb,rfl,hlc2,hcm2,hB⟩:=hy.form;clear hx hy;go_enter Tryz.func95,Tryz.ntmps95;by_cases hne:xs.length=ys.length
 ·have e1:(((xs.length:Int)) != (ys.length:Int))=false:=by rw[hne];simp
  have HN:=hid hne;clear hne;go_wp2;go_loopw [13] (fun i wr=>(∃ k:Nat,k≤xs.length∧i=.int .i64 k∧xs.take k=ys.take k)∧∃ n,wr=w.drewN n) (fun i _=>xs.length-(intOf i).toNat)
  case atStart=>exact⟨⟨0,by omega,rfl,rfl⟩,0,rfl⟩
  case round =>
   obtain⟨⟨k,hk,rfl,hp⟩,n,rfl⟩:=hrel;have HP:=hid hp;clear hp;by_cases hlt:k<xs.length
   ·obtain⟨b,o,rfl,hs⟩:=hA (by omega);obtain⟨b',o',rfl,hs'⟩:=hB (by have:=HN.out;omega);have hlt':k<ys.length:=by have:=HN.out;omega
    have c1:=hs.word k hlt;have c2:=hs'.word k hlt';have HE:Hid (xs.getD k 0=ys.getD k 0→xs.take (k+1)=ys.take (k+1)):=Zxj xs ys k HN.out HP.out hlt;have HF:Hid (xs.getD k 0≠ys.getD k 0→xs≠ys):=fun h e=>h (by rw[e])
    generalize xs.getD k 0=p at *;generalize ys.getD k 0=q at *;clear hA hB hs hs';go_wp2;go_quiet (fail)
    go_wp2
    ·rename_i h
     go_ret;have:xs≠ys:=HF.out (by rw[bne_iff_ne]at h;omega);exact⟨by simp[this],_,by simp;rfl⟩
    ·rename_i h
     go_roundw
     case rel=>exact⟨⟨k+1,by omega,by go_num,HE.out (by rw[bne_eq_false_iff_eq]at h;omega)⟩,_,rfl⟩
     case measure=>simp[intOf];omega
   ·go_wp2;go_ret;have hk':k=xs.length:=by omega
    subst hk';refine⟨?_,n,rfl⟩;have hp:=HP.out;rw[List.take_length,HN.out,List.take_length]at hp;simp[hp]
 ·have e1:(((xs.length:Int)) != (ys.length:Int))=true:=by rw[bne_iff_ne];omega
  go_wp2;go_ret;refine⟨?_,0,rfl⟩;have:xs≠ys:=fun h=>hne (by rw[h])
  simp[this]
theorem Znm (x y:Value) (xs:List Nat) (w:World) (hx:Rd w x xs.length 1 (u64s xs)) (hy:Rd w y xs.length 1 (u64s xs)) (hl:xs.length≤maxLen) :
  Calls Tryz.prog 95 #[x,y] w fun e w'=>e=.returned (.bool true)∧∃ n,w'=w.drewN n :=
 (Zpk x y xs xs w hx hy hl hl).mono fun e w' h=>by simpa using h
def i64s (xs:List Int):List Value:=xs.map (Value.int .i64)
theorem Ze5 (a b:List Int):i64s (a++b)=i64s a++i64s b:=by simp[i64s]
theorem Zgj (xs:List Int) (i:Nat) (h:i<xs.length):(i64s xs)[i]? = some (.int .i64 (xs.getD i 0)):=by
 simp[i64s,List.getElem?_eq_getElem h,List.getD]
theorem Seg.int {w:World} {b o:Nat} {xs:List Int} (h:Seg w b o (i64s xs)) (i:Nat) (hi:i<xs.length):w.cell? ⟨b,o+i,none⟩=some (.int .i64 (xs.getD i 0)) :=
 h i _ (Zgj xs i hi)
theorem Tryz.infoI64:(Tryz.prog.info? 3).map (fun i=>(i.zero,i.size,i.bytes))=some (some (.int .i64 0),1,8):=by kernel_rfl
set_option maxHeartbeats 400000 in
theorem Zgf (x y:Value) (xs:List Int) (w:World) (hx:Rd w x xs.length 1 (i64s xs)) (hy:Rd w y xs.length 1 (i64s xs)) (hl:xs.length≤maxLen) :
  Calls Tryz.prog 24 #[x,y] w fun e w'=>e=.returned (.bool true)∧∃ n,w'=w.drewN n:=by
 unfold maxLen at hl;obtain⟨A,ca,rfl,hlc,hcm,hA⟩:=hx.form;obtain⟨B,cb,rfl,hlc2,hcm2,hB⟩:=hy.form;clear hx hy;go_enter Tryz.func24,Tryz.ntmps24;have e1:(((xs.length:Int)) != (xs.length:Int))=false:=by simp
 go_wp2;go_loopw [13] (fun i wr=>(∃ k:Nat,k≤xs.length∧i=.int .i64 k)∧∃ n,wr=w.drewN n) (fun i _=>xs.length-(intOf i).toNat)
 case atStart=>exact⟨⟨0,by omega,rfl⟩,0,rfl⟩
 case round =>
  obtain⟨⟨k,hk,rfl⟩,n,rfl⟩:=hrel;by_cases hlt:k<xs.length
  ·obtain⟨b,o,rfl,hs⟩:=hA (by omega);obtain⟨b',o',rfl,hs'⟩:=hB (by omega);have c1:=hs.int k hlt;have c2:=hs'.int k hlt;generalize xs.getD k 0=p at *;clear hA hB hs hs';have e2:(p != p)=false:=by simp
   go_wp2;go_quiet (fail)
   go_wp2;go_roundw
   case rel=>exact⟨⟨k+1,by omega,by go_num⟩,_,rfl⟩
   case measure=>simp[intOf];omega
  ·go_wp2;go_ret;exact⟨rfl,n,rfl⟩
end Go.Proofs.YtmcjknjlihgihaaGreatDoor
