/- Package chunk: the parts of a payload off the reader. -/
import Derived.Laws.StructEq
import Derived.OwnWalk
import Derived.Deep.CutRange
import Derived.Deep.RegionHeld3
import Derived.Test.YtmcjknjlihgihaaGreatDoorLawparseuptoM7
set_option linter.unusedVariables false
set_option linter.unusedSimpArgs false
set_option linter.unnecessarySimpa false
set_option maxRecDepth 100000
namespace Go.Proofs.YtmcjknjlihgihaaGreatDoor
open Go.RowKit
theorem Tryz.infoU8:(Tryz.prog.info? 5).map (fun i=>(i.zero,i.size,i.bytes))=some (some (.int .u8 0),1,1):=by kernel_rfl
def Zgi (m:Nat):List Nat:=(List.range m).map fun j=>(131+j)%256
theorem Zvv (j:Nat):Zgi (j+1)=Zgi j++[(131+j)%256]:=by simp[Zgi,List.range_succ]
theorem Zq9 (m:Nat):(Zgi m).length=m:=by simp[Zgi]
set_option maxHeartbeats 1000000 in
theorem Zrd (v:Value) (xs:List Nat) (r:Int) (w:World) (hx:Rd w v xs.length 1 (u8s xs)) (hl:xs.length≤17592186044416) :
  Calls Tryz.prog 11 #[v,.int .i64 r] w fun e w' =>
   e=.returned (.slice (some ⟨w.heap.size,0,none⟩) (xs.length+Zoy r) (xs.length+Zoy r))∧Row w' w.heap.size 5 (u8s (xs++Zgi (Zoy r)))∧Below w.heap.size w w'∧w'.heap.size=w.heap.size+1:=by
 have hc:=Zuo r;generalize hcr:Zoy r=m at *;have HC:=hcr;clear hcr;have HX:Hid (Rd w v xs.length 1 (u8s xs)):=hx;obtain⟨A,cap,rfl,_,_,_⟩:=hx.form;clear hx;go_enter Tryz.func11,Tryz.ntmps11;go_wp2_with (go_at_call 29;refine(Zyw _ _).mono ?_;rintro e w' ⟨rfl,rfl⟩)
 refine Zcx 5 (.int .u8 0) 1 Tryz.underlying22 Tryz.infoU8 rfl (xs.length+m) (by omega) (by omega) (by omega) (by unfold maxLen;omega) ?_;intro w1 hrow hb1 hsz1;have HZ:Hid (w1.heap.size=w'.heap.size+1):=hsz1;clear hsz1;go_wp2;refine Zxl 5 Tryz.underlying22 (by kernel_rfl) hrow (HX.out.mono hb1) (Zsp xs) (by simp) ?_;rw[Nat.min_eq_left (by omega)];intro w2 hrow2 _ hb2 hsz2;rw[show List.take xs.length (u8s xs)=u8s xs from by rw[← Zcm xs,List.take_length]]at hrow2;have hb3:Below w'.heap.size w' w2:=hb1.trans hb2;have ZF:Hid (w2.heap.size=w'.heap.size+1):=by rw[hsz2];exact HZ.out
 clear hsz2 hb2 hrow hb1 HZ;simp only[Nat.zero_add,List.take_zero,List.nil_append,List.drop_replicate,Nat.add_sub_cancel_left]at hrow2;go_wp2;go_loopw [6] (fun i wr=>∃ j:Nat,j≤m∧i=.int .i64 (xs.length+j:Nat)∧Row wr w'.heap.size 5 (u8s (xs++Zgi j)++List.replicate (m-j) (.int .u8 0))∧Below w'.heap.size w' wr∧Hid (wr.heap.size=w'.heap.size+1))
   (fun i _=>xs.length+m-(intOf i).toNat)
 case atStart=>exact⟨0,by omega,rfl,by simpa [Zgi]using hrow2,hb3,ZF⟩
 case round =>
  obtain⟨j,hj,rfl,hr,hb,hz⟩:=hrel;clear hrow2 hb3 ZF;by_cases hlt:j<m
  ·have hcell:wr.cell? ⟨w'.heap.size,xs.length+j,none⟩=some (.int .u8 0):=by
    rw[hr.cell];exact Zfm _ _ _ _ (by simp[u8s,Zgi]) (by omega)
   have hfr:=hr.frozen (xs.length+j);have HR:=hid hr;clear hr;go_wp2;go_roundw
   case rel =>
    refine⟨j+1,by omega,by go_num,?_,hb.setCell (Nat.le_refl _) _,?_⟩
    ·have hs:=HR.out.set (xs.length+j) (.int .u8 (((131+j)%256:Nat):Int));rw[Zfo _ _ _ _ _ (by simp[u8s,Zgi]) (by omega)]at hs;rw[show ((131:Int)+((xs.length:Int)+(j:Int))-(xs.length:Int))%256=(((131+j)%256:Nat):Int) by omega,Zvv,← List.append_assoc,Zh6,← Nat.sub_sub m j 1];exact hs
    ·show _=_;rw[← hz.out];simp[World.setCell]
   case measure=>simp[intOf];omega
  ·obtain rfl:j=m:=by omega
   go_wp2;go_ret;exact⟨rfl,by simpa using hr,hb,hz.out⟩
theorem Znk (x y:Value) (xs:List Nat) (w:World) (hx:Rd w x xs.length 1 (u8s xs)) (hy:Rd w y xs.length 1 (u8s xs)) :
  Calls Tryz.prog 12 #[x,y] w fun e w'=>e=.returned (.bool true)∧w'=w:=by
 have h1:=Zd9 hx;have h2:=Zd9 hy;generalize Zat xs=S at *;clear hx hy;go_enter Tryz.func12,Tryz.ntmps12;go_wp2;go_ret;exact⟨by simp,rfl⟩
theorem Zfh (A:Nat→Bool) (B:Nat→Int) (C:Nat→ByteArray) (n:Nat):∀ k,k<n→(Za2 A B C n)[k*3]? = some (.bool (A k))∧(Za2 A B C n)[k*3+1]? = some (.int .i64 (B k))∧(Za2 A B C n)[k*3+2]? = some (.string (C k)):=by
 induction n with
 | zero=>intro k hk;omega
 | succ n ih =>
  intro k hk;have hl:=Zcq A B C n;by_cases hkn:k<n
  ·have:=ih k hkn;rw[Za2];rw[List.getElem?_append_left (by omega),List.getElem?_append_left (by omega),List.getElem?_append_left (by omega)];exact this
  ·obtain rfl:k=n:=by omega
   rw[Za2];rw[List.getElem?_append_right (by omega),List.getElem?_append_right (by omega),List.getElem?_append_right (by omega),hl];simp
set_option maxHeartbeats 1000000 in
theorem Zna (x y:Value) (n:Nat) (A:Nat→Bool) (B:Nat→Int) (C:Nat→ByteArray) (w:World) (hx:Rd w x n 3 (Za2 A B C n)) (hy:Rd w y n 3 (Za2 A B C n)) (hn:n≤16777216) :
  Calls Tryz.prog 56 #[x,y] w fun e w'=>e=.returned (.bool true)∧∃ m,w'=w.drewN m:=by
 obtain⟨A1,ca,rfl,hlc,hcm,hA⟩:=hx.form;obtain⟨B1,cb,rfl,hlc2,hcm2,hB⟩:=hy.form;clear hx hy;have e1:((n:Int) != (n:Int))=false:=by simp
 go_enter Tryz.func56,Tryz.ntmps56;go_wp2;go_loopw [13] (fun i wr=>(∃ k:Nat,k≤n∧i=.int .i64 k)∧∃ m,wr=w.drewN m) (fun i _=>n-(intOf i).toNat)
 case atStart=>exact⟨⟨0,by omega,rfl⟩,0,rfl⟩
 case round =>
  obtain⟨⟨k,hk,rfl⟩,m,rfl⟩:=hrel;by_cases hlt:k<n
  ·obtain⟨b,o,rfl,hs⟩:=hA (by omega);obtain⟨b',o',rfl,hs'⟩:=hB (by omega);obtain⟨g0,g1,g2⟩:=Zfh A B C n k hlt;have c0:w.cell? ⟨b,o+k*3,none⟩=_:=hs _ _ g0;have c1:w.cell? ⟨b,o+k*3+1,none⟩=_:=hs _ _ g1;have c2:w.cell? ⟨b,o+k*3+2,none⟩=_:=hs _ _ g2;have d0:w.cell? ⟨b',o'+k*3,none⟩=_:=hs' _ _ g0;have d1:w.cell? ⟨b',o'+k*3+1,none⟩=_:=hs' _ _ g1;have d2:w.cell? ⟨b',o'+k*3+2,none⟩=_:=hs' _ _ g2;clear hA hB hs hs' g0 g1 g2;generalize A k=xa at *;generalize B k=xb at *;generalize C k=xc at *;go_wp2;go_quiet (fail)
   go_wp2;go_roundw
   case rel=>exact⟨⟨k+1,by omega,by go_num⟩,_,rfl⟩
   case measure=>simp[intOf];omega
  ·go_wp2;go_ret;exact⟨rfl,m,rfl⟩
theorem Zqt (x:Nat) (r:List Nat):L.wordOf 8 (x :: r)=x+256*L.wordOf 8 r:=by simp[L.wordOf]
def Zb8 (size p n:Nat):Bool:=decide (p≤n∧size≤n-p)
set_option maxHeartbeats 1000000 in
theorem Zcz (v:Value) (xs:List Nat) (p size:Nat) (w:World) (hx:Rd w v xs.length 1 (u8s xs)) (hb:∀ x∈xs,x<256) (hl:xs.length≤16777216) (hs:size≤8) (hp:p≤1099511627776) :
  Calls Tryz.prog 91 #[v,.int .i64 p,.int .i64 size] w fun e w' =>
   e=.returned (.tuple #[.int .u64 (if Zb8 size p xs.length=true then L.wordOf 8 ((xs.drop p).take size)else 0:Nat),.bool (Zb8 size p xs.length)])∧w'=w:=by
 obtain⟨A,ca,rfl,hlc,hcm,hA⟩:=hx.form;clear hx;by_cases hok:p≤xs.length∧size≤xs.length-p
 ·have hno:Zb8 size p xs.length=true:=by unfold Zb8;simpa using hok
  rw[hno,if_pos rfl];have h1:¬ (p:Int)<0:=by omega
  have h2:¬ (p:Int) > (xs.length:Int):=by omega
  have h3:¬ (size:Int) > (xs.length:Int)-(p:Int):=by omega
  clear hno;go_enter Tryz.func91,Tryz.ntmps91;go_wp2;go_loop [8,9] (fun u i=>∃ c:Nat,c≤size∧i=.int .i64 ((size:Int)-1-c)∧u=.int .u64 (L.wordOf 8 ((xs.drop (p+(size-c))).take c):Nat)) (fun _ i=>(intOf i+1).toNat)
  case atStart=>exact⟨0,by omega,by simp,by simp[L.wordOf]⟩
  case round =>
   obtain⟨c,hc,rfl,rfl⟩:=hrel;by_cases hlt:c<size
   ·obtain⟨b,o,rfl,hseg⟩:=hA (by omega);obtain⟨q,hq⟩:∃ q,p+(size-(c+1))=q:=⟨_,rfl⟩;have hqi:(p:Int)+((size:Int)-1-(c:Int))=(q:Int):=by omega
    have hql:q<xs.length:=by omega
    have c1:=hseg.byte q hql;have hvb:xs.getD q 0<256:=hb _ (by simp[List.getD,List.getElem?_eq_getElem hql]);have hstep:(xs.drop q).take (c+1)=xs.getD q 0 :: (xs.drop (p+(size-c))).take c:=by
     rw[List.drop_eq_getElem_cons hql,List.take_succ_cons,show p+(size-c)=q+1 by omega];simp[List.getD,List.getElem?_eq_getElem hql]
    have hlt64:L.wordOf 8 ((xs.drop (p+(size-c))).take c)<2^(8*c):=by
     have:=L.wordOf_lt 8 ((xs.drop (p+(size-c))).take c) (fun x hx=>hb x (List.mem_of_mem_drop (List.mem_of_mem_take hx)));rw[List.length_take,List.length_drop,Nat.min_eq_left (by omega)]at this;exact this
    have hpow:2^(8*c)*256≤18446744073709551616:=by
     have:2^(8*c)*2^8≤2^64:=by rw[← Nat.pow_add];exact Nat.pow_le_pow_right (by omega) (by omega)
     simpa using this
    have QC:Hid (L.wordOf 8 ((xs.drop (p+(size-(c+1)))).take (c+1))=xs.getD q 0+256*L.wordOf 8 ((xs.drop (p+(size-c))).take c)):=hid (by rw[hq,hstep,Zqt]);have hidx:(size:Int)-1-(c:Int) ≥ 0:=by omega
    clear hstep hseg hA hq;generalize xs.getD q 0=x at *;generalize L.wordOf 8 ((xs.drop (p+(size-c))).take c)=a at *;generalize 2^(8*c)=pw at *;go_wp2;go_round
    case rel=>exact⟨c+1,by omega,by congr 1;omega,by rw[QC.out];congr 1;omega⟩
    case measure=>simp[intOf];omega
   ·have hidx:¬ ((size:Int)-1-(c:Int) ≥ 0):=by omega
    obtain rfl:c=size:=by omega
    go_wp2;go_ret2
    exact⟨by simp,rfl⟩
 ·have hno:Zb8 size p xs.length=false:=by unfold Zb8;simpa using hok
  rw[hno,if_neg (by simp)];have h1:¬ (p:Int)<0:=by omega
  clear hno hA;go_enter Tryz.func91,Tryz.ntmps91;by_cases h2:p≤xs.length
  ·have h2':¬ (p:Int) > (xs.length:Int):=by omega
   have h3:(size:Int) > (xs.length:Int)-(p:Int):=by omega
   go_wp2;go_ret2
   exact⟨rfl,rfl⟩
  ·have h2':(p:Int) > (xs.length:Int):=by omega
   go_wp2;go_ret2
   exact⟨rfl,rfl⟩
theorem Zkh (k:Int) (w:World):Calls Tryz.prog 69 #[.int .i64 k] w fun e w'=>e=.returned (.bool (Zax k))∧w'=w:=by
 go_enter Tryz.func69,Tryz.ntmps69;go_wp2
 all_goals go_ret
 all_goals refine⟨Zae ?_,rfl⟩
 all_goals by_cases h1:k=1<;>by_cases h2:k=2<;>simp_all [Zax]
def Zav (size count p n:Nat):Bool:=decide (p≤n∧size*count≤n-p)
theorem Zq0 (size count p:Nat) (xs:List Nat) (h:p≤xs.length∧size*count≤xs.length-p) (i:Nat) (hi:i<count) :
  ((tk (size*count) (xs.drop p)).drop (size*i)).take size=(xs.drop (p+size*i)).take size:=by
 have h1:size*i+size≤size*count:=by rw[← Nat.mul_succ];exact Nat.mul_le_mul_left _ hi
 unfold tk;rw[if_pos (by rw[List.length_drop];exact h.2),List.drop_take,List.take_take,List.drop_drop,Nat.min_eq_left (by omega)]
theorem Zwb (size count p:Nat) (xs:List Nat) (h0:0<size) (h:p≤xs.length∧size*count≤xs.length-p) (i:Nat) (hi:i<count) :
  (numL size (tk (size*count) (xs.drop p))).take (i+1)=(numL size (tk (size*count) (xs.drop p))).take i++[L.wordOf 8 ((xs.drop (p+size*i)).take size)]:=by
 have hlen:(numL size (tk (size*count) (xs.drop p))).length=count:=by
  rw[Zan];unfold tk;rw[if_pos (by rw[List.length_drop];exact h.2),List.length_take,List.length_drop,Nat.min_eq_left (by omega)];exact Nat.mul_div_cancel_left _ h0
 rw[List.take_succ_eq_append_getElem (by omega)];congr 2
 unfold numL;rw[List.getElem_map,List.getElem_range,Zq0 size count p xs h i hi]
set_option maxHeartbeats 2000000 in
theorem Zcn (v:Value) (xs:List Nat) (p size count:Nat) (w:World) (hx:Rd w v xs.length 1 (u8s xs)) (hb:∀ x∈xs,x<256) (hl:xs.length≤16777216) (hs:size=4∨size=8) (hp:p≤1099511627776) (hc:count≤4294967296) :
  Calls Tryz.prog 89 #[v,.int .i64 p,.int .i64 size,.int .i64 count] w fun e w' =>
   ∃ u,e=.returned (.tuple #[u,.int .i64 (if Zav size count p xs.length=true then p+size*count else 0:Nat),.bool (Zav size count p xs.length)]) ∧
    w'.ownsRow w.heap.size 73 1 u (numL size (tk (size*count) (xs.drop p))).length (u64s (numL size (tk (size*count) (xs.drop p))))∧Below w.heap.size w w':=by
 obtain⟨A,ca,rfl,hlc,hcm,hA⟩:=hx.form;clear hA;have h0:0<size:=by omega
 by_cases hok:p≤xs.length∧size*count≤xs.length-p
 ·have hno:Zav size count p xs.length=true:=by unfold Zav;simpa using hok
  rw[hno,if_pos rfl];have hlen:(numL size (tk (size*count) (xs.drop p))).length=count:=by
   rw[Zan];unfold tk;rw[if_pos (by rw[List.length_drop];exact hok.2),List.length_take,List.length_drop,Nat.min_eq_left (by omega)];exact Nat.mul_div_cancel_left _ h0
  have QJ:=hid (Zwb size count p xs h0 hok);have HX:=hid hx;have hcl:count≤16777216:=by rcases hs with rfl | rfl<;>omega
  have h1:¬ (count:Int)<0:=by omega
  have h2:¬ (p:Int)<0:=by omega
  have h3:¬ (p:Int) > (xs.length:Int):=by omega
  have h4:¬ (count:Int) > ((xs.length:Int)-(p:Int))/(size:Int):=by rcases hs with rfl | rfl<;>omega
  obtain⟨M,hM⟩:∃ M,numL size (tk (size*count) (xs.drop p))=M:=⟨_,rfl⟩;rw[hM]at hlen QJ ⊢;have hfin:(count:Int)*(size:Int)=((size*count:Nat):Int):=by rw[Nat.mul_comm];simp
  obtain⟨sc,hsc⟩:∃ sc,size*count=sc:=⟨_,rfl⟩;rw[hsc]at hok hfin ⊢;have hscl:sc≤16777216:=by omega
  obtain⟨B,hB⟩:∃ B,w.heap.size=B:=⟨_,rfl⟩;have Y8:=hid hB;rw[hB];clear hx hno hM hB;go_enter Tryz.func89,Tryz.ntmps89;go_wp2;go_loopw [11,12] (fun u i wr=>∃ j:Nat,j≤count∧i=.int .i64 j∧wr.ownsRow B 73 1 u j (u64s (M.take j))∧Below w.heap.size w wr) (fun _ i _=>count-(intOf i).toNat)
  case atStart=>exact⟨0,by omega,rfl,by simpa [u64s]using World.ownsRow_nil _ _ _ _,Below.refl _ _⟩
  case round =>
   obtain⟨j,hj,rfl,hown,hbw⟩:=hrel;have Qi:=hid hown;obtain⟨A2,c2,rfl,_,_,_⟩:=Zao hown;clear hown;by_cases hlt:j<count
   ·obtain⟨q,hq⟩:∃ q,p+size*j=q:=⟨_,rfl⟩;have hmul:(j:Int)*(size:Int)=((size*j:Nat):Int):=by rw[Nat.mul_comm];simp
    have hsj:size*j+size≤sc:=by rw[← hsc,← Nat.mul_succ];exact Nat.mul_le_mul_left _ hlt
    have hq':(p:Int)+((size*j:Nat):Int)=(q:Int):=by omega
    have hnum1:q≤xs.length:=by omega
    have hnum2:size≤xs.length-q:=by omega
    have hnum:Zb8 size q xs.length=true:=by unfold Zb8;exact decide_eq_true ⟨hnum1,hnum2⟩
    have HN:=hid (Zcz _ xs q size wr (HX.out.mono hbw) hb hl (by omega) (by omega));rw[hnum,if_pos rfl]at HN;have QC:=hid (QJ.out j hlt);rw[hq]at QC;have hsjl:size*j≤16777216:=by omega
    generalize L.wordOf 8 ((xs.drop q).take size)=x at *;generalize size*j=sj at *;clear hnum hq;have hBw:B≤wr.heap.size:=by have:=Y8.out;have:=hbw.size;omega
    go_wp2_with (first
     | (go_at_call 91;refine HN.out.mono ?_;rintro e w3 ⟨rfl,hw⟩;replace hw:=hw.symm;subst hw)
     | (at_builtin;refine Zdp rfl (.tmp 53) (.tmp 55) rfl 73 (.int .u64 0) 8 Tryz.underlying37 Tryz.info45 rfl rfl rfl Qi.out hBw (by rfl) (by unfold maxLen;omega) (by omega) ?_;intro v' w' ho hb3 _))
    go_roundw
    case rel =>
     refine⟨j+1,by omega,by go_num,?_,hbw.trans (hb3.mono (by have:=Y8.out;omega))⟩;rw[QC.out,Zfi];exact ho
    case measure=>simp[intOf];omega
   ·obtain rfl:j=count:=by omega
    go_wp2;refine bodyPost_ret (v:=.tuple #[.slice A2 j c2,.int .i64 ((p+sc:Nat):Int),.bool true]) ?_ rfl ⟨_,rfl,?_,by rw[← Y8.out];exact hbw⟩
    ·simp[results,Tryz.results89,go_sem]
    have:=Qi.out;rw[← hlen,List.take_length]at this;rw[hlen]at this ⊢;exact this
 ·have hno:Zav size count p xs.length=false:=by unfold Zav;simpa using hok
  rw[hno,if_neg (by simp)];have hM:numL size (tk (size*count) (xs.drop p))=[]:=by
   unfold tk numL;by_cases h2:p≤xs.length
   ·rw[if_neg (by rw[List.length_drop];exact fun h=>hok ⟨h2,h⟩)];simp
   ·rw[List.drop_of_length_le (by omega)];split<;>simp
  rw[hM];have h1:¬ (count:Int)<0:=by omega
  have h2:¬ (p:Int)<0:=by omega
  clear hno hM hx;go_enter Tryz.func89,Tryz.ntmps89;by_cases h3:p≤xs.length
  ·have h3':¬ (p:Int) > (xs.length:Int):=by omega
   have h4:(count:Int) > ((xs.length:Int)-(p:Int))/(size:Int):=by rcases hs with rfl | rfl<;>omega
   go_wp2;refine bodyPost_ret (v:=.tuple #[.slice none 0 0,.int .i64 0,.bool false]) ?_ rfl ⟨_,rfl,World.ownsRow_nil _ _ _ _,Zab w⟩;simp[results,Tryz.results89,go_sem]
  ·have h3':(p:Int) > (xs.length:Int):=by omega
   go_wp2;refine bodyPost_ret (v:=.tuple #[.slice none 0 0,.int .i64 0,.bool false]) ?_ rfl ⟨_,rfl,World.ownsRow_nil _ _ _ _,Zab w⟩;simp[results,Tryz.results89,go_sem]
theorem Zyu (d w:Nat) (h1:d≤2^w) (h2:∀ t,t<w→2^t<d):Zgl d=w:=by
 unfold Zgl;cases w with
 | zero=>rw[if_pos (by simp at h1;omega)]
 | succ t =>
  have h3:=h2 t (by omega);have h4:1≤2^t:=Nat.one_le_two_pow;rw[if_neg (by omega)];have h5:(d-1).log2=t:=(Nat.log2_eq_iff (by omega)).2 ⟨by omega,by omega⟩;omega
set_option maxHeartbeats 1000000 in
theorem Zzq (d:Nat) (w:World) (hd:d≤256):Calls Tryz.prog 117 #[.int .i64 d] w fun e w'=>e=.returned (.int .i64 (Zgl d:Nat))∧w'=w:=by
 go_enter Tryz.func117,Tryz.ntmps117;go_wp2;go_loop [3] (fun i=>∃ k:Nat,k≤8∧i=.int .i64 k∧∀ t,t<k→2^t<d) (fun i=>9-(intOf i).toNat)
 case atStart=>exact⟨0,by omega,rfl,fun t h=>absurd h (Nat.not_lt_zero t)⟩
 case round =>
  obtain⟨k,hk,rfl,hall⟩:=hrel;have Qs:=hid hall;clear hall;obtain⟨pw,hpw⟩:∃ pw,2^k=pw:=⟨_,rfl⟩;have hpl:pw≤256:=by rw[← hpw];exact Nat.le_trans (Nat.pow_le_pow_right (by omega) hk) (by decide)
  have hk8:pw<d→k<8:=by
   intro h;by_cases h8:k=8
   ·subst h8;rw[show (2:Nat)^8=256 from rfl]at hpw;omega
   ·omega
  have hpi:(2:Int)^k=(pw:Int):=by rw[← hpw];simp
  have Vx:=hid hpw;clear hpw;by_cases hlt:pw<d
  ·have hk7:=hk8 hlt;have hli:(pw:Int)<(d:Int):=by omega
   clear hk8;go_wp2;go_round
   case rel =>
    refine⟨k+1,by omega,by go_num,fun t ht=>?_⟩;by_cases htk:t=k
    ·subst htk;rw[Vx.out];exact hlt
    ·exact Qs.out t (by omega)
   case measure=>simp[intOf];omega
  ·have hli:¬ (pw:Int)<(d:Int):=by omega
   clear hk8;go_wp2;go_ret;exact⟨Zc0 (by rw[Zyu d k (by rw[Vx.out];omega) Qs.out]),rfl⟩
def ordS (a b:ByteArray):Int:=if ltS a b=true then -1 else if (!(ltS a b||eqS a b))=true then 1 else 0
set_option maxRecDepth 20000
def ck_I (rows codec width:Int) (nulls:Value) (count:Int) (list ends:Value) (base:Int) (lanes kind bef:Value):List Value :=
 [i64 rows,i64 codec,i64 width,nulls,i64 count,list,ends,i64 base,lanes,kind,bef]
set_option maxHeartbeats 1000000 in
theorem Zxm (w:World) (g:Nat) (rows codec:Int) (wd:Nat) (nulls:Value) (count:Int) (list ends:Value) (base:Int) (lanes kind bef:Value) (ws:List Nat) (j:Nat)
  (h:Row w g 207 (ck_I rows codec wd nulls count list ends base lanes kind bef)) (hx:Rd w lanes ws.length 1 (u64s ws)) (hv:∀ x∈ws,x<18446744073709551616)
  (hw:wd≤64) (hj:j≤65536) (hin:0<wd→j/(64/wd)<ws.length) :
  Calls Tryz.prog 237 #[.pointer (some ⟨g,0,none⟩),.int .i64 j] w fun e w'=>e=.returned (.int .u64 (L.laneOf wd ws j:Nat))∧∃ n,w'=w.drewN n:=by
 have c2:w.cell? ⟨g,0+2,none⟩=some (.int .i64 wd):=by rw[h.cell];rfl
 by_cases h0:wd=0
 ·subst h0;go_enter Tryz.func237,Tryz.ntmps237;go_wp2;go_ret;exact⟨by simp[L.laneOf],0,rfl⟩
 ·obtain⟨A,ca,rfl,hlc,hcm,hA⟩:=hx.form;have hlt:=hin (by omega);obtain⟨b,o,rfl,hs⟩:=hA (Nat.lt_of_le_of_lt (Nat.zero_le _) hlt);have c8:w.cell? ⟨g,0+8,none⟩=some (.slice (some ⟨b,o,none⟩) ws.length ca):=by rw[h.cell];rfl
  have c1:=hs.word _ hlt;have hvj:ws.getD (j/(64/wd)) 0<18446744073709551616:=hv _ (by simp[List.getD,List.getElem?_eq_getElem hlt]);have hp:=L.per_pos (by omega) hw;have hp2:64/wd≤64:=Nat.div_le_self 64 wd;obtain⟨p,hP⟩:∃ p,64/wd=p:=⟨_,rfl⟩;have hPi:(64:Int)/(wd:Int)=(p:Int):=by rw[← hP];simp
  rw[hP]at c1 hvj hp hp2 hlt;have hmul:j%p*wd≤64:=by
   have h1:=L.per_mul wd;rw[hP]at h1;exact Nat.le_trans (Nat.mul_le_mul_right wd (Nat.le_of_lt (Nat.mod_lt _ hp))) h1
  obtain⟨q,hq⟩:∃ q,j%p*wd=q:=⟨_,rfl⟩;have hq':((j:Int)%(p:Int))*(wd:Int)=(q:Int):=by rw[← hq];simp
  rw[hq]at hmul;obtain⟨d,hd⟩:∃ d,j/p=d:=⟨_,rfl⟩;have hd':(j:Int)/(p:Int)=(d:Int):=by rw[← hd];simp
  have hdj:d≤65536:=by rw[← hd];exact Nat.le_trans (Nat.div_le_self _ _) hj
  rw[hd]at c1 hvj hlt;have HL:Hid (L.laneOf wd ws j=ws.getD d 0/2^q%2^wd):=hid (by unfold L.laneOf;rw[if_neg h0,hP,hd,hq]);have hne:¬ (wd:Int)=0:=by omega
  have hpe:¬ (p:Int)=0:=by omega
  clear hA hs hx hv hin hP hq hd h;generalize ws.getD d 0=x at *;have ZJ:=hid (Zul x q wd hvj hw);generalize hz:2^wd-1=z at *;have HZ:=hid hz;clear hz;have hw1:(wd:Int)≤64:=by omega
  have Vt:Hid (IntKind.u64.wrap (IntKind.u64.wrap (2^wd)-1)=(z:Int)):=hid (by rw[← HZ.out];exact Zpa wd hw);go_enter Tryz.func237,Tryz.ntmps237;go_wp2;rw[hPi,Vt.out];go_quiet (fail)
  go_wp2;go_ret;exact⟨Zer (by rw[ZJ.out,HL.out]),_,rfl⟩
set_option maxRecDepth 100000
set_option maxHeartbeats 4000000 in
theorem Zlr (w0 w:World) (g gr:Nat) (xs:List Nat) (s:Bool) (rows codec wd k:Int) (nulls list ends lanes kind bef:Value) (base op:Int) (lim:Nat)
  (hT:Tab w0) (hc:Row w g 207 (ck_I rows codec wd nulls k list ends base lanes kind bef)) (hr:Zaq w0 w gr xs s) (hne:g≠gr) (hg0:w0.heap.size≤g) (hgs:gr<w.heap.size)
  (hv:∀ x∈xs,x<256) (hl:xs.length≤16777216) (hlim:lim<18446744073709551616) :
  Calls Tryz.prog 234 #[.pointer (some ⟨g,0,none⟩),.pointer (some ⟨gr,0,none⟩),.int .i64 op,.int .u64 lim] w fun e w' =>
   e=.returned (.bool (Zck wd k op (Za7 xs) lim))∧∃ v,Row w' g 207 (ck_I rows codec wd nulls k list ends base v kind bef) ∧
    w'.ownsRow w.heap.size 73 1 v (Za7 xs).length (u64s (Za7 xs))∧Zaq w0 w' gr (tkL (8*(xs.length/8)) xs) (tkS (8*(xs.length/8)) xs s)∧Chg g gr w w':=by
 obtain⟨ws,hws⟩:∃ ws,Za7 xs=ws:=⟨_,rfl⟩;have hwv:∀ x∈ws,x<18446744073709551616:=by rw[← hws];exact Zdz (Zdh hv) (by omega)
 have hwl:ws.length≤2097152:=by rw[← hws,Zfj];omega
 obtain⟨c,hcc⟩:∃ c,xs.length/8=c:=⟨_,rfl⟩;obtain⟨xl,hxl⟩:∃ xl,tkL (8*c) xs=xl:=⟨_,rfl⟩;obtain⟨s1,hs1⟩:∃ s1,tkS (8*c) xs s=s1:=⟨_,rfl⟩;have hU:=Zhw w0 w gr xs s c hr hgs hv hl (by omega);have hwc:numL 8 (tk (8*c) xs)=ws:=by rw[← hws,← hcc];rfl
 rw[hwc,hxl,hs1]at hU;rw[hws,hcc,hxl,hs1];have HU:=hid hU;have ZL:=hid (Zhz w0 w gr xs s hr hl);have hce:(xs.length:Int)/8=(c:Int):=by omega
 have HC:=hid hc;have HR:=hid hr;have HT:=hid hT;have Vy:=hid hT.lt;have hgw:g<w.heap.size:=hc.lt;obtain⟨B,hB⟩:∃ B,w.heap.size=B:=⟨_,rfl⟩;have HB:=hid hB;rw[hB];obtain⟨wr,hwr⟩:∃ wr,cmpR wd k op ws lim=wr:=⟨_,rfl⟩;obtain⟨ok,hok⟩:∃ ok,Zh8 wd k op ws=ok:=⟨_,rfl⟩;have hwrl:wr.length≤maxLen:=by rw[← hwr];have:=Zt6 wd k op ws lim;unfold maxLen;omega
 have hwrv:∀ x∈wr,x<18446744073709551616:=by rw[← hwr];exact Zx1 wd k op ws lim
 have eB:Zck wd k op ws lim=(ok&&(Zee k k wr==0)):=by rw[Zck,hwr,hok]
 rw[eB];have Jl:=hid (fun(w2:World) (v:Value) (h1:Tab w2) (h2:Rd w2 v ws.length 1 (u64s ws))=>Zm6 v ws wd k op lim w2 h1 h2 hwv hlim (by unfold maxLen;omega));rw[hwr,hok]at Jl;obtain⟨rk,hrk⟩:∃ rk,Zee k k wr=rk:=⟨_,rfl⟩;have YL:=hid (fun(w2:World) (v:Value) (h2:Rd w2 v wr.length 1 (u64s wr))=>Zll v wr k k w2 h2 hwrv hwrl);rw[hrk]at YL ⊢;clear hws hwc hxl hs1 hcc hU hc hr hT hB hwr hok eB hrk hv hwv;go_enter Tryz.func234,Tryz.ntmps234;go_upto_region 2 with (first
  | (go_at_call 158;refine ZL.out.mono ?_;rintro e w1 ⟨rfl,hw⟩;replace hw:=hw.symm;subst hw)
  | (go_at_call 123;refine HU.out.mono ?_;rintro e w1 ⟨p,hp,rfl,hrow,hat,hch⟩;have HP:=hid hp;have Qq:=hid hrow;have Yd:=hid hat;have Ya:=hid hch;have Yj:=hid (hch.row HC.out hne hne);have c8:w1.cell? ⟨g,0+8,none⟩=some lanes:=(by rw[Yj.out.cell];rfl);have f8:=Yj.out.frozen (0+8);clear hp hrow hat hch))
 have Qp:Hid (Row (w1.setCell ⟨g,8,none⟩ (.slice (some ⟨p,0,none⟩) ws.length ws.length)) g 207 (ck_I rows codec wd nulls k list ends base (.slice (some ⟨p,0,none⟩) ws.length ws.length) kind bef)):=hid (Yj.out.set 8 _);have HS:=hid ((Chg.refl g gr w1).setCell g 8 (.slice (some ⟨p,0,none⟩) ws.length ws.length) (.inl rfl));have hpB:B≤p:=by have:=HP.out;have:=HB.out;omega
 have hpg:p≠g:=by have:=HB.out;omega
 have hpgr:p≠gr:=by have:=HB.out;omega
 have Qu:=hid (Yd.out.chg ((Chg.refl g g w1).setCell g 8 (.slice (some ⟨p,0,none⟩) ws.length ws.length) (.inl rfl)) (Ne.symm hne) (Ne.symm hne) hg0 hg0);have QR:=hid (HS.out.row Qq.out hpg hpgr);have QF:=hid ((Chg.wide' (a:=g) Ya.out).trans HS.out);clear Yj Qq Yd HS HC HR ZL HU;generalize w1.setCell ⟨g,8,none⟩ (.slice (some ⟨p,0,none⟩) ws.length ws.length)=w2 at *;have hT2:Hid (Tab w2):=hid (HT.out.mono Qu.out.2.1 Vy.out);have Ye:=hid (QR.out.rd' (n:=ws.length) (by simp[u64s]) (by unfold maxLen;omega));have d8:w2.cell? ⟨g,0+8,none⟩=some (.slice (some ⟨p,0,none⟩) ws.length ws.length):=by rw[Qp.out.cell];rfl
 have d2:w2.cell? ⟨g,0+2,none⟩=some (.int .i64 wd):=by rw[Qp.out.cell];rfl
 have d4:w2.cell? ⟨g,0+4,none⟩=some (.int .i64 k):=by rw[Qp.out.cell];rfl
 have QT:=hid (fun nd:Nat=>Jl.out (w2.drewN nd) _ (hT2.out.mono (Zaf (Zab w2) nd) hT2.out.lt) (Ye.out.mono (Zaf (Zab w2) nd)));clear c8 f8 Jl;have d8':w2.cell? ⟨g,8,none⟩=some (.slice (some ⟨p,0,none⟩) ws.length ws.length):=by rw[Qp.out.cell];rfl
 have d2':w2.cell? ⟨g,2,none⟩=some (.int .i64 wd):=by rw[Qp.out.cell];rfl
 have d4':w2.cell? ⟨g,4,none⟩=some (.int .i64 k):=by rw[Qp.out.cell];rfl
 clear d8 d2 d4;have hgw2:g<w2.heap.size:=Qp.out.lt;go_cut [9,10]from 11 (fun s9 s10 wc=>s10=.bool ok∧Hid (Rd wc s9 wr.length 1 (u64s wr))∧Hid (Below w2.heap.size w2 wc))
 case first =>
  go_region_held3 (fun w'=>w'.cell? ⟨g,8,none⟩=some (.slice (some ⟨p,0,none⟩) ws.length ws.length)∧w'.cell? ⟨g,2,none⟩=some (.int .i64 wd)∧w'.cell? ⟨g,4,none⟩=some (.int .i64 k)) (go_keep)
   (first | (go_at_call 252;refine(QT.out 1).mono ?_;rintro e w3 ⟨r3,rfl,ho3,hb3⟩;have Y6:=hid ho3;have Qe:=hid hb3;obtain⟨A3,c3,rfl,hc3,_,_,_⟩:=Zao ho3;have k8:=(hb3.cell (p:=⟨g,8,none⟩) hgw2).trans d8';have k2:=(hb3.cell (p:=⟨g,2,none⟩) hgw2).trans d2';have k4:=(hb3.cell (p:=⟨g,4,none⟩) hgw2).trans d4';clear ho3 hb3 hc3))
  all_goals (go_wp2_with fail;go_meet)
  all_goals exact⟨rfl,hid (Zba Y6.out),hid ((Zaf (Zab w2) _).trans Qe.out)⟩
 case rest =>
  obtain⟨rfl,HW9,Ym⟩:=hcut;have Qn:Hid (Row wc g 207 (ck_I rows codec wd nulls k list ends base (.slice (some ⟨p,0,none⟩) ws.length ws.length) kind bef)):=hid (Qp.out.mono Ym.out);have e4:wc.cell? ⟨g,4,none⟩=some (.int .i64 k):=by rw[Qn.out.cell];rfl
  have Jm:=hid (fun nd:Nat=>YL.out (wc.drewN nd) _ (HW9.out.mono (Zaf (Zab wc) nd)));have Ut:=hid (QR.out.mono Ym.out);have Jn:=hid (Qu.out.mono Ym.out);have Y9:=hid (QF.out.then_below Ym.out QF.out.size);clear Qp QR Qu QF Ym d8' d2' d4' QT YL HW9 Ye hT2;cases ok
  case' false =>
   go_wp2_with fail
   go_quiet (fail)
  case' true =>
   go_wp2_with fail
   go_quiet (first | (go_at_call 154;refine Calls.quiet_of (Jm.out _)))
  all_goals go_wp2_with fail
  all_goals go_ret
  all_goals exact⟨rfl,_,Qn.out.drewN nq,(Ut.out.drewN nq).owns hpB (by simp[u64s]) (by unfold maxLen;omega),Jn.out.mono (Zaf (Zab wc) nq),Y9.out.drewN nq⟩
theorem Zg6:∀ w:World,(method 457 159 (.agg #[]) "colscan/chunk.readList").run Tryz.prog w=.ok (321,.agg #[]) w:=fun _=>by kernel_rfl
structure Out_I where
 b:Bool
 left:List Nat
 short:Bool
 list:List Int
 ends:List Nat
 lanes:List Nat
structure OutAt_I (w0 w w':World) (B g gr:Nat) (rows codec wd k:Int) (nulls kind bef:Value) (base:Int) (o:Out_I):Prop where
 ck:∃ lv ev nv,Row w' g 207 (ck_I rows codec wd nulls k lv ev base nv kind bef)∧w'.ownsRow B 2 1 lv o.list.length (i64s o.list) ∧
  w'.ownsRow B 3 1 ev o.ends.length (nIs o.ends)∧w'.ownsRow B 73 1 nv o.lanes.length (u64s o.lanes)
 rdr:Zaq w0 w' gr o.left o.short
 chg:Chg g gr w w'
def Zbg:Value:=.iface 159 (.agg #[])
def Zbt (wd:Int) (k:Nat) (xs:List Nat) (s:Bool):Out_I :=
 { b:=(rdI k xs s).2.1&&decide (wd=0),left:=(rdI k xs s).2.2.1,short:=(rdI k xs s).2.2.2,list:=(rdI k xs s).1,ends:=[],lanes:=[] }
set_option maxHeartbeats 4000000 in
theorem Zsq (w0 w:World) (g gr:Nat) (xs:List Nat) (s:Bool) (rows codec wd:Int) (k:Nat) (nulls bef:Value) (base:Int)
  (hc:Row w g 207 (ck_I rows codec wd nulls k nilS nilS base nilS Zbg bef)) (hr:Zaq w0 w gr xs s) (hne:g≠gr) (hg0:w0.heap.size≤g) (hgs:gr<w.heap.size)
  (hv:∀ x∈xs,x<256) (hl:xs.length≤16777216) (hk:k≤65536) :
  Calls Tryz.prog 198 #[.pointer (some ⟨g,0,none⟩),.pointer (some ⟨gr,0,none⟩)] w fun e w' =>
   e=.returned (.bool (Zbt wd k xs s).b)∧OutAt_I w0 w w' w.heap.size g gr rows codec wd k nulls Zbg bef base (Zbt wd k xs s):=by
 have HC:=hid hc;have HR:=hid hr;have Yc:=hid (fun nd:Nat=>Zgp w0 (w.drewN nd) gr xs s k (hr.mono (Zaf (Zab w) nd)) hgs hv hl (by omega));have d9:w.cell? ⟨g,9,none⟩=some (.iface 159 (.agg #[])):=by rw[hc.cell];rfl
 have d4:w.cell? ⟨g,4,none⟩=some (.int .i64 k):=by rw[hc.cell];rfl
 have hgw:g<w.heap.size:=hc.lt;obtain⟨vals,b,xl,s1,hR⟩:∃ vals b xl s1,rdI k xs s=(vals,b,xl,s1):=⟨_,_,_,_,rfl⟩;have eO:Zbt wd k xs s={ b:=b&&decide (wd=0),left:=xl,short:=s1,list:=vals,ends:=[],lanes:=[] }:=by unfold Zbt;rw[hR]
 rw[eO];rw[hR]at Yc;clear hc hr hv eO hR;obtain⟨B,hB⟩:∃ B,w.heap.size=B:=⟨_,rfl⟩;have HB:=hid hB;rw[hB];clear hB;have hm:=Zg6;go_enter Tryz.func198,Tryz.ntmps198;go_upto_region 1 with fail
 go_cut [5,6]from 7 (fun s5 s6 wc=>∃ A c,s5=.slice A vals.length c∧s6=.bool b∧Hid (wc.ownsRow B 2 1 (.slice A vals.length c) vals.length (i64s vals))∧Hid (Zaq w0 wc gr xl s1)∧Hid (Chg g gr w wc)∧Hid (Row wc g 207 (ck_I rows codec wd nulls k nilS nilS base nilS Zbg bef)))
 case first =>
  go_region_held3 (fun w'=>w'.cell? ⟨g,9,none⟩=some (.iface 159 (.agg #[]))∧w'.cell? ⟨g,4,none⟩=some (.int .i64 k)) (go_keep)
   (first | (go_at_call 321;refine(Yc.out 1).mono ?_;rintro e w3 ⟨v3,rfl,ho3,ha3,hc3⟩;have k9:=(hc3.cell g 9 hgw hne hne).trans d9;have k4:=(hc3.cell g 4 hgw hne hne).trans d4;have Y6:=hid ho3;have Yx:=hid ha3;have QT:=hid (Chg.wide' (a:=g) hc3);have Qn:=hid (hc3.row (HC.out.drewN 1) hne hne);obtain⟨A3,c3,rfl,hcc3,_,_,_⟩:=Zao ho3;clear ho3 ha3 hc3 hcc3))
  all_goals (go_wp2_with fail;go_meet)
  all_goals exact⟨_,_,rfl,rfl,hid (by rw[← HB.out];exact Y6.out),Yx,hid (((Chg.refl g gr w).drewN 1).trans QT.out),Qn⟩
 case rest =>
  obtain⟨A3,c3,rfl,rfl,Y6,Yx,QT,Qn⟩:=hcut;have e5:wc.cell? ⟨g,0+5,none⟩=some nilS:=by rw[Qn.out.cell];rfl
  have e2:wc.cell? ⟨g,0+2,none⟩=some (.int .i64 wd):=by rw[Qn.out.cell];rfl
  have f5:=Qn.out.frozen (0+5);have hFIN:∀ bb:Bool,OutAt_I w0 w (wc.setCell ⟨g,5,none⟩ (.slice A3 vals.length c3)) B g gr rows codec wd k nulls Zbg bef base { b:=bb,left:=xl,short:=s1,list:=vals,ends:=[],lanes:=[] }:=by
   intro bb;have hch:=(Chg.refl g g wc).setCell g 5 (.slice A3 vals.length c3) (.inl rfl);have hgB:g<B:=by have:=HB.out;omega
   exact⟨⟨_,_,_,Qn.out.set 5 _,Zb5 Y6.out hch hgB hgB,World.ownsRow_nil _ _ _ _,World.ownsRow_nil _ _ _ _⟩,Yx.out.chg hch (Ne.symm hne) (Ne.symm hne) hg0 hg0,QT.out.setCell g 5 _ (.inl rfl)⟩
  have Qw:=hid hFIN;clear hFIN HC HR Yc d9 d4 hm;cases b
  case' false=>go_wp2
  case' true=>go_wp2
  all_goals go_ret
  all_goals exact⟨by by_cases h:wd=0<;>simp[h],Qw.out _⟩
end Go.Proofs.YtmcjknjlihgihaaGreatDoor
