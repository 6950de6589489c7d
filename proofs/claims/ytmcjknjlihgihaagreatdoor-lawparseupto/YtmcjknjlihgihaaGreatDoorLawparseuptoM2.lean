/- Package chunk: the least width for so many entries. -/
import Derived.Laws.Cover1
import Derived.Lib.Strings
import Derived.Lib.Slices
import Derived.Lib.Small
import Derived.Lib.Walk
import Derived.Lib.BitFns
import Derived.Test.YtmcjknjlihgihaaGreatDoorLawparseuptoM1
set_option linter.unusedVariables false
set_option linter.unusedSimpArgs false
set_option linter.unnecessarySimpa false
set_option maxRecDepth 20000
namespace Go.Proofs.YtmcjknjlihgihaaGreatDoor
open Go.RowKit
def numL (k:Nat) (bs:List Nat):List Nat:=(List.range (bs.length/k)).map fun i=>L.wordOf 8 ((bs.drop (k*i)).take k)
theorem Zan (k:Nat) (bs:List Nat):(numL k bs).length=bs.length/k:=by simp[numL]
theorem Zg8 {bs:List Nat} (h:∀ x∈bs,x<256) (a b:Nat):∀ x∈(bs.drop a).take b,x<256:=fun x hx=>h x (List.mem_of_mem_drop (List.mem_of_mem_take hx))
theorem Zhp (bs:List Nat) (a b:Nat):((bs.drop a).take b).length≤b:=by rw[List.length_take];exact Nat.min_le_left _ _
theorem Zdz {k:Nat} {bs:List Nat} (h:∀ x∈bs,x<256) (hk:k≤8):∀ x∈numL k bs,x<18446744073709551616:=by
 intro x hx;obtain⟨i,_,rfl⟩:=List.mem_map.1 hx;exact Zgc _ (Zg8 h _ _) (Nat.le_trans (Zhp bs _ _) hk)
theorem Zod {bs:List Nat} (h:∀ x∈bs,x<256):∀ x∈numL 4 bs,x<4294967296:=by
 intro x hx;obtain⟨i,_,rfl⟩:=List.mem_map.1 hx;exact Zb0 _ (Zg8 h _ _) (Zhp bs _ _)
def nI (xs:List Nat):List Int:=xs.map fun x:Nat=>(x:Int)
theorem Zas (xs:List Nat):(nI xs).length=xs.length:=by simp[nI]
theorem Zek (xs ys:List Nat):nI (xs++ys)=nI xs++nI ys:=by simp[nI]
theorem Zud {w:World} {b o n cap:Nat} {xs:List Nat} (h:Seg w b o (u8s xs)) (l m:Nat) (hl:xs.length=n) (hlm:l+m≤n) (hc:n≤cap) (hm:cap≤maxLen) :
  Rd w (.slice (some ⟨b,o+l,none⟩) m (cap-l)) ((xs.drop l).take m).length 1 (u8s ((xs.drop l).take m)):=by
 have:=Rd.part h l m (by rw[Zcm];exact hl) hlm (by omega) hm;rw[Zuv,Zoj]at this;have e:((xs.drop l).take m).length=m:=by rw[List.length_take,List.length_drop];omega
 rw[e];exact this
set_option maxHeartbeats 2000000 in
theorem Zhw (w0 w:World) (g:Nat) (xs:List Nat) (s:Bool) (c:Nat) (h:Zaq w0 w g xs s) (hgs:g<w.heap.size) (hv:∀ x∈xs,x<256) (hl:xs.length≤16777216) (hc:c≤4294967296) :
  Calls Tryz.prog 123 #[.pointer (some ⟨g,0,none⟩),.int .i64 c] w fun e w'=>∃ p,w.heap.size≤p ∧
   e=.returned (.slice (some ⟨p,0,none⟩) (numL 8 (tk (8*c) xs)).length (numL 8 (tk (8*c) xs)).length)∧Row w' p 73 (u64s (numL 8 (tk (8*c) xs))) ∧
   Zaq w0 w' g (tkL (8*c) xs) (tkS (8*c) xs s)∧Chg g g w w':=by
 obtain⟨ys,hys⟩:∃ ys,tk (8*c) xs=ys:=⟨_,rfl⟩;have hyl:ys.length≤16777216:=by rw[← hys];unfold tk;split<;>simp<;>omega
 have hyv:∀ x∈ys,x<256:=by rw[← hys];exact Zdh hv
 have HY:=hid hys;obtain⟨m,hm⟩:∃ m,ys.length/8=m:=⟨_,rfl⟩;rw[hys,Zan,hm];have HM:=hid hm;have hm8:8*m≤ys.length:=by omega
 clear hys hm;go_enter Tryz.func123,Tryz.ntmps123;go_wp2_with (go_at_call 80;refine(Zfs w0 _ g xs s (8*c) h hl (by omega)).mono ?_;rintro e w1 ⟨t,rfl,hrd,hat,hch⟩;rw[HY.out]at hrd;have Yd:=hid hat;have Ya:=hid hch;have Qx:=hid (hrd.mono (hat.2.1));obtain⟨A,ca,rfl,hlc,hcm,hA⟩:=hrd.form;have HA:=hid hA;clear hA hrd hat hch)
 refine Zcx 73 (.int .u64 0) 8 Tryz.underlying37 Tryz.info45 rfl m (by have:=HM.out;omega) (by have:=HM.out;omega) (by omega) (by unfold maxLen;omega) ?_;intro w2 hrow hb2 hsz2;have QF:Hid (Chg g g w w2):=hid (Ya.out.trans (Chg.of_below hb2));have hg1:g<w1.heap.size:=Nat.lt_of_lt_of_le hgs Ya.out.size;have HP:Hid (w.heap.size≤w1.heap.size):=hid Ya.out.size;have Qu:Hid (Zaq w0 w2 g (tkL (8*c) xs) (tkS (8*c) xs s)):=hid (Yd.out.mono hb2);have Ye:=hid (Qx.out.mono hb2);have Qq:=hid hrow;have Qb:=hid hb2;have hp2:w1.heap.size<w2.heap.size:=by omega
 clear Ya Yd hrow hb2 Qx;generalize w1.heap.size=p at *;go_wp2;go_loopw [18] (fun i wr=>∃ j:Nat,j≤m∧i=.int .i64 j∧Row wr p 73 (u64s ((List.range j).map fun i=>L.wordOf 8 ((ys.drop (8*i)).take 8))++List.replicate (m-j) (.int .u64 0))∧Below p w2 wr∧Hid (wr.heap.size=w2.heap.size)) (fun i _=>m-(intOf i).toNat)
 case atStart=>exact⟨0,by omega,rfl,by simpa [u64s]using Qq.out,Below.refl _ _,rfl⟩
 case round =>
  obtain⟨j,hj,rfl,hr,hb,hz⟩:=hrel;by_cases hlt:j<m
  ·have hcell:wr.cell? ⟨p,j,none⟩=some (.int .u64 0):=by
    rw[hr.cell];exact Zfm _ _ _ _ (by simp[u64s]) (by omega)
   have hfr:=hr.frozen j;have Yb:=hid hr;have hHA:=HA.out (by omega);obtain⟨b,o,rfl,hs⟩:=hHA;have hsw:Seg wr b o (u8s ys):=hs.mono (Qu.out.2.1.trans (hb.mono (by have:=Qu.out.1;have:=hgs;have:=HP.out;omega)));have Ul:=hid (Zud hsw (8*j) 8 rfl (by omega) hlc hcm);clear hr hs HA hsw;have hw8:=Zgc _ (Zg8 hyv (8*j) 8) (Zhp ys (8*j) 8);obtain⟨x,hx⟩:∃ x,L.wordOf 8 ((ys.drop (8*j)).take 8)=x:=⟨_,rfl⟩;rw[hx]at hw8;have HX:=hid hx;clear hx;go_wp2_with (go_at_call 121;refine(Zf9 _ ((ys.drop (8*j)).take 8) _ Ul.out (Nat.le_trans (Zhp ys _ _) (by omega)) (Zg8 hyv _ _)).mono ?_;rintro e w3 ⟨rfl,hw⟩;subst hw;rw[HX.out])
   go_roundw
   case rel =>
    refine⟨j+1,by omega,by go_num,?_,Zad hb _ _ _ (Nat.le_refl _),?_⟩
    ·have hss:=Yb.out.set j (.int .u64 (x:Nat));rw[Zfo _ _ _ _ _ (by simp[u64s]) (by omega)]at hss;rw[List.range_succ,List.map_append,Zfi,List.map_singleton,HX.out,← Nat.sub_sub m j 1];exact hss
    ·show _=_;rw[← hz.out];simp[World.setCell]
   case measure=>simp[intOf];omega
  ·obtain rfl:j=m:=by omega
   go_wp2;go_ret;refine⟨p,HP.out,rfl,?_,⟨Qu.out.1,?_,?_⟩,?_⟩
   ·have:=hr;rw[Nat.sub_self,List.replicate_zero,List.append_nil]at this;unfold numL;rw[HM.out];exact this
   ·exact Qu.out.2.1.trans (hb.mono (by have:=Qu.out.1;have:=HP.out;omega))
   ·obtain⟨v,hv1,hv2⟩:=Qu.out.row;exact⟨v,by unfold Row;rw[hb.block g hg1];exact hv1,hv2⟩
   ·exact QF.out.then_below hb HP.out
set_option maxHeartbeats 2000000 in
theorem Zo6 (w0 w:World) (g:Nat) (xs:List Nat) (s:Bool) (c:Nat) (h:Zaq w0 w g xs s) (hgs:g<w.heap.size) (hv:∀ x∈xs,x<256) (hl:xs.length≤16777216) (hc:c≤4294967296) :
  Calls Tryz.prog 227 #[.pointer (some ⟨g,0,none⟩),.int .i64 c] w fun e w'=>∃ p,w.heap.size≤p ∧
   e=.returned (.slice (some ⟨p,0,none⟩) (numL 4 (tk (4*c) xs)).length (numL 4 (tk (4*c) xs)).length)∧Row w' p 3 (i64s (nI (numL 4 (tk (4*c) xs)))) ∧
   Zaq w0 w' g (tkL (4*c) xs) (tkS (4*c) xs s)∧Chg g g w w':=by
 obtain⟨ys,hys⟩:∃ ys,tk (4*c) xs=ys:=⟨_,rfl⟩;have hyl:ys.length≤16777216:=by rw[← hys];unfold tk;split<;>simp<;>omega
 have hyv:∀ x∈ys,x<256:=by rw[← hys];exact Zdh hv
 have HY:=hid hys;obtain⟨m,hm⟩:∃ m,ys.length/4=m:=⟨_,rfl⟩;rw[hys,Zan,hm];have HM:=hid hm;have hm8:4*m≤ys.length:=by omega
 clear hys hm;go_enter Tryz.func227,Tryz.ntmps227;go_wp2_with (go_at_call 80;refine(Zfs w0 _ g xs s (4*c) h hl (by omega)).mono ?_;rintro e w1 ⟨t,rfl,hrd,hat,hch⟩;rw[HY.out]at hrd;have Yd:=hid hat;have Ya:=hid hch;have Qx:=hid (hrd.mono (hat.2.1));obtain⟨A,ca,rfl,hlc,hcm,hA⟩:=hrd.form;have HA:=hid hA;clear hA hrd hat hch)
 refine Zcx 3 (.int .i64 0) 8 Tryz.underlying23 Tryz.infoI64 rfl m (by have:=HM.out;omega) (by have:=HM.out;omega) (by omega) (by unfold maxLen;omega) ?_;intro w2 hrow hb2 hsz2;have QF:Hid (Chg g g w w2):=hid (Ya.out.trans (Chg.of_below hb2));have hg1:g<w1.heap.size:=Nat.lt_of_lt_of_le hgs Ya.out.size;have HP:Hid (w.heap.size≤w1.heap.size):=hid Ya.out.size;have Qu:Hid (Zaq w0 w2 g (tkL (4*c) xs) (tkS (4*c) xs s)):=hid (Yd.out.mono hb2);have Ye:=hid (Qx.out.mono hb2);have Qq:=hid hrow;have Qb:=hid hb2;have hp2:w1.heap.size<w2.heap.size:=by omega
 clear Ya Yd hrow hb2 Qx;generalize w1.heap.size=p at *;go_wp2;go_loopw [18] (fun i wr=>∃ j:Nat,j≤m∧i=.int .i64 j∧Row wr p 3 (i64s (nI ((List.range j).map fun i=>L.wordOf 8 ((ys.drop (4*i)).take 4)))++List.replicate (m-j) (.int .i64 0))∧Below p w2 wr∧Hid (wr.heap.size=w2.heap.size)) (fun i _=>m-(intOf i).toNat)
 case atStart=>exact⟨0,by omega,rfl,by simpa [i64s,nI]using Qq.out,Below.refl _ _,rfl⟩
 case round =>
  obtain⟨j,hj,rfl,hr,hb,hz⟩:=hrel;by_cases hlt:j<m
  ·have hcell:wr.cell? ⟨p,j,none⟩=some (.int .i64 0):=by
    rw[hr.cell];exact Zfm _ _ _ _ (by simp[i64s,nI]) (by omega)
   have hfr:=hr.frozen j;have Yb:=hid hr;have hHA:=HA.out (by omega);obtain⟨b,o,rfl,hs⟩:=hHA;have hsw:Seg wr b o (u8s ys):=hs.mono (Qu.out.2.1.trans (hb.mono (by have:=Qu.out.1;have:=hgs;have:=HP.out;omega)));have Ul:=hid (Zud hsw (4*j) 4 rfl (by omega) hlc hcm);clear hr hs HA hsw;have hw8:=Zb0 _ (Zg8 hyv (4*j) 4) (Zhp ys (4*j) 4);obtain⟨x,hx⟩:∃ x,L.wordOf 8 ((ys.drop (4*j)).take 4)=x:=⟨_,rfl⟩;rw[hx]at hw8;have HX:=hid hx;clear hx;go_wp2_with (go_at_call 121;refine(Zf9 _ ((ys.drop (4*j)).take 4) _ Ul.out (Nat.le_trans (Zhp ys _ _) (by omega)) (Zg8 hyv _ _)).mono ?_;rintro e w3 ⟨rfl,hw⟩;subst hw;rw[HX.out])
   go_roundw
   case rel =>
    refine⟨j+1,by omega,by go_num,?_,Zad hb _ _ _ (Nat.le_refl _),?_⟩
    ·have hss:=Yb.out.set j (.int .i64 (x:Nat));rw[Zfo _ _ _ _ _ (by simp[i64s,nI]) (by omega)]at hss;rw[List.range_succ,List.map_append,List.map_singleton,Zek,Ze5,HX.out,← Nat.sub_sub m j 1];exact hss
    ·show _=_;rw[← hz.out];simp[World.setCell]
   case measure=>simp[intOf];omega
  ·obtain rfl:j=m:=by omega
   go_wp2;go_ret;refine⟨p,HP.out,rfl,?_,⟨Qu.out.1,?_,?_⟩,?_⟩
   ·have:=hr;rw[Nat.sub_self,List.replicate_zero,List.append_nil]at this;unfold numL;rw[HM.out];exact this
   ·exact Qu.out.2.1.trans (hb.mono (by have:=Qu.out.1;have:=HP.out;omega))
   ·obtain⟨v,hv1,hv2⟩:=Qu.out.row;exact⟨v,by unfold Row;rw[hb.block g hg1];exact hv1,hv2⟩
   ·exact QF.out.then_below hb HP.out
def Zax (k:Int):Bool:=decide (k=1∨k=2)
def Zen (n:Int):Bool:=decide (0≤n∧n≤65536)
def Zbj (k c:Int):Bool:=if 1≤c∧c≤3 then Zax k else decide (4≤c∧c≤5∧k=1)
theorem Ze4 (k:Int) (w:World):Calls Tryz.prog 96 #[.int .i64 k] w fun e w'=>e=.returned (.bool (Zax k))∧w'=w:=by
 go_enter Tryz.func96,Tryz.ntmps96;go_wp2
 all_goals go_ret
 all_goals refine⟨Zae ?_,rfl⟩
 all_goals by_cases h1:k=1<;>by_cases h2:k=2<;>simp_all [Zax]
theorem Zvk (k:Int) (w:World):Calls Tryz.prog 97 #[.int .i64 k] w fun e w'=>e=.returned (.bool (Zen k))∧w'=w:=by
 go_enter Tryz.func97,Tryz.ntmps97;go_wp2
 all_goals go_ret
 all_goals refine⟨Zae ?_,rfl⟩
 all_goals by_cases h1:0≤k<;>by_cases h2:k≤65536<;>simp[Zen]<;>omega
theorem Zls (k c:Int) (w:World):Calls Tryz.prog 103 #[.int .i64 k,.int .i64 c] w fun e w'=>e=.returned (.bool (Zbj k c))∧w'=w:=by
 go_enter Tryz.func103,Tryz.ntmps103;by_cases h1:c=1
 ·subst h1;go_wp2_with (go_at_call 96;refine(Ze4 _ _).mono ?_;rintro e w' ⟨rfl,rfl⟩)
  go_ret;exact⟨rfl,rfl⟩
 by_cases h2:c=2
 ·subst h2;go_wp2_with (go_at_call 96;refine(Ze4 _ _).mono ?_;rintro e w' ⟨rfl,rfl⟩)
  go_ret;exact⟨rfl,rfl⟩
 by_cases h3:c=3
 ·subst h3;go_wp2_with (go_at_call 96;refine(Ze4 _ _).mono ?_;rintro e w' ⟨rfl,rfl⟩)
  go_ret;exact⟨rfl,rfl⟩
 by_cases h4:c=4
 ·subst h4;go_wp2;go_ret;exact⟨Zae (by by_cases h:k=1<;>simp[Zbj,h]),rfl⟩
 by_cases h5:c=5
 ·subst h5;go_wp2;go_ret;exact⟨Zae (by by_cases h:k=1<;>simp[Zbj,h]),rfl⟩
 ·go_wp2;go_ret;exact⟨Zae (by unfold Zbj;rw[if_neg (by omega)];symm;rw[decide_eq_false_iff_not];omega),rfl⟩
def Za4 (last:Int):List Int→Option Int
 | []=>some last
 | e :: r=>if e≤last then none else Za4 e r
def Za1 (ends:List Int) (k:Int):Bool:=Za4 0 ends==some k
theorem Zmc (es:List Int):∀(l e:Int),Za4 l (es++[e])=(Za4 l es).bind fun x=>if e≤x then none else some e:=by
 induction es with
 | nil=>intro l e;simp[Za4]
 | cons a r ih =>
         intro l e;simp only[List.cons_append,Za4];split
         ·rfl
         ·exact ih a e
theorem Zgm (es fs:List Int):∀ l,Za4 l es=none→Za4 l (es++fs)=none:=by
 induction es with
 | nil=>intro l h;simp[Za4]at h
 | cons a r ih =>
         intro l h;simp only[List.cons_append,Za4]at h ⊢;split
         ·rfl
         ·rename_i hc;rw[if_neg hc]at h;exact ih a h
set_option maxHeartbeats 1000000 in
theorem Zie (v:Value) (es:List Int) (k:Int) (w:World) (hx:Rd w v es.length 1 (i64s es)) (hl:es.length≤maxLen) :
  Calls Tryz.prog 228 #[v,.int .i64 k] w fun e w'=>e=.returned (.bool (Za1 es k))∧w'=w:=by
 unfold maxLen at hl;obtain⟨A,ca,rfl,hlc,hcm,hA⟩:=hx.form;clear hx;go_enter Tryz.func228,Tryz.ntmps228;go_wp2;go_loop [5,10] (fun u i=>∃(j:Nat) (l:Int),j≤es.length∧i=.int .i64 j∧u=.int .i64 l∧Za4 0 (es.take j)=some l) (fun _ i=>es.length-(intOf i).toNat)
 case atStart=>exact⟨0,0,by omega,rfl,rfl,rfl⟩
 case round =>
  obtain⟨j,l,hj,rfl,rfl,hu⟩:=hrel;have HU:=hid hu;clear hu;by_cases hlt:j<es.length
  ·obtain⟨b,o,rfl,hs⟩:=hA (by omega);have c1:=hs.int j hlt;have hsn:Za4 0 (es.take (j+1))=if es.getD j 0≤l then none else some (es.getD j 0):=by
    rw[List.take_succ_eq_append_getElem hlt,Zmc,HU.out];simp[List.getD,List.getElem?_eq_getElem hlt]
   have HB:Hid (Za4 0 (es.take (j+1))=none→Za1 es k=false):=by
    intro h;have:=Zgm (es.take (j+1)) (es.drop (j+1)) 0 h;rw[List.take_append_drop]at this;simp[Za1,this]
   have QJ:=hid hsn;clear hsn hs hA;generalize es.getD j 0=p at *;go_wp2
   ·rename_i h
    go_ret;exact⟨Zae (HB.out (by rw[QJ.out,if_pos (by omega)])).symm,rfl⟩
   ·rename_i h
    go_round
    case rel=>exact⟨j+1,p,by omega,by go_num,rfl,by rw[QJ.out,if_neg (by omega)]⟩
    case measure=>simp[intOf];omega
  ·go_wp2;go_ret;have hu:=HU.out;rw[show j=es.length from by omega,List.take_length]at hu;refine⟨Zae ?_,rfl⟩;rw[Za1,hu];by_cases h:l=k<;>simp[h]
def Zbd {α : Type} (r : α→α→Bool):List α→Bool
 | a :: b :: t=>!r a b&&Zbd r (b :: t)
 | _=>true
theorem Zca {α : Type} (r : α→α→Bool) (d : α):∀ xs:List α,Zbd r xs=true↔∀ i,i+1<xs.length→r (xs.getD i d) (xs.getD (i+1) d)=false:=by
 intro xs
 induction xs with
 | nil=>simp[Zbd]
 | cons a t ih =>
  cases t with
  | nil=>simp[Zbd]
  | cons b t =>
   rw[Zbd,Bool.and_eq_true,ih];constructor
   ·rintro⟨h1,h2⟩ i hi;cases i with
    | zero=>simpa using h1
    | succ i=>simpa using h2 i (by simpa using hi)
   ·intro h;refine⟨by simpa using h 0 (by simp),fun i hi=>?_⟩;simpa using h (i+1) (by simpa using hi)
def geI (a b:Int):Bool:=decide (b≤a)
def eqI (a b:Int):Bool:=a==b
def ltS (a b:ByteArray):Bool:=Op.bytesLess a.toList b.toList
def geS (a b:ByteArray):Bool:=!ltS a b
def eqS (a b:ByteArray):Bool:=a.toList==b.toList
def strs (xs:List ByteArray):List Value:=xs.map Value.string
theorem Zlq (xs:List ByteArray):(strs xs).length=xs.length:=by simp[strs]
theorem Zut (xs:List ByteArray) (i:Nat) (h:i<xs.length):(strs xs)[i]? = some (.string (xs.getD i default)):=by
 simp[strs,List.getElem?_eq_getElem h,List.getD]
theorem Zsk (xs ys:List ByteArray):strs (xs++ys)=strs xs++strs ys:=by simp[strs]
theorem Seg.str {w:World} {b o:Nat} {xs:List ByteArray} (h:Seg w b o (strs xs)) (i:Nat) (hi:i<xs.length):w.cell? ⟨b,o+i,none⟩=some (.string (xs.getD i default)) :=
 h i _ (Zut xs i hi)
set_option maxHeartbeats 1000000 in
theorem Znc (v:Value) (xs:List Int) (w:World) (hx:Rd w v xs.length 1 (i64s xs)) (hl:xs.length≤maxLen) :
  Calls Tryz.prog 233 #[v] w fun e w'=>e=.returned (.bool (Zbd geI xs))∧∃ n,w'=w.drewN n:=by
 unfold maxLen at hl;obtain⟨A,ca,rfl,hlc,hcm,hA⟩:=hx.form;clear hx;go_enter Tryz.func233,Tryz.ntmps233;go_wp2;go_loopw [3] (fun i wr=>(∃ k:Nat,1≤k∧i=.int .i64 k∧(k≤xs.length∨k=1)∧∀ t,t+1<k→geI (xs.getD t 0) (xs.getD (t+1) 0)=false)∧∃ n,wr=w.drewN n) (fun i _=>xs.length-(intOf i).toNat)
 case atStart=>exact⟨⟨1,by omega,rfl,.inr rfl,fun t h=>by omega⟩,0,rfl⟩
 case round =>
  obtain⟨⟨k,hk1,rfl,hk,hall⟩,n,rfl⟩:=hrel;have HA:=hid hall;clear hall;by_cases hlt:k<xs.length
  ·obtain⟨j,rfl⟩:∃ j,k=j+1:=⟨k-1,by omega⟩;obtain⟨b,o,rfl,hs⟩:=hA (by omega);have c1:=hs.int j (by omega);have c2:=hs.int (j+1) hlt;have HG:Hid (geI (xs.getD j 0) (xs.getD (j+1) 0)=false→∀ t,t+1<j+1+1→geI (xs.getD t 0) (xs.getD (t+1) 0)=false):=by
    intro h t ht;by_cases htk:t=j
    ·subst htk;exact h
    ·exact HA.out t (by omega)
   have HB:Hid (geI (xs.getD j 0) (xs.getD (j+1) 0)=true→Zbd geI xs=false):=by
    intro h;rw[← Bool.not_eq_true,Zca geI 0];intro hp;rw[hp j hlt]at h;cases h
   have e1:((j+1:Nat):Int)-1=(j:Int):=by omega
   have e2:(((j+1:Nat):Int)).toNat=j+1:=by omega
   clear hA hs;generalize xs.getD j 0=p at *;generalize xs.getD (j+1) 0=q at *;go_wp2;go_quiet (fail)
   go_wp2
   ·rename_i h
    go_ret;exact⟨Zae (HB.out (by simpa [geI]using h)).symm,_,by simp;rfl⟩
   ·rename_i h
    go_roundw
    case rel=>exact⟨⟨j+1+1,by omega,by go_num,.inl (by omega),HG.out (by simpa [geI]using h)⟩,_,rfl⟩
    case measure=>simp[intOf];omega
  ·go_wp2;go_ret;refine⟨Zae ?_,n,rfl⟩
   symm
   rw[Zca geI 0];intro i hi;exact HA.out i (by omega)
set_option maxHeartbeats 1000000 in
theorem Ztw (v:Value) (xs:List Int) (w:World) (hx:Rd w v xs.length 1 (i64s xs)) (hl:xs.length≤maxLen) :
  Calls Tryz.prog 235 #[v] w fun e w'=>e=.returned (.bool (Zbd eqI xs))∧∃ n,w'=w.drewN n:=by
 unfold maxLen at hl;obtain⟨A,ca,rfl,hlc,hcm,hA⟩:=hx.form;clear hx;go_enter Tryz.func235,Tryz.ntmps235;go_wp2;go_loopw [3] (fun i wr=>(∃ k:Nat,1≤k∧i=.int .i64 k∧(k≤xs.length∨k=1)∧∀ t,t+1<k→eqI (xs.getD t 0) (xs.getD (t+1) 0)=false)∧∃ n,wr=w.drewN n) (fun i _=>xs.length-(intOf i).toNat)
 case atStart=>exact⟨⟨1,by omega,rfl,.inr rfl,fun t h=>by omega⟩,0,rfl⟩
 case round =>
  obtain⟨⟨k,hk1,rfl,hk,hall⟩,n,rfl⟩:=hrel;have HA:=hid hall;clear hall;by_cases hlt:k<xs.length
  ·obtain⟨j,rfl⟩:∃ j,k=j+1:=⟨k-1,by omega⟩;obtain⟨b,o,rfl,hs⟩:=hA (by omega);have c1:=hs.int j (by omega);have c2:=hs.int (j+1) hlt;have HG:Hid (eqI (xs.getD j 0) (xs.getD (j+1) 0)=false→∀ t,t+1<j+1+1→eqI (xs.getD t 0) (xs.getD (t+1) 0)=false):=by
    intro h t ht;by_cases htk:t=j
    ·subst htk;exact h
    ·exact HA.out t (by omega)
   have HB:Hid (eqI (xs.getD j 0) (xs.getD (j+1) 0)=true→Zbd eqI xs=false):=by
    intro h;rw[← Bool.not_eq_true,Zca eqI 0];intro hp;rw[hp j hlt]at h;cases h
   have e1:((j+1:Nat):Int)-1=(j:Int):=by omega
   have e2:(((j+1:Nat):Int)).toNat=j+1:=by omega
   clear hA hs;generalize xs.getD j 0=p at *;generalize xs.getD (j+1) 0=q at *;go_wp2;go_quiet (fail)
   go_wp2
   ·rename_i h
    go_ret;exact⟨Zae (HB.out (by simpa [eqI]using h)).symm,_,by simp;rfl⟩
   ·rename_i h
    go_roundw
    case rel=>exact⟨⟨j+1+1,by omega,by go_num,.inl (by omega),HG.out (by simpa [eqI]using h)⟩,_,rfl⟩
    case measure=>simp[intOf];omega
  ·go_wp2;go_ret;refine⟨Zae ?_,n,rfl⟩
   symm
   rw[Zca eqI 0];intro i hi;exact HA.out i (by omega)
set_option maxHeartbeats 1000000 in
theorem Zni (v:Value) (xs:List ByteArray) (w:World) (hx:Rd w v xs.length 1 (strs xs)) (hl:xs.length≤maxLen) :
  Calls Tryz.prog 225 #[v] w fun e w'=>e=.returned (.bool (Zbd geS xs))∧∃ n,w'=w.drewN n:=by
 unfold maxLen at hl;obtain⟨A,ca,rfl,hlc,hcm,hA⟩:=hx.form;clear hx;go_enter Tryz.func225,Tryz.ntmps225;go_wp2;go_loopw [3] (fun i wr=>(∃ k:Nat,1≤k∧i=.int .i64 k∧(k≤xs.length∨k=1)∧∀ t,t+1<k→geS (xs.getD t default) (xs.getD (t+1) default)=false)∧∃ n,wr=w.drewN n) (fun i _=>xs.length-(intOf i).toNat)
 case atStart=>exact⟨⟨1,by omega,rfl,.inr rfl,fun t h=>by omega⟩,0,rfl⟩
 case round =>
  obtain⟨⟨k,hk1,rfl,hk,hall⟩,n,rfl⟩:=hrel;have HA:=hid hall;clear hall;by_cases hlt:k<xs.length
  ·obtain⟨j,rfl⟩:∃ j,k=j+1:=⟨k-1,by omega⟩;obtain⟨b,o,rfl,hs⟩:=hA (by omega);have c1:=hs.str j (by omega);have c2:=hs.str (j+1) hlt;have HG:Hid (geS (xs.getD j default) (xs.getD (j+1) default)=false→∀ t,t+1<j+1+1→geS (xs.getD t default) (xs.getD (t+1) default)=false):=by
    intro h t ht;by_cases htk:t=j
    ·subst htk;exact h
    ·exact HA.out t (by omega)
   have HB:Hid (geS (xs.getD j default) (xs.getD (j+1) default)=true→Zbd geS xs=false):=by
    intro h;rw[← Bool.not_eq_true,Zca geS default];intro hp;rw[hp j hlt]at h;cases h
   have e1:((j+1:Nat):Int)-1=(j:Int):=by omega
   have e2:(((j+1:Nat):Int)).toNat=j+1:=by omega
   clear hA hs;generalize xs.getD j default=p at *;generalize xs.getD (j+1) default=q at *;go_wp2;go_quiet (fail)
   go_wp2
   ·rename_i h
    go_ret;exact⟨Zae (HB.out (by simpa [geS,ltS]using h)).symm,_,by simp;rfl⟩
   ·rename_i h
    go_roundw
    case rel=>exact⟨⟨j+1+1,by omega,by go_num,.inl (by omega),HG.out (by simpa [geS,ltS]using h)⟩,_,rfl⟩
    case measure=>simp[intOf];omega
  ·go_wp2;go_ret;refine⟨Zae ?_,n,rfl⟩
   symm
   rw[Zca geS default];intro i hi;exact HA.out i (by omega)
set_option maxHeartbeats 1000000 in
theorem Zr6 (v:Value) (xs:List ByteArray) (w:World) (hx:Rd w v xs.length 1 (strs xs)) (hl:xs.length≤maxLen) :
  Calls Tryz.prog 229 #[v] w fun e w'=>e=.returned (.bool (Zbd eqS xs))∧∃ n,w'=w.drewN n:=by
 unfold maxLen at hl;obtain⟨A,ca,rfl,hlc,hcm,hA⟩:=hx.form;clear hx;go_enter Tryz.func229,Tryz.ntmps229;go_wp2;go_loopw [3] (fun i wr=>(∃ k:Nat,1≤k∧i=.int .i64 k∧(k≤xs.length∨k=1)∧∀ t,t+1<k→eqS (xs.getD t default) (xs.getD (t+1) default)=false)∧∃ n,wr=w.drewN n) (fun i _=>xs.length-(intOf i).toNat)
 case atStart=>exact⟨⟨1,by omega,rfl,.inr rfl,fun t h=>by omega⟩,0,rfl⟩
 case round =>
  obtain⟨⟨k,hk1,rfl,hk,hall⟩,n,rfl⟩:=hrel;have HA:=hid hall;clear hall;by_cases hlt:k<xs.length
  ·obtain⟨j,rfl⟩:∃ j,k=j+1:=⟨k-1,by omega⟩;obtain⟨b,o,rfl,hs⟩:=hA (by omega);have c1:=hs.str j (by omega);have c2:=hs.str (j+1) hlt;have HG:Hid (eqS (xs.getD j default) (xs.getD (j+1) default)=false→∀ t,t+1<j+1+1→eqS (xs.getD t default) (xs.getD (t+1) default)=false):=by
    intro h t ht;by_cases htk:t=j
    ·subst htk;exact h
    ·exact HA.out t (by omega)
   have HB:Hid (eqS (xs.getD j default) (xs.getD (j+1) default)=true→Zbd eqS xs=false):=by
    intro h;rw[← Bool.not_eq_true,Zca eqS default];intro hp;rw[hp j hlt]at h;cases h
   have e1:((j+1:Nat):Int)-1=(j:Int):=by omega
   have e2:(((j+1:Nat):Int)).toNat=j+1:=by omega
   clear hA hs;generalize xs.getD j default=p at *;generalize xs.getD (j+1) default=q at *;go_wp2;go_quiet (fail)
   go_wp2
   ·rename_i h
    go_ret;exact⟨Zae (HB.out (by simpa [eqS]using h)).symm,_,by simp;rfl⟩
   ·rename_i h
    go_roundw
    case rel=>exact⟨⟨j+1+1,by omega,by go_num,.inl (by omega),HG.out (by simpa [eqS]using h)⟩,_,rfl⟩
    case measure=>simp[intOf];omega
  ·go_wp2;go_ret;refine⟨Zae ?_,n,rfl⟩
   symm
   rw[Zca eqS default];intro i hi;exact HA.out i (by omega)
set_option maxRecDepth 512
def Zgl (d:Nat):Nat:=if d<2 then 0 else Nat.log2 (d-1)+1
theorem Zyp:∀ i:Fin 256,Lib.bitLen i.val=if i.val=0 then 0 else Nat.log2 i.val+1:=by decide +kernel
set_option maxHeartbeats 4000000 in
set_option maxRecDepth 100000 in
theorem Zw0 (x:Int) (w:World) (h0:0≤x) (h1:x≤255) :
  Calls Tryz.prog 263 #[.int .u64 x] w fun e w'=>e=.returned (.int .i64 (Lib.bitLen x.toNat))∧w'=w:=by
 go_enter Tryz.func263,Tryz.ntmps263;have e1:¬ (4294967296≤x):=by omega
 have e2:¬ (65536≤x):=by omega
 have e3:¬ (256≤x):=by omega
 go_wp2;go_ret;refine⟨congrArg Ending.returned (congrArg (Value.int IntKind.i64) ?_),rfl⟩;have l:=Lib.bitLen_le8' x h0 (by omega);have e4:Lib.len8 x=(Lib.bitLen x.toNat:Int):=Lib.len8_of x h0 h1;rw[e4];generalize Lib.bitLen x.toNat=t at *;unfold wrap64;omega
theorem Zyk (x:Nat) (w:World) (hx:x<256) (h1:1≤x) :
  Calls Tryz.prog 263 #[.int .u64 x] w fun e w'=>e=.returned (.int .i64 (Nat.log2 x+1:Nat))∧w'=w:=by
 have h:=Zyp ⟨x,hx⟩;simp only at h;rw[if_neg (by omega)]at h;have:=Zw0 x w (by omega) (by omega);rw[Int.toNat_natCast,h]at this;exact this
set_option maxRecDepth 100000 in
theorem Z09 (x:Nat) (w:World) (hx:x<256) (h1:1≤x) :
  Calls Tryz.prog 241 #[.int .u64 x] w fun e w'=>e=.returned (.int .i64 (Nat.log2 x+1:Nat))∧w'=w:=by
 go_enter Tryz.func241,Tryz.ntmps241;go_wp2_with (go_at_call 263;refine(Zyk x _ hx h1).mono ?_;rintro e w' ⟨rfl,rfl⟩)
 go_ret;exact⟨rfl,rfl⟩
set_option maxRecDepth 100000 in
theorem Zt7 (d:Nat) (w:World) (hd:d≤256) :
  Calls Tryz.prog 215 #[.int .i64 d] w fun e w'=>e=.returned (.int .i64 (Zgl d:Nat))∧w'=w:=by
 go_enter Tryz.func215,Tryz.ntmps215;by_cases h:d<2
 ·go_wp2;go_ret;exact⟨by simp[Zgl,h],rfl⟩
 ·have e1:(d:Int)-1=((d-1:Nat):Int):=by omega
  have HC:=hid (fun w2:World=>Z09 (d-1) w2 (by omega) (by omega));go_wp2_with (go_at_call 241;refine(HC.out _).mono ?_;rintro e w' ⟨rfl,rfl⟩)
  go_ret;exact⟨by simp[Zgl,h],rfl⟩
end Go.Proofs.YtmcjknjlihgihaaGreatDoor
