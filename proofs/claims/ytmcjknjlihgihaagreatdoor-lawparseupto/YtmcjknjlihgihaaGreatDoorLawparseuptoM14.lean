/- The plain answer: Decode. -/
import Derived.Test.YtmcjknjlihgihaaGreatDoorLawparseuptoM12
import Derived.Test.YtmcjknjlihgihaaGreatDoorLawparseuptoM13
set_option linter.unusedVariables false
set_option linter.unusedSimpArgs false
set_option linter.unnecessarySimpa false
set_option maxRecDepth 100000
namespace Go.Proofs.YtmcjknjlihgihaaGreatDoor
open Go.RowKit
set_option maxHeartbeats 8000000 in
theorem Z1s (w:World) (g:Nat) (rows codec wd:Nat) (nulls:List Nat) (count:Int) (list:List ByteArray) (ends:List Nat) (base:Int) (lanes:List Nat) (r:Nat) (x:ByteArray)
  (h:Ck_S w g rows codec wd nulls count list ends base lanes) (hbm:nulls.length=(rows+63)/64) (hnv:∀ x∈nulls,x<18446744073709551616) (hrr:rows≤65536) (hr:r<rows)
  (hV:Zar nulls r=false→∀ w2,Below w.heap.size w w2→Calls Tryz.prog 197 #[.pointer (some ⟨g,0,none⟩),.int .i64 ((r-Zaw nulls (r+1):Nat):Int)] w2 fun e w'=>e=.returned (vS x)∧Below w2.heap.size w2 w') :
  Calls Tryz.prog 168 #[.pointer (some ⟨g,0,none⟩),.int .i64 r] w fun e w'=>e=.returned (aggv (if Zar nulls r=true then Zy7 else Zi4 x))∧Below w.heap.size w w':=by
 obtain⟨nu,lv,ev,nv,bef,h1,h2,h3,h4,h5,h6⟩:=h.ex;obtain⟨A,ca,rfl,hlc,hcm,hA⟩:=h2.form;obtain⟨A',ca',rfl,hlc',hcm',hA'⟩:=h6.form;obtain⟨q,hq⟩:∃ q,r/64=q:=⟨_,rfl⟩;obtain⟨b,hb⟩:∃ b,r%64=b:=⟨_,rfl⟩;have hq':(r:Int)/64=(q:Int):=by omega
 have hb':(r:Int)%64=(b:Int):=by omega
 have hqn:q<nulls.length:=by omega
 have hb64:b<64:=by omega
 obtain⟨bl,o,rfl,hs⟩:=hA (by omega);obtain⟨bl',o',rfl,hs'⟩:=hA' (by omega);have c3:w.cell? ⟨g,3,none⟩=some (.slice (some ⟨bl,o,none⟩) nulls.length ca):=by rw[h1.cell];rfl
 have c3':w.cell? ⟨g,0+3,none⟩=some (.slice (some ⟨bl,o,none⟩) nulls.length ca):=c3;have c10:w.cell? ⟨g,10,none⟩=some (.slice (some ⟨bl',o',none⟩) nulls.length ca'):=by rw[h1.cell];rfl
 have c9:w.cell? ⟨g,9,none⟩=some (.iface 157 (.agg #[])):=by rw[h1.cell];rfl
 have d1:=hs.word q hqn;have d2:w.cell? ⟨bl',o'+q,none⟩=some (.int .i64 (popL (nulls.take q):Nat)):=by
  have:=hs' q _ (Zgj (befL nulls) q (by rw[Zgg];exact hqn))
  rwa [Zlh _ _ hqn]at this
 have hxq:nulls.getD q 0<18446744073709551616:=hnv _ (by simp[List.getD,List.getElem?_eq_getElem hqn]);have hbit:Zar nulls r=(nulls.getD q 0).testBit b:=by unfold Zar;rw[hq,hb]
 have YI:=hid (Zhy (nulls.getD q 0) b hxq);have hgw:g<w.heap.size:=h1.lt;have hblw:bl<w.heap.size:=World.block_lt_of_cell? w _ d1;have hblw':bl'<w.heap.size:=World.block_lt_of_cell? w _ d2;have HV:=hid hV;have hle:Zaw nulls (r+1)≤r+1:=by unfold Zaw;have:=List.length_filter_le (Zar nulls) (List.range (r+1));rwa [List.length_range]at this
 have hlt:Zar nulls r=false→Zaw nulls (r+1)≤r:=by
  intro h0;rw[Zc9,h0];unfold Zaw;have:=List.length_filter_le (Zar nulls) (List.range r);rw[List.length_range]at this;simpa using this
 have Yi:=hid hlt;rw[hbit]at HV Yi;rw[hbit];have Jr:=hid (fun(w2:World) (hbw:Below w.heap.size w w2)=>Zzp w2 g rows codec wd nulls count list ends base lanes r (h.mono hbw) hbm hnv hrr hr);generalize Zaw nulls (r+1)=rk at *;generalize nulls.getD q 0=y at *;have Q4:=hid hle;clear hle hbm h1 h2 h3 h4 h5 h6 hs hs' hA hA' hV hlt hbit hnv h hq hb;have hg1:g≠w.heap.size:=by omega
 have hg2:bl≠w.heap.size:=by omega
 have hg3:bl'≠w.heap.size:=by omega
 cases hbv:y.testBit b with
 | true =>
  have hbt:(bits BinOp.and IntKind.u64 ((y:Int)/2^b) 1==1)=true:=by rw[YI.out,hbv]
  clear HV Jr Yi YI;go_enter Tryz.func168,Tryz.ntmps168;go_wp2;refine bodyPost_ret (v:=aggv Zy7) ?_ rfl ⟨rfl,(Zab w).alloc (Nat.le_refl _) _⟩;simp[results,Tryz.results168,go_sem];rfl
 | false =>
  have hbt:(bits BinOp.and IntKind.u64 ((y:Int)/2^b) 1==1)=false:=by rw[YI.out,hbv]
  have hrkr:=Yi.out hbv;have hV2:=HV.out hbv;have Zc:=hid hV2;have hj:(r:Int)-(rk:Int)=((r-rk:Nat):Int):=by omega
  rw[hj]at Jr;have hmv:=Zph;clear YI HV Yi hV2 hj;go_enter Tryz.func168,Tryz.ntmps168;go_wp2;have Qb:Hid (Below w.heap.size w (w.alloc (.cells #[.bool false,.int .i64 0,.string ByteArray.empty] 36))):=hid ((Zab w).alloc (Nat.le_refl _) _);have Qm:Hid (Row (w.alloc (.cells #[.bool false,.int .i64 0,.string ByteArray.empty] 36)) w.heap.size 36 [.bool false,.int .i64 0,.string ByteArray.empty]):=hid (by unfold Row;rw[heap_alloc_new]);have k9:=(Qb.out.cell (p:=⟨g,9,none⟩) hgw).trans c9;have hempty:({ data:=#[] }:ByteArray)=ByteArray.empty:=rfl;rw[hempty];clear c9 c10 c3 c3' d1 d2 hempty hrkr hbt hbv Q4;generalize w.alloc (.cells #[.bool false,.int .i64 0,.string ByteArray.empty] 36)=w2 at *;unfold vS at Zc;obtain⟨p,hp⟩:∃ p,w.heap.size=p:=⟨_,rfl⟩;have HP:=hid hp;rw[hp]at Qm hg1 ⊢;clear hp;go_upto_region 3 with fail
  go_region_held3 (fun w'=>w'.cell? ⟨g,9,none⟩=some (.iface 157 (.agg #[]))) (first | go_keep | (rw[Zp9 _ _ _ _ _ _ _ hg1];assumption))
   (first
    | (go_at_call 207;refine(Jr.out _ (Zaf Qb.out 1)).mono ?_;rintro e w3 ⟨rfl,hb3⟩;have hz3:w.heap.size≤(w2.drewN 1).heap.size:=Qb.out.size;have Qe:=hid ((Zaf Qb.out 1).trans (hb3.mono hz3));have Qd:=hid ((Qm.out.drewN 1).mono hb3);have k93:=(hb3.cell (p:=⟨g,9,none⟩) (Nat.lt_of_lt_of_le hgw hz3)).trans k9;have hz33:w.heap.size≤w3.heap.size:=Qe.out.size;clear hb3)
    | (go_at_call 197;refine(Zc.out _ Qe.out).mono ?_;rintro e w4 ⟨rfl,hb4⟩;have Qz:=hid (Qe.out.trans (hb4.mono hz33));have U4:=hid (Qd.out.mono hb4);have k94:=(hb4.cell (p:=⟨g,9,none⟩) (Nat.lt_of_lt_of_le hgw hz33)).trans k93;have hz44:w.heap.size≤w4.heap.size:=Qz.out.size;clear hb4)
    | (go_at_call 312;refine(Zrs x _).mono ?_;rintro e w5 ⟨rfl,hb5⟩;have Q1:=hid (Qz.out.trans (hb5.mono hz44));have hr5:=U4.out.mono hb5;have Jd:=hid hr5;have k95:=(hb5.cell (p:=⟨g,9,none⟩) (Nat.lt_of_lt_of_le hgw hz44)).trans k94;have q0:w5.cell? ⟨p,0,none⟩=some (.bool false):=(by rw[hr5.cell];rfl);have q1:w5.cell? ⟨p,1,none⟩=some (.int .i64 0):=(by rw[hr5.cell];rfl);have q2:w5.cell? ⟨p,2,none⟩=some (.string ByteArray.empty):=(by rw[hr5.cell];rfl);have f0:=hr5.frozen 0;have f1:=hr5.frozen 1;have f2:=hr5.frozen 2;clear hb5 hr5))
  all_goals go_wp2_with fail
  all_goals change bodyPost _ _ _ _ _ (Zfy w5 p (Zi4 x))
  all_goals have Yg:Hid (Row (Zfy w5 p (Zi4 x)) p 36 (Zi4 x)):=hid (Zel Jd.out _ _ _)
  all_goals have Y0:=hid (Zdi Q1.out p (Nat.le_of_eq HP.out) (Zi4 x))
  all_goals generalize Zfy w5 p (Zi4 x)=w6 at *
  all_goals have r0:w6.cell? ⟨p,0,none⟩=(Zi4 x)[0]?:=Yg.out.cell 0
  all_goals have r1:w6.cell? ⟨p,1,none⟩=(Zi4 x)[1]?:=Yg.out.cell 1
  all_goals have r2:w6.cell? ⟨p,2,none⟩=(Zi4 x)[2]?:=Yg.out.cell 2
  all_goals refine bodyPost_ret (v:=aggv (Zi4 x)) ?_ rfl ⟨rfl,Y0.out⟩
  all_goals simp only[Zi4,List.getElem?_cons_zero,List.getElem?_cons_succ]at r0 r1 r2
  all_goals simp[results,Tryz.results168,go_sem,r0,r1,r2]
  all_goals rfl
set_option maxHeartbeats 4000000 in
theorem Z08 (w:World) (g:Nat) (rows:Nat) (A:Nat→Bool) (B:Nat→Int) (C:Nat→ByteArray) (hr0:w.cell? ⟨g,0+0,none⟩=some (.int .i64 rows)) (hrr:rows≤65536)
  (hC:∀ r,r<rows→∀ w2,Below w.heap.size w w2→Calls Tryz.prog 168 #[.pointer (some ⟨g,0,none⟩),.int .i64 r] w2 fun e w'=>e=.returned (.agg #[.bool (A r),.int .i64 (B r),.string (C r)])∧Below w2.heap.size w2 w') :
  Calls Tryz.prog 138 #[.pointer (some ⟨g,0,none⟩)] w fun e w'=>∃ p,w.heap.size≤p∧e=.returned (.slice (some ⟨p,0,none⟩) rows rows)∧Row w' p 36 (Za2 A B C rows)∧Below w.heap.size w w':=by
 have hr00:w.cell? ⟨g,0,none⟩=some (.int .i64 rows):=hr0;have HC:=hid hC;clear hC;go_enter Tryz.func138,Tryz.ntmps138;go_wp2;refine Zj9 36 [.bool false,.int .i64 0,.string ByteArray.empty] 32 Tryz.underlying78 Tryz.infoCell rfl rows (by omega) (by omega) (by omega) (by unfold maxLen;omega) ?_;intro w1 cs0 hlen hrow hb1 hsz1;obtain⟨q,hq⟩:∃ q,w.heap.size=q:=⟨_,rfl⟩;have HQ:=hid hq;rw[hq]at hrow hsz1 ⊢;have Qq:=hid hrow;have Qa:=hid hb1;clear hrow hb1 hq;go_wp2;go_loopw [12] (fun i wr=>∃ j:Nat,j≤rows∧i=.int .i64 j∧Row wr q 36 (Za2 A B C j++cs0.drop (j*3))∧Below w.heap.size w wr∧Hid (q<wr.heap.size)) (fun i _=>rows-(intOf i).toNat)
 case atStart=>exact⟨0,by omega,rfl,by simpa [Za2]using Qq.out,Qa.out,hid (by omega)⟩
 case round =>
  obtain⟨j,hj,rfl,hr,hb,hz⟩:=hrel;by_cases hlt:j<rows
  ·have HR:=hid hr;have Ys:=hid hb;clear hr hb;go_wp2_with fail
   refine(HC.out j hlt wr Ys.out).mono ?_;rintro e w3 ⟨rfl,hb3⟩;have Qe:=hid (Ys.out.trans (hb3.mono Ys.out.size));have hr3:=HR.out.mono hb3;have Qd:=hid hr3;have hz3:q<w3.heap.size:=Nat.lt_of_lt_of_le hz.out hb3.size;obtain⟨x0,x1,x2,q0,q1,q2⟩:=Zro hr3 (j*3) (by rw[List.length_append,Zcq,List.length_drop];omega);have f0:=hr3.frozen (j*3);have f1:=hr3.frozen (j*3+1);have f2:=hr3.frozen (j*3+2);have Qt:Hid (Row (((w3.setCell ⟨q,j*3,none⟩ (.bool (A j))).setCell ⟨q,j*3+1,none⟩ (.int .i64 (B j))).setCell ⟨q,j*3+2,none⟩ (.string (C j))) q 36 (Za2 A B C (j+1)++cs0.drop ((j+1)*3))):=by
    refine hid ?_;have:=((hr3.set (j*3) (.bool (A j))).set (j*3+1) (.int .i64 (B j))).set (j*3+2) (.string (C j));rw[Zqa _ _ _ (Zcq A B C j) (by rw[List.length_drop];omega),List.drop_drop]at this;rw[show (j+1)*3=j*3+3 by omega];exact this
   clear hb3 hr3 HR Ys Qd HC;generalize A j=xa at *;generalize B j=xb at *;generalize C j=xc at *;go_wp2_with fail
   go_roundw
   case rel =>
    refine⟨j+1,by omega,by go_num,Qt.out,Zad (Zad (Zad Qe.out _ _ _ (Nat.le_of_eq HQ.out)) _ _ _ (Nat.le_of_eq HQ.out)) _ _ _ (Nat.le_of_eq HQ.out),hid (by simpa [World.setCell]using hz3)⟩
   case measure=>simp[intOf];omega
  ·obtain rfl:j=rows:=by omega
   go_wp2;go_ret;refine⟨q,Nat.le_of_eq HQ.out,rfl,?_,hb⟩;rw[List.drop_of_length_le (by omega),List.append_nil]at hr;exact hr
set_option maxRecDepth 512
structure Head where
 codec:Nat
 wd:Nat
 nulls:List Nat
 left:List Nat
 short:Bool
def Zaa (rows:Nat) (xs:List Nat):Head :=
 { codec:=L.wordOf 8 (tk 1 xs),wd:=L.wordOf 8 (tk 1 (tkL 1 xs)),nulls:=numL 8 (tk (8*((rows+63)/64)) (tkL 1 (tkL 1 xs))),left:=tkL (8*((rows+63)/64)) (tkL 1 (tkL 1 xs)),short:=tkS (8*((rows+63)/64)) (tkL 1 (tkL 1 xs)) (tkS 1 (tkL 1 xs) (tkS 1 xs false)) }
def Za8 (rows:Nat) (nulls:List Nat):Nat:=rows-Zaw nulls rows
def Zgu (kind:Int) (rows:Nat) (h:Head):Bool:=Za9 1 rows h.nulls&&Zbj kind h.codec
set_option maxRecDepth 100000
def vl_I (cd wd:Nat) (list:List Int) (ends:List Nat) (base:Int) (lanes:List Nat) (j:Nat):Int :=
 if cd=4∨cd=5 then Zvj base (L.laneOf wd lanes j)else Zjj cd wd list ends lanes j
def Zoh (cd wd:Nat) (list:List Int) (ends:List Nat) (lanes:List Nat) (j:Nat):Prop :=
 ((cd=4∨cd=5)∧wd≤64∧(0<wd→j/(64/wd)<lanes.length))∨ok_I cd wd list ends lanes j
theorem Znz (w:World) (g:Nat) (rows:Int) (codec wd:Nat) (nulls:List Nat) (count:Int) (list:List Int) (ends:List Nat) (base:Int) (lanes:List Nat) (j:Nat)
  (h:Ck_I w g rows codec wd nulls count list ends base lanes) (hel:ends.length≤16777216) (hll:list.length≤16777216) (hnv:∀ x∈lanes,x<18446744073709551616) (hj:j≤65536) (hok:Zoh codec wd list ends lanes j) :
  Calls Tryz.prog 205 #[.pointer (some ⟨g,0,none⟩),.int .i64 j] w fun e w'=>e=.returned (vI (vl_I codec wd list ends base lanes j))∧Below w.heap.size w w':=by
 unfold vl_I;rcases hok with ⟨h1,h2,h3⟩ | h1
 ·rw[if_pos h1];exact Ztb w g rows codec wd nulls count list ends base lanes j h hnv hj h1 h2 h3
 ·have hn:¬ (codec=4∨codec=5):=by rcases h1 with h1 | h1 | h1<;>omega
  rw[if_neg hn];exact Zv3 w g rows codec wd nulls count list ends base lanes j h hel hll hnv hj h1
def vl_S (cd wd:Nat) (list:List ByteArray) (ends:List Nat) (base:Int) (lanes:List Nat) (j:Nat):ByteArray:=Zil cd wd list ends lanes j
def Zla (cd wd:Nat) (list:List ByteArray) (ends:List Nat) (lanes:List Nat) (j:Nat):Prop:=ok_S cd wd list ends lanes j
theorem Zn3 (w:World) (g:Nat) (rows:Int) (codec wd:Nat) (nulls:List Nat) (count:Int) (list:List ByteArray) (ends:List Nat) (base:Int) (lanes:List Nat) (j:Nat)
  (h:Ck_S w g rows codec wd nulls count list ends base lanes) (hel:ends.length≤16777216) (hll:list.length≤16777216) (hnv:∀ x∈lanes,x<18446744073709551616) (hj:j≤65536) (hok:Zla codec wd list ends lanes j) :
  Calls Tryz.prog 197 #[.pointer (some ⟨g,0,none⟩),.int .i64 j] w fun e w'=>e=.returned (vS (vl_S codec wd list ends base lanes j))∧Below w.heap.size w w' :=
 Zu6 w g rows codec wd nulls count list ends base lanes j h hel hll hnv hj hok
def cB_I (x:Int):Int:=x
def cC_I (x:Int):ByteArray:=ByteArray.empty
def cB_S (x:ByteArray):Int:=0
def cC_S (x:ByteArray):ByteArray:=x
theorem Zya {rows:Nat} (nulls:List Nat) (r:Nat) (hr:r<rows) (hb:Zar nulls r=false):r-Zaw nulls (r+1)<rows-Zaw nulls rows:=by
 have h1:Zaw nulls (r+1)≤r:=by
  rw[Zc9,hb];unfold Zaw;have:=List.length_filter_le (Zar nulls) (List.range r);rw[List.length_range]at this;simpa using this
 have h2:∀ d,Zaw nulls (r+1+d)≤Zaw nulls (r+1)+d:=by
  intro d
  induction d with
  | zero=>simp
  | succ d ih=>rw[← Nat.add_assoc,Zc9];split<;>omega
 have h3:=h2 (rows-(r+1));rw[show r+1+(rows-(r+1))=rows by omega]at h3;omega
def rN (rows:Nat):Nat:=(rows+63)/64
def rWs (rows:Nat) (xs:List Nat):List Nat:=numL 8 (tk (8*rN rows) (xs.drop 2))
def rHd (rows:Nat) (xs:List Nat):Bool:=Zav 8 (rN rows) 2 xs.length&&Za9 1 rows (rWs rows xs)
def rK (rows:Nat) (xs:List Nat):Nat:=rows-Zaw (rWs rows xs) rows
def rPay (kd rows:Nat) (xs:List Nat):Bool×List PV:=payR kd (xs.getD 0 0) (xs.getD 1 0) (rK rows xs) (2+8*rN rows) xs
def rOk (kd rows:Nat) (xs:List Nat):Bool:=rHd rows xs&&(rPay kd rows xs).1&&decide ((rPay kd rows xs).2.length=rK rows xs)
def cA (ws:List Nat) (r:Nat):Bool:=Zar ws r
def cB (ws:List Nat) (vs:List PV) (r:Nat):Int:=if Zar ws r=true then 0 else (vs.getD (r-Zaw ws r) dfP).1
def cC (ws:List Nat) (vs:List PV) (r:Nat):ByteArray:=if Zar ws r=true then ByteArray.empty else (vs.getD (r-Zaw ws r) dfP).2
def Zd7 (kd rows:Nat) (xs:List Nat):List Value:=Za2 (cA (rWs rows xs)) (cB (rWs rows xs) (rPay kd rows xs).2) (cC (rWs rows xs) (rPay kd rows xs).2) rows
def Zcl (k rows:Int) (xs:List Nat):Int:=if (Zax k&&Zen rows)=true then (if rOk k.toNat rows.toNat xs=true then 0 else 1)else 5
def Zc2 (k rows:Int) (xs:List Nat):List Value:=if Zcl k rows xs=0 then Zd7 k.toNat rows.toNat xs else []
def Zf7 (k rows:Int) (xs:List Nat):Nat:=if Zcl k rows xs=0 then rows.toNat else 0
theorem Ze0 (ws:List Nat) (i:Nat):Zaw ws i≤i:=by
 unfold Zaw;have:=List.length_filter_le (Zar ws) (List.range i);rwa [List.length_range]at this
theorem Zs7 (ws:List Nat):∀ i d,Zaw ws i+d≤i→i-Zaw ws i≤(i+1)-Zaw ws (i+1):=by
 intro i d h;rw[Zc9]
 split<;>omega
theorem Zjs (ws:List Nat) (i j:Nat) (h:i≤j):i-Zaw ws i≤j-Zaw ws j:=by
 induction j with
 | zero =>
      obtain rfl:i=0:=by omega
      exact Nat.le_refl _
 | succ j ih =>
  by_cases hij:i=j+1
  ·subst hij;exact Nat.le_refl _
  ·exact Nat.le_trans (ih (by omega)) (Zs7 ws j 0 (Ze0 ws j))
set_option maxHeartbeats 16000000 in
theorem Zom (k rows:Int) (v:Value) (xs:List Nat) (w:World) (hx:Rd w v xs.length 1 (u8s xs)) (hb:∀ x∈xs,x<256) (hl:xs.length≤16777216) :
  Calls Tryz.prog 92 #[.int .i64 k,.int .i64 rows,v] w fun e w'=>∃ u,e=.returned (.tuple #[u,.int .i64 (Zcl k rows xs)]) ∧
   w'.ownsRow w.heap.size 36 3 u (Zf7 k rows xs) (Zc2 k rows xs)∧Below w.heap.size w w':=by
 have HK:=hid (Zkh k w);by_cases hg:(Zax k&&Zen rows)=true
 rotate_left
 ·have e1:Zcl k rows xs=5:=by unfold Zcl;rw[if_neg hg]
  have e2:Zc2 k rows xs=[]:=by unfold Zc2;rw[e1,if_neg (by decide)]
  have e3:Zf7 k rows xs=0:=by unfold Zf7;rw[e1,if_neg (by decide)]
  rw[e1,e2,e3];obtain⟨A,ca,rfl,_,_,_⟩:=hx.form;have hr:Zen rows=decide (0≤rows∧rows≤65536):=rfl;clear hx e1 e2 e3;generalize Zax k=bk at *;generalize Zen rows=br at *;go_enter Tryz.func92,Tryz.ntmps92;cases bk
  case' false=>go_wp2_with (go_at_call 69;refine HK.out.mono ?_;rintro e w1 ⟨rfl,hw⟩;replace hw:=hw.symm;subst hw)
  case' true =>
   obtain rfl:br=false:=by simpa using hg
   have hr2:=of_decide_eq_false hr.symm;clear hr hg;by_cases h1:rows<0
   case' pos=>clear hr2
   case' pos=>go_wp2_with (go_at_call 69;refine HK.out.mono ?_;rintro e w1 ⟨rfl,hw⟩;replace hw:=hw.symm;subst hw)
   case' neg =>
    have h2:rows > 65536:=by omega
    go_wp2_with (go_at_call 69;refine HK.out.mono ?_;rintro e w1 ⟨rfl,hw⟩;replace hw:=hw.symm;subst hw)
  all_goals go_ret2
  all_goals exact⟨_,rfl,World.ownsRow_nil _ _ _ _,Zab w⟩
 have hk:Zax k=true:=by simp only[Bool.and_eq_true]at hg;exact hg.1
 have hr:Zen rows=true:=by simp only[Bool.and_eq_true]at hg;exact hg.2
 have hr2:0≤rows∧rows≤65536:=by simpa [Zen]using hr
 obtain⟨n,rfl⟩:=Int.eq_ofNat_of_zero_le hr2.1;have hn:n≤65536:=by omega
 have hk2:k=1∨k=2:=by simpa [Zax]using hk
 obtain⟨kd,rfl⟩:∃ kd:Nat,k=(kd:Int):=⟨k.toNat,by omega⟩;have hkd:kd=1∨kd=2:=by omega
 have HCD:=hid (show Zcl (kd:Int) (n:Int) xs=if rOk kd n xs=true then 0 else 1 by unfold Zcl;rw[if_pos hg];simp);have Q8:Hid (rOk kd n xs=false→Zcl (kd:Int) (n:Int) xs=1∧Zf7 (kd:Int) (n:Int) xs=0∧Zc2 (kd:Int) (n:Int) xs=[]):=hid (fun h=>by
  have e1:Zcl (kd:Int) (n:Int) xs=1:=by rw[HCD.out,h];rfl
  refine⟨e1,?_,?_⟩
  ·unfold Zf7;rw[e1,if_neg (by decide)]
  ·unfold Zc2;rw[e1,if_neg (by decide)])
 have QL:Hid (rOk kd n xs=true→Zcl (kd:Int) (n:Int) xs=0∧Zf7 (kd:Int) (n:Int) xs=n∧Zc2 (kd:Int) (n:Int) xs=Zd7 kd n xs):=hid (fun h=>by
  have e1:Zcl (kd:Int) (n:Int) xs=0:=by rw[HCD.out,h];rfl
  refine⟨e1,?_,?_⟩
  ·unfold Zf7;rw[e1,if_pos rfl];simp
  ·unfold Zc2;rw[e1,if_pos rfl];simp)
 generalize Zcl (kd:Int) (n:Int) xs=RC at *;generalize Zf7 (kd:Int) (n:Int) xs=RL at *;generalize Zc2 (kd:Int) (n:Int) xs=RX at *;rw[hk]at HK;have hq:((n:Int)+63)/64=(rN n:Int):=by unfold rN;omega
 have hqn:rN n≤1024:=by unfold rN;omega
 have hok:rOk kd n xs=(rHd n xs&&(rPay kd n xs).1&&decide ((rPay kd n xs).2.length=rK n xs)):=rfl;have hcl:Zd7 kd n xs=Za2 (cA (rWs n xs)) (cB (rWs n xs) (rPay kd n xs).2) (cC (rWs n xs) (rPay kd n xs).2) n:=rfl;have hhd:rHd n xs=(Zav 8 (rN n) 2 xs.length&&Za9 1 n (rWs n xs)):=rfl;have hpay:rPay kd n xs=payR kd (xs.getD 0 0) (xs.getD 1 0) (rK n xs) (2+8*rN n) xs:=rfl;have hkk:rK n xs=n-Zaw (rWs n xs) n:=rfl;have hwv:∀ x∈rWs n xs,x<18446744073709551616:=Zdz (Zdh (fun x h=>hb x (List.mem_of_mem_drop h))) (by omega);have Zs:=hid (Zcn v xs 2 8 (rN n) w hx hb hl (.inr rfl) (by omega) (by omega));have hwl:(rWs n xs).length≤16777216:=Zix _ _ _ (by rw[List.length_drop];omega) (by omega);rw[show numL 8 (tk (8*rN n) (xs.drop 2))=rWs n xs from rfl]at Zs;have V3:=hid (fun(w2:World) (u:Value) (h:Rd w2 u (rWs n xs).length 1 (u64s (rWs n xs)))=>Zg7 u (rWs n xs) n w2 h hwv (by unfold maxLen;omega));have V4:=hid (fun(w2:World) (u:Value) (h:Rd w2 u (rWs n xs).length 1 (u64s (rWs n xs)))=>Ztc u (rWs n xs) n n w2 h hwv (by unfold maxLen;omega));have Xj:=hid (fun(w2:World) (u:Value) (i:Nat) (hi:i≤65536) (h:Rd w2 u (rWs n xs).length 1 (u64s (rWs n xs)))=>Zf4 u (rWs n xs) i w2 h hwv (by unfold maxLen;omega) (by omega));have HPA:=hid (fun(kk:Nat) (hkk:kk≤65536) (h0:2≤xs.length) (w2:World) (h:Below w.heap.size w w2) =>
  Zo4 kd hkd v xs (2+8*rN n) (xs.getD 0 0) (xs.getD 1 0) kk w2 (hx.mono h) hb hl (by omega) hkk
   (hb _ (by simp[List.getD,List.getElem?_eq_getElem (show 0<xs.length by omega)])) (hb _ (by simp[List.getD,List.getElem?_eq_getElem (show 1<xs.length by omega)])))
 have HX:=hid hx;have Vx:=hid hpay;have YO:=hid hkk;have Yv:=hid hcl;obtain⟨A,ca,rfl,hlc,hcm,hA⟩:=hx.form;obtain⟨nk,hnk⟩:∃ nk,Zav 8 (rN n) 2 xs.length=nk:=⟨_,rfl⟩;rw[hnk]at hhd Zs;have HNK:=hid hnk;clear hx hk hr hg hpay hkk hcl HCD hnk;generalize rWs n xs=ws at *;generalize rN n=q at *;go_enter Tryz.func92,Tryz.ntmps92;cases nk
 ·obtain⟨r1,r2,r3⟩:=Q8.out (by rw[hok,hhd];simp);rw[r1,r2,r3];clear hA hok hhd;simp only[Bool.false_eq_true,if_false]at Zs;go_wp2_with (first
   | (go_at_call 69;refine HK.out.mono ?_;rintro e w1 ⟨rfl,hw⟩;replace hw:=hw.symm;subst hw)
   | (go_at_call 89;refine Zs.out.mono ?_;rintro e w1 ⟨u,rfl,ho1,hb1⟩;have Qa:=hid hb1;clear ho1 hb1))
  go_ret2
  exact⟨_,rfl,World.ownsRow_nil _ _ _ _,Qa.out⟩
 simp only[if_true]at Zs;have hx2:2≤xs.length:=by have:=HNK.out;unfold Zav at this;simp only[decide_eq_true_eq]at this;exact this.1
 obtain⟨ob,hob⟩:∃ ob,Za9 1 n ws=ob:=⟨_,rfl⟩;have hrkv:ob=true→Zee n n ws=(Zaw ws n:Int):=fun h=>by unfold Zee;rw[hob,h];simp
 rw[hob]at hhd V3;clear hob;cases ob
 ·obtain⟨r1,r2,r3⟩:=Q8.out (by rw[hok,hhd];simp);rw[r1,r2,r3];clear hA hok hhd hrkv;go_wp2_with (first
   | (go_at_call 69;refine HK.out.mono ?_;rintro e w1 ⟨rfl,hw⟩;replace hw:=hw.symm;subst hw)
   | (go_at_call 89;refine Zs.out.mono ?_;rintro e w1 ⟨u,rfl,ho1,hb1⟩;have Qa:=hid hb1;have Y7:=hid (Zba ho1);obtain⟨E,ce,rfl,_,_,_,_⟩:=Zao ho1;clear ho1 hb1)
   | (go_at_call 130;refine(V3.out w1 _ Y7.out).mono ?_;rintro e w2 ⟨rfl,hw⟩;replace hw:=hw.symm;subst hw)
   | (go_at_call 131;refine(V4.out w1 _ Y7.out).mono ?_;rintro e w2 ⟨rfl,hw⟩;replace hw:=hw.symm;subst hw))
  go_ret2
  exact⟨_,rfl,World.ownsRow_nil _ _ _ _,Qa.out⟩
 rw[hrkv rfl]at V4;have hrle:=Ze0 ws n;obtain⟨kk,hkk⟩:∃ kk,n-Zaw ws n=kk:=⟨_,rfl⟩;have hkki:(n:Int)-(Zaw ws n:Int)=(kk:Int):=by omega
 have hkl:kk≤65536:=by omega
 have HKN:=hid hkk;have HKN0:Hid (∀ m,m=n→m-Zaw ws m=kk):=hid (fun m hm=>by subst hm;exact hkk);rw[YO.out,hkk]at hok Vx;obtain⟨b,o,rfl,hseg⟩:=hA (by omega);have c0:w.cell? ⟨b,o,none⟩=some (.int .u8 ((xs.getD 0 0:Nat):Int)):=hseg.byte 0 (by omega);have c1:w.cell? ⟨b,o+1,none⟩=some (.int .u8 ((xs.getD 1 0:Nat):Int)):=hseg.byte 1 (by omega);have hbw:b<w.heap.size:=World.block_lt_of_cell? w _ c0;have hv0:xs.getD 0 0<256:=hb _ (by simp[List.getD,List.getElem?_eq_getElem (show 0<xs.length by omega)]);have hv1:xs.getD 1 0<256:=hb _ (by simp[List.getD,List.getElem?_eq_getElem (show 1<xs.length by omega)]);have HPK:=hid (HPA.out kk hkl hx2);rw[← Vx.out]at HPK;have HB:=hid hb;clear HPA hb hseg hA hrkv hkk hrle;generalize xs.getD 0 0=cd at *;generalize xs.getD 1 0=wd at *;generalize rPay kd n xs=RP at *;obtain⟨rb,rv⟩:=RP;simp only[hhd,Bool.true_and]at hok;clear hhd;generalize xs.length=Lx at *;have i0:(0:Int)<(Lx:Int):=by omega
 have i1:(1:Int)<(Lx:Int):=by omega
 have n0:0<Lx:=by omega
 have n1:1<Lx:=by omega
 have z0:¬ Lx=0:=by omega
 have p1:(0:Int)≤1:=by omega
 generalize Zaw ws n=rn at *;obtain⟨nx,hnx⟩:∃ nx,2+8*q=nx:=⟨_,rfl⟩;rw[hnx]at Zs HPK;have iwc:IntKind.i64.wrap (cd:Int)=(cd:Int):=by rw[IntKind.wrap_i64];omega
 have iwd:IntKind.i64.wrap (wd:Int)=(wd:Int):=by rw[IntKind.wrap_i64];omega
 go_upto_region 7 with (first
   | (go_at_call 69;refine HK.out.mono ?_;rintro e w1 ⟨rfl,hw⟩;replace hw:=hw.symm;subst hw)
   | (go_at_call 89;refine Zs.out.mono ?_;rintro e w1 ⟨u,rfl,ho1,hb1⟩;have Qa:=hid hb1;have Y7:=hid (Zba ho1);obtain⟨E,ce,rfl,_,_,_,_⟩:=Zao ho1;clear ho1 hb1)
   | (go_at_call 130;refine(V3.out w1 _ Y7.out).mono ?_;rintro e w2 ⟨rfl,hw⟩;replace hw:=hw.symm;subst hw)
   | (go_at_call 131;refine(V4.out w1 _ Y7.out).mono ?_;rintro e w2 ⟨rfl,hw⟩;replace hw:=hw.symm;subst hw))
 have d0:=(Qa.out.cell (p:=⟨b,o,none⟩) hbw).trans c0;have d1:=(Qa.out.cell (p:=⟨b,o+1,none⟩) hbw).trans c1;have hbw1:b<w1.heap.size:=World.block_lt_of_cell? w1 _ d0;clear c0 c1 Zs V3 V4 HK;have V5:=hid (fun(w2:World) (h:Below w1.heap.size w1 w2)=>HPK.out w2 (Zac Qa.out h));have HBI1:=hid (fun(w2:World) (i:Nat) (hi:i≤65536) (h:Below w1.heap.size w1 w2)=>Xj.out w2 _ i hi (Y7.out.mono h));have hsz1:=Qa.out.size;clear HPK Xj Y7 YO Vx;have hkki2:(n:Int)-(rn:Int)=(kk:Int):=hkki;cases rb
 ·have Qo:=hid (Q8.out (by rw[hok];simp));clear hok Q8 QL Yv;have HPF:=hid (fun(w2:World) (h:Below w1.heap.size w1 w2)=>(V5.out w2 h).mono (fun e w' (h:PAns w2 w' e (false,rv))=>show ∃ A m c,e=.returned (.tuple #[.slice A m c,.bool false])∧Below w2.heap.size w2 w' from by obtain⟨u,h1,⟨A,m,c,h2⟩,_,h4⟩:=h;exact⟨A,m,c,by rw[h1,h2],h4⟩));clear V5;go_region_held3 (fun w'=>w'.cell? ⟨b,o,none⟩=some (.int .u8 (cd:Int))∧w'.cell? ⟨b,o+1,none⟩=some (.int .u8 (wd:Int))) (go_keep)
   (first | (go_at_call 132;refine(HPF.out _ (Zaf (Zab w1) 1)).mono ?_;rintro e w3 ⟨A3,m3,c3,rfl,hb3⟩;have Qe:=hid ((Zaf (Zab w1) 1).trans hb3);have q0:=(hb3.cell (p:=⟨b,o,none⟩) hbw1).trans d0;have q1:=(hb3.cell (p:=⟨b,o+1,none⟩) hbw1).trans d1;clear hb3))
  go_wp2_with fail
  go_ret2
  rw[Qo.out.1,Qo.out.2.1,Qo.out.2.2];exact⟨_,rfl,World.ownsRow_nil _ _ _ _,Zac Qa.out Qe.out⟩
 have JU:=hid (fun(w2:World) (h:Below w1.heap.size w1 w2)=>(V5.out w2 h).mono (fun e w' (h:PAns w2 w' e (true,rv))=>show ∃ A c,e=.returned (.tuple #[.slice A rv.length c,.bool true])∧w'.ownsRow w2.heap.size 36 3 (.slice A rv.length c) rv.length (Zdm rv)∧Below w2.heap.size w2 w' from by
  obtain⟨u,h1,_,h3,h4⟩:=h;have h5:=h3 rfl;simp only at h5;obtain⟨A,c,rfl⟩:=Zb1 h5;exact⟨A,c,h1,h5,h4⟩))
 clear V5;go_region_held3 (fun w'=>w'.cell? ⟨b,o,none⟩=some (.int .u8 (cd:Int))∧w'.cell? ⟨b,o+1,none⟩=some (.int .u8 (wd:Int))) (go_keep)
  (first | (go_at_call 132;refine(JU.out _ (Zaf (Zab w1) 1)).mono ?_;rintro e w3 ⟨D,cD,rfl,ho3,hb3⟩;have Qe:=hid ((Zaf (Zab w1) 1).trans hb3);have Qx:=hid (Zon ho3);have q0:=(hb3.cell (p:=⟨b,o,none⟩) hbw1).trans d0;have q1:=(hb3.cell (p:=⟨b,o+1,none⟩) hbw1).trans d1;clear hb3 ho3))
 have hsz3:=Qe.out.size;have HB03:=hid (Zac Qa.out Qe.out);by_cases hkl2:rv.length=kk
 rotate_left
 ·have Qo:=hid (Q8.out (by rw[hok];simp[hkl2]));have hne:((rv.length:Int) != (kk:Int))=true:=by simp;omega
  clear hok Q8 QL Yv;go_wp2_with fail
  go_ret2
  rw[Qo.out.1,Qo.out.2.1,Qo.out.2.2];exact⟨_,rfl,World.ownsRow_nil _ _ _ _,HB03.out⟩
 have Qo:=hid (QL.out (by rw[hok];simp[hkl2]));have hne:((rv.length:Int) != (kk:Int))=false:=by simp;omega
 have Xz:=hid hkl2;clear hok Q8 QL q0 q1 d0 d1 JU hkl2;go_wp2_with fail
 go_loopw [13,14,15] (fun s j i wz=>∃ r:Nat,r≤n∧i=.int .i64 r∧j=.int .i64 (r-Zaw ws r:Nat)∧Hid (wz.ownsRow w3.heap.size 36 3 s r (Za2 (cA ws) (cB ws rv) (cC ws rv) r))∧Hid (Below w3.heap.size w3 wz)) (fun _ _ i _=>n-(intOf i).toNat)
 case atStart=>exact⟨0,by omega,rfl,by simp,hid ⟨by simp[Za2],.inl ⟨rfl,rfl⟩⟩,hid (Zab w3)⟩
 case round =>
  obtain⟨r,hrn,rfl,rfl,Qi,Ql⟩:=hrel;obtain⟨A2,c2,rfl⟩:=Zb1 Qi.out;have hszw:=Ql.out.size;by_cases hlt:r<n
  ·have QC:Hid (Za2 (cA ws) (cB ws rv) (cC ws rv) (r+1)=Za2 (cA ws) (cB ws rv) (cC ws rv) r++[.bool (cA ws r),.int .i64 (cB ws rv r),.string (cC ws rv r)]):=hid rfl;have X0:=hid (HBI1.out wr r (by omega) (Below.then' Qe.out Ql.out hsz3));have HCA:Hid (cA ws r=Zar ws r):=hid rfl;have Je:Hid (cB ws rv r=if Zar ws r=true then 0 else (rv.getD (r-Zaw ws r) dfP).1):=hid rfl;have Zu:Hid (cC ws rv r=if Zar ws r=true then ByteArray.empty else (rv.getD (r-Zaw ws r) dfP).2):=hid rfl;have hrs:=Zc9 ws r;have hrl:=Ze0 ws r;have hmono:=Zjs ws (r+1) n (by omega);rw[HKN0.out n rfl]at hmono;rw[HCA.out,Je.out,Zu.out]at QC;obtain⟨bit,hbit⟩:∃ bit,Zar ws r=bit:=⟨_,rfl⟩;rw[hbit]at X0 QC hrs;clear HCA Je Zu hbit;obtain⟨j,hj⟩:∃ j,r-Zaw ws r=j:=⟨_,rfl⟩;rw[hj]at QC ⊢;cases bit
   ·simp only[Bool.false_eq_true,if_false,Nat.add_zero]at hrs QC;have hjk:j<kk:=by omega
    obtain⟨b',o',hDD,hcells⟩:=(Qx.out.mono Ql.out).atP (by rw[Xz.out];omega);subst hDD;obtain⟨l0,l1,l2⟩:=hcells j (by rw[Xz.out];exact hjk);have hjn:r+1-Zaw ws (r+1)=j+1:=by omega
    have HJN:=hid hjn;have hlen:(j:Int)<(rv.length:Int):=by have:=Xz.out;omega
    clear hcells hrs hrl hmono hj hjn;generalize rv.getD j dfP=X at *;obtain⟨xi,xs'⟩:=X;simp only at l1 l2 QC;generalize rv.length=rl at *;go_wp2_with (first
     | (go_at_call 133;refine X0.out.mono ?_;rintro e w4 ⟨rfl,hw⟩;replace hw:=hw.symm;subst hw)
     | (at_builtin;refine Zb4 rfl (.tmp 86) (.tmp 91) rfl 36 [.bool false,.int .i64 0,.string ByteArray.empty] 32 Tryz.underlying78 Tryz.infoCell rfl rfl rfl Qi.out hszw (by intro u hu;simp at hu;rcases hu with rfl | rfl | rfl<;>rfl) (by unfold maxLen;omega) (by omega) ?_;intro v' w' ho hb3))
    go_roundw
    case rel =>
     have Yz:=hid ho;rw[← QC.out]at Yz;exact⟨r+1,by omega,by go_num,by rw[HJN.out];go_num,Yz,hid (Below.trans Ql.out hb3)⟩
    case measure=>simp[intOf];omega
   ·simp only[if_true]at hrs QC;have hjn:r+1-Zaw ws (r+1)=j:=by omega
    have HJN:=hid hjn;clear hrs hrl hmono hj hjn;go_wp2_with (first
     | (go_at_call 133;refine X0.out.mono ?_;rintro e w4 ⟨rfl,hw⟩;replace hw:=hw.symm;subst hw)
     | (at_builtin;refine Zb4 rfl (.tmp 82) (.tmp 84) rfl 36 [.bool false,.int .i64 0,.string ByteArray.empty] 32 Tryz.underlying78 Tryz.infoCell rfl rfl rfl Qi.out hszw (by intro u hu;simp at hu;rcases hu with rfl | rfl | rfl<;>rfl) (by unfold maxLen;omega) (by omega) ?_;intro v' w' ho hb3))
    go_roundw
    case rel =>
     have Yz:=hid ho;rw[show ({ data:=#[] }:ByteArray)=ByteArray.empty from rfl,← QC.out]at Yz;exact⟨r+1,by omega,by go_num,by rw[HJN.out],Yz,hid (Below.trans Ql.out hb3)⟩
    case measure=>simp[intOf];omega
  ·obtain rfl:r=n:=by omega
   go_wp2_with fail
   go_ret2
   rw[Qo.out.1,Qo.out.2.1,Qo.out.2.2,Yv.out];exact⟨_,rfl,Ze2 Qi.out (Nat.le_trans hsz1 hsz3),Below.then' HB03.out Ql.out (Nat.le_trans hsz1 hsz3)⟩
end Go.Proofs.YtmcjknjlihgihaaGreatDoor
