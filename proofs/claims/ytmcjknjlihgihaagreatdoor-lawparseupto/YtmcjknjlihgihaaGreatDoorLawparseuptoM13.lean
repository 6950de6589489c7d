/- Package chunk: the number of a row's value. -/
import Derived.Test.YtmcjknjlihgihaaGreatDoorLawparseuptoM8
set_option linter.unusedVariables false
set_option linter.unusedSimpArgs false
set_option linter.unnecessarySimpa false
set_option maxRecDepth 100000
namespace Go.Proofs.YtmcjknjlihgihaaGreatDoor
open Go.RowKit
structure Ck_I (w:World) (g:Nat) (rows:Int) (codec wd:Nat) (nulls:List Nat) (count:Int) (list:List Int) (ends:List Nat) (base:Int) (lanes:List Nat):Prop where
 ex:∃ nu lv ev nv bef,Row w g 207 (ck_I rows codec wd nu count lv ev base nv (.iface 159 (.agg #[])) bef)∧Rd w nu nulls.length 1 (u64s nulls)∧Rd w lv list.length 1 (lstI list) ∧
  Rd w ev ends.length 1 (nIs ends)∧Rd w nv lanes.length 1 (u64s lanes)∧Rd w bef nulls.length 1 (i64s (befL nulls))
theorem Ck_I.mono {w w':World} {g:Nat} {rows:Int} {codec wd:Nat} {nulls:List Nat} {count:Int} {list:List Int} {ends:List Nat} {base:Int} {lanes:List Nat} (h:Ck_I w g rows codec wd nulls count list ends base lanes) (hb:Below w.heap.size w w') :
  Ck_I w' g rows codec wd nulls count list ends base lanes:=by
 obtain⟨nu,lv,ev,nv,bef,h1,h2,h3,h4,h5,h6⟩:=h.ex;exact⟨nu,lv,ev,nv,bef,h1.mono hb,h2.mono hb,h3.mono hb,h4.mono hb,h5.mono hb,h6.mono hb⟩
def Zjj (codec wd:Nat) (list:List Int) (ends:List Nat) (lanes:List Nat) (j:Nat):Int :=
 if codec=1 then list.getD j dfI else if codec=2 then list.getD (L.laneOf wd lanes j) dfI else list.getD (Zb7 (nI ends) ((j:Int)+1)) dfI
def ok_I (codec wd:Nat) (list:List Int) (ends:List Nat) (lanes:List Nat) (j:Nat):Prop :=
 (codec=1∧j<list.length)∨(codec=2∧L.laneOf wd lanes j<list.length∧wd≤64∧(0<wd→j/(64/wd)<lanes.length)) ∨
  (codec=3∧Zb7 (nI ends) ((j:Int)+1)<list.length∧∀ a b,a<b→b<(nI ends).length→(nI ends).getD a 0<(nI ends).getD b 0)
set_option maxHeartbeats 2000000 in
theorem Z2d (w:World) (g:Nat) (rows:Int) (codec wd:Nat) (nulls:List Nat) (count:Int) (list:List Int) (ends:List Nat) (base:Int) (lanes:List Nat) (j:Nat)
  (h:Ck_I w g rows codec wd nulls count list ends base lanes) (hel:ends.length≤16777216) (hj:j≤65536) (hup:∀ a b,a<b→b<(nI ends).length→(nI ends).getD a 0<(nI ends).getD b 0) :
  Calls Tryz.prog 238 #[.pointer (some ⟨g,0,none⟩),.int .i64 j] w fun e w'=>e=.returned (.int .i64 (Zb7 (nI ends) ((j:Int)+1):Nat))∧∃ n,w'=w.drewN n:=by
 obtain⟨nu,lv,ev,nv,bef,h1,h2,h3,h4,h5,h6⟩:=h.ex;have HB:=hid (Zgv ev (nI ends) ((j:Int)+1) w (by rw[Zas];exact h4) (by rw[Zas];exact hel) hup);obtain⟨A,c,rfl,_,_,_⟩:=h4.form;have c6:w.cell? ⟨g,0+6,none⟩=some (.slice A ends.length c):=by rw[h1.cell];rfl
 clear h1 h2 h3 h4 h5 h6 h hup;generalize Zb7 (nI ends) ((j:Int)+1)=r at *;go_enter Tryz.func238,Tryz.ntmps238;go_wp2_with fail
 refine HB.out.mono ?_;rintro e w1 ⟨⟨b,rfl⟩,n,rfl⟩;go_wp2_with fail
 go_ret;exact⟨rfl,n,rfl⟩
set_option maxHeartbeats 4000000 in
theorem Zv3 (w:World) (g:Nat) (rows:Int) (codec wd:Nat) (nulls:List Nat) (count:Int) (list:List Int) (ends:List Nat) (base:Int) (lanes:List Nat) (j:Nat)
  (h:Ck_I w g rows codec wd nulls count list ends base lanes) (hel:ends.length≤16777216) (hll:list.length≤16777216) (hnv:∀ x∈lanes,x<18446744073709551616) (hj:j≤65536) (hok:ok_I codec wd list ends lanes j) :
  Calls Tryz.prog 205 #[.pointer (some ⟨g,0,none⟩),.int .i64 j] w fun e w'=>e=.returned (vI (Zjj codec wd list ends lanes j))∧Below w.heap.size w w':=by
 obtain⟨nu,lv,ev,nv,bef,h1,h2,h3,h4,h5,h6⟩:=h.ex;obtain⟨A,c,rfl,hlc,hcm,hA⟩:=h3.form;have c1:w.cell? ⟨g,0+1,none⟩=some (.int .i64 codec):=by rw[h1.cell];rfl
 have c5:w.cell? ⟨g,0+5,none⟩=some (.slice A list.length c):=by rw[h1.cell];rfl
 have c5':w.cell? ⟨g,5,none⟩=some (.slice A list.length c):=by rw[h1.cell];rfl
 rcases hok with ⟨rfl,hlt⟩ | ⟨rfl,hlt,hw,hin⟩ | ⟨rfl,hlt,hup⟩
 ·obtain⟨b,o,rfl,hs⟩:=hA (by omega);have d1:w.cell? ⟨b,o+j,none⟩=some (vI (list.getD j dfI)):=hs _ _ (Zje list j hlt);have hv:Zjj 1 wd list ends lanes j=list.getD j dfI:=by unfold Zjj;rw[if_pos rfl]
  rw[hv];unfold vI at d1 ⊢;clear h1 h2 h3 h4 h5 h6 h hs hA c5' hv;generalize list.getD j dfI=x at *;go_enter Tryz.func205,Tryz.ntmps205;go_wp2;go_ret;exact⟨rfl,Zab w⟩
 ·have hv:Zjj 2 wd list ends lanes j=list.getD (L.laneOf wd lanes j) dfI:=by unfold Zjj;rw[if_neg (by omega),if_pos rfl]
  rw[hv];have QP:=hid (fun n:Nat=>Zxm (w.drewN n) g rows (2:Nat) wd nu count (.slice A list.length c) ev base nv _ bef lanes j (h1.drewN n) (h5.mono (Zaf (Zab w) n)) hnv hw hj hin);generalize L.laneOf wd lanes j=r at *;obtain⟨b,o,rfl,hs⟩:=hA (Nat.lt_of_le_of_lt (Nat.zero_le _) hlt);have d1:w.cell? ⟨b,o+r,none⟩=some (vI (list.getD r dfI)):=hs _ _ (Zje list r hlt);unfold vI at d1 ⊢;have hri:(r:Int)<(list.length:Int):=by omega
  clear h1 h2 h3 h4 h5 h6 h hs hA hv hin c5;generalize list.getD r dfI=x at *;go_enter Tryz.func205,Tryz.ntmps205;go_wp2_with fail
  go_quiet (first | (go_at_call 237;refine Calls.quiet_of (QP.out _)))
  go_wp2_with fail
  go_ret;exact⟨rfl,Zaf (Zab w) _⟩
 ·have hv:Zjj 3 wd list ends lanes j=list.getD (Zb7 (nI ends) ((j:Int)+1)) dfI:=by unfold Zjj;rw[if_neg (by omega),if_neg (by omega)]
  rw[hv];have Q5:=hid (fun n:Nat=>Z2d (w.drewN n) g rows 3 wd nulls count list ends base lanes j (h.mono (Zaf (Zab w) n)) hel hj hup);generalize Zb7 (nI ends) ((j:Int)+1)=r at *;obtain⟨b,o,rfl,hs⟩:=hA (Nat.lt_of_le_of_lt (Nat.zero_le _) hlt);have d1:w.cell? ⟨b,o+r,none⟩=some (vI (list.getD r dfI)):=hs _ _ (Zje list r hlt);unfold vI at d1 ⊢;have hri:(r:Int)<(list.length:Int):=by omega
  clear h1 h2 h3 h4 h5 h6 h hs hA hv hup c5;generalize list.getD r dfI=x at *;go_enter Tryz.func205,Tryz.ntmps205;go_wp2_with fail
  go_quiet (first | (go_at_call 238;refine Calls.quiet_of (Q5.out _)))
  go_wp2_with fail
  go_ret;exact⟨rfl,Zaf (Zab w) _⟩
set_option maxHeartbeats 4000000 in
theorem Zzx (w:World) (g:Nat) (rows codec wd:Nat) (nulls:List Nat) (count:Int) (list:List Int) (ends:List Nat) (base:Int) (lanes:List Nat) (r:Nat)
  (h:Ck_I w g rows codec wd nulls count list ends base lanes) (hbm:nulls.length=(rows+63)/64) (hnv:∀ x∈nulls,x<18446744073709551616) (hrr:rows≤65536) (hr:r<rows) :
  Calls Tryz.prog 208 #[.pointer (some ⟨g,0,none⟩),.int .i64 r] w fun e w'=>e=.returned (.int .i64 ((r:Int)-(Zaw nulls (r+1):Nat)))∧Below w.heap.size w w':=by
 obtain⟨nu,lv,ev,nv,bef,h1,h2,h3,h4,h5,h6⟩:=h.ex;obtain⟨A,ca,rfl,hlc,hcm,hA⟩:=h2.form;obtain⟨A',ca',rfl,hlc',hcm',hA'⟩:=h6.form;obtain⟨q,hq⟩:∃ q,r/64=q:=⟨_,rfl⟩;obtain⟨b,hb⟩:∃ b,r%64=b:=⟨_,rfl⟩;have hq':(r:Int)/64=(q:Int):=by omega
 have hb':(r:Int)%64=(b:Int):=by omega
 have hqn:q<nulls.length:=by omega
 have hb64:b<64:=by omega
 obtain⟨bl,o,rfl,hs⟩:=hA (by omega);obtain⟨bl',o',rfl,hs'⟩:=hA' (by omega);have c3:w.cell? ⟨g,3,none⟩=some (.slice (some ⟨bl,o,none⟩) nulls.length ca):=by rw[h1.cell];rfl
 have c10:w.cell? ⟨g,10,none⟩=some (.slice (some ⟨bl',o',none⟩) nulls.length ca'):=by rw[h1.cell];rfl
 have d1:=hs.word q hqn;have d2:w.cell? ⟨bl',o'+q,none⟩=some (.int .i64 (popL (nulls.take q):Nat)):=by
  have:=hs' q _ (Zgj (befL nulls) q (by rw[Zgg];exact hqn))
  rwa [Zlh _ _ hqn]at this
 have hxq:nulls.getD q 0<18446744073709551616:=hnv _ (by simp[List.getD,List.getElem?_eq_getElem hqn]);have hrk:=Zp6 nulls r (by rw[hq];exact hqn);rw[hq,hb]at hrk;have hpl:=Zmw (nulls.take q);rw[List.length_take]at hpl;have hle:Zaw nulls (r+1)≤r+1:=by unfold Zaw;have:=List.length_filter_le (Zar nulls) (List.range (r+1));rwa [List.length_range]at this
 generalize Zaw nulls (r+1)=rk at *;have U3:=hid (fun w2:World=>Zew (nulls.getD q 0*2^(63-b)%18446744073709551616) w2 (Nat.mod_lt _ (by omega)));generalize hp1:popL (nulls.take q)=p1 at *;generalize hp2:L.popN 64 (nulls.getD q 0*2^(63-b)%18446744073709551616)=p2 at *;generalize nulls.getD q 0=y at *;obtain⟨z,hz⟩:∃ z,y*2^(63-b)%18446744073709551616=z:=⟨_,rfl⟩;have hsh:IntKind.u64.wrap ((y:Int)*2^(63-b))=(z:Int):=by rw[IntKind.wrap_u64,← hz];simp
 rw[hz]at U3 hp2;have hsb:(63:Int)-(b:Int)=((63-b:Nat):Int):=by omega
 have hp1b:p1≤4194304:=by omega
 have Q4:=hid hle;have hp12:(r:Int)-(p1:Int)-(p2:Int)=(r:Int)-(rk:Int):=by omega
 clear hle hpl hrk hbm h1 h2 h3 h4 h5 h6 hs hs' hA hA' hnv h hp1 hp2 hz hq hb;go_enter Tryz.func208,Tryz.ntmps208;go_wp2;go_quiet (first | (go_at_call 189;refine Calls.quiet_of_same (U3.out _)))
 go_wp2_with fail
 go_ret;exact⟨Zc0 (by have:=Q4.out;unfold wrap64;omega),Zaf (Zab w) _⟩
set_option maxHeartbeats 8000000 in
theorem Z1q (w:World) (g:Nat) (rows codec wd:Nat) (nulls:List Nat) (count:Int) (list:List Int) (ends:List Nat) (base:Int) (lanes:List Nat) (r:Nat) (x:Int)
  (h:Ck_I w g rows codec wd nulls count list ends base lanes) (hbm:nulls.length=(rows+63)/64) (hnv:∀ x∈nulls,x<18446744073709551616) (hrr:rows≤65536) (hr:r<rows)
  (hV:Zar nulls r=false→∀ w2,Below w.heap.size w w2→Calls Tryz.prog 205 #[.pointer (some ⟨g,0,none⟩),.int .i64 ((r-Zaw nulls (r+1):Nat):Int)] w2 fun e w'=>e=.returned (vI x)∧Below w2.heap.size w2 w') :
  Calls Tryz.prog 169 #[.pointer (some ⟨g,0,none⟩),.int .i64 r] w fun e w'=>e=.returned (aggv (if Zar nulls r=true then Zy7 else Zhk x))∧Below w.heap.size w w':=by
 obtain⟨nu,lv,ev,nv,bef,h1,h2,h3,h4,h5,h6⟩:=h.ex;obtain⟨A,ca,rfl,hlc,hcm,hA⟩:=h2.form;obtain⟨A',ca',rfl,hlc',hcm',hA'⟩:=h6.form;obtain⟨q,hq⟩:∃ q,r/64=q:=⟨_,rfl⟩;obtain⟨b,hb⟩:∃ b,r%64=b:=⟨_,rfl⟩;have hq':(r:Int)/64=(q:Int):=by omega
 have hb':(r:Int)%64=(b:Int):=by omega
 have hqn:q<nulls.length:=by omega
 have hb64:b<64:=by omega
 obtain⟨bl,o,rfl,hs⟩:=hA (by omega);obtain⟨bl',o',rfl,hs'⟩:=hA' (by omega);have c3:w.cell? ⟨g,3,none⟩=some (.slice (some ⟨bl,o,none⟩) nulls.length ca):=by rw[h1.cell];rfl
 have c3':w.cell? ⟨g,0+3,none⟩=some (.slice (some ⟨bl,o,none⟩) nulls.length ca):=c3;have c10:w.cell? ⟨g,10,none⟩=some (.slice (some ⟨bl',o',none⟩) nulls.length ca'):=by rw[h1.cell];rfl
 have c9:w.cell? ⟨g,9,none⟩=some (.iface 159 (.agg #[])):=by rw[h1.cell];rfl
 have d1:=hs.word q hqn;have d2:w.cell? ⟨bl',o'+q,none⟩=some (.int .i64 (popL (nulls.take q):Nat)):=by
  have:=hs' q _ (Zgj (befL nulls) q (by rw[Zgg];exact hqn))
  rwa [Zlh _ _ hqn]at this
 have hxq:nulls.getD q 0<18446744073709551616:=hnv _ (by simp[List.getD,List.getElem?_eq_getElem hqn]);have hbit:Zar nulls r=(nulls.getD q 0).testBit b:=by unfold Zar;rw[hq,hb]
 have YI:=hid (Zhy (nulls.getD q 0) b hxq);have hgw:g<w.heap.size:=h1.lt;have hblw:bl<w.heap.size:=World.block_lt_of_cell? w _ d1;have hblw':bl'<w.heap.size:=World.block_lt_of_cell? w _ d2;have HV:=hid hV;have hle:Zaw nulls (r+1)≤r+1:=by unfold Zaw;have:=List.length_filter_le (Zar nulls) (List.range (r+1));rwa [List.length_range]at this
 have hlt:Zar nulls r=false→Zaw nulls (r+1)≤r:=by
  intro h0;rw[Zc9,h0];unfold Zaw;have:=List.length_filter_le (Zar nulls) (List.range r);rw[List.length_range]at this;simpa using this
 have Yi:=hid hlt;rw[hbit]at HV Yi;rw[hbit];have Jr:=hid (fun(w2:World) (hbw:Below w.heap.size w w2)=>Zzx w2 g rows codec wd nulls count list ends base lanes r (h.mono hbw) hbm hnv hrr hr);generalize Zaw nulls (r+1)=rk at *;generalize nulls.getD q 0=y at *;have Q4:=hid hle;clear hle hbm h1 h2 h3 h4 h5 h6 hs hs' hA hA' hV hlt hbit hnv h hq hb;have hg1:g≠w.heap.size:=by omega
 have hg2:bl≠w.heap.size:=by omega
 have hg3:bl'≠w.heap.size:=by omega
 cases hbv:y.testBit b with
 | true =>
  have hbt:(bits BinOp.and IntKind.u64 ((y:Int)/2^b) 1==1)=true:=by rw[YI.out,hbv]
  clear HV Jr Yi YI;go_enter Tryz.func169,Tryz.ntmps169;go_wp2;refine bodyPost_ret (v:=aggv Zy7) ?_ rfl ⟨rfl,(Zab w).alloc (Nat.le_refl _) _⟩;simp[results,Tryz.results169,go_sem];rfl
 | false =>
  have hbt:(bits BinOp.and IntKind.u64 ((y:Int)/2^b) 1==1)=false:=by rw[YI.out,hbv]
  have hrkr:=Yi.out hbv;have hV2:=HV.out hbv;have Zc:=hid hV2;have hj:(r:Int)-(rk:Int)=((r-rk:Nat):Int):=by omega
  rw[hj]at Jr;have hmv:=Zpl;clear YI HV Yi hV2 hj;go_enter Tryz.func169,Tryz.ntmps169;go_wp2;have Qb:Hid (Below w.heap.size w (w.alloc (.cells #[.bool false,.int .i64 0,.string ByteArray.empty] 36))):=hid ((Zab w).alloc (Nat.le_refl _) _);have Qm:Hid (Row (w.alloc (.cells #[.bool false,.int .i64 0,.string ByteArray.empty] 36)) w.heap.size 36 [.bool false,.int .i64 0,.string ByteArray.empty]):=hid (by unfold Row;rw[heap_alloc_new]);have k9:=(Qb.out.cell (p:=⟨g,9,none⟩) hgw).trans c9;have hempty:({ data:=#[] }:ByteArray)=ByteArray.empty:=rfl;rw[hempty];clear c9 c10 c3 c3' d1 d2 hempty hrkr hbt hbv Q4;generalize w.alloc (.cells #[.bool false,.int .i64 0,.string ByteArray.empty] 36)=w2 at *;unfold vI at Zc;obtain⟨p,hp⟩:∃ p,w.heap.size=p:=⟨_,rfl⟩;have HP:=hid hp;rw[hp]at Qm hg1 ⊢;clear hp;go_upto_region 3 with fail
  go_region_held3 (fun w'=>w'.cell? ⟨g,9,none⟩=some (.iface 159 (.agg #[]))) (first | go_keep | (rw[Zp9 _ _ _ _ _ _ _ hg1];assumption))
   (first
    | (go_at_call 208;refine(Jr.out _ (Zaf Qb.out 1)).mono ?_;rintro e w3 ⟨rfl,hb3⟩;have hz3:w.heap.size≤(w2.drewN 1).heap.size:=Qb.out.size;have Qe:=hid ((Zaf Qb.out 1).trans (hb3.mono hz3));have Qd:=hid ((Qm.out.drewN 1).mono hb3);have k93:=(hb3.cell (p:=⟨g,9,none⟩) (Nat.lt_of_lt_of_le hgw hz3)).trans k9;have hz33:w.heap.size≤w3.heap.size:=Qe.out.size;clear hb3)
    | (go_at_call 205;refine(Zc.out _ Qe.out).mono ?_;rintro e w4 ⟨rfl,hb4⟩;have Qz:=hid (Qe.out.trans (hb4.mono hz33));have U4:=hid (Qd.out.mono hb4);have k94:=(hb4.cell (p:=⟨g,9,none⟩) (Nat.lt_of_lt_of_le hgw hz33)).trans k93;have hz44:w.heap.size≤w4.heap.size:=Qz.out.size;clear hb4)
    | (go_at_call 318;refine(Zrh x _).mono ?_;rintro e w5 ⟨rfl,hb5⟩;have Q1:=hid (Qz.out.trans (hb5.mono hz44));have hr5:=U4.out.mono hb5;have Jd:=hid hr5;have k95:=(hb5.cell (p:=⟨g,9,none⟩) (Nat.lt_of_lt_of_le hgw hz44)).trans k94;have q0:w5.cell? ⟨p,0,none⟩=some (.bool false):=(by rw[hr5.cell];rfl);have q1:w5.cell? ⟨p,1,none⟩=some (.int .i64 0):=(by rw[hr5.cell];rfl);have q2:w5.cell? ⟨p,2,none⟩=some (.string ByteArray.empty):=(by rw[hr5.cell];rfl);have f0:=hr5.frozen 0;have f1:=hr5.frozen 1;have f2:=hr5.frozen 2;clear hb5 hr5))
  all_goals go_wp2_with fail
  all_goals change bodyPost _ _ _ _ _ (Zfy w5 p (Zhk x))
  all_goals have Yg:Hid (Row (Zfy w5 p (Zhk x)) p 36 (Zhk x)):=hid (Zel Jd.out _ _ _)
  all_goals have Y0:=hid (Zdi Q1.out p (Nat.le_of_eq HP.out) (Zhk x))
  all_goals generalize Zfy w5 p (Zhk x)=w6 at *
  all_goals have r0:w6.cell? ⟨p,0,none⟩=(Zhk x)[0]?:=Yg.out.cell 0
  all_goals have r1:w6.cell? ⟨p,1,none⟩=(Zhk x)[1]?:=Yg.out.cell 1
  all_goals have r2:w6.cell? ⟨p,2,none⟩=(Zhk x)[2]?:=Yg.out.cell 2
  all_goals refine bodyPost_ret (v:=aggv (Zhk x)) ?_ rfl ⟨rfl,Y0.out⟩
  all_goals simp only[Zhk,List.getElem?_cons_zero,List.getElem?_cons_succ]at r0 r1 r2
  all_goals simp[results,Tryz.results169,go_sem,r0,r1,r2]
  all_goals rfl
set_option maxHeartbeats 4000000 in
theorem Z0g (w:World) (g:Nat) (rows:Nat) (A:Nat→Bool) (B:Nat→Int) (C:Nat→ByteArray) (hr0:w.cell? ⟨g,0+0,none⟩=some (.int .i64 rows)) (hrr:rows≤65536)
  (hC:∀ r,r<rows→∀ w2,Below w.heap.size w w2→Calls Tryz.prog 169 #[.pointer (some ⟨g,0,none⟩),.int .i64 r] w2 fun e w'=>e=.returned (.agg #[.bool (A r),.int .i64 (B r),.string (C r)])∧Below w2.heap.size w2 w') :
  Calls Tryz.prog 139 #[.pointer (some ⟨g,0,none⟩)] w fun e w'=>∃ p,w.heap.size≤p∧e=.returned (.slice (some ⟨p,0,none⟩) rows rows)∧Row w' p 36 (Za2 A B C rows)∧Below w.heap.size w w':=by
 have hr00:w.cell? ⟨g,0,none⟩=some (.int .i64 rows):=hr0;have HC:=hid hC;clear hC;go_enter Tryz.func139,Tryz.ntmps139;go_wp2;refine Zj9 36 [.bool false,.int .i64 0,.string ByteArray.empty] 32 Tryz.underlying78 Tryz.infoCell rfl rows (by omega) (by omega) (by omega) (by unfold maxLen;omega) ?_;intro w1 cs0 hlen hrow hb1 hsz1;obtain⟨q,hq⟩:∃ q,w.heap.size=q:=⟨_,rfl⟩;have HQ:=hid hq;rw[hq]at hrow hsz1 ⊢;have Qq:=hid hrow;have Qa:=hid hb1;clear hrow hb1 hq;go_wp2;go_loopw [12] (fun i wr=>∃ j:Nat,j≤rows∧i=.int .i64 j∧Row wr q 36 (Za2 A B C j++cs0.drop (j*3))∧Below w.heap.size w wr∧Hid (q<wr.heap.size)) (fun i _=>rows-(intOf i).toNat)
 case atStart=>exact⟨0,by omega,rfl,by simpa [Za2]using Qq.out,Qa.out,hid (by omega)⟩
 case round =>
  obtain⟨j,hj,rfl,hr,hb,hz⟩:=hrel;by_cases hlt:j<rows
  ·have HR:=hid hr;have Ys:=hid hb;clear hr hb;go_wp2_with fail
   refine(HC.out j hlt wr Ys.out).mono ?_;rintro e w3 ⟨rfl,hb3⟩;have Qe:=hid (Ys.out.trans (hb3.mono Ys.out.size));have hr3:=HR.out.mono hb3;have Qd:=hid hr3;have hz3:q<w3.heap.size:=Nat.lt_of_lt_of_le hz.out hb3.size;obtain⟨x0,x1,x2,q0,q1,q2⟩:=Zro hr3 (j*3) (by rw[List.length_append,Zcq,List.length_drop];omega);have f0:=hr3.frozen (j*3);have f1:=hr3.frozen (j*3+1);have f2:=hr3.frozen (j*3+2);have Qt:Hid (Row (((w3.setCell ⟨q,j*3,none⟩ (.bool (A j))).setCell ⟨q,j*3+1,none⟩ (.int .i64 (B j))).setCell ⟨q,j*3+2,none⟩ (.string (C j))) q 36 (Za2 A B C (j+1)++cs0.drop ((j+1)*3))):=by
    refine hid ?_;have:=((hr3.set (j*3) (.bool (A j))).set (j*3+1) (.int .i64 (B j))).set (j*3+2) (.string (C j));rw[Zqa _ _ _ (Zcq A B C j) (by rw[List.length_drop];omega),List.drop_drop]at this;rw[show (j+1)*3=j*3+3 by omega];exact this
   clear hb3 hr3 HR Ys Qd HC;generalize A j=xa at *;generalize B j=xb at *;generalize C j=xc at *;go_wp2_with fail
   go_roundw
   case rel =>
    refine⟨j+1,by omega,by go_num,Qt.out,Zad (Zad (Zad Qe.out _ _ _ (Nat.le_of_eq HQ.out)) _ _ _ (Nat.le_of_eq HQ.out)) _ _ _ (Nat.le_of_eq HQ.out),hid (by simpa [World.setCell]using hz3)⟩
   case measure=>simp[intOf];omega
  ·obtain rfl:j=rows:=by omega
   go_wp2;go_ret;refine⟨q,Nat.le_of_eq HQ.out,rfl,?_,hb⟩;rw[List.drop_of_length_le (by omega),List.append_nil]at hr;exact hr
def Zvj (base:Int) (lane:Nat):Int:=IntKind.i64.wrap (base+IntKind.i64.wrap (lane:Int))
theorem Zqv (x:Int) (w:World):Calls Tryz.prog 320 #[.agg #[],.agg #[.bool false,.int .i64 x,.string ByteArray.empty]] w fun e w'=>e=.returned (.int .i64 x)∧Below w.heap.size w w':=Zou x w
set_option maxHeartbeats 4000000 in
theorem Ztb (w:World) (g:Nat) (rows:Int) (codec wd:Nat) (nulls:List Nat) (count:Int) (list:List Int) (ends:List Nat) (base:Int) (lanes:List Nat) (j:Nat)
  (h:Ck_I w g rows codec wd nulls count list ends base lanes) (hnv:∀ x∈lanes,x<18446744073709551616) (hj:j≤65536) (hcd:codec=4∨codec=5) (hw:wd≤64) (hin:0<wd→j/(64/wd)<lanes.length) :
  Calls Tryz.prog 205 #[.pointer (some ⟨g,0,none⟩),.int .i64 j] w fun e w'=>e=.returned (.int .i64 (Zvj base (L.laneOf wd lanes j)))∧Below w.heap.size w w':=by
 obtain⟨nu,lv,ev,nv,bef,h1,h2,h3,h4,h5,h6⟩:=h.ex;have c1:w.cell? ⟨g,0+1,none⟩=some (.int .i64 codec):=by rw[h1.cell];rfl
 have c9:w.cell? ⟨g,9,none⟩=some (.iface 159 (.agg #[])):=by rw[h1.cell];rfl
 have c7:w.cell? ⟨g,7,none⟩=some (.int .i64 base):=by rw[h1.cell];rfl
 have QP:=hid (fun n:Nat=>Zxm (w.drewN n) g rows codec wd nu count lv ev base nv _ bef lanes j (h1.drewN n) (h5.mono (Zaf (Zab w) n)) hnv hw hj hin);have hgw:g<w.heap.size:=h1.lt;have e1:¬ codec=1:=by omega
 have e2:¬ codec=2:=by omega
 have e3:¬ codec=3:=by omega
 have ei1:((codec:Int)==1)=false:=by simp;omega
 have ei2:((codec:Int)==2)=false:=by simp;omega
 have ei3:((codec:Int)==3)=false:=by simp;omega
 have hmv:=Zw5;unfold Zvj;generalize L.laneOf wd lanes j=l at *;clear h1 h2 h3 h4 h5 h6 h hin hnv;go_enter Tryz.func205,Tryz.ntmps205;go_wp2_with fail
 go_region_held3 (fun w'=>w'.cell? ⟨g,9,none⟩=some (.iface 159 (.agg #[]))∧w'.cell? ⟨g,7,none⟩=some (.int .i64 base)) (go_keep)
  (first
   | (go_at_call 237;refine(QP.out 1).mono ?_;rintro e w3 ⟨rfl,n3,rfl⟩;have Qe:=hid (Zaf (Zaf (Zab w) 1) n3);have k9:((w.drewN 1).drewN n3).cell? ⟨g,9,none⟩=some (.iface 159 (.agg #[])):=c9;have k7:((w.drewN 1).drewN n3).cell? ⟨g,7,none⟩=some (.int .i64 base):=c7;have hz3:w.heap.size≤((w.drewN 1).drewN n3).heap.size:=Qe.out.size;generalize (w.drewN 1).drewN n3=w3 at *)
   | (go_at_call 320;refine(Zqv _ _).mono ?_;rintro e w4 ⟨rfl,hb4⟩;have Qz:=hid (Qe.out.trans (hb4.mono hz3));have m9:=(hb4.cell (p:=⟨g,9,none⟩) (Nat.lt_of_lt_of_le hgw hz3)).trans k9;have m7:=(hb4.cell (p:=⟨g,7,none⟩) (Nat.lt_of_lt_of_le hgw hz3)).trans k7;clear hb4))
 all_goals go_wp2_with fail
 all_goals go_ret
 all_goals exact⟨rfl,Qz.out⟩
set_option maxRecDepth 20000
def ck_S (rows codec width:Int) (nulls:Value) (count:Int) (list ends:Value) (base:Int) (lanes kind bef:Value):List Value :=
 [i64 rows,i64 codec,i64 width,nulls,i64 count,list,ends,i64 base,lanes,kind,bef]
set_option maxHeartbeats 1000000 in
theorem Z0a (w:World) (g:Nat) (rows codec:Int) (wd:Nat) (nulls:Value) (count:Int) (list ends:Value) (base:Int) (lanes kind bef:Value) (ws:List Nat) (j:Nat)
  (h:Row w g 198 (ck_S rows codec wd nulls count list ends base lanes kind bef)) (hx:Rd w lanes ws.length 1 (u64s ws)) (hv:∀ x∈ws,x<18446744073709551616)
  (hw:wd≤64) (hj:j≤65536) (hin:0<wd→j/(64/wd)<ws.length) :
  Calls Tryz.prog 231 #[.pointer (some ⟨g,0,none⟩),.int .i64 j] w fun e w'=>e=.returned (.int .u64 (L.laneOf wd ws j:Nat))∧∃ n,w'=w.drewN n:=by
 have c2:w.cell? ⟨g,0+2,none⟩=some (.int .i64 wd):=by rw[h.cell];rfl
 by_cases h0:wd=0
 ·subst h0;go_enter Tryz.func231,Tryz.ntmps231;go_wp2;go_ret;exact⟨by simp[L.laneOf],0,rfl⟩
 ·obtain⟨A,ca,rfl,hlc,hcm,hA⟩:=hx.form;have hlt:=hin (by omega);obtain⟨b,o,rfl,hs⟩:=hA (Nat.lt_of_le_of_lt (Nat.zero_le _) hlt);have c8:w.cell? ⟨g,0+8,none⟩=some (.slice (some ⟨b,o,none⟩) ws.length ca):=by rw[h.cell];rfl
  have c1:=hs.word _ hlt;have hvj:ws.getD (j/(64/wd)) 0<18446744073709551616:=hv _ (by simp[List.getD,List.getElem?_eq_getElem hlt]);have hp:=L.per_pos (by omega) hw;have hp2:64/wd≤64:=Nat.div_le_self 64 wd;obtain⟨p,hP⟩:∃ p,64/wd=p:=⟨_,rfl⟩;have hPi:(64:Int)/(wd:Int)=(p:Int):=by rw[← hP];simp
  rw[hP]at c1 hvj hp hp2 hlt;have hmul:j%p*wd≤64:=by
   have h1:=L.per_mul wd;rw[hP]at h1;exact Nat.le_trans (Nat.mul_le_mul_right wd (Nat.le_of_lt (Nat.mod_lt _ hp))) h1
  obtain⟨q,hq⟩:∃ q,j%p*wd=q:=⟨_,rfl⟩;have hq':((j:Int)%(p:Int))*(wd:Int)=(q:Int):=by rw[← hq];simp
  rw[hq]at hmul;obtain⟨d,hd⟩:∃ d,j/p=d:=⟨_,rfl⟩;have hd':(j:Int)/(p:Int)=(d:Int):=by rw[← hd];simp
  have hdj:d≤65536:=by rw[← hd];exact Nat.le_trans (Nat.div_le_self _ _) hj
  rw[hd]at c1 hvj hlt;have HL:Hid (L.laneOf wd ws j=ws.getD d 0/2^q%2^wd):=hid (by unfold L.laneOf;rw[if_neg h0,hP,hd,hq]);have hne:¬ (wd:Int)=0:=by omega
  have hpe:¬ (p:Int)=0:=by omega
  clear hA hs hx hv hin hP hq hd h;generalize ws.getD d 0=x at *;have ZJ:=hid (Zul x q wd hvj hw);generalize hz:2^wd-1=z at *;have HZ:=hid hz;clear hz;have hw1:(wd:Int)≤64:=by omega
  have Vt:Hid (IntKind.u64.wrap (IntKind.u64.wrap (2^wd)-1)=(z:Int)):=hid (by rw[← HZ.out];exact Zpa wd hw);go_enter Tryz.func231,Tryz.ntmps231;go_wp2;rw[hPi,Vt.out];go_quiet (fail)
  go_wp2;go_ret;exact⟨Zer (by rw[ZJ.out,HL.out]),_,rfl⟩
set_option maxRecDepth 100000
structure Ck_S (w:World) (g:Nat) (rows:Int) (codec wd:Nat) (nulls:List Nat) (count:Int) (list:List ByteArray) (ends:List Nat) (base:Int) (lanes:List Nat):Prop where
 ex:∃ nu lv ev nv bef,Row w g 198 (ck_S rows codec wd nu count lv ev base nv (.iface 157 (.agg #[])) bef)∧Rd w nu nulls.length 1 (u64s nulls)∧Rd w lv list.length 1 (lstS list) ∧
  Rd w ev ends.length 1 (nIs ends)∧Rd w nv lanes.length 1 (u64s lanes)∧Rd w bef nulls.length 1 (i64s (befL nulls))
theorem Ck_S.mono {w w':World} {g:Nat} {rows:Int} {codec wd:Nat} {nulls:List Nat} {count:Int} {list:List ByteArray} {ends:List Nat} {base:Int} {lanes:List Nat} (h:Ck_S w g rows codec wd nulls count list ends base lanes) (hb:Below w.heap.size w w') :
  Ck_S w' g rows codec wd nulls count list ends base lanes:=by
 obtain⟨nu,lv,ev,nv,bef,h1,h2,h3,h4,h5,h6⟩:=h.ex;exact⟨nu,lv,ev,nv,bef,h1.mono hb,h2.mono hb,h3.mono hb,h4.mono hb,h5.mono hb,h6.mono hb⟩
def Zil (codec wd:Nat) (list:List ByteArray) (ends:List Nat) (lanes:List Nat) (j:Nat):ByteArray :=
 if codec=1 then list.getD j dfS else if codec=2 then list.getD (L.laneOf wd lanes j) dfS else list.getD (Zb7 (nI ends) ((j:Int)+1)) dfS
def ok_S (codec wd:Nat) (list:List ByteArray) (ends:List Nat) (lanes:List Nat) (j:Nat):Prop :=
 (codec=1∧j<list.length)∨(codec=2∧L.laneOf wd lanes j<list.length∧wd≤64∧(0<wd→j/(64/wd)<lanes.length)) ∨
  (codec=3∧Zb7 (nI ends) ((j:Int)+1)<list.length∧∀ a b,a<b→b<(nI ends).length→(nI ends).getD a 0<(nI ends).getD b 0)
set_option maxHeartbeats 2000000 in
theorem Z2f (w:World) (g:Nat) (rows:Int) (codec wd:Nat) (nulls:List Nat) (count:Int) (list:List ByteArray) (ends:List Nat) (base:Int) (lanes:List Nat) (j:Nat)
  (h:Ck_S w g rows codec wd nulls count list ends base lanes) (hel:ends.length≤16777216) (hj:j≤65536) (hup:∀ a b,a<b→b<(nI ends).length→(nI ends).getD a 0<(nI ends).getD b 0) :
  Calls Tryz.prog 232 #[.pointer (some ⟨g,0,none⟩),.int .i64 j] w fun e w'=>e=.returned (.int .i64 (Zb7 (nI ends) ((j:Int)+1):Nat))∧∃ n,w'=w.drewN n:=by
 obtain⟨nu,lv,ev,nv,bef,h1,h2,h3,h4,h5,h6⟩:=h.ex;have HB:=hid (Zgv ev (nI ends) ((j:Int)+1) w (by rw[Zas];exact h4) (by rw[Zas];exact hel) hup);obtain⟨A,c,rfl,_,_,_⟩:=h4.form;have c6:w.cell? ⟨g,0+6,none⟩=some (.slice A ends.length c):=by rw[h1.cell];rfl
 clear h1 h2 h3 h4 h5 h6 h hup;generalize Zb7 (nI ends) ((j:Int)+1)=r at *;go_enter Tryz.func232,Tryz.ntmps232;go_wp2_with fail
 refine HB.out.mono ?_;rintro e w1 ⟨⟨b,rfl⟩,n,rfl⟩;go_wp2_with fail
 go_ret;exact⟨rfl,n,rfl⟩
set_option maxHeartbeats 4000000 in
theorem Zu6 (w:World) (g:Nat) (rows:Int) (codec wd:Nat) (nulls:List Nat) (count:Int) (list:List ByteArray) (ends:List Nat) (base:Int) (lanes:List Nat) (j:Nat)
  (h:Ck_S w g rows codec wd nulls count list ends base lanes) (hel:ends.length≤16777216) (hll:list.length≤16777216) (hnv:∀ x∈lanes,x<18446744073709551616) (hj:j≤65536) (hok:ok_S codec wd list ends lanes j) :
  Calls Tryz.prog 197 #[.pointer (some ⟨g,0,none⟩),.int .i64 j] w fun e w'=>e=.returned (vS (Zil codec wd list ends lanes j))∧Below w.heap.size w w':=by
 obtain⟨nu,lv,ev,nv,bef,h1,h2,h3,h4,h5,h6⟩:=h.ex;obtain⟨A,c,rfl,hlc,hcm,hA⟩:=h3.form;have c1:w.cell? ⟨g,0+1,none⟩=some (.int .i64 codec):=by rw[h1.cell];rfl
 have c5:w.cell? ⟨g,0+5,none⟩=some (.slice A list.length c):=by rw[h1.cell];rfl
 have c5':w.cell? ⟨g,5,none⟩=some (.slice A list.length c):=by rw[h1.cell];rfl
 rcases hok with ⟨rfl,hlt⟩ | ⟨rfl,hlt,hw,hin⟩ | ⟨rfl,hlt,hup⟩
 ·obtain⟨b,o,rfl,hs⟩:=hA (by omega);have d1:w.cell? ⟨b,o+j,none⟩=some (vS (list.getD j dfS)):=hs _ _ (Zjo list j hlt);have hv:Zil 1 wd list ends lanes j=list.getD j dfS:=by unfold Zil;rw[if_pos rfl]
  rw[hv];unfold vS at d1 ⊢;clear h1 h2 h3 h4 h5 h6 h hs hA c5' hv;generalize list.getD j dfS=x at *;go_enter Tryz.func197,Tryz.ntmps197;go_wp2;go_ret;exact⟨rfl,Zab w⟩
 ·have hv:Zil 2 wd list ends lanes j=list.getD (L.laneOf wd lanes j) dfS:=by unfold Zil;rw[if_neg (by omega),if_pos rfl]
  rw[hv];have QP:=hid (fun n:Nat=>Z0a (w.drewN n) g rows (2:Nat) wd nu count (.slice A list.length c) ev base nv _ bef lanes j (h1.drewN n) (h5.mono (Zaf (Zab w) n)) hnv hw hj hin);generalize L.laneOf wd lanes j=r at *;obtain⟨b,o,rfl,hs⟩:=hA (Nat.lt_of_le_of_lt (Nat.zero_le _) hlt);have d1:w.cell? ⟨b,o+r,none⟩=some (vS (list.getD r dfS)):=hs _ _ (Zjo list r hlt);unfold vS at d1 ⊢;have hri:(r:Int)<(list.length:Int):=by omega
  clear h1 h2 h3 h4 h5 h6 h hs hA hv hin c5;generalize list.getD r dfS=x at *;go_enter Tryz.func197,Tryz.ntmps197;go_wp2_with fail
  go_quiet (first | (go_at_call 231;refine Calls.quiet_of (QP.out _)))
  go_wp2_with fail
  go_ret;exact⟨rfl,Zaf (Zab w) _⟩
 ·have hv:Zil 3 wd list ends lanes j=list.getD (Zb7 (nI ends) ((j:Int)+1)) dfS:=by unfold Zil;rw[if_neg (by omega),if_neg (by omega)]
  rw[hv];have Q5:=hid (fun n:Nat=>Z2f (w.drewN n) g rows 3 wd nulls count list ends base lanes j (h.mono (Zaf (Zab w) n)) hel hj hup);generalize Zb7 (nI ends) ((j:Int)+1)=r at *;obtain⟨b,o,rfl,hs⟩:=hA (Nat.lt_of_le_of_lt (Nat.zero_le _) hlt);have d1:w.cell? ⟨b,o+r,none⟩=some (vS (list.getD r dfS)):=hs _ _ (Zjo list r hlt);unfold vS at d1 ⊢;have hri:(r:Int)<(list.length:Int):=by omega
  clear h1 h2 h3 h4 h5 h6 h hs hA hv hup c5;generalize list.getD r dfS=x at *;go_enter Tryz.func197,Tryz.ntmps197;go_wp2_with fail
  go_quiet (first | (go_at_call 232;refine Calls.quiet_of (Q5.out _)))
  go_wp2_with fail
  go_ret;exact⟨rfl,Zaf (Zab w) _⟩
set_option maxHeartbeats 4000000 in
theorem Zzp (w:World) (g:Nat) (rows codec wd:Nat) (nulls:List Nat) (count:Int) (list:List ByteArray) (ends:List Nat) (base:Int) (lanes:List Nat) (r:Nat)
  (h:Ck_S w g rows codec wd nulls count list ends base lanes) (hbm:nulls.length=(rows+63)/64) (hnv:∀ x∈nulls,x<18446744073709551616) (hrr:rows≤65536) (hr:r<rows) :
  Calls Tryz.prog 207 #[.pointer (some ⟨g,0,none⟩),.int .i64 r] w fun e w'=>e=.returned (.int .i64 ((r:Int)-(Zaw nulls (r+1):Nat)))∧Below w.heap.size w w':=by
 obtain⟨nu,lv,ev,nv,bef,h1,h2,h3,h4,h5,h6⟩:=h.ex;obtain⟨A,ca,rfl,hlc,hcm,hA⟩:=h2.form;obtain⟨A',ca',rfl,hlc',hcm',hA'⟩:=h6.form;obtain⟨q,hq⟩:∃ q,r/64=q:=⟨_,rfl⟩;obtain⟨b,hb⟩:∃ b,r%64=b:=⟨_,rfl⟩;have hq':(r:Int)/64=(q:Int):=by omega
 have hb':(r:Int)%64=(b:Int):=by omega
 have hqn:q<nulls.length:=by omega
 have hb64:b<64:=by omega
 obtain⟨bl,o,rfl,hs⟩:=hA (by omega);obtain⟨bl',o',rfl,hs'⟩:=hA' (by omega);have c3:w.cell? ⟨g,3,none⟩=some (.slice (some ⟨bl,o,none⟩) nulls.length ca):=by rw[h1.cell];rfl
 have c10:w.cell? ⟨g,10,none⟩=some (.slice (some ⟨bl',o',none⟩) nulls.length ca'):=by rw[h1.cell];rfl
 have d1:=hs.word q hqn;have d2:w.cell? ⟨bl',o'+q,none⟩=some (.int .i64 (popL (nulls.take q):Nat)):=by
  have:=hs' q _ (Zgj (befL nulls) q (by rw[Zgg];exact hqn))
  rwa [Zlh _ _ hqn]at this
 have hxq:nulls.getD q 0<18446744073709551616:=hnv _ (by simp[List.getD,List.getElem?_eq_getElem hqn]);have hrk:=Zp6 nulls r (by rw[hq];exact hqn);rw[hq,hb]at hrk;have hpl:=Zmw (nulls.take q);rw[List.length_take]at hpl;have hle:Zaw nulls (r+1)≤r+1:=by unfold Zaw;have:=List.length_filter_le (Zar nulls) (List.range (r+1));rwa [List.length_range]at this
 generalize Zaw nulls (r+1)=rk at *;have U3:=hid (fun w2:World=>Zew (nulls.getD q 0*2^(63-b)%18446744073709551616) w2 (Nat.mod_lt _ (by omega)));generalize hp1:popL (nulls.take q)=p1 at *;generalize hp2:L.popN 64 (nulls.getD q 0*2^(63-b)%18446744073709551616)=p2 at *;generalize nulls.getD q 0=y at *;obtain⟨z,hz⟩:∃ z,y*2^(63-b)%18446744073709551616=z:=⟨_,rfl⟩;have hsh:IntKind.u64.wrap ((y:Int)*2^(63-b))=(z:Int):=by rw[IntKind.wrap_u64,← hz];simp
 rw[hz]at U3 hp2;have hsb:(63:Int)-(b:Int)=((63-b:Nat):Int):=by omega
 have hp1b:p1≤4194304:=by omega
 have Q4:=hid hle;have hp12:(r:Int)-(p1:Int)-(p2:Int)=(r:Int)-(rk:Int):=by omega
 clear hle hpl hrk hbm h1 h2 h3 h4 h5 h6 hs hs' hA hA' hnv h hp1 hp2 hz hq hb;go_enter Tryz.func207,Tryz.ntmps207;go_wp2;go_quiet (first | (go_at_call 189;refine Calls.quiet_of_same (U3.out _)))
 go_wp2_with fail
 go_ret;exact⟨Zc0 (by have:=Q4.out;unfold wrap64;omega),Zaf (Zab w) _⟩
end Go.Proofs.YtmcjknjlihgihaaGreatDoor
