/- The plain answer: Decode. -/
import Derived.Test.YtmcjknjlihgihaaGreatDoorLawfreshlistsuptoM8
set_option linter.unusedVariables false
set_option linter.unusedSimpArgs false
set_option linter.unnecessarySimpa false
set_option maxRecDepth 100000
namespace Go.Proofs.YtmcjknjlihgihaaGreatDoor
open Go.RowKit
structure Ck_S (w:World) (g:Nat) (rows:Int) (codec wd:Nat) (nulls:List Nat) (count:Int) (list:List ByteArray) (ends:List Nat) (base:Int) (lanes:List Nat):Prop where
 ex:∃ nu lv ev nv bef,Row w g 198 (ck_S rows codec wd nu count lv ev base nv (.iface 157 (.agg #[])) bef)∧Rd w nu nulls.length 1 (u64s nulls)∧Rd w lv list.length 1 (lstS list) ∧
  Rd w ev ends.length 1 (nIs ends)∧Rd w nv lanes.length 1 (u64s lanes)∧Rd w bef nulls.length 1 (i64s (befL nulls))
theorem Ck_S.mono {w w':World} {g:Nat} {rows:Int} {codec wd:Nat} {nulls:List Nat} {count:Int} {list:List ByteArray} {ends:List Nat} {base:Int} {lanes:List Nat} (h:Ck_S w g rows codec wd nulls count list ends base lanes) (hb:Below w.heap.size w w') :
  Ck_S w' g rows codec wd nulls count list ends base lanes:=by
 obtain⟨nu,lv,ev,nv,bef,h1,h2,h3,h4,h5,h6⟩:=h.ex;exact⟨nu,lv,ev,nv,bef,h1.mono hb,h2.mono hb,h3.mono hb,h4.mono hb,h5.mono hb,h6.mono hb⟩
def Zh9 (codec wd:Nat) (list:List ByteArray) (ends:List Nat) (lanes:List Nat) (j:Nat):ByteArray :=
 if codec=1 then list.getD j dfS else if codec=2 then list.getD (L.laneOf wd lanes j) dfS else list.getD (Zb8 (nI ends) ((j:Int)+1)) dfS
def ok_S (codec wd:Nat) (list:List ByteArray) (ends:List Nat) (lanes:List Nat) (j:Nat):Prop :=
 (codec=1∧j<list.length)∨(codec=2∧L.laneOf wd lanes j<list.length∧wd≤64∧(0<wd→j/(64/wd)<lanes.length)) ∨
  (codec=3∧Zb8 (nI ends) ((j:Int)+1)<list.length∧∀ a b,a<b→b<(nI ends).length→(nI ends).getD a 0<(nI ends).getD b 0)
set_option maxHeartbeats 2000000 in
theorem Z1m (w:World) (g:Nat) (rows:Int) (codec wd:Nat) (nulls:List Nat) (count:Int) (list:List ByteArray) (ends:List Nat) (base:Int) (lanes:List Nat) (j:Nat)
  (h:Ck_S w g rows codec wd nulls count list ends base lanes) (hel:ends.length≤16777216) (hj:j≤65536) (hup:∀ a b,a<b→b<(nI ends).length→(nI ends).getD a 0<(nI ends).getD b 0) :
  Calls Tryz.prog 232 #[.pointer (some ⟨g,0,none⟩),.int .i64 j] w fun e w'=>e=.returned (.int .i64 (Zb8 (nI ends) ((j:Int)+1):Nat))∧∃ n,w'=w.drewN n:=by
 obtain⟨nu,lv,ev,nv,bef,h1,h2,h3,h4,h5,h6⟩:=h.ex;have HB:=hid (Zgm ev (nI ends) ((j:Int)+1) w (by rw[Zaq];exact h4) (by rw[Zaq];exact hel) hup);obtain⟨A,c,rfl,_,_,_⟩:=h4.form;have c6:w.cell? ⟨g,0+6,none⟩=some (.slice A ends.length c):=by rw[h1.cell];rfl
 clear h1 h2 h3 h4 h5 h6 h hup;generalize Zb8 (nI ends) ((j:Int)+1)=r at *;go_enter Tryz.func232,Tryz.ntmps232;go_wp2_with fail
 refine HB.out.mono ?_;rintro e w1 ⟨⟨b,rfl⟩,n,rfl⟩;go_wp2_with fail
 go_ret;exact⟨rfl,n,rfl⟩
set_option maxHeartbeats 4000000 in
theorem Zup (w:World) (g:Nat) (rows:Int) (codec wd:Nat) (nulls:List Nat) (count:Int) (list:List ByteArray) (ends:List Nat) (base:Int) (lanes:List Nat) (j:Nat)
  (h:Ck_S w g rows codec wd nulls count list ends base lanes) (hel:ends.length≤16777216) (hll:list.length≤16777216) (hnv:∀ x∈lanes,x<18446744073709551616) (hj:j≤65536) (hok:ok_S codec wd list ends lanes j) :
  Calls Tryz.prog 197 #[.pointer (some ⟨g,0,none⟩),.int .i64 j] w fun e w'=>e=.returned (vS (Zh9 codec wd list ends lanes j))∧Below w.heap.size w w':=by
 obtain⟨nu,lv,ev,nv,bef,h1,h2,h3,h4,h5,h6⟩:=h.ex;obtain⟨A,c,rfl,hlc,hcm,hA⟩:=h3.form;have c1:w.cell? ⟨g,0+1,none⟩=some (.int .i64 codec):=by rw[h1.cell];rfl
 have c5:w.cell? ⟨g,0+5,none⟩=some (.slice A list.length c):=by rw[h1.cell];rfl
 have c5':w.cell? ⟨g,5,none⟩=some (.slice A list.length c):=by rw[h1.cell];rfl
 rcases hok with ⟨rfl,hlt⟩ | ⟨rfl,hlt,hw,hin⟩ | ⟨rfl,hlt,hup⟩
 ·obtain⟨b,o,rfl,hs⟩:=hA (by omega);have d1:w.cell? ⟨b,o+j,none⟩=some (vS (list.getD j dfS)):=hs _ _ (Zim list j hlt);have hv:Zh9 1 wd list ends lanes j=list.getD j dfS:=by unfold Zh9;rw[if_pos rfl]
  rw[hv];unfold vS at d1 ⊢;clear h1 h2 h3 h4 h5 h6 h hs hA c5' hv;generalize list.getD j dfS=x at *;go_enter Tryz.func197,Tryz.ntmps197;go_wp2;go_ret;exact⟨rfl,Zab w⟩
 ·have hv:Zh9 2 wd list ends lanes j=list.getD (L.laneOf wd lanes j) dfS:=by unfold Zh9;rw[if_neg (by omega),if_pos rfl]
  rw[hv];have Yr:=hid (fun n:Nat=>Zzh (w.drewN n) g rows (2:Nat) wd nu count (.slice A list.length c) ev base nv _ bef lanes j (h1.drewN n) (h5.mono (Zag (Zab w) n)) hnv hw hj hin);generalize L.laneOf wd lanes j=r at *;obtain⟨b,o,rfl,hs⟩:=hA (Nat.lt_of_le_of_lt (Nat.zero_le _) hlt);have d1:w.cell? ⟨b,o+r,none⟩=some (vS (list.getD r dfS)):=hs _ _ (Zim list r hlt);unfold vS at d1 ⊢;have hri:(r:Int)<(list.length:Int):=by omega
  clear h1 h2 h3 h4 h5 h6 h hs hA hv hin c5;generalize list.getD r dfS=x at *;go_enter Tryz.func197,Tryz.ntmps197;go_wp2_with fail
  go_quiet (first | (go_at_call 231;refine Calls.quiet_of (Yr.out _)))
  go_wp2_with fail
  go_ret;exact⟨rfl,Zag (Zab w) _⟩
 ·have hv:Zh9 3 wd list ends lanes j=list.getD (Zb8 (nI ends) ((j:Int)+1)) dfS:=by unfold Zh9;rw[if_neg (by omega),if_neg (by omega)]
  rw[hv];have Q1:=hid (fun n:Nat=>Z1m (w.drewN n) g rows 3 wd nulls count list ends base lanes j (h.mono (Zag (Zab w) n)) hel hj hup);generalize Zb8 (nI ends) ((j:Int)+1)=r at *;obtain⟨b,o,rfl,hs⟩:=hA (Nat.lt_of_le_of_lt (Nat.zero_le _) hlt);have d1:w.cell? ⟨b,o+r,none⟩=some (vS (list.getD r dfS)):=hs _ _ (Zim list r hlt);unfold vS at d1 ⊢;have hri:(r:Int)<(list.length:Int):=by omega
  clear h1 h2 h3 h4 h5 h6 h hs hA hv hup c5;generalize list.getD r dfS=x at *;go_enter Tryz.func197,Tryz.ntmps197;go_wp2_with fail
  go_quiet (first | (go_at_call 232;refine Calls.quiet_of (Q1.out _)))
  go_wp2_with fail
  go_ret;exact⟨rfl,Zag (Zab w) _⟩
set_option maxRecDepth 512
structure Head where
 codec:Nat
 wd:Nat
 nulls:List Nat
 left:List Nat
 short:Bool
def Zaa (rows:Nat) (xs:List Nat):Head :=
 { codec:=L.wordOf 8 (tk 1 xs),wd:=L.wordOf 8 (tk 1 (tkL 1 xs)),nulls:=numL 8 (tk (8*((rows+63)/64)) (tkL 1 (tkL 1 xs))),left:=tkL (8*((rows+63)/64)) (tkL 1 (tkL 1 xs)),short:=tkS (8*((rows+63)/64)) (tkL 1 (tkL 1 xs)) (tkS 1 (tkL 1 xs) (tkS 1 xs false)) }
def Zbd (rows:Nat) (nulls:List Nat):Nat:=rows-Zbe nulls rows
def Zgk (kind:Int) (rows:Nat) (h:Head):Bool:=Za8 1 rows h.nulls&&Zbi kind h.codec
set_option maxRecDepth 100000
def vl_I (cd wd:Nat) (list:List Int) (ends:List Nat) (base:Int) (lanes:List Nat) (j:Nat):Int :=
 if cd=4∨cd=5 then Zuq base (L.laneOf wd lanes j)else Zi2 cd wd list ends lanes j
def Zox (cd wd:Nat) (list:List Int) (ends:List Nat) (lanes:List Nat) (j:Nat):Prop :=
 ((cd=4∨cd=5)∧wd≤64∧(0<wd→j/(64/wd)<lanes.length))∨ok_I cd wd list ends lanes j
theorem Zuf (w:World) (g:Nat) (rows:Int) (codec wd:Nat) (nulls:List Nat) (count:Int) (list:List Int) (ends:List Nat) (base:Int) (lanes:List Nat) (j:Nat)
  (h:Ck_I w g rows codec wd nulls count list ends base lanes) (hel:ends.length≤16777216) (hll:list.length≤16777216) (hnv:∀ x∈lanes,x<18446744073709551616) (hj:j≤65536) (hok:Zox codec wd list ends lanes j) :
  Calls Tryz.prog 205 #[.pointer (some ⟨g,0,none⟩),.int .i64 j] w fun e w'=>e=.returned (vI (vl_I codec wd list ends base lanes j))∧Below w.heap.size w w':=by
 unfold vl_I;rcases hok with ⟨h1,h2,h3⟩ | h1
 ·rw[if_pos h1];exact Zst w g rows codec wd nulls count list ends base lanes j h hnv hj h1 h2 h3
 ·have hn:¬ (codec=4∨codec=5):=by rcases h1 with h1 | h1 | h1<;>omega
  rw[if_neg hn];exact Zu2 w g rows codec wd nulls count list ends base lanes j h hel hll hnv hj h1
def vl_S (cd wd:Nat) (list:List ByteArray) (ends:List Nat) (base:Int) (lanes:List Nat) (j:Nat):ByteArray:=Zh9 cd wd list ends lanes j
def Zkz (cd wd:Nat) (list:List ByteArray) (ends:List Nat) (lanes:List Nat) (j:Nat):Prop:=ok_S cd wd list ends lanes j
theorem Zuz (w:World) (g:Nat) (rows:Int) (codec wd:Nat) (nulls:List Nat) (count:Int) (list:List ByteArray) (ends:List Nat) (base:Int) (lanes:List Nat) (j:Nat)
  (h:Ck_S w g rows codec wd nulls count list ends base lanes) (hel:ends.length≤16777216) (hll:list.length≤16777216) (hnv:∀ x∈lanes,x<18446744073709551616) (hj:j≤65536) (hok:Zkz codec wd list ends lanes j) :
  Calls Tryz.prog 197 #[.pointer (some ⟨g,0,none⟩),.int .i64 j] w fun e w'=>e=.returned (vS (vl_S codec wd list ends base lanes j))∧Below w.heap.size w w' :=
 Zup w g rows codec wd nulls count list ends base lanes j h hel hll hnv hj hok
def cB_I (x:Int):Int:=x
def cC_I (x:Int):ByteArray:=ByteArray.empty
def cB_S (x:ByteArray):Int:=0
def cC_S (x:ByteArray):ByteArray:=x
def rN (rows:Nat):Nat:=(rows+63)/64
def rWs (rows:Nat) (xs:List Nat):List Nat:=numL 8 (tk (8*rN rows) (xs.drop 2))
def rHd (rows:Nat) (xs:List Nat):Bool:=Zau 8 (rN rows) 2 xs.length&&Za8 1 rows (rWs rows xs)
def rK (rows:Nat) (xs:List Nat):Nat:=rows-Zbe (rWs rows xs) rows
def rPay (kd rows:Nat) (xs:List Nat):Bool×List PV:=payR kd (xs.getD 0 0) (xs.getD 1 0) (rK rows xs) (2+8*rN rows) xs
def rOk (kd rows:Nat) (xs:List Nat):Bool:=rHd rows xs&&(rPay kd rows xs).1&&decide ((rPay kd rows xs).2.length=rK rows xs)
def cA (ws:List Nat) (r:Nat):Bool:=Za0 ws r
def cB (ws:List Nat) (vs:List PV) (r:Nat):Int:=if Za0 ws r=true then 0 else (vs.getD (r-Zbe ws r) dfP).1
def cC (ws:List Nat) (vs:List PV) (r:Nat):ByteArray:=if Za0 ws r=true then ByteArray.empty else (vs.getD (r-Zbe ws r) dfP).2
def Zhs (kd rows:Nat) (xs:List Nat):List Value:=Zdb (cA (rWs rows xs)) (cB (rWs rows xs) (rPay kd rows xs).2) (cC (rWs rows xs) (rPay kd rows xs).2) rows
def Zdv (k rows:Int) (xs:List Nat):Int:=if (Za3 k&&Zhw rows)=true then (if rOk k.toNat rows.toNat xs=true then 0 else 1)else 5
def Zd4 (k rows:Int) (xs:List Nat):List Value:=if Zdv k rows xs=0 then Zhs k.toNat rows.toNat xs else []
def Zgz (k rows:Int) (xs:List Nat):Nat:=if Zdv k rows xs=0 then rows.toNat else 0
theorem Zet (ws:List Nat) (i:Nat):Zbe ws i≤i:=by
 unfold Zbe;have:=List.length_filter_le (Za0 ws) (List.range i);rwa [List.length_range]at this
theorem Zs5 (ws:List Nat):∀ i d,Zbe ws i+d≤i→i-Zbe ws i≤(i+1)-Zbe ws (i+1):=by
 intro i d h;rw[Ze3]
 split<;>omega
theorem Zjf (ws:List Nat) (i j:Nat) (h:i≤j):i-Zbe ws i≤j-Zbe ws j:=by
 induction j with
 | zero =>
      obtain rfl:i=0:=by omega
      exact Nat.le_refl _
 | succ j ih =>
  by_cases hij:i=j+1
  ·subst hij;exact Nat.le_refl _
  ·exact Nat.le_trans (ih (by omega)) (Zs5 ws j 0 (Zet ws j))
set_option maxHeartbeats 16000000 in
theorem Zn2 (k rows:Int) (v:Value) (xs:List Nat) (w:World) (hx:Rd w v xs.length 1 (u8s xs)) (hb:∀ x∈xs,x<256) (hl:xs.length≤16777216) :
  Calls Tryz.prog 92 #[.int .i64 k,.int .i64 rows,v] w fun e w'=>∃ u,e=.returned (.tuple #[u,.int .i64 (Zdv k rows xs)]) ∧
   w'.ownsRow w.heap.size 36 3 u (Zgz k rows xs) (Zd4 k rows xs)∧Below w.heap.size w w':=by
 have HK:=hid (Zjm k w);by_cases hg:(Za3 k&&Zhw rows)=true
 rotate_left
 ·have e1:Zdv k rows xs=5:=by unfold Zdv;rw[if_neg hg]
  have e2:Zd4 k rows xs=[]:=by unfold Zd4;rw[e1,if_neg (by decide)]
  have e3:Zgz k rows xs=0:=by unfold Zgz;rw[e1,if_neg (by decide)]
  rw[e1,e2,e3];obtain⟨A,ca,rfl,_,_,_⟩:=hx.form;have hr:Zhw rows=decide (0≤rows∧rows≤65536):=rfl;clear hx e1 e2 e3;generalize Za3 k=bk at *;generalize Zhw rows=br at *;go_enter Tryz.func92,Tryz.ntmps92;cases bk
  case' false=>go_wp2_with (go_at_call 69;refine HK.out.mono ?_;rintro e w1 ⟨rfl,hw⟩;replace hw:=hw.symm;subst hw)
  case' true =>
   obtain rfl:br=false:=by simpa using hg
   have hr2:=of_decide_eq_false hr.symm;clear hr hg;by_cases h1:rows<0
   case' pos=>clear hr2
   case' pos=>go_wp2_with (go_at_call 69;refine HK.out.mono ?_;rintro e w1 ⟨rfl,hw⟩;replace hw:=hw.symm;subst hw)
   case' neg =>
    have h2:rows > 65536:=by omega
    go_wp2_with (go_at_call 69;refine HK.out.mono ?_;rintro e w1 ⟨rfl,hw⟩;replace hw:=hw.symm;subst hw)
  all_goals go_ret2
  all_goals exact⟨_,rfl,World.ownsRow_nil _ _ _ _,Zab w⟩
 have hk:Za3 k=true:=by simp only[Bool.and_eq_true]at hg;exact hg.1
 have hr:Zhw rows=true:=by simp only[Bool.and_eq_true]at hg;exact hg.2
 have hr2:0≤rows∧rows≤65536:=by simpa [Zhw]using hr
 obtain⟨n,rfl⟩:=Int.eq_ofNat_of_zero_le hr2.1;have hn:n≤65536:=by omega
 have hk2:k=1∨k=2:=by simpa [Za3]using hk
 obtain⟨kd,rfl⟩:∃ kd:Nat,k=(kd:Int):=⟨k.toNat,by omega⟩;have hkd:kd=1∨kd=2:=by omega
 have HCD:=hid (show Zdv (kd:Int) (n:Int) xs=if rOk kd n xs=true then 0 else 1 by unfold Zdv;rw[if_pos hg];simp);have Q6:Hid (rOk kd n xs=false→Zdv (kd:Int) (n:Int) xs=1∧Zgz (kd:Int) (n:Int) xs=0∧Zd4 (kd:Int) (n:Int) xs=[]):=hid (fun h=>by
  have e1:Zdv (kd:Int) (n:Int) xs=1:=by rw[HCD.out,h];rfl
  refine⟨e1,?_,?_⟩
  ·unfold Zgz;rw[e1,if_neg (by decide)]
  ·unfold Zd4;rw[e1,if_neg (by decide)])
 have QG:Hid (rOk kd n xs=true→Zdv (kd:Int) (n:Int) xs=0∧Zgz (kd:Int) (n:Int) xs=n∧Zd4 (kd:Int) (n:Int) xs=Zhs kd n xs):=hid (fun h=>by
  have e1:Zdv (kd:Int) (n:Int) xs=0:=by rw[HCD.out,h];rfl
  refine⟨e1,?_,?_⟩
  ·unfold Zgz;rw[e1,if_pos rfl];simp
  ·unfold Zd4;rw[e1,if_pos rfl];simp)
 generalize Zdv (kd:Int) (n:Int) xs=RC at *;generalize Zgz (kd:Int) (n:Int) xs=RL at *;generalize Zd4 (kd:Int) (n:Int) xs=RX at *;rw[hk]at HK;have hq:((n:Int)+63)/64=(rN n:Int):=by unfold rN;omega
 have hqn:rN n≤1024:=by unfold rN;omega
 have hok:rOk kd n xs=(rHd n xs&&(rPay kd n xs).1&&decide ((rPay kd n xs).2.length=rK n xs)):=rfl;have hcl:Zhs kd n xs=Zdb (cA (rWs n xs)) (cB (rWs n xs) (rPay kd n xs).2) (cC (rWs n xs) (rPay kd n xs).2) n:=rfl;have hhd:rHd n xs=(Zau 8 (rN n) 2 xs.length&&Za8 1 n (rWs n xs)):=rfl;have hpay:rPay kd n xs=payR kd (xs.getD 0 0) (xs.getD 1 0) (rK n xs) (2+8*rN n) xs:=rfl;have hkk:rK n xs=n-Zbe (rWs n xs) n:=rfl;have hwv:∀ x∈rWs n xs,x<18446744073709551616:=Zdu (Zc8 (fun x h=>hb x (List.mem_of_mem_drop h))) (by omega);have YZ:=hid (Zcm v xs 2 8 (rN n) w hx hb hl (.inr rfl) (by omega) (by omega));have hwl:(rWs n xs).length≤16777216:=Zh4 _ _ _ (by rw[List.length_drop];omega) (by omega);rw[show numL 8 (tk (8*rN n) (xs.drop 2))=rWs n xs from rfl]at YZ;have HBM:=hid (fun(w2:World) (u:Value) (h:Rd w2 u (rWs n xs).length 1 (u64s (rWs n xs)))=>Zgv u (rWs n xs) n w2 h hwv (by unfold maxLen;omega));have Vq:=hid (fun(w2:World) (u:Value) (h:Rd w2 u (rWs n xs).length 1 (u64s (rWs n xs)))=>Zrg u (rWs n xs) n n w2 h hwv (by unfold maxLen;omega));have VU:=hid (fun(w2:World) (u:Value) (i:Nat) (hi:i≤65536) (h:Rd w2 u (rWs n xs).length 1 (u64s (rWs n xs)))=>Zfy u (rWs n xs) i w2 h hwv (by unfold maxLen;omega) (by omega));have HPA:=hid (fun(kk:Nat) (hkk:kk≤65536) (h0:2≤xs.length) (w2:World) (h:Below w.heap.size w w2) =>
  Zo3 kd hkd v xs (2+8*rN n) (xs.getD 0 0) (xs.getD 1 0) kk w2 (hx.mono h) hb hl (by omega) hkk
   (hb _ (by simp[List.getD,List.getElem?_eq_getElem (show 0<xs.length by omega)])) (hb _ (by simp[List.getD,List.getElem?_eq_getElem (show 1<xs.length by omega)])))
 have HX:=hid hx;have Vk:=hid hpay;have Z7:=hid hkk;have Yp:=hid hcl;obtain⟨A,ca,rfl,hlc,hcm,hA⟩:=hx.form;obtain⟨nk,hnk⟩:∃ nk,Zau 8 (rN n) 2 xs.length=nk:=⟨_,rfl⟩;rw[hnk]at hhd YZ;have HNK:=hid hnk;clear hx hk hr hg hpay hkk hcl HCD hnk;generalize rWs n xs=ws at *;generalize rN n=q at *;go_enter Tryz.func92,Tryz.ntmps92;cases nk
 ·obtain⟨r1,r2,r3⟩:=Q6.out (by rw[hok,hhd];simp);rw[r1,r2,r3];clear hA hok hhd;simp only[Bool.false_eq_true,if_false]at YZ;go_wp2_with (first
   | (go_at_call 69;refine HK.out.mono ?_;rintro e w1 ⟨rfl,hw⟩;replace hw:=hw.symm;subst hw)
   | (go_at_call 89;refine YZ.out.mono ?_;rintro e w1 ⟨u,rfl,ho1,hb1⟩;have Qa:=hid hb1;clear ho1 hb1))
  go_ret2
  exact⟨_,rfl,World.ownsRow_nil _ _ _ _,Qa.out⟩
 simp only[if_true]at YZ;have hx2:2≤xs.length:=by have:=HNK.out;unfold Zau at this;simp only[decide_eq_true_eq]at this;exact this.1
 obtain⟨ob,hob⟩:∃ ob,Za8 1 n ws=ob:=⟨_,rfl⟩;have hrkv:ob=true→Zeg n n ws=(Zbe ws n:Int):=fun h=>by unfold Zeg;rw[hob,h];simp
 rw[hob]at hhd HBM;clear hob;cases ob
 ·obtain⟨r1,r2,r3⟩:=Q6.out (by rw[hok,hhd];simp);rw[r1,r2,r3];clear hA hok hhd hrkv;go_wp2_with (first
   | (go_at_call 69;refine HK.out.mono ?_;rintro e w1 ⟨rfl,hw⟩;replace hw:=hw.symm;subst hw)
   | (go_at_call 89;refine YZ.out.mono ?_;rintro e w1 ⟨u,rfl,ho1,hb1⟩;have Qa:=hid hb1;have Y1:=hid (Zba ho1);obtain⟨E,ce,rfl,_,_,_,_⟩:=Zaj ho1;clear ho1 hb1)
   | (go_at_call 130;refine(HBM.out w1 _ Y1.out).mono ?_;rintro e w2 ⟨rfl,hw⟩;replace hw:=hw.symm;subst hw)
   | (go_at_call 131;refine(Vq.out w1 _ Y1.out).mono ?_;rintro e w2 ⟨rfl,hw⟩;replace hw:=hw.symm;subst hw))
  go_ret2
  exact⟨_,rfl,World.ownsRow_nil _ _ _ _,Qa.out⟩
 rw[hrkv rfl]at Vq;have hrle:=Zet ws n;obtain⟨kk,hkk⟩:∃ kk,n-Zbe ws n=kk:=⟨_,rfl⟩;have hkki:(n:Int)-(Zbe ws n:Int)=(kk:Int):=by omega
 have hkl:kk≤65536:=by omega
 have HKN:=hid hkk;have HKN0:Hid (∀ m,m=n→m-Zbe ws m=kk):=hid (fun m hm=>by subst hm;exact hkk);rw[Z7.out,hkk]at hok Vk;obtain⟨b,o,rfl,hseg⟩:=hA (by omega);have c0:w.cell? ⟨b,o,none⟩=some (.int .u8 ((xs.getD 0 0:Nat):Int)):=hseg.byte 0 (by omega);have c1:w.cell? ⟨b,o+1,none⟩=some (.int .u8 ((xs.getD 1 0:Nat):Int)):=hseg.byte 1 (by omega);have hbw:b<w.heap.size:=World.block_lt_of_cell? w _ c0;have hv0:xs.getD 0 0<256:=hb _ (by simp[List.getD,List.getElem?_eq_getElem (show 0<xs.length by omega)]);have hv1:xs.getD 1 0<256:=hb _ (by simp[List.getD,List.getElem?_eq_getElem (show 1<xs.length by omega)]);have HPK:=hid (HPA.out kk hkl hx2);rw[← Vk.out]at HPK;have HB:=hid hb;clear HPA hb hseg hA hrkv hkk hrle;generalize xs.getD 0 0=cd at *;generalize xs.getD 1 0=wd at *;generalize rPay kd n xs=RP at *;obtain⟨rb,rv⟩:=RP;simp only[hhd,Bool.true_and]at hok;clear hhd;generalize xs.length=Lx at *;have i0:(0:Int)<(Lx:Int):=by omega
 have i1:(1:Int)<(Lx:Int):=by omega
 have n0:0<Lx:=by omega
 have n1:1<Lx:=by omega
 have z0:¬ Lx=0:=by omega
 have p1:(0:Int)≤1:=by omega
 generalize Zbe ws n=rn at *;obtain⟨nx,hnx⟩:∃ nx,2+8*q=nx:=⟨_,rfl⟩;rw[hnx]at YZ HPK;have iwc:IntKind.i64.wrap (cd:Int)=(cd:Int):=by rw[IntKind.wrap_i64];omega
 have iwd:IntKind.i64.wrap (wd:Int)=(wd:Int):=by rw[IntKind.wrap_i64];omega
 go_upto_region 7 with (first
   | (go_at_call 69;refine HK.out.mono ?_;rintro e w1 ⟨rfl,hw⟩;replace hw:=hw.symm;subst hw)
   | (go_at_call 89;refine YZ.out.mono ?_;rintro e w1 ⟨u,rfl,ho1,hb1⟩;have Qa:=hid hb1;have Y1:=hid (Zba ho1);obtain⟨E,ce,rfl,_,_,_,_⟩:=Zaj ho1;clear ho1 hb1)
   | (go_at_call 130;refine(HBM.out w1 _ Y1.out).mono ?_;rintro e w2 ⟨rfl,hw⟩;replace hw:=hw.symm;subst hw)
   | (go_at_call 131;refine(Vq.out w1 _ Y1.out).mono ?_;rintro e w2 ⟨rfl,hw⟩;replace hw:=hw.symm;subst hw))
 have d0:=(Qa.out.cell (p:=⟨b,o,none⟩) hbw).trans c0;have d1:=(Qa.out.cell (p:=⟨b,o+1,none⟩) hbw).trans c1;have hbw1:b<w1.heap.size:=World.block_lt_of_cell? w1 _ d0;clear c0 c1 YZ HBM Vq HK;have Vr:=hid (fun(w2:World) (h:Below w1.heap.size w1 w2)=>HPK.out w2 (Zad Qa.out h));have HBI1:=hid (fun(w2:World) (i:Nat) (hi:i≤65536) (h:Below w1.heap.size w1 w2)=>VU.out w2 _ i hi (Y1.out.mono h));have hsz1:=Qa.out.size;clear HPK VU Y1 Z7 Vk;have hkki2:(n:Int)-(rn:Int)=(kk:Int):=hkki;cases rb
 ·have Qs:=hid (Q6.out (by rw[hok];simp));clear hok Q6 QG Yp;have HPF:=hid (fun(w2:World) (h:Below w1.heap.size w1 w2)=>(Vr.out w2 h).mono (fun e w' (h:PAns w2 w' e (false,rv))=>show ∃ A m c,e=.returned (.tuple #[.slice A m c,.bool false])∧Below w2.heap.size w2 w' from by obtain⟨u,h1,⟨A,m,c,h2⟩,_,h4⟩:=h;exact⟨A,m,c,by rw[h1,h2],h4⟩));clear Vr;go_region_held3 (fun w'=>w'.cell? ⟨b,o,none⟩=some (.int .u8 (cd:Int))∧w'.cell? ⟨b,o+1,none⟩=some (.int .u8 (wd:Int))) (go_keep)
   (first | (go_at_call 132;refine(HPF.out _ (Zag (Zab w1) 1)).mono ?_;rintro e w3 ⟨A3,m3,c3,rfl,hb3⟩;have Qk:=hid ((Zag (Zab w1) 1).trans hb3);have q0:=(hb3.cell (p:=⟨b,o,none⟩) hbw1).trans d0;have q1:=(hb3.cell (p:=⟨b,o+1,none⟩) hbw1).trans d1;clear hb3))
  go_wp2_with fail
  go_ret2
  rw[Qs.out.1,Qs.out.2.1,Qs.out.2.2];exact⟨_,rfl,World.ownsRow_nil _ _ _ _,Zad Qa.out Qk.out⟩
 have HPT:=hid (fun(w2:World) (h:Below w1.heap.size w1 w2)=>(Vr.out w2 h).mono (fun e w' (h:PAns w2 w' e (true,rv))=>show ∃ A c,e=.returned (.tuple #[.slice A rv.length c,.bool true])∧w'.ownsRow w2.heap.size 36 3 (.slice A rv.length c) rv.length (Zdh rv)∧Below w2.heap.size w2 w' from by
  obtain⟨u,h1,_,h3,h4⟩:=h;have h5:=h3 rfl;simp only at h5;obtain⟨A,c,rfl⟩:=Zb1 h5;exact⟨A,c,h1,h5,h4⟩))
 clear Vr;go_region_held3 (fun w'=>w'.cell? ⟨b,o,none⟩=some (.int .u8 (cd:Int))∧w'.cell? ⟨b,o+1,none⟩=some (.int .u8 (wd:Int))) (go_keep)
  (first | (go_at_call 132;refine(HPT.out _ (Zag (Zab w1) 1)).mono ?_;rintro e w3 ⟨D,cD,rfl,ho3,hb3⟩;have Qk:=hid ((Zag (Zab w1) 1).trans hb3);have Qu:=hid (Zob ho3);have q0:=(hb3.cell (p:=⟨b,o,none⟩) hbw1).trans d0;have q1:=(hb3.cell (p:=⟨b,o+1,none⟩) hbw1).trans d1;clear hb3 ho3))
 have hsz3:=Qk.out.size;have HB03:=hid (Zad Qa.out Qk.out);by_cases hkl2:rv.length=kk
 rotate_left
 ·have Qs:=hid (Q6.out (by rw[hok];simp[hkl2]));have hne:((rv.length:Int) != (kk:Int))=true:=by simp;omega
  clear hok Q6 QG Yp;go_wp2_with fail
  go_ret2
  rw[Qs.out.1,Qs.out.2.1,Qs.out.2.2];exact⟨_,rfl,World.ownsRow_nil _ _ _ _,HB03.out⟩
 have Qs:=hid (QG.out (by rw[hok];simp[hkl2]));have hne:((rv.length:Int) != (kk:Int))=false:=by simp;omega
 have Xk:=hid hkl2;clear hok Q6 QG q0 q1 d0 d1 HPT hkl2;go_wp2_with fail
 go_loopw [13,14,15] (fun s j i wz=>∃ r:Nat,r≤n∧i=.int .i64 r∧j=.int .i64 (r-Zbe ws r:Nat)∧Hid (wz.ownsRow w3.heap.size 36 3 s r (Zdb (cA ws) (cB ws rv) (cC ws rv) r))∧Hid (Below w3.heap.size w3 wz)) (fun _ _ i _=>n-(intOf i).toNat)
 case atStart=>exact⟨0,by omega,rfl,by simp,hid ⟨by simp[Zdb],.inl ⟨rfl,rfl⟩⟩,hid (Zab w3)⟩
 case round =>
  obtain⟨r,hrn,rfl,rfl,Qd,Qg⟩:=hrel;obtain⟨A2,c2,rfl⟩:=Zb1 Qd.out;have hszw:=Qg.out.size;by_cases hlt:r<n
  ·have QE:Hid (Zdb (cA ws) (cB ws rv) (cC ws rv) (r+1)=Zdb (cA ws) (cB ws rv) (cC ws rv) r++[.bool (cA ws r),.int .i64 (cB ws rv r),.string (cC ws rv r)]):=hid rfl;have Xl:=hid (HBI1.out wr r (by omega) (Below.then' Qk.out Qg.out hsz3));have HCA:Hid (cA ws r=Za0 ws r):=hid rfl;have ZL:Hid (cB ws rv r=if Za0 ws r=true then 0 else (rv.getD (r-Zbe ws r) dfP).1):=hid rfl;have JX:Hid (cC ws rv r=if Za0 ws r=true then ByteArray.empty else (rv.getD (r-Zbe ws r) dfP).2):=hid rfl;have hrs:=Ze3 ws r;have hrl:=Zet ws r;have hmono:=Zjf ws (r+1) n (by omega);rw[HKN0.out n rfl]at hmono;rw[HCA.out,ZL.out,JX.out]at QE;obtain⟨bit,hbit⟩:∃ bit,Za0 ws r=bit:=⟨_,rfl⟩;rw[hbit]at Xl QE hrs;clear HCA ZL JX hbit;obtain⟨j,hj⟩:∃ j,r-Zbe ws r=j:=⟨_,rfl⟩;rw[hj]at QE ⊢;cases bit
   ·simp only[Bool.false_eq_true,if_false,Nat.add_zero]at hrs QE;have hjk:j<kk:=by omega
    obtain⟨b',o',hDD,hcells⟩:=(Qu.out.mono Qg.out).atP (by rw[Xk.out];omega);subst hDD;obtain⟨l0,l1,l2⟩:=hcells j (by rw[Xk.out];exact hjk);have hjn:r+1-Zbe ws (r+1)=j+1:=by omega
    have HJN:=hid hjn;have hlen:(j:Int)<(rv.length:Int):=by have:=Xk.out;omega
    clear hcells hrs hrl hmono hj hjn;generalize rv.getD j dfP=X at *;obtain⟨xi,xs'⟩:=X;simp only at l1 l2 QE;generalize rv.length=rl at *;go_wp2_with (first
     | (go_at_call 133;refine Xl.out.mono ?_;rintro e w4 ⟨rfl,hw⟩;replace hw:=hw.symm;subst hw)
     | (at_builtin;refine Zb6 rfl (.tmp 86) (.tmp 91) rfl 36 [.bool false,.int .i64 0,.string ByteArray.empty] 32 Tryz.underlying78 Tryz.infoCell rfl rfl rfl Qd.out hszw (by intro u hu;simp at hu;rcases hu with rfl | rfl | rfl<;>rfl) (by unfold maxLen;omega) (by omega) ?_;intro v' w' ho hb3))
    go_roundw
    case rel =>
     have Yv:=hid ho;rw[← QE.out]at Yv;exact⟨r+1,by omega,by go_num,by rw[HJN.out];go_num,Yv,hid (Below.trans Qg.out hb3)⟩
    case measure=>simp[intOf];omega
   ·simp only[if_true]at hrs QE;have hjn:r+1-Zbe ws (r+1)=j:=by omega
    have HJN:=hid hjn;clear hrs hrl hmono hj hjn;go_wp2_with (first
     | (go_at_call 133;refine Xl.out.mono ?_;rintro e w4 ⟨rfl,hw⟩;replace hw:=hw.symm;subst hw)
     | (at_builtin;refine Zb6 rfl (.tmp 82) (.tmp 84) rfl 36 [.bool false,.int .i64 0,.string ByteArray.empty] 32 Tryz.underlying78 Tryz.infoCell rfl rfl rfl Qd.out hszw (by intro u hu;simp at hu;rcases hu with rfl | rfl | rfl<;>rfl) (by unfold maxLen;omega) (by omega) ?_;intro v' w' ho hb3))
    go_roundw
    case rel =>
     have Yv:=hid ho;rw[show ({ data:=#[] }:ByteArray)=ByteArray.empty from rfl,← QE.out]at Yv;exact⟨r+1,by omega,by go_num,by rw[HJN.out],Yv,hid (Below.trans Qg.out hb3)⟩
    case measure=>simp[intOf];omega
  ·obtain rfl:r=n:=by omega
   go_wp2_with fail
   go_ret2
   rw[Qs.out.1,Qs.out.2.1,Qs.out.2.2,Yp.out];exact⟨_,rfl,Ze0 Qd.out (Nat.le_trans hsz1 hsz3),Below.then' HB03.out Qg.out (Nat.le_trans hsz1 hsz3)⟩
end Go.Proofs.YtmcjknjlihgihaaGreatDoor
