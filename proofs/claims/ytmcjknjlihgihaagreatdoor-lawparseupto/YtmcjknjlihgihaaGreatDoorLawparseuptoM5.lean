/- Strings out of bytes. -/
import Derived.Laws.BytesString
import Derived.Laws.DeepStrings4
import Derived.Test.YtmcjknjlihgihaaGreatDoorLawparseuptoM2
import Derived.Test.YtmcjknjlihgihaaGreatDoorLawparseuptoM4
set_option linter.unusedVariables false
set_option linter.unusedSimpArgs false
set_option linter.unnecessarySimpa false
set_option maxRecDepth 20000
namespace Go.Proofs.YtmcjknjlihgihaaGreatDoor
open Go.RowKit
theorem Zke (a b:Nat) (h:a+b<18446744073709551616):IntKind.u64.wrap ((a:Int)+(b:Int))=((a+b:Nat):Int):=by rw[IntKind.wrap_u64];omega
set_option maxHeartbeats 1000000 in
theorem Zew (x:Nat) (w:World) (hx:x<18446744073709551616):Calls Tryz.prog 189 #[.int .u64 x] w fun e w'=>e=.returned (.int .i64 (L.popN 64 x:Nat))∧w'=w:=by
 obtain⟨a,ha⟩:∃ a,(x/2 &&& 6148914691236517205)+(x &&& 6148914691236517205)=a:=⟨_,rfl⟩;obtain⟨b,hb⟩:∃ b,(a/4 &&& 3689348814741910323)+(a &&& 3689348814741910323)=b:=⟨_,rfl⟩;obtain⟨c,hc⟩:∃ c,(b/16+b) &&& 1085102592571150095=c:=⟨_,rfl⟩;have m0:∀ y,y &&& 6148914691236517205≤6148914691236517205:=fun y=>Nat.and_le_right
 have m1:∀ y,y &&& 3689348814741910323≤3689348814741910323:=fun y=>Nat.and_le_right
 have hal:a≤12297829382473034410:=by have:=m0 (x/2);have:=m0 x;omega
 have hbl:b≤7378697629483820646:=by have:=m1 (a/4);have:=m1 a;omega
 have hsw:=L.swar_pop x hx;have hs3:L.swar3 x=c:=by unfold L.swar3;simp only;rw[ha,hb,hc]
 have h1:IntKind.u64.wrap (bits BinOp.and IntKind.u64 ((x:Int)/2) 6148914691236517205+bits BinOp.and IntKind.u64 (x:Int) 6148914691236517205)=(a:Int):=by
  have e1:=u64_and_nat (x/2) 6148914691236517205 (by omega) (by decide);have e2:=u64_and_nat x 6148914691236517205 hx (by decide);have e3:((x:Int)/2)=((x/2:Nat):Int):=by simp
  rw[e3,show (6148914691236517205:Int)=((6148914691236517205:Nat):Int)from rfl,e1,e2,Zke _ _ (by have:=m0 (x/2);have:=m0 x;omega),ha]
 have h2:IntKind.u64.wrap (bits BinOp.and IntKind.u64 ((a:Int)/4) 3689348814741910323+bits BinOp.and IntKind.u64 (a:Int) 3689348814741910323)=(b:Int):=by
  have e1:=u64_and_nat (a/4) 3689348814741910323 (by omega) (by decide);have e2:=u64_and_nat a 3689348814741910323 (by omega) (by decide);have e3:((a:Int)/4)=((a/4:Nat):Int):=by simp
  rw[e3,show (3689348814741910323:Int)=((3689348814741910323:Nat):Int)from rfl,e1,e2,Zke _ _ (by have:=m1 (a/4);have:=m1 a;omega),hb]
 have h3:bits BinOp.and IntKind.u64 (IntKind.u64.wrap ((b:Int)/16+(b:Int))) 1085102592571150095=(c:Int):=by
  have e3:((b:Int)/16)=((b/16:Nat):Int):=by simp
  have hb16:b/16+b<18446744073709551616:=by omega
  have e1:=u64_and_nat (b/16+b) 1085102592571150095 hb16 (by decide);rw[e3,Zke _ _ hb16,show (1085102592571150095:Int)=((1085102592571150095:Nat):Int)from rfl,e1,hc]
 rw[hs3]at hsw;have HSW:=hid hsw;have JF:=hid hs3;clear ha hb hc m0 m1 hal hbl hs3 hsw;obtain⟨d,hd⟩:∃ d,c+c/256=d:=⟨_,rfl⟩;obtain⟨e,he⟩:∃ e,d+d/65536=e:=⟨_,rfl⟩;obtain⟨f,hf⟩:∃ f,e+e/4294967296=f:=⟨_,rfl⟩;have hcl:=HSW.out.2;have h4:IntKind.u64.wrap ((c:Int)+(c:Int)/256)=(d:Int):=by
  have e3:((c:Int)/256)=((c/256:Nat):Int):=by simp
  rw[e3,Zke _ _ (by omega),hd]
 have h5:IntKind.u64.wrap ((d:Int)+(d:Int)/65536)=(e:Int):=by
  have e3:((d:Int)/65536)=((d/65536:Nat):Int):=by simp
  rw[e3,Zke _ _ (by omega),he]
 have h6:IntKind.u64.wrap ((e:Int)+(e:Int)/4294967296)=(f:Int):=by
  have e3:((e:Int)/4294967296)=((e/4294967296:Nat):Int):=by simp
  rw[e3,Zke _ _ (by omega),hf]
 have hfl:f<9223372036854775808:=by omega
 have HP:Hid (f%128=L.popN 64 x):=by
  refine hid ?_;rw[← HSW.out.1];unfold L.swar;simp only;rw[JF.out,hd,he,hf]
 have JD:=hid hfl;clear hd he hf hcl hfl;go_enter Tryz.func189,Tryz.ntmps189;go_wp2;go_ret;refine⟨Zc0 ?_,rfl⟩;rw[i64_and127];have h7:wrap64 (f:Int)=(f:Int):=by have:=JD.out;unfold wrap64;omega
 rw[h7,← HP.out];simp
theorem Zi8 (x:Nat) (w:World) (hx:x<18446744073709551616):Calls Tryz.prog 187 #[.int .u64 x] w fun e w'=>e=.returned (.int .i64 (L.popN 64 x:Nat))∧w'=w:=by
 go_enter Tryz.func187,Tryz.ntmps187;go_wp2_with (go_at_call 189;refine(Zew x _ hx).mono ?_;rintro e w' ⟨rfl,rfl⟩)
 go_ret;exact⟨rfl,rfl⟩
def popL:List Nat→Nat
 | []=>0
 | x :: xs=>L.popN 64 x+popL xs
theorem Ziu (a b:List Nat):popL (a++b)=popL a+popL b:=by
 induction a with
 | nil=>simp[popL]
 | cons x a ih=>simp only[List.cons_append,popL,ih];omega
theorem Zmw (a:List Nat):popL a≤64*a.length:=by
 induction a with
 | nil=>simp[popL]
 | cons x a ih=>simp only[popL,List.length_cons];have:=L.popN_le 64 x;omega
set_option maxHeartbeats 400000 in
theorem Zrm (v:Value) (xs:List Nat) (w:World) (hx:Rd w v xs.length 1 (u64s xs)) (hv:∀ x∈xs,x<18446744073709551616) (hl:xs.length≤65536) :
  Calls Tryz.prog 186 #[v] w fun e w'=>e=.returned (.int .i64 (popL xs:Nat))∧w'=w:=by
 obtain⟨A,ca,rfl,hlc,hcm,hA⟩:=hx.form;clear hx hlc hcm;go_enter Tryz.func186,Tryz.ntmps186;go_wp2;go_loop [3,8] (fun c i=>∃ j:Nat,j≤xs.length∧i=.int .i64 j∧c=.int .i64 (popL (xs.take j):Nat)) (fun _ i=>xs.length-(intOf i).toNat)
 case atStart=>exact⟨0,by omega,rfl,by simp[popL]⟩
 case round =>
  obtain⟨j,hj,rfl,rfl⟩:=hrel;by_cases hlt:j<xs.length
  ·obtain⟨b,o,rfl,hs⟩:=hA (by omega);have c1:=hs.word j hlt;have HX:=hid (hv (xs.getD j 0) (by simp[List.getD,List.getElem?_eq_getElem hlt]));have HT:Hid (popL (xs.take (j+1))=popL (xs.take j)+L.popN 64 (xs.getD j 0)):=by
    refine hid ?_;rw[List.take_succ_eq_append_getElem hlt,Ziu];simp[popL,List.getD,List.getElem?_eq_getElem hlt]
   have hle:=Zmw (xs.take j);have hll:(xs.take j).length=j:=by rw[List.length_take];omega
   rw[hll]at hle;have hp:=L.popN_le 64 (xs.getD j 0);clear hs hA hll;generalize xs.getD j 0=x at *;generalize popL (xs.take j)=a at *;have HC:=hid (Zi8 x w HX.out);generalize L.popN 64 x=pc at *;go_wp2_with (go_at_call 187;refine HC.out.mono ?_;rintro e w' ⟨rfl,rfl⟩)
   go_round
   case rel=>exact⟨j+1,by omega,by go_num,by rw[HT.out];go_num⟩
   case measure=>simp[intOf];omega
  ·go_wp2;go_ret;rw[show j=xs.length from by omega,List.take_length];exact⟨rfl,rfl⟩
def Zaw (ws:List Nat) (i:Nat):Nat:=((List.range i).filter (Zar ws)).length
theorem Zc9 (ws:List Nat) (i:Nat):Zaw ws (i+1)=Zaw ws i+if Zar ws i then 1 else 0:=by
 unfold Zaw;rw[List.range_succ,List.filter_append,List.length_append];congr 1
 cases h:Zar ws i<;>simp[List.filter_cons,h]
theorem Zkb (ws:List Nat) (q r:Nat) (hr:r≤64):Zaw ws (64*q+r)=Zaw ws (64*q)+L.popN r (ws.getD q 0):=by
 induction r with
 | zero=>simp[L.popN]
 | succ r ih =>
  rw[← Nat.add_assoc,Zc9,ih (by omega),L.popN_snoc];have e:Zar ws (64*q+r)=(ws.getD q 0).testBit r:=by
   unfold Zar;rw[show (64*q+r)/64=q from by omega,show (64*q+r)%64=r from by omega]
  rw[e];omega
theorem Zmh (ws:List Nat) (q:Nat) (hq:q≤ws.length):Zaw ws (64*q)=popL (ws.take q):=by
 induction q with
 | zero=>simp[Zaw,popL]
 | succ q ih =>
  rw[show 64*(q+1)=64*q+64 from by omega,Zkb ws q 64 (by omega),ih (by omega),List.take_succ_eq_append_getElem (by omega),Ziu];simp[popL,List.getD,List.getElem?_eq_getElem (show q<ws.length by omega)]
theorem Zy8 (x r:Nat) (hr:r≤64):L.popN 64 (x &&& (2^r-1))=L.popN r x:=by
 rw[Nat.and_two_pow_sub_one_eq_mod];have h:=L.popN_add r (64-r) (x%2^r);rw[show r+(64-r)=64 from by omega,L.popN_mod,Nat.div_eq_of_lt (Nat.mod_lt _ (Nat.pow_pos (by omega)))]at h;have hz:∀ k,L.popN k 0=0:=by intro k;induction k with | zero=>rfl | succ k ih=>simp[L.popN,ih]
 rw[h,hz,Nat.add_zero]
theorem Zrz (v:Value) (xs:List Nat) (n:Int) (w:World) (hx:Rd w v xs.length 1 (u64s xs)) (hv:∀ x∈xs,x<18446744073709551616) (hl:xs.length≤maxLen) :
  Calls Tryz.prog 185 #[v,.int .i64 n] w fun e w'=>e=.returned (.bool (Za9 1 n xs))∧w'=w:=by
 have H:=hid (Zjb v xs 1 n w hx hv hl);clear hx hl;go_enter Tryz.func185,Tryz.ntmps185;go_wp2_with (go_at_call 224;refine H.out.mono ?_;rintro e w' ⟨rfl,rfl⟩)
 go_ret;exact⟨rfl,rfl⟩
def Zee (n i:Int) (xs:List Nat):Int:=if Za9 1 n xs=true∧0≤i∧i≤n then (Zaw xs i.toNat:Int)else -1
theorem Rd.take {w:World} {A:Option Addr} {n cap:Nat} {xs:List Nat} (h:Rd w (.slice A n cap) n 1 (u64s xs)) (q:Nat) (hq:q≤n):Rd w (.slice A q cap) q 1 (u64s (xs.take q)):=by
 have hl:xs.length=n:=by have:=h.1;simpa [u64s]using this
 have e:u64s (xs.take q)=(u64s xs).take q:=by simp[u64s,List.map_take]
 rcases h.2 with ⟨⟨A',hA'⟩,rfl⟩ | ⟨b,o,cap',hA',h1,h2,hs⟩
 ·have:q=0:=by omega
  subst this;simp only[Value.slice.injEq]at hA';obtain⟨rfl,-,rfl⟩:=hA';exact⟨by simp[u64s],.inl ⟨⟨_,rfl⟩,rfl⟩⟩
 ·simp only[Value.slice.injEq]at hA';obtain⟨rfl,-,rfl⟩:=hA';refine⟨by rw[e];simp[u64s];omega,.inr ⟨b,o,_,rfl,by omega,h2,?_⟩⟩;intro i v hv;rw[e,List.getElem?_take]at hv
  split at hv
  ·exact hs i v hv
  ·cases hv
set_option maxHeartbeats 1000000 in
theorem Zll (v:Value) (xs:List Nat) (n i:Int) (w:World) (hx:Rd w v xs.length 1 (u64s xs)) (hv:∀ x∈xs,x<18446744073709551616) (hl:xs.length≤maxLen) :
  Calls Tryz.prog 154 #[v,.int .i64 n,.int .i64 i] w fun e w'=>e=.returned (.int .i64 (Zee n i xs))∧∃ m,w'=w.drewN m:=by
 obtain⟨A,ca,rfl,hlc,hcm,hA⟩:=hx.form;have H:=hid (Zrz _ xs n w hx hv hl);obtain⟨R,hR⟩:∃ R,Zee n i xs=R:=⟨_,rfl⟩;rw[hR];have HR:=hid hR;clear hR;generalize hok:Za9 1 n xs=ok at *;have Q3:=hid hok;have HV:=hid hv;clear hok hv;go_enter Tryz.func154,Tryz.ntmps154;cases ok
 ·go_wp2_with (go_at_call 185;refine H.out.mono ?_;rintro e w' ⟨rfl,rfl⟩)
  go_ret;exact⟨Zc0 (by rw[← HR.out,Zee,if_neg (by rw[Q3.out];simp)]),0,rfl⟩
 ·by_cases h0:i<0
  ·go_wp2_with (go_at_call 185;refine H.out.mono ?_;rintro e w' ⟨rfl,rfl⟩)
   go_ret;exact⟨Zc0 (by rw[← HR.out,Zee,if_neg (by omega)]),0,rfl⟩
  ·by_cases h1:n<i
   ·go_wp2_with (go_at_call 185;refine H.out.mono ?_;rintro e w' ⟨rfl,rfl⟩)
    go_ret;exact⟨Zc0 (by rw[← HR.out,Zee,if_neg (by omega)]),0,rfl⟩
   ·obtain⟨k,rfl⟩:=Int.eq_ofNat_of_zero_le (show 0≤i by omega);obtain⟨m,rfl⟩:=Int.eq_ofNat_of_zero_le (show 0≤n by omega);have hm:m≤65536:=by
     refine Decidable.byContradiction fun hc=>?_
     have:=Q3.out;rw[Zda _ (by omega)]at this;cases this
    have hlen:xs.length=(m+63)/64:=((Zbl (wd:=1) (n:=m) xs (by decide) hm).1 Q3.out).1.trans (by rw[L.nWords_cases (by decide) (by decide)];simp only[Nat.div_one];split<;>omega);obtain⟨q,hq⟩:∃ q,k/64=q:=⟨_,rfl⟩;obtain⟨r,hr⟩:∃ r,k%64=r:=⟨_,rfl⟩;have hq':(k:Int)/64=(q:Int):=by omega
    have hr':(k:Int)%64=(r:Int):=by omega
    have hr64:r<64:=by omega
    have hqx:q≤xs.length:=by omega
    have HQ:Hid (R=((Zaw xs (64*q+r):Nat):Int)):=by
     refine hid ?_;rw[← HR.out,Zee,if_pos ⟨Q3.out,by omega,by omega⟩];congr 2;simp;omega
    have hqs:r≠0→q<xs.length:=by omega
    have Yi:=hid hqs;have HC:=hid (Zrm _ (xs.take q) w (by have:=hx.take q hqx;rwa [show (xs.take q).length=q from by simp;omega]) (fun x hx=>HV.out x (List.mem_of_mem_take hx)) (by simp;omega));have Yb:=hid (Zmh xs q hqx);have Zp:=hid (Zmw (xs.take q));generalize popL (xs.take q)=pc at *;clear hq hr hlen hqs;by_cases hr0:r=0
    ·have Qg:=hid hr0;have hrz:((r:Int)==0)=true:=by simpa using hr0
     clear hr0;go_wp2_with (first | (go_at_call 185;refine H.out.mono ?_;rintro e w' ⟨rfl,rfl⟩) | (go_at_call 186;refine HC.out.mono ?_;rintro e w' ⟨rfl,rfl⟩))
     go_ret;exact⟨Zc0 (by rw[HQ.out,Qg.out,Nat.add_zero,Yb.out]),0,rfl⟩
    ·have hrz:((r:Int)==0)=false:=by simpa using hr0
     have hqlt:=Yi.out hr0;obtain⟨b,o,rfl,hs⟩:=hA (by omega);have c1:=hs.word q hqlt;have hxv:=HV.out (xs.getD q 0) (by simp[List.getD,List.getElem?_eq_getElem hqlt]);have Uh:=hid (Zkb xs q r (by omega));have hpn:=Zy8 (xs.getD q 0) r (by omega);have ZJ:=hid (u64_and_nat (xs.getD q 0) (2^r-1) hxv (by have:=Zcw (show r≤64 by omega);omega));have hxa:xs.getD q 0 &&& (2^r-1)<18446744073709551616:=Nat.lt_of_le_of_lt Nat.and_le_left hxv;have HCW:=hid (fun w=>Zi8 _ w hxa);have hple:=L.popN_le r (xs.getD q 0);rw[hpn]at HCW;generalize xs.getD q 0 &&& (2^r-1)=xa at *;generalize L.popN r (xs.getD q 0)=pw at *;generalize xs.getD q 0=x at *;have HL:=hid (fun w=>Zeg r w (by omega));generalize 2^r-1=lo at *;clear hs hA hr0 hxv hpn hxa;have hpl:pc≤4194304:=by have:=Zp.out;rw[List.length_take]at this;omega
     go_wp2_with (first | (go_at_call 185;refine H.out.mono ?_;rintro e w' ⟨rfl,rfl⟩) | (go_at_call 186;refine HC.out.mono ?_;rintro e w' ⟨rfl,rfl⟩))
     go_quiet (first | (go_at_call 188;exact Calls.quiet_of_same (HL.out _)) | (go_at_call 187;try rw[ZJ.out];exact Calls.quiet_of_same (HCW.out _)))
     go_wp2;go_ret;refine⟨Zc0 ?_,_,rfl⟩;rw[HQ.out,Uh.out,Yb.out];go_num
theorem Zxq (ws:List Nat) (x:Nat):popL (ws++[x])=popL ws+L.popN 64 x:=by rw[Ziu];simp[popL]
def befL (ws:List Nat):List Int:=(List.range ws.length).map fun k=>(popL (ws.take k):Int)
theorem Zgg (ws:List Nat):(befL ws).length=ws.length:=by simp[befL]
theorem Zlh (ws:List Nat) (k:Nat) (h:k<ws.length):(befL ws).getD k 0=(popL (ws.take k):Int):=by
 simp[befL,List.getD,List.getElem?_map,List.getElem?_range h]
set_option maxHeartbeats 2000000 in
theorem Zhb (v:Value) (xs:List Nat) (w:World) (hx:Rd w v xs.length 1 (u64s xs)) (hv:∀ x∈xs,x<18446744073709551616) (hl:xs.length≤65536) :
  Calls Tryz.prog 155 #[v] w fun e w'=>e=.returned (.slice (some ⟨w.heap.size,0,none⟩) xs.length xs.length)∧Row w' w.heap.size 3 (i64s (befL xs))∧Below w.heap.size w w':=by
 obtain⟨A,ca,rfl,hlc,hcm,hA⟩:=hx.form;have HX:=hid hx;clear hx hA;obtain⟨p,hp⟩:∃ p,w.heap.size=p:=⟨_,rfl⟩;have HP:=hid hp;rw[hp];clear hp;go_enter Tryz.func155,Tryz.ntmps155;go_wp2;refine Zcx 3 (.int .i64 0) 8 Tryz.underlying23 Tryz.infoI64 rfl xs.length (by omega) (by omega) (by omega) (by unfold maxLen;omega) ?_;intro w1 hrow hb1 hsz1;rw[HP.out]at hrow hb1 hsz1 ⊢;have Qq:=hid hrow;have Qa:=hid hb1;have Up:=hid (HX.out.mono (by rw[HP.out];exact hb1));have hp1:p<w1.heap.size:=by omega
 clear hrow hb1;go_wp2;go_loopw [4,12] (fun u i wr=>∃ j:Nat,j≤xs.length∧i=.int .i64 j∧u=.int .i64 (popL (xs.take j):Nat)∧Row wr p 3 (i64s ((List.range j).map fun k=>(popL (xs.take k):Int))++List.replicate (xs.length-j) (.int .i64 0))∧Below p w1 wr) (fun _ i _=>xs.length-(intOf i).toNat)
 case atStart=>exact⟨0,by omega,rfl,by simp[popL],by simpa [i64s]using Qq.out,Below.refl _ _⟩
 case round =>
  obtain⟨j,hj,rfl,rfl,hr,hb⟩:=hrel;by_cases hlt:j<xs.length
  ·have hcell:wr.cell? ⟨p,j,none⟩=some (.int .i64 0):=by
    rw[hr.cell];exact Zfm _ _ _ _ (by simp[i64s]) (by omega)
   have hfr:=hr.frozen j;have hx2:Rd wr (.slice A xs.length ca) xs.length 1 (u64s xs):=HX.out.mono (by rw[HP.out];exact Qa.out.trans hb);obtain⟨A',ca',he,_,_,hA⟩:=hx2.form;cases he;obtain⟨b,o,rfl,hs⟩:=hA (by omega);have c1:=hs.word j hlt;have hvj:xs.getD j 0<18446744073709551616:=hv _ (by simp[List.getD,List.getElem?_eq_getElem hlt]);have hsn:popL (xs.take (j+1))=popL (xs.take j)+L.popN 64 (xs.getD j 0):=by
    rw[List.take_succ_eq_append_getElem hlt,Zxq];simp[List.getD,List.getElem?_eq_getElem hlt]
   have hpl:=Zmw (xs.take j);have hpl2:=L.popN_le 64 (xs.getD j 0);rw[List.length_take,Nat.min_eq_left hj]at hpl;have Yb:=hid hr;have QJ:=hid hsn;clear hr hs hA hx2 hsn;generalize ha:popL (xs.take j)=a at *;have HA':=hid ha;clear ha;generalize hq:xs.getD j 0=q at *;clear hq;go_wp2_with (go_at_call 189;refine(Zew q _ hvj).mono ?_;rintro e w3 ⟨rfl,hw⟩;subst hw)
   go_roundw
   case rel =>
    refine⟨j+1,by omega,by go_num,?_,?_,Zad hb _ _ _ (Nat.le_refl _)⟩
    ·rw[QJ.out];go_num
    ·have hss:=Yb.out.set j (.int .i64 (a:Nat));rw[Zfo _ _ _ _ _ (by simp[i64s]) (by omega)]at hss;rw[List.range_succ,List.map_append,Ze5,List.map_singleton,HA'.out,← Nat.sub_sub xs.length j 1];exact hss
   case measure=>simp[intOf];omega
  ·obtain rfl:j=xs.length:=by omega
   go_wp2;go_ret;refine⟨rfl,?_,Qa.out.trans hb⟩;have:=hr;rw[Nat.sub_self,List.replicate_zero,List.append_nil]at this;exact this
theorem Zv0 (x:Int) (w:World):Calls Tryz.prog 293 #[.int .i64 x] w fun e w'=>e=.returned (.bool false)∧w'=w:=by
 have e1:(x != x)=false:=by simp
 go_enter Tryz.func293,Tryz.ntmps293;go_wp2;go_ret;exact⟨rfl,rfl⟩
theorem Zwe (x:Int) (w:World):Calls Tryz.prog 281 #[.int .i64 x] w fun e w'=>e=.returned (.bool false)∧w'=w:=by
 have e1:(x != x)=false:=by simp
 go_enter Tryz.func281,Tryz.ntmps281;go_wp2;go_ret;exact⟨rfl,rfl⟩
theorem Zzc (x y:Int) (w:World):Calls Tryz.prog 280 #[.int .i64 x,.int .i64 y] w fun e w'=>e=.returned (.bool (decide (x<y)))∧w'=w:=by
 go_enter Tryz.func280,Tryz.ntmps280;go_wp2_with (go_at_call 293;refine(Zv0 _ _).mono ?_;rintro e w' ⟨rfl,rfl⟩)
 all_goals go_ret
 all_goals exact⟨rfl,rfl⟩
def Zb7 (es:List Int) (t:Int):Nat:=es.findIdx fun e=>decide (t≤e)
theorem Zhv (es:List Int) (t:Int) (i:Nat) (hi:i≤es.length) (h1:∀ a,a<i→es.getD a 0<t) (h2:i<es.length→t≤es.getD i 0):Zb7 es t=i:=by
 unfold Zb7;by_cases hlt:i<es.length
 ·rw[List.findIdx_eq hlt];refine⟨?_,fun j hj=>?_⟩
  ·have:=h2 hlt;simpa [List.getD,List.getElem?_eq_getElem hlt]using this
  ·have:=h1 j hj;have hjl:j<es.length:=by omega
   simp only[List.getD,List.getElem?_eq_getElem hjl,Option.getD_some]at this;simpa using this
 ·have:i=es.length:=by omega
  rw[this,List.findIdx_eq_length];intro x hx;obtain⟨j,hj,rfl⟩:=List.getElem_of_mem hx;have:=h1 j (by omega);simp only[List.getD,List.getElem?_eq_getElem hj,Option.getD_some]at this;simpa using this
set_option maxHeartbeats 2000000 in
theorem Zgv (v:Value) (es:List Int) (t:Int) (w:World) (hx:Rd w v es.length 1 (i64s es)) (hl:es.length≤16777216) (hup:∀ a b,a<b→b<es.length→es.getD a 0<es.getD b 0) :
  Calls Tryz.prog 253 #[v,.int .i64 t] w fun e w'=>(∃ b:Value,e=.returned (.tuple #[.int .i64 (Zb7 es t:Nat),b]))∧∃ n,w'=w.drewN n:=by
 obtain⟨A,ca,rfl,hlc,hcm,hA⟩:=hx.form;have HX:=hid hx;have Xm:=hid hup;clear hx hup;go_enter Tryz.func253,Tryz.ntmps253;go_wp2;go_loop [7,8] (fun u x=>∃ i j:Nat,i≤j∧j≤es.length∧u=.int .i64 i∧x=.int .i64 j∧(∀ a,a<i→es.getD a 0<t)∧(∀ a,j≤a→a<es.length→t≤es.getD a 0)) (fun u x=>(intOf x).toNat-(intOf u).toNat)
 case atStart=>exact⟨0,es.length,by omega,by omega,rfl,rfl,fun a h=>by omega,fun a h1 h2=>by omega⟩
 case round =>
  obtain⟨i,j,hij,hj,rfl,rfl,h1,h2⟩:=hrel;have H1:=hid h1;have H2:=hid h2;clear h1 h2;by_cases hlt:i<j
  ·obtain⟨b,o,rfl,hs⟩:=hA (by omega);obtain⟨m,hm⟩:∃ m,(i+j)/2=m:=⟨_,rfl⟩;have hm':((i:Int)+(j:Int))/2=(m:Int):=by omega
   have hml:m<es.length:=by omega
   have c1:=hs.int m hml;have him:i≤m:=by omega
   have hmj:m<j:=by omega
   have Yi:Hid (es.getD m 0<t→∀ a,a<m+1→es.getD a 0<t):=by
    intro h a ha;by_cases ham:a=m
    ·subst ham;exact h
    ·have:=Xm.out a m (by omega) hml;omega
   have HGE:Hid (t≤es.getD m 0→∀ a,m≤a→a<es.length→t≤es.getD a 0):=by
    intro h a ha1 ha2;by_cases ham:a=m
    ·subst ham;exact h
    ·have:=Xm.out m a (by omega) ha2;omega
   clear hs hA hm;generalize es.getD m 0=x at *;go_wp2_with (go_at_call 280;refine(Zzc _ _ _).mono ?_;rintro e w' ⟨rfl,hw⟩;subst hw)
   ·go_round
    case rel=>exact⟨m+1,j,by omega,by omega,by go_num,rfl,Yi.out (by assumption),H2.out⟩
    case measure=>simp[intOf];omega
   ·go_round
    case rel=>exact⟨i,m,by omega,by omega,rfl,rfl,H1.out,HGE.out (by omega)⟩
    case measure=>simp[intOf];omega
  ·have hf:Zb7 es t=i:=Zhv es t i (by omega) H1.out (fun h=>H2.out i (by omega) h);have HF:=hid hf;clear hf;by_cases hie:i<es.length
   ·obtain⟨b,o,rfl,hs⟩:=hA (by omega);have c1:=hs.int i hie;clear hs hA;generalize es.getD i 0=x at *;go_wp2_with (go_at_call 281;refine(Zwe _ _).mono ?_;rintro e w' ⟨rfl,hw⟩;subst hw)
    all_goals go_ret2
    all_goals exact⟨⟨_,by rw[HF.out];rfl⟩,0,rfl⟩
   ·go_wp2
    all_goals go_ret2
    all_goals exact⟨⟨_,by rw[HF.out];rfl⟩,0,rfl⟩
def Zay (last:Int):List Int→Option Int
 | []=>some last
 | e :: r=>if e<last∨e-last > 1024 then none else Zay e r
theorem Zfp (es:List Int):∀(l e:Int),Zay l (es++[e])=(Zay l es).bind fun x=>if e<x∨e-x > 1024 then none else some e:=by
 induction es with
 | nil=>intro l e;simp[Zay]
 | cons a r ih =>
         intro l e;simp only[List.cons_append,Zay];split
         ·rfl
         ·exact ih a e
theorem Zq8 (es fs:List Int):∀ l,Zay l es=none→Zay l (es++fs)=none:=by
 induction es with
 | nil=>intro l h;simp[Zay]at h
 | cons a r ih =>
         intro l h;simp only[List.cons_append,Zay]at h ⊢;split
         ·rfl
         ·rename_i hc;rw[if_neg hc]at h;exact ih a h
def tsz (es:List Int):Int:=(Zay 0 es).getD 0
set_option maxHeartbeats 1000000 in
theorem Zkz (v:Value) (es:List Int) (w:World) (hx:Rd w v es.length 1 (i64s es)) (hl:es.length≤16777216) (hs:∀ e∈es,0≤e∧e<4294967296) :
  Calls Tryz.prog 316 #[v] w fun e w'=>e=.returned (.tuple #[.int .i64 (tsz es),.bool (Zay 0 es).isSome])∧w'=w:=by
 obtain⟨A,ca,rfl,hlc,hcm,hA⟩:=hx.form;clear hx;go_enter Tryz.func316,Tryz.ntmps316;go_wp2;go_loop [4,9] (fun u i=>∃(j:Nat) (l:Int),j≤es.length∧i=.int .i64 j∧u=.int .i64 l∧Zay 0 (es.take j)=some l∧0≤l∧l<4294967296) (fun _ i=>es.length-(intOf i).toNat)
 case atStart=>exact⟨0,0,by omega,rfl,rfl,rfl,by omega,by omega⟩
 case round =>
  obtain⟨j,l,hj,rfl,rfl,hu,hl0,hl1⟩:=hrel;have HU:=hid hu;clear hu;by_cases hlt:j<es.length
  ·obtain⟨b,o,rfl,hseg⟩:=hA (by omega);have c1:=hseg.int j hlt;have hb:=hs (es.getD j 0) (by simp[List.getD,List.getElem?_eq_getElem hlt]);have hsn:Zay 0 (es.take (j+1))=if es.getD j 0<l∨es.getD j 0-l > 1024 then none else some (es.getD j 0):=by
    rw[List.take_succ_eq_append_getElem hlt,Zfp,HU.out];simp[List.getD,List.getElem?_eq_getElem hlt]
   have HB:Hid (Zay 0 (es.take (j+1))=none→Zay 0 es=none):=by
    intro h;have:=Zq8 (es.take (j+1)) (es.drop (j+1)) 0 h
    rwa [List.take_append_drop]at this
   have QJ:=hid hsn;clear hsn hseg hA hs;generalize es.getD j 0=p at *;go_wp2
   all_goals first
    | (
     go_ret2
     have h:=HB.out (by rw[QJ.out,if_pos (by omega)]);exact⟨by rw[tsz,h];rfl,rfl⟩)
    | (
     go_round
     case rel=>exact⟨j+1,p,by omega,by go_num,rfl,by rw[QJ.out,if_neg (by omega)],by omega,by omega⟩
     case measure=>simp[intOf];omega)
  ·go_wp2;go_ret2
   have hu:=HU.out;rw[show j=es.length from by omega,List.take_length]at hu;exact⟨by rw[tsz,hu];rfl,rfl⟩
theorem Zb5 {w w':World} {B a b:Nat} {e:TypeId} {v:Value} {n:Nat} {cs:List Value} (h:w.ownsRow B e 1 v n cs) (hc:Chg a b w w') (ha:a<B) (hb:b<B):w'.ownsRow B e 1 v n cs:=by
 refine⟨h.1,?_⟩;rcases h.2 with hn | ⟨g,cap,cur,rfl,hb',hg,r⟩
 ·exact .inl hn
 ·exact .inr ⟨g,cap,cur,rfl,hb',by rw[hc.block g (Array.getElem?_eq_some_iff.1 hg).1 (by omega) (by omega)];exact hg,r⟩
def Zcf (x:Nat):Int:=wrap64 (x:Int)
theorem Tryz.info64:(Tryz.prog.info? 2).map (fun i=>(i.zero,i.size,i.bytes))=some (some (.int .i64 0),1,8):=by kernel_rfl
def rdI (c:Nat) (xs:List Nat) (s:Bool):List Int×Bool×List Nat×Bool:=((numL 8 (tk (8*c) xs)).map Zcf,!tkS (8*c) xs s,tkL (8*c) xs,tkS (8*c) xs s)
set_option maxHeartbeats 2000000 in
theorem Zgp (w0 w:World) (g:Nat) (xs:List Nat) (s:Bool) (c:Nat) (h:Zaq w0 w g xs s) (hgs:g<w.heap.size) (hv:∀ x∈xs,x<256) (hl:xs.length≤16777216) (hc:c≤4294967296) :
  Calls Tryz.prog 321 #[.agg #[],.pointer (some ⟨g,0,none⟩),.int .i64 c] w fun e w'=>∃ v,e=.returned (.tuple #[v,.bool (rdI c xs s).2.1]) ∧
   w'.ownsRow w.heap.size 2 1 v (rdI c xs s).1.length (i64s (rdI c xs s).1)∧Zaq w0 w' g (rdI c xs s).2.2.1 (rdI c xs s).2.2.2∧Chg g g w w':=by
 obtain⟨ys,hys⟩:∃ ys,numL 8 (tk (8*c) xs)=ys:=⟨_,rfl⟩;have hyv:∀ x∈ys,x<18446744073709551616:=by rw[← hys];exact Zdz (Zdh hv) (by omega)
 have hyl:ys.length≤16777216:=by
  rw[← hys,Zan];unfold tk;split
  ·rw[List.length_take];omega
  ·simp
 have HY:=hid hys;obtain⟨s1,hs1⟩:∃ s1,tkS (8*c) xs s=s1:=⟨_,rfl⟩;have YJ:=hid hs1;obtain⟨B,hB⟩:∃ B,w.heap.size=B:=⟨_,rfl⟩;have HB:=hid hB;have e0:rdI c xs s=(ys.map Zcf,!s1,tkL (8*c) xs,s1):=by rw[← hys,← hs1];rfl
 rw[e0,hB];have HC:=hid (fun(w2:World) (h2:Zaq w0 w2 g xs s) (hg2:g<w2.heap.size)=>Zhw w0 w2 g xs s c h2 hg2 hv hl hc);have H:=hid h;clear hys hs1 hB e0 h hv;go_enter Tryz.func321,Tryz.ntmps321;go_wp2_with fail
 have hba:Below w.heap.size w (w.alloc (.cells #[] 159)):=(Zab w).alloc (Nat.le_refl _) _;refine(HC.out _ (H.out.mono hba) (Nat.lt_of_lt_of_le hgs hba.size)).mono ?_;rintro e w1 ⟨p,hp,rfl,hrow,hat,hch⟩;rw[HY.out]at hrow ⊢;rw[YJ.out]at hat;have Yd:=hid hat;have Ya:Hid (Chg g g w w1):=hid ((Chg.of_below hba).trans hch);have Qq:=hid hrow;have hpw:w.heap.size≤p:=Nat.le_trans hba.size hp;have hpg:p≠g:=by omega
 clear hrow hat hch hba hp HC H;go_wp2;refine Zcx 2 (.int .i64 0) 8 Tryz.underlying205 Tryz.info64 rfl ys.length (by omega) (by omega) (by omega) (by unfold maxLen;omega) ?_;intro w2 hrow2 hb2 hsz2;have hg1:g<w1.heap.size:=Nat.lt_of_lt_of_le hgs Ya.out.size;have hp1:p<w1.heap.size:=Qq.out.lt;have hwB:w.heap.size≤w1.heap.size:=Ya.out.size;obtain⟨q,hq⟩:∃ q,w1.heap.size=q:=⟨_,rfl⟩;rw[hq]at hrow2 hb2 hsz2 hg1 hp1 hwB ⊢;have QR:=hid hrow2;have Qb:=hid hb2;clear hrow2 hb2 hq;go_wp2;go_loopw [20] (fun i wr=>∃ j:Nat,j≤ys.length∧i=.int .i64 j∧Row wr q 2 (i64s ((ys.take j).map Zcf)++List.replicate (ys.length-j) (.int .i64 0))∧Below q w1 wr∧Hid (q<wr.heap.size)) (fun i _=>ys.length-(intOf i).toNat)
 case atStart=>exact⟨0,by omega,rfl,by simpa [i64s]using QR.out,Qb.out,hid (by omega)⟩
 case round =>
  obtain⟨j,hj,rfl,hr,hb,hz⟩:=hrel;by_cases hlt:j<ys.length
  ·have hcell:wr.cell? ⟨q,j,none⟩=some (.int .i64 0):=by
    rw[hr.cell];exact Zfm _ _ _ _ (by simp[i64s,List.length_take];omega) (by omega)
   have hfr:=hr.frozen j;have hrp:Row wr p 73 (u64s ys):=Qq.out.below hb hp1;have c1:wr.cell? ⟨p,j,none⟩=some (.int .u64 ((ys.getD j 0:Nat):Int)):=by rw[hrp.cell];exact Zh5 ys j hlt
   have hyj:=hyv (ys.getD j 0) (by simp[List.getD,List.getElem?_eq_getElem hlt]);have QJ:Hid ((ys.take (j+1)).map Zcf=(ys.take j).map Zcf++[Zcf (ys.getD j 0)]):=by
    refine hid ?_;rw[List.take_succ_eq_append_getElem hlt,List.map_append];simp[List.getD,List.getElem?_eq_getElem hlt]
   have HR:=hid hr;clear hr hrp;generalize ys.getD j 0=x at *;go_wp2;go_roundw
   case rel =>
    refine⟨j+1,by omega,by go_num,?_,Zad hb _ _ _ (Nat.le_refl _),?_⟩
    ·have hss:=HR.out.set j (.int .i64 (Zcf x));rw[Zfo _ _ _ _ _ (by simp[i64s,List.length_take];omega) (by omega)]at hss;rw[QJ.out,Ze5,← Nat.sub_sub ys.length j 1];exact hss
    ·refine hid ?_;have:=hz.out;simpa [World.setCell]using this
   case measure=>simp[intOf];omega
  ·obtain rfl:j=ys.length:=by omega
   have hat2:Zaq w0 wr g (tkL (8*c) xs) s1:=by
    obtain⟨h1,h2,v,hr1,hr2⟩:=Yd.out;exact⟨h1,h2.trans (hb.mono (by omega)),v,hr1.below hb hg1,hr2⟩
   have Qu:=hid hat2;have Qo:=hid hr;clear hat2 hr;go_wp2_with (go_at_call 157;refine(Zd3 w0 _ g _ s1 Qu.out).mono ?_;rintro e w3 ⟨rfl,hw⟩;subst hw)
   go_ret2
   have h1:=Qo.out;rw[Nat.sub_self,List.replicate_zero,List.append_nil,List.take_length]at h1;refine⟨_,rfl,?_,Qu.out,Ya.out.then_below hb hwB⟩;have h2:=h1.owns (B:=B) (n:=ys.length) (by have:=HB.out;omega) (by simp[i64s]) (by unfold maxLen;omega);simpa using h2
def Zat (bs:List Nat):ByteArray:=⟨(bs.map UInt8.ofNat).toArray⟩
theorem Zk3 (bs:List Nat):(Zat bs).size=bs.length:=by simp[Zat,ByteArray.size]
theorem Zrc (bs:List Nat):∀ s:ByteArray,(bs.map (fun n:Nat=>(n:Int))).foldl (fun r n=>r.push (UInt8.ofNat n.toNat)) s=⟨s.data++(bs.map UInt8.ofNat).toArray⟩:=by
 induction bs with
 | nil=>intro s;simp
 | cons b r ih =>
  intro s;simp only[List.map_cons,List.foldl_cons,Int.toNat_natCast];rw[ih];congr 1
  simp[ByteArray.push]
theorem Zmm (bs:List Nat) (i j:Nat) (hj:j≤bs.length):(Zat bs).extract i j=Zat ((bs.drop i).take (j-i)):=by
 apply ByteArray.ext;rw[ByteArray.data_extract];unfold Zat;simp[List.extract_eq_take_drop,List.map_take,List.map_drop]
theorem Zd9 {w:World} {v:Value} {xs:List Nat} (h:Rd w v xs.length 1 (u8s xs)):(convert 22 9 v).run Tryz.prog w=.ok (.string (Zat xs)) w:=by
 obtain⟨A,ca,rfl,_,_,hA⟩:=h.form;rw[run_convert_bytes_string w _ _ 5 A xs.length ca Tryz.underlying22 (by kernel_rfl) (by kernel_rfl)];cases A with
 | none =>
  have:xs=[]:=by
   rcases Nat.eq_zero_or_pos xs.length with h0 | h0
   ·exact List.eq_nil_of_length_eq_zero h0
   ·obtain⟨b,o,e,_⟩:=hA h0;cases e
  subst this;simp[Conv.bytesToString,Sem.run_pure,Zat];rfl
 | some a =>
  rw[run_bytesToString w a xs.length ca (xs.map fun n:Nat=>(n:Int))]
  ·rw[Zrc];simp[Zat]
  ·have hl:=run_loadCells_list (P:=Tryz.prog) w a (u8s xs) (fun j v hv=>by
    have hj:j<xs.length:=by
     have:=(List.getElem?_eq_some_iff.1 hv).1
     rwa [Zcm]at this
    obtain⟨b,o,e,hs⟩:=hA (by omega);cases e;rw[Zdl];exact hs j v hv)
   rw[Zcm]at hl;rw[hl];simp[u8s,u8]
end Go.Proofs.YtmcjknjlihgihaaGreatDoor
