/- The plain reading of a zone record, as mathematics: it reads the record of a zone in order back. -/
import Derived.Test.YtmcjknjlihgihaaGreatDoorLawparseuptoM24
set_option linter.unusedVariables false
set_option linter.unusedSimpArgs false
set_option linter.unnecessarySimpa false
set_option maxRecDepth 100000
namespace Go.Proofs.YtmcjknjlihgihaaGreatDoor
open Go.RowKit
def nAt (size p:Nat) (xs:List Nat):Nat:=if Zb8 size p xs.length=true then L.wordOf 8 ((xs.drop p).take size)else 0
def vaOk (k:Int) (p:Nat) (xs:List Nat):Bool:=if k=1 then Zb8 8 p xs.length else Zb8 4 p xs.length&&decide ((nAt 4 p xs:Int)≤(xs.length:Int)-p-4)
def vaC (k:Int) (p:Nat) (xs:List Nat):C3:=if k=1 then ⟨false,Zcf (nAt 8 p xs),ByteArray.empty⟩else if vaOk k p xs=true then ⟨false,0,Zat ((xs.drop (p+4)).take (nAt 4 p xs))⟩else C3.df
def vaN (k:Int) (p:Nat) (xs:List Nat):Nat:=if k=1 then p+8 else if vaOk k p xs=true then p+4+nAt 4 p xs else 0
theorem Zdx {p:Nat} {xs:List Nat} (h:∀ x∈xs,x<256):nAt 4 p xs<4294967296:=by
 unfold nAt
 split
 ·exact Zb0 _ (Zg8 h _ _) (Zhp xs _ _)
 ·omega
theorem Z1k {p:Nat} {xs:List Nat} (h:∀ x∈xs,x<256):nAt 8 p xs<18446744073709551616:=by
 unfold nAt
 split
 ·exact Zgc _ (Zg8 h _ _) (Zhp xs _ _)
 ·omega
theorem Zti {size p n:Nat} {xs t:List Nat} (hd:xs.drop p=leN size n++t) (hp:p≤xs.length) (hn:n<2^(8*size)):Zb8 size p xs.length=true∧nAt size p xs=n:=by
 have hl:(xs.drop p).length=size+t.length:=by rw[hd,List.length_append,Zai]
 rw[List.length_drop]at hl;have ho:Zb8 size p xs.length=true:=by unfold Zb8;exact decide_eq_true ⟨hp,by omega⟩
 refine⟨ho,?_⟩;unfold nAt;rw[if_pos ho,hd,List.take_left' (Zai size n),Zdk hn]
theorem Zjd {p:Nat} {xs a t:List Nat} (hd:xs.drop p=a++t):xs.drop (p+a.length)=t:=by
 rw[← List.drop_drop,hd,List.drop_left]
theorem Zz3 {k:Int} {p:Nat} {xs t:List Nat} {c:C3} (hk:Zax k=true) (hc:Zdw k c=true) (hi:okI c.i) (hd:xs.drop p=Zb3 k c++t) (hp:p≤xs.length):vaOk k p xs=true∧vaC k p xs=c∧vaN k p xs=p+(Zb3 k c).length:=by
 obtain⟨n,i,s⟩:=c;unfold Zdw at hc;rw[Bool.and_eq_true,Bool.not_eq_true']at hc;obtain⟨h1,h2⟩:=hc;simp only at h1 hi;subst h1;unfold ofK at h2;simp only[Bool.false_eq_true,if_false]at h2;by_cases h0:k=2
 ·subst h0;rw[if_neg (by decide),decide_eq_true_eq]at h2;obtain⟨_,rfl,hs⟩:=h2;have eb:Zb3 2 (⟨false,0,s⟩:C3)=leN 4 s.size++sbs s:=rfl;rw[eb,List.append_assoc]at hd;obtain⟨o1,o2⟩:=Zti hd hp (show s.size<2^(8*4) by rw[p32];omega);have hd4:=Zjd hd;rw[Zai]at hd4;have hl4:(xs.drop (p+4)).length=s.size+t.length:=by rw[hd4,List.length_append,Zcb]
  rw[List.length_drop]at hl4;have hp4:p+4≤xs.length:=by
   unfold Zb8 at o1;have:=of_decide_eq_true o1;omega
  have hok:vaOk 2 p xs=true:=by
   unfold vaOk;rw[if_neg (by decide),o1,Bool.true_and,o2];exact decide_eq_true (by omega)
  refine⟨hok,?_,?_⟩
  ·unfold vaC;rw[if_neg (by decide),if_pos hok,o2,hd4,List.take_left' (Zcb s),Zlw]
  ·unfold vaN;rw[if_neg (by decide),if_pos hok,o2,eb,List.length_append,Zai,Zcb];omega
 ·have hk1:k=1:=by
   unfold Zax at hk;rw[decide_eq_true_eq]at hk;omega
  subst hk1;rw[if_pos rfl]at h2;have hse:=Zfr h2;subst hse;have eb:Zb3 1 (⟨false,i,ByteArray.empty⟩:C3)=leN 8 (toU i):=rfl;rw[eb]at hd ⊢;obtain⟨o1,o2⟩:=Zti hd hp (show toU i<2^(8*8) by rw[p64];exact Znx i);unfold okI at hi;refine⟨by unfold vaOk;rw[if_pos rfl,o1],by unfold vaC;rw[if_pos rfl,o2,Zqr (by omega)],by unfold vaN;rw[if_pos rfl,Zai]⟩
set_option maxHeartbeats 2000000 in
theorem Zt2 (v:Value) (xs:List Nat) (p:Nat) (k:Int) (w:World) (hv:Rd w v xs.length 1 (u8s xs)) (hb:∀ x∈xs,x<256) (hl:xs.length≤16777216) (hp:p≤33554432) :
  Calls Tryz.prog 134 #[v,.int .i64 p,.int .i64 k] w fun e w'=>e=.returned (.tuple #[(vaC k p xs).v,.int .i64 (vaN k p xs:Nat),.bool (vaOk k p xs)])∧Below w.heap.size w w':=by
 have Qg:Hid (Row (w.alloc (.cells #[.bool false,.int .i64 0,.string ⟨#[]⟩] 36)) w.heap.size 36 [.bool false,.int .i64 0,.string ⟨#[]⟩]):=hid (by unfold Row;rw[heap_alloc_new]);have Qh:=hid ((Zab w).alloc (Nat.le_refl _) (.cells #[.bool false,.int .i64 0,.string ⟨#[]⟩] 36));have HV0:=hid (hv.mono Qh.out);have HX:=hid (And.intro hb hl);obtain⟨A,ca,rfl,hlc,hcm,_⟩:=hv.form;unfold maxLen at hcm;clear hv hb;obtain⟨C,hC⟩:∃ C,vaC k p xs=C:=⟨_,rfl⟩;obtain⟨N,hN⟩:∃ N,vaN k p xs=N:=⟨_,rfl⟩;obtain⟨O,hO⟩:∃ O,vaOk k p xs=O:=⟨_,rfl⟩;rw[hC,hN,hO];unfold vaC at hC;unfold vaN at hN;rw[hO]at hC hN;unfold vaOk at hO;by_cases h1:k=1
 ·subst h1;rw[if_pos rfl]at hC hN hO;have HN:=hid (fun w2 (h:Rd w2 (.slice A xs.length ca) xs.length 1 (u8s xs))=>Zcz _ xs p 8 w2 h HX.out.1 HX.out.2 (by omega) (by omega));have hnl:=Z1k (p:=p) HX.out.1;unfold nAt at hC hnl;rw[hO]at HN hC hnl;generalize (if O=true then L.wordOf 8 ((xs.drop p).take 8)else 0)=n at *;have HC:=hid hC;have hcv:IntKind.i64.wrap (n:Int)=Zcf n:=by rw[IntKind.wrap_i64];unfold Zcf wrap64;rfl
  have hnn:(p:Int)+8=(N:Int):=by omega
  clear hC hN hO HX;generalize xs.length=xn at *;generalize Zcf n=iv at *;go_enter Tryz.func134,Tryz.ntmps134;go_upto_region 1 with fail
  generalize w.alloc (.cells #[.bool false,.int .i64 0,.string ⟨#[]⟩] 36)=w1 at *;obtain⟨z0,z1,z2⟩:=cell3 Qg.out;have f0:=Qg.out.frozen 0;have f1:=Qg.out.frozen 1;have f2:=Qg.out.frozen 2;go_wp2_with (go_at_call 91;refine(HN.out w1 HV0.out).mono ?_;rintro e w2 ⟨rfl,hw⟩;replace hw:=hw.symm;subst hw)
  change bodyPost _ _ _ _ _ (Zfy w1 w.heap.size [.bool false,.int .i64 iv,.string ByteArray.empty])
  have R0:=Zel Qg.out (.bool false) (.int .i64 iv) (.string ByteArray.empty);have hbl:=Zdi Qh.out w.heap.size (Nat.le_refl _) [.bool false,.int .i64 iv,.string ByteArray.empty];clear z0 z1 z2 f0 f1 f2;generalize Zfy w1 w.heap.size [.bool false,.int .i64 iv,.string ByteArray.empty]=w4 at *;obtain⟨q0,q1,q2⟩:=cell3 R0;refine bodyPost_ret (v:=.tuple #[C.v,.int .i64 (N:Nat),.bool O]) ?_ rfl ⟨rfl,hbl⟩;rw[← HC.out];unfold C3.v;simp[results,Tryz.results134,go_sem,q0,q1,q2]
 ·rw[if_neg h1]at hC hN hO;have HN:=hid (fun w2 (h:Rd w2 (.slice A xs.length ca) xs.length 1 (u8s xs))=>Zcz _ xs p 4 w2 h HX.out.1 HX.out.2 (by omega) (by omega));have hnl:=Zdx (p:=p) HX.out.1;have JT:Hid (nAt 4 p xs=if Zb8 4 p xs.length=true then L.wordOf 8 ((xs.drop p).take 4)else 0):=hid rfl;rw[← JT.out]at HN;obtain⟨o4,ho4⟩:∃ o4,Zb8 4 p xs.length=o4:=⟨_,rfl⟩;have Zr:Hid (o4=true→p+4≤xs.length):=hid (fun h=>by
   rw[h]at ho4;unfold Zb8 at ho4;have:=of_decide_eq_true ho4;omega)
  rw[ho4]at HN hO;clear ho4;generalize nAt 4 p xs=n at *;clear JT;have hcn:IntKind.i64.wrap (n:Int)=(n:Int):=by rw[IntKind.wrap_i64];omega
  have Xq:Hid (Rd (w.alloc (.cells #[.bool false,.int .i64 0,.string ⟨#[]⟩] 36)) (.slice A xs.length ca) xs.length 1 (u8s xs)):=HV0;obtain⟨xn,hxn⟩:∃ xn,xs.length=xn:=⟨_,rfl⟩;have UE:=hid hxn;rw[hxn]at hO HN HV0 Zr hlc hl ⊢;clear hxn;cases O
  ·rw[if_neg (by decide)]at hC hN;subst hC hN;go_enter Tryz.func134,Tryz.ntmps134;go_upto_region 1 with fail
   generalize w.alloc (.cells #[.bool false,.int .i64 0,.string ⟨#[]⟩] 36)=w1 at *;obtain⟨z0,z1,z2⟩:=cell3 Qg.out;have f0:=Qg.out.frozen 0;have f1:=Qg.out.frozen 1;have f2:=Qg.out.frozen 2;go_upto_region 5 with (go_at_call 91;refine(HN.out w1 HV0.out).mono ?_;rintro e w2 ⟨rfl,hw⟩;replace hw:=hw.symm;subst hw)
   go_cut [45]from 34 to 44 (fun s45 wc=>s45=.bool true∧wc=w1)
   case first =>
    cases o4
    ·go_wp2_with fail
     go_meet;exact⟨rfl,rfl⟩
    ·have hgt:(n:Int) > (xn:Int)-(p:Int)-4:=by
      rw[Bool.true_and]at hO;have:=of_decide_eq_false hO;omega
     go_wp2_with fail
     go_meet;exact⟨rfl,rfl⟩
   case rest =>
   obtain⟨rfl,hw⟩:=hcut;replace hw:=hw.symm;subst hw;go_wp2_with fail
   change bodyPost _ _ _ _ _ (Zfy w1 w.heap.size [.bool false,.int .i64 0,.string ⟨#[]⟩])
   have R0:=Zel Qg.out (.bool false) (.int .i64 0) (.string ⟨#[]⟩);have hbl:=Zdi Qh.out w.heap.size (Nat.le_refl _) [.bool false,.int .i64 0,.string ⟨#[]⟩];clear z0 z1 z2 f0 f1 f2;generalize Zfy w1 w.heap.size [.bool false,.int .i64 0,.string ⟨#[]⟩]=w4 at *;obtain⟨q0,q1,q2⟩:=cell3 R0;refine bodyPost_ret (v:=.tuple #[C3.df.v,.int .i64 0,.bool false]) ?_ rfl ⟨rfl,hbl⟩;unfold C3.v C3.df;simp[results,Tryz.results134,go_sem,q0,q1,q2];rfl
  ·rw[Bool.and_eq_true,decide_eq_true_eq]at hO;obtain⟨ho4,hle⟩:=hO;subst ho4;have hp4:=Zr.out rfl;rw[if_pos rfl]at hC hN;obtain⟨q,hq⟩:∃ q,p+4=q:=⟨_,rfl⟩;rw[hq]at hC hN hp4;have hqi:(p:Int)+4=(q:Int):=by omega
   have hqn:(q:Int)+(n:Int)=(N:Int):=by omega
   have hngt:¬ (n:Int) > (xn:Int)-(p:Int)-4:=by omega
   have hqN:(q:Int)≤(N:Int):=by omega
   have hNc:(N:Int)≤(ca:Int):=by omega
   have hNq:N-q=n:=by omega
   have HC:=hid hC;have HNQ:=hid hNq;by_cases hcq:ca=q
   ·have hn0:n=0:=by omega
    have hN0:N=ca:=by omega
    subst hcq;subst hN0;subst hn0;have hcv:=Zd9 (xs:=[]) (show Rd (w.alloc (.cells #[.bool false,.int .i64 0,.string ⟨#[]⟩] 36)) (.slice A 0 0) ([]:List Nat).length 1 (u8s [])from Znp _ A);have Zu:Hid (C=⟨false,0,Zat []⟩):=hid (by rw[HC.out.symm,List.take_zero]);clear hC hNq HNQ HC;generalize Zat []=sv at *;go_enter Tryz.func134,Tryz.ntmps134;go_upto_region 1 with fail
    generalize w.alloc (.cells #[.bool false,.int .i64 0,.string ⟨#[]⟩] 36)=w1 at *;obtain⟨z0,z1,z2⟩:=cell3 Qg.out;have f0:=Qg.out.frozen 0;have f1:=Qg.out.frozen 1;have f2:=Qg.out.frozen 2;go_wp2_with (go_at_call 91;refine(HN.out w1 HV0.out).mono ?_;rintro e w2 ⟨rfl,hw⟩;replace hw:=hw.symm;subst hw)
    change bodyPost _ _ _ _ _ (Zfy w1 w.heap.size [.bool false,.int .i64 0,.string sv])
    have R0:=Zel Qg.out (.bool false) (.int .i64 0) (.string sv);have hbl:=Zdi Qh.out w.heap.size (Nat.le_refl _) [.bool false,.int .i64 0,.string sv];clear z0 z1 z2 f0 f1 f2;generalize Zfy w1 w.heap.size [.bool false,.int .i64 0,.string sv]=w4 at *;obtain⟨q0,q1,q2⟩:=cell3 R0;refine bodyPost_ret (v:=.tuple #[C.v,.int .i64 (N:Nat),.bool true]) ?_ rfl ⟨rfl,hbl⟩;rw[Zu.out];unfold C3.v;simp[results,Tryz.results134,go_sem,q0,q1,q2]
   ·have hcv:=Zd9 (((show Rd _ (.slice A xs.length ca) xs.length 1 (u8s xs)from Xq.out).rear q (by rw[UE.out];omega) hcq).short (N-q) (by rw[List.length_drop,UE.out];omega));have Zu:Hid (C=⟨false,0,Zat ((xs.drop q).take (N-q))⟩):=hid (by rw[hNq];exact hC.symm);clear hC hNq;generalize Zat ((xs.drop q).take (N-q))=sv at *;go_enter Tryz.func134,Tryz.ntmps134;go_upto_region 1 with fail
    generalize w.alloc (.cells #[.bool false,.int .i64 0,.string ⟨#[]⟩] 36)=w1 at *;obtain⟨z0,z1,z2⟩:=cell3 Qg.out;have f0:=Qg.out.frozen 0;have f1:=Qg.out.frozen 1;have f2:=Qg.out.frozen 2;go_wp2_with (go_at_call 91;refine(HN.out w1 HV0.out).mono ?_;rintro e w2 ⟨rfl,hw⟩;replace hw:=hw.symm;subst hw)
    change bodyPost _ _ _ _ _ (Zfy w1 w.heap.size [.bool false,.int .i64 0,.string sv])
    have R0:=Zel Qg.out (.bool false) (.int .i64 0) (.string sv);have hbl:=Zdi Qh.out w.heap.size (Nat.le_refl _) [.bool false,.int .i64 0,.string sv];clear z0 z1 z2 f0 f1 f2;generalize Zfy w1 w.heap.size [.bool false,.int .i64 0,.string sv]=w4 at *;obtain⟨q0,q1,q2⟩:=cell3 R0;refine bodyPost_ret (v:=.tuple #[C.v,.int .i64 (N:Nat),.bool true]) ?_ rfl ⟨rfl,hbl⟩;rw[Zu.out];unfold C3.v;simp[results,Tryz.results134,go_sem,q0,q1,q2]
set_option maxRecDepth 20000
def rzF (xs:List Nat):Nat:=xs.getD 0 0
def rzR (xs:List Nat):Bool:=decide (rzF xs%2=1)
def rzN (xs:List Nat):Int:=if rzR xs=true then (nAt 4 1 xs:Nat)else 0
def rzP1 (xs:List Nat):Nat:=if rzR xs=true then 5 else 1
def rzD (rows:Int) (xs:List Nat):Bool:=rzR xs&&(Zb8 4 1 xs.length&&decide ((nAt 4 1 xs:Int)≠rows))
def rzQ (k:Int) (xs:List Nat):Nat:=vaN k 5 xs
def rzOk (k:Int) (xs:List Nat):Bool:=vaOk k 5 xs&&vaOk k (rzQ k xs) xs
def rzP2 (k rows:Int) (xs:List Nat):Nat:=if rzD rows xs=true then vaN k (rzQ k xs) xs else rzP1 xs
def rzB (k rows:Int) (xs:List Nat):Bool:=decide (2≤rzF xs)&&decide (rzP2 k rows xs<xs.length)
def Zpd (k rows:Int) (xs:List Nat):Nat:=(xs.length-rzP2 k rows xs-5)/8
def rzBl (k rows:Int) (xs:List Nat):List Nat:=if rzB k rows xs=true∧Zav 8 (Zpd k rows xs) (rzP2 k rows xs+5) xs.length=true then numL 8 (tk (8*Zpd k rows xs) (xs.drop (rzP2 k rows xs+5)))else []
def rzHs (k rows:Int) (xs:List Nat):Int:=if rzB k rows xs=true then (xs.getD (rzP2 k rows xs) 0:Nat)else 0
def Ztx (k rows:Int) (xs:List Nat):ZM :=
 ⟨rzR xs,rzN xs,if rzD rows xs=true then vaC k 5 xs else C3.df,if rzD rows xs=true then vaC k (rzQ k xs) xs else C3.df,rzHs k rows xs,rzBl k rows xs⟩
theorem Zyo {k rows:Int} {z:ZM} (hk:Zax k=true) (hr:0≤rows∧rows≤65536) (hz:Zkq z) (h:zOk k rows z=true) {xs:List Nat} (hx:zRec k rows z=xs) :
  xs≠[]∧(rzD rows xs=true→rzOk k xs=true)∧Ztx k rows xs=z:=by
 obtain⟨hn0,hn1⟩:=Zub hr h;have hne:xs≠[]:=by rw[← hx];unfold zRec;simp
 have hlen:1≤xs.length:=by
  rcases Nat.eq_zero_or_pos xs.length with h0 | h0
  ·exact absurd (List.length_eq_zero_iff.1 h0) hne
  ·exact h0
 have hF:rzF xs=Zdq z:=by unfold rzF;rw[← hx];unfold zRec;rfl
 have hd1:xs.drop 1=recA z++(recB k rows z++recC z):=by rw[← hx];unfold zRec;simp[List.append_assoc]
 have hR:rzR xs=z.rg:=by
  unfold rzR;rw[hF];have:=Zn6 z;cases hc:z.rg
  ·rw[hc]at this;exact decide_eq_false (fun e=>by simpa using this.1 e)
  ·exact decide_eq_true (this.2 hc)
 have hA:z.rg=true→Zb8 4 1 xs.length=true∧nAt 4 1 xs=z.nu.toNat:=fun hc=>by
  have eA:recA z=leN 4 z.nu.toNat:=by unfold recA;rw[if_pos hc]
  rw[eA]at hd1;exact Zti hd1 hlen (by rw[p32];omega)
 have hN:rzN xs=z.nu:=by
  unfold rzN;rw[hR];cases hc:z.rg
  ·rw[if_neg (by decide),Zui h hc]
  ·rw[if_pos rfl,(hA hc).2];omega
 have hP1:xs.drop (rzP1 xs)=recB k rows z++recC z∧rzP1 xs≤xs.length:=by
  unfold rzP1;rw[hR];cases hc:z.rg
  ·have eA:recA z=[]:=by unfold recA;rw[hc];rfl
   rw[eA,List.nil_append]at hd1;exact⟨hd1,hlen⟩
  ·have eA:recA z=leN 4 z.nu.toNat:=by unfold recA;rw[if_pos hc]
   rw[eA]at hd1;have:=Zjd hd1;rw[Zai]at this;refine⟨this,?_⟩;have ho:=(hA hc).1;unfold Zb8 at ho;have:=of_decide_eq_true ho;rw[if_pos rfl];omega
 have hD:rzD rows xs=decide (z.rg=true∧z.nu≠rows):=by
  unfold rzD;rw[hR];cases hc:z.rg
  ·simp
  ·obtain⟨h1,h2⟩:=hA hc;rw[h1,h2,Int.toNat_of_nonneg hn0];simp
 have hmid:(rzD rows xs=true→rzOk k xs=true)∧(if rzD rows xs=true then vaC k 5 xs else C3.df)=z.mn∧(if rzD rows xs=true then vaC k (rzQ k xs) xs else C3.df)=z.mx∧xs.drop (rzP2 k rows xs)=recC z∧rzP2 k rows xs≤xs.length:=by
  unfold rzP2;rw[hD];rcases Zn0 h with ⟨h1,h2,h3,h4⟩ | ⟨h1,h2,h3⟩
  ·have hc:z.rg=true∧z.nu≠rows:=⟨h1,h2⟩;have eB:recB k rows z=Zb3 k z.mn++Zb3 k z.mx:=by unfold recB;rw[if_pos hc]
   have e5:rzP1 xs=5:=by unfold rzP1;rw[hR,h1];rfl
   rw[e5,eB,List.append_assoc]at hP1;obtain⟨v1,v2,v3⟩:=Zz3 hk h3 hz.1 hP1.1 hP1.2;have hd2:=Zjd hP1.1;rw[← v3]at hd2;have hl2:(xs.drop 5).length=(Zb3 k z.mn).length+((Zb3 k z.mx).length+(recC z).length):=by rw[hP1.1,List.length_append,List.length_append]
   rw[List.length_drop]at hl2;have hq:rzQ k xs=vaN k 5 xs:=rfl;rw[← hq]at hd2 v3;have hql:rzQ k xs≤xs.length:=by have:=hP1.2;omega
   obtain⟨w1,w2,w3⟩:=Zz3 hk h4 hz.2.1 hd2 hql;have hd3:=Zjd hd2;rw[← w3]at hd3;rw[decide_eq_true hc,if_pos rfl,if_pos rfl,if_pos rfl];have h5:=hP1.2;refine⟨fun _=>by unfold rzOk;rw[v1,w1];rfl,v2,w2,hd3,by omega⟩
  ·have eB:recB k rows z=[]:=by unfold recB;rw[if_neg h1]
   rw[eB,List.nil_append]at hP1;rw[decide_eq_false h1,if_neg (by decide),if_neg (by decide),if_neg (by decide),h2,h3];exact⟨fun h=>by simp at h,rfl,rfl,hP1.1,hP1.2⟩
 obtain⟨hm1,hm2,hm3,hm4,hm5⟩:=hmid;have hlC:(recC z).length=xs.length-rzP2 k rows xs:=by rw[← hm4,List.length_drop]
 refine⟨hne,hm1,?_⟩;unfold Ztx;rw[hm2,hm3,hR,hN];rcases Zfx h with ⟨h1,h2⟩ | ⟨h1,h2,h3,h4⟩
 ·have hB:rzB k rows xs=false:=by
   unfold rzB;rw[hF,decide_eq_false (fun e=>(Zq5 z).1 e h1)];rfl
  have e1:rzHs k rows xs=0:=by unfold rzHs;rw[hB];rfl
  have e2:rzBl k rows xs=[]:=by unfold rzBl;rw[if_neg (by rw[hB];simp)]
  rw[e1,e2];obtain⟨a,b,c,d,e,f⟩:=z;simp only at h1 h2;rw[h1,h2]
 ·have eC:recC z=[z.hs.toNat]++leN 4 z.bl.length++le8 z.bl:=by unfold recC;rw[if_neg h1]
  have hC5:(recC z).length=5+8*z.bl.length:=by rw[eC,List.length_append,List.length_append,Zai,Zlv];simp
  have hB:rzB k rows xs=true:=by
   unfold rzB;rw[hF,decide_eq_true ((Zq5 z).2 h1),decide_eq_true (by omega)];rfl
  have hcnt:Zpd k rows xs=z.bl.length:=by unfold Zpd;omega
  have hno:Zav 8 (Zpd k rows xs) (rzP2 k rows xs+5) xs.length=true:=by
   unfold Zav;rw[hcnt];exact decide_eq_true (by omega)
  have hg:xs.getD (rzP2 k rows xs) 0=z.hs.toNat:=by
   have:xs.getD (rzP2 k rows xs) 0=(xs.drop (rzP2 k rows xs)).getD 0 0:=by simp[List.getD,List.getElem?_drop]
   rw[this,hm4,eC];rfl
  have hd5:xs.drop (rzP2 k rows xs+5)=le8 z.bl:=by
   rw[← List.drop_drop,hm4,eC];have:([z.hs.toNat]++leN 4 z.bl.length).length=5:=by rw[List.length_append,Zai];rfl
   rw[← this,List.drop_left]
  have e1:rzHs k rows xs=z.hs:=by unfold rzHs;rw[if_pos hB,hg,Int.toNat_of_nonneg (by omega)]
  have e2:rzBl k rows xs=z.bl:=by
   unfold rzBl;rw[if_pos ⟨hB,hno⟩,hcnt,hd5];have ht:tk (8*z.bl.length) (le8 z.bl)=le8 z.bl:=by
    have:=Zih (8*z.bl.length) (le8 z.bl) [] (Zlv _)
    rwa [List.append_nil]at this
   have e8:le8 z.bl=z.bl.flatMap (leN 8):=rfl;rw[ht,e8,Zqs 8 (by decide) _ (fun x hx=>by rw[p64];exact hz.2.2 x hx)]
  rw[e1,e2]
end Go.Proofs.YtmcjknjlihgihaaGreatDoor
