/- The plain answer: when a zone is in order, its record. -/
import Derived.Test.YtmcjknjlihgihaaGreatDoorLawfreshlistsuptoM16
set_option linter.unusedVariables false
set_option linter.unusedSimpArgs false
set_option linter.unnecessarySimpa false
set_option maxRecDepth 100000
namespace Go.Proofs.YtmcjknjlihgihaaGreatDoor
open Go.RowKit
theorem Zy4:∀ f:Nat,f<256→bits BinOp.and IntKind.i64 (f:Int) 1=((f%2:Nat):Int):=by decide +kernel
theorem Zzd:∀ f:Nat,f<256→bits BinOp.and IntKind.i64 (f:Int) 2=((2*(f/2%2):Nat):Int):=by decide +kernel
def Zu7:List Value:=[.bool false,.int .i64 0,.bool false,.int .i64 0,.string ⟨#[]⟩,.bool false,.int .i64 0,.string ⟨#[]⟩,.int .i64 0,.slice none 0 0]
structure ZR (w wA wc:World) (r0 g zb:Nat) (zrow:List Value) (X:List Nat):Prop where
 z:Row wc zb 39 zrow
 rd:∃ s,Zap wA wc g X s
 r:Row wc r0 39 Zu7
 lt:g<wc.heap.size
 bl:Below w.heap.size w wc
theorem ZR.call {w wA wc wd:World} {r0 g zb:Nat} {zrow:List Value} {X Y:List Nat} (h:ZR w wA wc r0 g zb zrow X) (hr:∃ s,Zap wA wd g Y s) (hc:Chg g g wc wd) (h1:zb≠g) (h2:r0≠g) (h3:w.heap.size≤g):ZR w wA wd r0 g zb zrow Y :=
 ⟨hc.row h.z h1 h1,hr,hc.row h.r h2 h2,Nat.lt_of_lt_of_le h.lt hc.size,hc.below h.bl h.bl.size h3 h3⟩
theorem ZR.set {w wA wc:World} {r0 g zb:Nat} {zrow:List Value} {X:List Nat} (h:ZR w wA wc r0 g zb zrow X) (i:Nat) (v:Value) (h1:zb≠g) (h2:r0≠zb) (h3:wA.heap.size≤zb) (h4:w.heap.size≤zb):ZR w wA (wc.setCell ⟨zb,i,none⟩ v) r0 g zb (zrow.set i v) X :=
 ⟨h.z.set i v,by obtain⟨s,hs⟩:=h.rd;exact⟨s,hs.chg ((Chg.refl zb zb wc).setCell zb i v (.inl rfl)) h1.symm h1.symm h3 h3⟩,Zbg h.r h2,by simpa [World.setCell]using h.lt,Zac h.bl zb i v h4⟩
theorem Zef {n:Nat} {xs:List Nat} {m:Nat} (h:xs.length≤m):(tkL n xs).length≤m:=by
 unfold tkL
 split
 ·rw[List.length_drop];omega
 ·simp
theorem Zt1 {k:Int} {xs:List Nat} (h:∀ x∈xs,x<256):∀ x∈bdL k xs,x<256:=by
 unfold bdL;split
 ·exact Zas (Zas h)
 ·exact Zas h
theorem Zwt {k:Int} {xs:List Nat} {m:Nat} (h:xs.length≤m):(bdL k xs).length≤m:=by
 unfold bdL;split
 ·exact Zef (Zef h)
 ·exact Zef h
theorem Z05 {xs:List Nat} (h:∀ x∈xs,x<256):pzF xs<256:=by
 unfold pzF;cases xs with
 | nil=>decide
 | cons x r =>
  have:tk 1 (x :: r)=[x]:=by unfold tk;rw[if_pos (by simp)];rfl
  rw[this,Zhi];exact h x (List.mem_cons_self ..)
def Zfx (w:World) (g:Nat) (a0 a1 a2 a3 a4 a5 a6 a7 a8 a9:Value):World :=
 (((((((((w.setCell ⟨g,0,none⟩ a0).setCell ⟨g,1,none⟩ a1).setCell ⟨g,2,none⟩ a2).setCell ⟨g,3,none⟩ a3).setCell ⟨g,4,none⟩ a4).setCell ⟨g,5,none⟩ a5).setCell ⟨g,6,none⟩ a6).setCell ⟨g,7,none⟩ a7).setCell ⟨g,8,none⟩ a8).setCell ⟨g,9,none⟩ a9
theorem Zd1 {w:World} {g:Nat} {e:TypeId} {b0 b1 b2 b3 b4 b5 b6 b7 b8 b9:Value} (h:Row w g e [b0,b1,b2,b3,b4,b5,b6,b7,b8,b9]) (a0 a1 a2 a3 a4 a5 a6 a7 a8 a9:Value) :
  Row (Zfx w g a0 a1 a2 a3 a4 a5 a6 a7 a8 a9) g e [a0,a1,a2,a3,a4,a5,a6,a7,a8,a9] :=
 (((((((((h.set 0 a0).set 1 a1).set 2 a2).set 3 a3).set 4 a4).set 5 a5).set 6 a6).set 7 a7).set 8 a8).set 9 a9
theorem Zd5 (w:World) (g:Nat) (a0 a1 a2 a3 a4 a5 a6 a7 a8 a9:Value):Chg g g w (Zfx w g a0 a1 a2 a3 a4 a5 a6 a7 a8 a9) :=
 ((((((((((Chg.refl g g w).setCell g 0 a0 (.inl rfl)).setCell g 1 a1 (.inl rfl)).setCell g 2 a2 (.inl rfl)).setCell g 3 a3 (.inl rfl)).setCell g 4 a4 (.inl rfl)).setCell g 5 a5 (.inl rfl)).setCell g 6 a6 (.inl rfl)).setCell g 7 a7 (.inl rfl)).setCell g 8 a8 (.inl rfl)).setCell g 9 a9 (.inl rfl)
theorem Zk8 {w:World} {B B':Nat} {e:TypeId} {v:Value} {n:Nat} {cs:List Value} (h:w.ownsRow B e 1 v n cs) (hb:B'≤B):w.ownsRow B' e 1 v n cs:=by
 refine⟨h.1,?_⟩;rcases h.2 with hn | ⟨g,cap,cur,rfl,hb',r⟩
 ·exact .inl hn
 ·exact .inr ⟨g,cap,cur,rfl,by omega,r⟩
theorem Zps (k:Int) (c:C3):∀ x∈Zb3 k c,x<256:=by
 intro x hx;unfold Zb3 at hx
 split at hx
 ·rcases List.mem_append.1 hx with h | h
  ·exact Znb 4 _ x h
  ·exact Zzl _ x h
 ·exact Znb 8 _ x hx
theorem Zxk {k rows:Int} {z:ZM} (hz:zOk k rows z=true):∀ x∈zRec k rows z,x<256:=by
 intro x hx;unfold zRec at hx;simp only[List.mem_append,List.mem_singleton]at hx;rcases hx with ((h | h) | h) | h
 ·have:=Zmd z;omega
 ·unfold recA at h
  split at h
  ·exact Znb 4 _ x h
  ·cases h
 ·unfold recB at h
  split at h
  ·rcases List.mem_append.1 h with h | h
   ·exact Zps k _ x h
   ·exact Zps k _ x h
  ·cases h
 ·unfold recC at h
  split at h
  ·cases h
  ·rename_i hne
   simp only[List.mem_append,List.mem_singleton]at h;rcases Zfq hz with h2 | h2
   ·exact absurd h2.1 hne
   ·rcases h with (h | h) | h
    ·omega
    ·exact Znb 4 _ x h
    ·unfold le8 at h;obtain⟨y,_,hy⟩:=List.mem_flatMap.1 h;exact Znb 8 _ x hy
def ZAns (k rows:Int) (xs:List Nat) (w:World) (e:Ending) (w':World):Prop:=Below w.heap.size w w'∧∃(ok:Bool) (z:ZM) (B:Value),
 e=.returned (.tuple #[z.v B,.bool ok])∧w'.ownsRow w.heap.size 73 1 B z.bl.length (u64s z.bl) ∧
 ((ok=true∧z=Zfs k rows xs∧zOk k rows z=true∧zRec k rows z=xs)∨(ok=false∧z=ZM.df∧¬ (zOk k rows (Zfs k rows xs)=true∧zRec k rows (Zfs k rows xs)=xs)))
set_option maxHeartbeats 8000000 in
theorem Zki (w:World) (k rows:Int) (v:Value) (xs:List Nat) (hk:Za3 k=true) (hr:0≤rows∧rows≤65536) (hv:Rd w v xs.length 1 (u8s xs)) (hb:∀ x∈xs,x<256) (hl:xs.length≤16777216) :
  Calls Tryz.prog 86 #[.int .i64 k,.int .i64 rows,v] w (ZAns k rows xs w):=by
 obtain⟨ANS,hANS⟩:∃ ANS,ZAns k rows xs w=ANS:=⟨_,rfl⟩;have Qm:=hid hANS;rw[hANS];clear hANS;obtain⟨r0,hr0⟩:∃ r0,w.heap.size=r0:=⟨_,rfl⟩;have hBA:=(Zab w).alloc (Nat.le_refl _) (.cells #[.bool false,.int .i64 0,.bool false,.int .i64 0,.string ⟨#[]⟩,.bool false,.int .i64 0,.string ⟨#[]⟩,.int .i64 0,.slice none 0 0] 39);have YS:=hid hBA;have QK:Hid (Row (w.alloc (.cells #[.bool false,.int .i64 0,.bool false,.int .i64 0,.string ⟨#[]⟩,.bool false,.int .i64 0,.string ⟨#[]⟩,.int .i64 0,.slice none 0 0] 39)) r0 39 Zu7):=hid (by rw[← hr0];unfold Row;rw[heap_alloc_new];rfl);have hsA:(w.alloc (.cells #[.bool false,.int .i64 0,.bool false,.int .i64 0,.string ⟨#[]⟩,.bool false,.int .i64 0,.string ⟨#[]⟩,.int .i64 0,.slice none 0 0] 39)).heap.size=r0+1:=by simp[hr0]
 have Xs:=hid (Zew _ v xs (hv.mono hBA));have HVR:=hid hv;have HX:=hid (And.intro hb hl);obtain⟨A0,c0,rfl,_,_,_⟩:=hv.form;clear hBA hv hb hl;obtain⟨xn,hxn⟩:∃ xn,xs.length=xn:=⟨_,rfl⟩;have Uz:=hid hxn;rw[hxn]at Xs HVR ⊢;clear hxn;go_enter Tryz.func86,Tryz.ntmps86;go_upto_region 1 with fail
 generalize w.alloc (.cells #[.bool false,.int .i64 0,.bool false,.int .i64 0,.string ⟨#[]⟩,.bool false,.int .i64 0,.string ⟨#[]⟩,.int .i64 0,.slice none 0 0] 39)=wA at *;rw[hsA]at Xs;go_upto_region 2 with (go_at_call 79;refine Xs.out.mono ?_;rintro e w1 ⟨rfl,hat,hb1,hz1⟩;have HAT1:=hid hat;have Qa:Hid (Below wA.heap.size wA w1):=hid (by rw[hsA];exact hb1);clear hat hb1)
 go_upto_region 3 with fail
 have hB1a:=Qa.out.alloc Qa.out.size (.cells #[.bool false,.int .i64 0,.bool false,.int .i64 0,.string ⟨#[]⟩,.bool false,.int .i64 0,.string ⟨#[]⟩,.int .i64 0,.slice none 0 0] 39);have JJ:Hid (ZR w wA (w1.alloc (.cells #[.bool false,.int .i64 0,.bool false,.int .i64 0,.string ⟨#[]⟩,.bool false,.int .i64 0,.string ⟨#[]⟩,.int .i64 0,.slice none 0 0] 39)) r0 (r0+1) (r0+1+1) Zu7 xs):=hid ⟨by
   have h:Row (w1.alloc (.cells #[.bool false,.int .i64 0,.bool false,.int .i64 0,.string ⟨#[]⟩,.bool false,.int .i64 0,.string ⟨#[]⟩,.int .i64 0,.slice none 0 0] 39)) w1.heap.size 39 Zu7:=by unfold Row;rw[heap_alloc_new];rfl
   rw[hz1]at h;exact h,⟨false,HAT1.out.mono ((Zab w1).alloc (Nat.le_refl _) _)⟩,QK.out.mono hB1a,by simp[hz1],YS.out.trans (hB1a.mono YS.out.size)⟩
 clear hB1a HAT1 Qa QK YS Xs;generalize w1.alloc (.cells #[.bool false,.int .i64 0,.bool false,.int .i64 0,.string ⟨#[]⟩,.bool false,.int .i64 0,.string ⟨#[]⟩,.int .i64 0,.slice none 0 0] 39)=w3 at *;clear hz1;have hn1:r0+1+1≠r0+1:=by omega
 have hn2:r0≠r0+1:=by omega
 have hn3:r0≠r0+1+1:=by omega
 have hw1:w.heap.size≤r0+1:=by omega
 have hw2:w.heap.size≤r0+1+1:=by omega
 have hA2:wA.heap.size≤r0+1+1:=by omega
 have YG:=hid (fun(wc wd:World) (zrow:List Value) (X Y:List Nat) (h:ZR w wA wc r0 (r0+1) (r0+1+1) zrow X) (hr:∃ s,Zap wA wd (r0+1) Y s) (hc:Chg (r0+1) (r0+1) wc wd)=>h.call hr hc hn1 hn2 hw1);have Qz:=hid (fun(wc:World) (zrow:List Value) (X:List Nat) (h:ZR w wA wc r0 (r0+1) (r0+1+1) zrow X) (i:Nat) (v:Value)=>h.set i v hn1 hn3 hA2 hw2);clear hn1 hn2 hn3 hw1 hw2 hA2;have hf:=Z05 HX.out.1;have YH:=hid (fun(s:Bool) (w2:World) (h:Zap wA w2 (r0+1) xs s)=>Zgd wA w2 (r0+1) xs s h HX.out.1 HX.out.2);have Ue:=hid (And.intro (Zas (n:=1) HX.out.1) (Zef (n:=1) HX.out.2));have ZA:Hid (L.wordOf 8 (tk 1 xs)=pzF xs):=hid rfl;have JY:Hid (pzR xs=decide (pzF xs%2=1)):=hid rfl;have Uc:Hid (pzB xs=decide (pzF xs/2%2=1)):=hid rfl;have U0:Hid (pzN xs=if pzR xs=true then ((L.wordOf 8 (tk 4 (tkL 1 xs)):Nat):Int)else 0):=hid rfl;have JM:Hid (pzX2 xs=if pzR xs=true then tkL 4 (tkL 1 xs)else tkL 1 xs):=hid rfl;have JN:Hid (pzD rows xs=(pzR xs&&decide (pzN xs≠rows))):=hid rfl;have JO:Hid (pzX4 k rows xs=if pzD rows xs=true then bdL k (bdL k (pzX2 xs))else pzX2 xs):=hid rfl;have HPZ:Hid (Zfs k rows xs=⟨pzR xs,pzN xs,if pzD rows xs=true then bdC k (pzX2 xs)else C3.df,if pzD rows xs=true then bdC k (bdL k (pzX2 xs))else C3.df,
  if pzB xs=true then (L.wordOf 8 (tk 1 (pzX4 k rows xs)):Nat)else 0,
  if pzB xs=true then numL 8 (tk (8*L.wordOf 8 (tk 4 (tkL 1 (pzX4 k rows xs)))) (tkL 4 (tkL 1 (pzX4 k rows xs))))else []⟩):=hid rfl
 rw[ZA.out]at YH;generalize pzF xs=f at *;generalize pzR xs=rg at *;generalize pzB xs=fb at *;generalize pzN xs=nu at *;generalize pzX2 xs=x2 at *;generalize pzD rows xs=dd at *;generalize pzX4 k rows xs=x4 at *;generalize tkL 1 xs=x1 at *;clear ZA;obtain⟨s3,hs3⟩:=JJ.out.rd;have J2:=hid hs3;clear hs3;go_upto_region 4 with (go_at_call 82;refine(YH.out s3 w3 J2.out).mono ?_;rintro e w4 ⟨rfl,hat,hch⟩;have U1:=hid (YG.out w3 w4 _ _ _ JJ.out ⟨_,hat⟩ hch);clear hat hch)
 clear YH JJ J2;have hbit:=Zy4 f hf;have hbit2:=Zzd f hf;have VM:=hid hbit2;clear hbit2;obtain⟨a0,a1,a2,a3,a4,a5,a6,a7,a8,a9⟩:=Za5 U1.out.z;obtain⟨f0,f1,f2,f3,f4,f5,f6,f7,f8,f9⟩:=Zc7 U1.out.z;have U2:=hid (fun(s:Bool) (w2:World) (h:Zap wA w2 (r0+1) x1 s)=>Zfa wA w2 (r0+1) x1 s h Ue.out.1 Ue.out.2);have HX2:Hid ((∀ x∈x2,x<256)∧x2.length≤16777216):=hid (by
  rw[JM.out];split
  ·exact⟨Zas Ue.out.1,Zef Ue.out.2⟩
  ·exact Ue.out)
 go_upto_if 17 with fail
 go_cut [17]from 18 to 21 (fun s17 wc=>(∃ v17:Value,s17=v17)∧Hid (ZR w wA wc r0 (r0+1) (r0+1+1) [.bool rg,.int .i64 nu,.bool false,.int .i64 0,.string ⟨#[]⟩,.bool false,.int .i64 0,.string ⟨#[]⟩,.int .i64 0,.slice none 0 0] x2))
 case first =>
  by_cases ho:f%2=1
  ·rw[ho]at hbit;have hrg:=JY.out;rw[decide_eq_true ho]at hrg;subst hrg;rw[if_pos rfl]at U0 JM;rw[← JM.out,← U0.out]at U2;go_upto_region 6 with fail
   have HZ5:=hid (Qz.out w4 _ _ U1.out 0 (.bool true));clear a0 a1 a2 a3 a4 a5 a6 a7 a8 a9 f0 f1 f2 f3 f4 f5 f6 f7 f8 f9 U1;generalize w4.setCell ⟨r0+1+1,0,none⟩ (.bool true)=w5 at *;obtain⟨s5,hs5⟩:=HZ5.out.rd;have Jd:=hid hs5;clear hs5;go_wp2_with (go_at_call 81;refine(U2.out s5 w5 Jd.out).mono ?_;rintro e w6 ⟨rfl,hat,hch⟩;have Yw:=hid (YG.out w5 w6 _ _ _ HZ5.out ⟨_,hat⟩ hch);clear hat hch;obtain⟨a0,a1,a2,a3,a4,a5,a6,a7,a8,a9⟩:=Za5 Yw.out.z;obtain⟨f0,f1,f2,f3,f4,f5,f6,f7,f8,f9⟩:=Zc7 Yw.out.z)
   go_meet;exact⟨⟨_,rfl⟩,hid (Qz.out w6 _ _ Yw.out 1 (.int .i64 nu))⟩
  ·have ho0:f%2=0:=by omega
   rw[ho0]at hbit;have hrg:=JY.out;rw[decide_eq_false ho]at hrg;subst hrg;rw[if_neg (by decide)]at U0 JM;go_wp2_with fail
   go_meet;exact⟨⟨_,rfl⟩,hid (by rw[U0.out,JM.out];exact U1.out)⟩
 case rest =>
 obtain⟨⟨v17,rfl⟩,ZQ⟩:=hcut;clear a0 a1 a2 a3 a4 a5 a6 a7 a8 a9 f0 f1 f2 f3 f4 f5 f6 f7 f8 f9 U1 hbit JY U0 JM U2 Ue;generalize wc=w7 at *;obtain⟨a0,a1,a2,a3,a4,a5,a6,a7,a8,a9⟩:=Za5 ZQ.out.z;obtain⟨f0,f1,f2,f3,f4,f5,f6,f7,f8,f9⟩:=Zc7 ZQ.out.z;go_upto_region 7 with fail
 go_cut [29]from 22 to 28 (fun s29 wc=>s29=.bool dd∧wc=w7)
 case first =>
  have hdd:=JN.out;cases rg
  ·rw[Bool.false_and]at hdd;subst hdd;go_wp2_with fail
   go_meet;exact⟨rfl,rfl⟩
  ·rw[Bool.true_and]at hdd;by_cases he:nu=rows
   ·subst he;rw[decide_eq_false (by simp)]at hdd;subst hdd;go_wp2_with fail
    go_meet;exact⟨rfl,rfl⟩
   ·rw[decide_eq_true he]at hdd;subst hdd;have heb:(nu != rows)=true:=by simp[he]
    go_wp2_with fail
    go_meet;exact⟨rfl,rfl⟩
 case rest =>
 obtain⟨rfl,hw⟩:=hcut;replace hw:=hw.symm;subst hw;obtain⟨mn,hmn⟩:∃ mn,(if dd=true then bdC k x2 else C3.df)=mn:=⟨_,rfl⟩;obtain⟨mx,hmx⟩:∃ mx,(if dd=true then bdC k (bdL k x2)else C3.df)=mx:=⟨_,rfl⟩;have ZI:=hid hmn;have J8:=hid hmx;rw[hmn,hmx]at HPZ;clear hmn hmx JN;have HX3:Hid ((∀ x∈bdL k x2,x<256)∧(bdL k x2).length≤16777216):=hid ⟨Zt1 HX2.out.1,Zwt HX2.out.2⟩;have Vy:Hid ((∀ x∈x4,x<256)∧x4.length≤16777216):=hid (by
  rw[JO.out];split
  ·exact⟨Zt1 HX3.out.1,Zwt HX3.out.2⟩
  ·exact HX2.out)
 have YI:=hid (fun(s:Bool) (w2:World) (h:Zap wA w2 (r0+1) x2 s) (hg:r0+1<w2.heap.size)=>Zi9 wA w2 (r0+1) x2 s k h hg HX2.out.1 HX2.out.2);have U3:=hid (fun(s:Bool) (w2:World) (h:Zap wA w2 (r0+1) (bdL k x2) s) (hg:r0+1<w2.heap.size)=>Zi9 wA w2 (r0+1) (bdL k x2) s k h hg HX3.out.1 HX3.out.2);go_upto_if 29 with fail
 go_cut [29]from 30 to 37 (fun s29 wc=>(∃ v29:Value,s29=v29)∧Hid (ZR w wA wc r0 (r0+1) (r0+1+1) [.bool rg,.int .i64 nu,.bool mn.n,.int .i64 mn.i,.string mn.s,.bool mx.n,.int .i64 mx.i,.string mx.s,.int .i64 0,.slice none 0 0] x4))
 case first =>
  cases dd
  ·rw[if_neg (by decide)]at ZI J8 JO;go_wp2_with fail
   go_meet;exact⟨⟨_,rfl⟩,hid (by rw[← ZI.out,← J8.out,JO.out];exact ZQ.out)⟩
  ·rw[if_pos rfl]at ZI J8 JO;rw[ZI.out]at YI;rw[J8.out,← JO.out]at U3;generalize bdL k x2=x3 at *;obtain⟨mnn,mni,mns⟩:=mn;obtain⟨mxn,mxi,mxs⟩:=mx;unfold C3.v at YI U3;simp only at YI U3;obtain⟨s7,hs7⟩:=ZQ.out.rd;have Zv:=hid hs7;clear hs7;go_upto_region 9 with (go_at_call 122;refine(YI.out s7 w7 Zv.out ZQ.out.lt).mono ?_;rintro e w8 ⟨rfl,hat,hch⟩;have JP:=hid (YG.out w7 w8 _ _ _ ZQ.out hat hch);clear hat hch a0 a1 a2 a3 a4 a5 a6 a7 a8 a9 f0 f1 f2 f3 f4 f5 f6 f7 f8 f9;obtain⟨a0,a1,a2,a3,a4,a5,a6,a7,a8,a9⟩:=Za5 JP.out.z;obtain⟨f0,f1,f2,f3,f4,f5,f6,f7,f8,f9⟩:=Zc7 JP.out.z)
   have Vz:=hid (Qz.out _ _ _ (Qz.out _ _ _ (Qz.out w8 _ _ JP.out 2 (.bool mnn)) 3 (.int .i64 mni)) 4 (.string mns));clear a0 a1 a2 a3 a4 a5 a6 a7 a8 a9 f0 f1 f2 f3 f4 f5 f6 f7 f8 f9 JP ZQ Zv;change Code.wp _ _ _ _ (((w8.setCell ⟨r0+1+1,2,none⟩ (.bool mnn)).setCell ⟨r0+1+1,3,none⟩ (.int .i64 mni)).setCell ⟨r0+1+1,4,none⟩ (.string mns))
   generalize ((w8.setCell ⟨r0+1+1,2,none⟩ (.bool mnn)).setCell ⟨r0+1+1,3,none⟩ (.int .i64 mni)).setCell ⟨r0+1+1,4,none⟩ (.string mns)=w9 at *;simp only[List.set_cons_succ,List.set_cons_zero]at Vz;obtain⟨s9,hs9⟩:=Vz.out.rd;have Vu:=hid hs9;clear hs9;go_wp2_with (go_at_call 122;refine(U3.out s9 w9 Vu.out Vz.out.lt).mono ?_;rintro e w10 ⟨rfl,hat,hch⟩;have Xt:=hid (YG.out w9 w10 _ _ _ Vz.out hat hch);clear hat hch;obtain⟨a0,a1,a2,a3,a4,a5,a6,a7,a8,a9⟩:=Za5 Xt.out.z;obtain⟨f0,f1,f2,f3,f4,f5,f6,f7,f8,f9⟩:=Zc7 Xt.out.z)
   go_meet;exact⟨⟨_,rfl⟩,hid (Qz.out _ _ _ (Qz.out _ _ _ (Qz.out w10 _ _ Xt.out 5 (.bool mxn)) 6 (.int .i64 mxi)) 7 (.string mxs))⟩
 case rest =>
 obtain⟨⟨v29,rfl⟩,Jm⟩:=hcut;clear a0 a1 a2 a3 a4 a5 a6 a7 a8 a9 f0 f1 f2 f3 f4 f5 f6 f7 f8 f9 ZQ YI U3 ZI J8 HX3 HX2 JO;generalize wc=w11 at *;obtain⟨hs,hhs⟩:∃ hs:Int,(if fb=true then ((L.wordOf 8 (tk 1 x4):Nat):Int)else 0)=hs:=⟨_,rfl⟩;obtain⟨bl,hbl⟩:∃ bl,(if fb=true then numL 8 (tk (8*L.wordOf 8 (tk 4 (tkL 1 x4))) (tkL 4 (tkL 1 x4)))else [])=bl:=⟨_,rfl⟩;have HHS:=hid hhs;have Q9:=hid hbl;rw[hhs,hbl]at HPZ;clear hhs hbl;obtain⟨a0,a1,a2,a3,a4,a5,a6,a7,a8,a9⟩:=Za5 Jm.out.z;obtain⟨f0,f1,f2,f3,f4,f5,f6,f7,f8,f9⟩:=Zc7 Jm.out.z;have hbit2:=VM.out;go_upto_if 40 with fail
 go_cut [40]from 41 to 48 (fun s40 wc=>(∃ v40:Value,s40=v40)∧∃(B:Option Addr) (bc:Nat) (X:List Nat),Hid (ZR w wA wc r0 (r0+1) (r0+1+1) [.bool rg,.int .i64 nu,.bool mn.n,.int .i64 mn.i,.string mn.s,.bool mx.n,.int .i64 mx.i,.string mx.s,.int .i64 hs,.slice B bl.length bc] X)∧Hid (wc.ownsRow (r0+1) 73 1 (.slice B bl.length bc) bl.length (u64s bl))∧Hid ((∀ x∈bl,x<18446744073709551616)∧bl.length≤16777216))
 case first =>
  by_cases ho:f/2%2=1
  ·rw[ho]at hbit2;have hfb:=Uc.out;rw[decide_eq_true ho]at hfb;subst hfb;rw[if_pos rfl]at HHS Q9;have Q0:=hid (fun(s:Bool) (w2:World) (h:Zap wA w2 (r0+1) x4 s)=>Zgd wA w2 (r0+1) x4 s h Vy.out.1 Vy.out.2);rw[HHS.out]at Q0;have HX5:=hid (And.intro (Zas (n:=1) Vy.out.1) (Zef (n:=1) Vy.out.2));generalize tkL 1 x4=x5 at *;have HU5:=hid (fun(s:Bool) (w2:World) (h:Zap wA w2 (r0+1) x5 s)=>Zfa wA w2 (r0+1) x5 s h HX5.out.1 HX5.out.2);have HX6:=hid (And.intro (Zas (n:=4) HX5.out.1) (Zef (n:=4) HX5.out.2));have hn6:L.wordOf 8 (tk 4 x5)<4294967296:=Zb2 _ (Zc8 HX5.out.1) (Zib 4 x5);generalize tkL 4 x5=x6 at *;generalize L.wordOf 8 (tk 4 x5)=n6 at *;have HU6:=hid (fun(s:Bool) (w2:World) (h:Zap wA w2 (r0+1) x6 s) (hg:r0+1<w2.heap.size)=>Zhh wA w2 (r0+1) x6 s n6 h hg HX6.out.1 HX6.out.2 (by omega));rw[Q9.out]at HU6;have Yc:Hid ((∀ x∈bl,x<18446744073709551616)∧bl.length≤16777216):=hid (by
    rw[← Q9.out];have ht:(tk (8*n6) x6).length≤16777216:=by
     have:=HX6.out.2;unfold tk;split
     ·rw[List.length_take];omega
     ·simp
    exact⟨Zdu (Zc8 HX6.out.1) (by decide),by rw[Zal];omega⟩)
   clear Q9 HHS;obtain⟨s11,hs11⟩:=Jm.out.rd;have HS11:=hid hs11;clear hs11;go_upto_region 12 with (go_at_call 82;refine(Q0.out s11 w11 HS11.out).mono ?_;rintro e w12 ⟨rfl,hat,hch⟩;have V0:=hid (YG.out w11 w12 _ _ _ Jm.out ⟨_,hat⟩ hch);clear hat hch a0 a1 a2 a3 a4 a5 a6 a7 a8 a9 f0 f1 f2 f3 f4 f5 f6 f7 f8 f9;obtain⟨a0,a1,a2,a3,a4,a5,a6,a7,a8,a9⟩:=Za5 V0.out.z;obtain⟨f0,f1,f2,f3,f4,f5,f6,f7,f8,f9⟩:=Zc7 V0.out.z)
   have Xu:=hid (Qz.out w12 _ _ V0.out 8 (.int .i64 hs));clear a0 a1 a2 a3 a4 a5 a6 a7 a8 a9 f0 f1 f2 f3 f4 f5 f6 f7 f8 f9 V0 Jm HS11;generalize w12.setCell ⟨r0+1+1,8,none⟩ (.int .i64 hs)=w13 at *;simp only[List.set_cons_succ,List.set_cons_zero]at Xu;obtain⟨s13,hs13⟩:=Xu.out.rd;have HS13:=hid hs13;clear hs13;go_wp2_with (first
    | (go_at_call 81;refine(HU5.out s13 w13 HS13.out).mono ?_;rintro e w14 ⟨rfl,hat,hch⟩;have Xv:=hid (YG.out w13 w14 _ _ _ Xu.out ⟨_,hat⟩ hch);have HS14:=hid hat;clear hat hch)
    | (go_at_call 123;refine(HU6.out _ w14 HS14.out Xv.out.lt).mono ?_;rintro e w15 ⟨p,hp,rfl,hrow,hat,hch⟩;have Xw:=hid (YG.out w14 w15 _ _ _ Xv.out ⟨_,hat⟩ hch);have HPP:=hid hp;have Q3:=hid hrow;clear hat hch hp hrow;obtain⟨a0,a1,a2,a3,a4,a5,a6,a7,a8,a9⟩:=Za5 Xw.out.z;obtain⟨f0,f1,f2,f3,f4,f5,f6,f7,f8,f9⟩:=Zc7 Xw.out.z))
   go_meet;have hzl:r0+1+1<w14.heap.size:=Xv.out.z.lt;have hpp:=HPP.out;refine⟨⟨_,rfl⟩,some ⟨p,0,none⟩,bl.length,_,hid (Qz.out w15 _ _ Xw.out 9 (.slice (some ⟨p,0,none⟩) bl.length bl.length)),hid ?_,Yc⟩;exact(Zbg Q3.out (by omega)).owns (by omega) (Zh7 bl) (by have:=Yc.out.2;unfold maxLen;omega)
  ·have ho0:f/2%2=0:=by omega
   rw[ho0]at hbit2;have hfb:=Uc.out;rw[decide_eq_false ho]at hfb;subst hfb;rw[if_neg (by decide)]at HHS Q9;go_wp2_with fail
   go_meet;refine⟨⟨_,rfl⟩,none,0,_,hid (by rw[← HHS.out,← Q9.out];exact Jm.out),hid ?_,hid ?_⟩
   ·rw[← Q9.out];exact World.ownsRow_nil _ _ _ _
   ·rw[← Q9.out];exact⟨fun x hx=>(by cases hx),by simp⟩
 case rest =>
 obtain⟨⟨v40,rfl⟩,B,bc,X,QA,QO,Yc⟩:=hcut;clear a0 a1 a2 a3 a4 a5 a6 a7 a8 a9 f0 f1 f2 f3 f4 f5 f6 f7 f8 f9 Jm VM Uc HHS Q9 Vy hbit2 hf;generalize wc=w16 at *;have Zn:=hid (fun w2:World=>Zu8 k rows ⟨rg,nu,mn,mx,hs,bl⟩ B bc w2);have JQ:=hid (fun(hz:zOk k rows ⟨rg,nu,mn,mx,hs,bl⟩=true) (w2:World) (hb:Below w16.heap.size w16 w2)=>Zmi k rows ⟨rg,nu,mn,mx,hs,bl⟩ B bc w2 hr hz ((Zba QO.out).mono hb) Yc.out.1);have HEQ:=hid (fun(w2:World) (b:Value) (zr:List Nat) (h1:Rd w2 (.slice A0 xn c0) xn 1 (u8s xs)) (h2:Rd w2 b zr.length 1 (u8s zr)) (h3:∀ x∈zr,x<256)=>Zms (.slice A0 xn c0) b xs zr w2 (by rw[Uz.out];exact h1) h2 HX.out.1 h3);have Zb:Hid (zOk k rows ⟨rg,nu,mn,mx,hs,bl⟩=true→∀ x∈zRec k rows ⟨rg,nu,mn,mx,hs,bl⟩,x<256):=hid (fun hz=>Zxk hz);have Xx:Hid (Zfs k rows xs=⟨rg,nu,mn,mx,hs,bl⟩):=hid HPZ.out;clear HPZ;obtain⟨zk,hzk⟩:∃ zk,zOk k rows ⟨rg,nu,mn,mx,hs,bl⟩=zk:=⟨_,rfl⟩;have JR:=hid hzk;rw[hzk]at Zn JQ Zb;clear hzk;obtain⟨zr,hzr⟩:∃ zr,zRec k rows ⟨rg,nu,mn,mx,hs,bl⟩=zr:=⟨_,rfl⟩;have U4:=hid hzr;rw[hzr]at JQ Zb;clear hzr;obtain⟨bn,hbn⟩:∃ bn,bl.length=bn:=⟨_,rfl⟩;have Xy:=hid hbn;simp only[hbn]at Zn JQ QA QO;clear hbn;obtain⟨mnn,mni,mns⟩:=mn;obtain⟨mxn,mxi,mxs⟩:=mx;unfold ZM.v at Zn JQ;simp only at Zn JQ QA;obtain⟨a0,a1,a2,a3,a4,a5,a6,a7,a8,a9⟩:=Za5 QA.out.z;obtain⟨y0,y1,y2,y3,y4,y5,y6,y7,y8,y9⟩:=Za5 QA.out.r;obtain⟨f0,f1,f2,f3,f4,f5,f6,f7,f8,f9⟩:=Zc7 QA.out.r;have ZB:=hid (fun(wd:World) (h:Below w16.heap.size w16 wd)=>(⟨QA.out.z.mono h,by obtain⟨s,hs⟩:=QA.out.rd;exact⟨s,hs.mono h⟩,QA.out.r.mono h,Nat.lt_of_lt_of_le QA.out.lt h.size,QA.out.bl.trans (h.mono QA.out.bl.size)⟩:ZR w wA wd r0 (r0+1) (r0+1+1) [.bool rg,.int .i64 nu,.bool mnn,.int .i64 mni,.string mns,.bool mxn,.int .i64 mxi,.string mxs,.int .i64 hs,.slice B bn bc] X));cases zk
 ·have JS:Hid (¬ (zOk k rows (Zfs k rows xs)=true∧zRec k rows (Zfs k rows xs)=xs)):=hid (by rw[Xx.out,JR.out];exact fun h=>by cases h.1);go_wp2_with (go_at_call 124;refine(Zn.out w16).mono ?_;rintro e w17 ⟨rfl,hb⟩;have Qt:=hid (ZB.out w17 hb);clear hb a0 a1 a2 a3 a4 a5 a6 a7 a8 a9 y0 y1 y2 y3 y4 y5 y6 y7 y8 y9 f0 f1 f2 f3 f4 f5 f6 f7 f8 f9;obtain⟨a0,a1,a2,a3,a4,a5,a6,a7,a8,a9⟩:=Za5 Qt.out.z;obtain⟨y0,y1,y2,y3,y4,y5,y6,y7,y8,y9⟩:=Za5 Qt.out.r;obtain⟨f0,f1,f2,f3,f4,f5,f6,f7,f8,f9⟩:=Zc7 Qt.out.r)
  ·change bodyPost _ _ _ _ _ (Zfx w17 r0 (.bool false) (.int .i64 0) (.bool false) (.int .i64 0) (.string ⟨#[]⟩) (.bool false) (.int .i64 0) (.string ⟨#[]⟩) (.int .i64 0) (.slice none 0 0))
   have R0:=Zd1 Qt.out.r (.bool false) (.int .i64 0) (.bool false) (.int .i64 0) (.string ⟨#[]⟩) (.bool false) (.int .i64 0) (.string ⟨#[]⟩) (.int .i64 0) (.slice none 0 0);have hch:=Zd5 w17 r0 (.bool false) (.int .i64 0) (.bool false) (.int .i64 0) (.string ⟨#[]⟩) (.bool false) (.int .i64 0) (.string ⟨#[]⟩) (.int .i64 0) (.slice none 0 0);have hbl:=hch.below Qt.out.bl Qt.out.bl.size (by omega) (by omega);clear a0 a1 a2 a3 a4 a5 a6 a7 a8 a9 y0 y1 y2 y3 y4 y5 y6 y7 y8 y9 f0 f1 f2 f3 f4 f5 f6 f7 f8 f9;generalize Zfx w17 r0 (.bool false) (.int .i64 0) (.bool false) (.int .i64 0) (.string ⟨#[]⟩) (.bool false) (.int .i64 0) (.string ⟨#[]⟩) (.int .i64 0) (.slice none 0 0)=wz at *;obtain⟨q0,q1,q2,q3,q4,q5,q6,q7,q8,q9⟩:=Za5 R0;refine bodyPost_ret (v:=.tuple #[.agg #[.bool false,.int .i64 0,.bool false,.int .i64 0,.string ⟨#[]⟩,.bool false,.int .i64 0,.string ⟨#[]⟩,.int .i64 0,.slice none 0 0],.bool false]) ?_ rfl ?_
   ·simp[results,Tryz.results86,go_sem,q0,q1,q2,q3,q4,q5,q6,q7,q8,q9]
   ·rw[← Qm.out];exact⟨hbl,false,ZM.df,.slice none 0 0,rfl,World.ownsRow_nil _ _ _ _,.inr ⟨rfl,rfl,JS.out⟩⟩
 ·have U5:=hid (JQ.out rfl);have U6:=hid (Zb.out rfl);by_cases heq:xs=zr
  ·have HQ:Hid (decide (xs=zr)=true):=hid (decide_eq_true heq);have QG:Hid (zRec k rows ⟨rg,nu,⟨mnn,mni,mns⟩,⟨mxn,mxi,mxs⟩,hs,bl⟩=xs):=hid (by rw[U4.out];exact heq.symm);clear heq;go_wp2_with (first
    | (go_at_call 124;refine(Zn.out w16).mono ?_;rintro e w17 ⟨rfl,hb⟩;have Zu:=hid hb;have Qt:=hid (ZB.out w17 hb);clear hb a0 a1 a2 a3 a4 a5 a6 a7 a8 a9 y0 y1 y2 y3 y4 y5 y6 y7 y8 y9 f0 f1 f2 f3 f4 f5 f6 f7 f8 f9;obtain⟨a0,a1,a2,a3,a4,a5,a6,a7,a8,a9⟩:=Za5 Qt.out.z;obtain⟨y0,y1,y2,y3,y4,y5,y6,y7,y8,y9⟩:=Za5 Qt.out.r;obtain⟨f0,f1,f2,f3,f4,f5,f6,f7,f8,f9⟩:=Zc7 Qt.out.r)
    | (go_at_call 62;refine(U5.out w17 Zu.out).mono ?_;rintro e w18 ⟨r1,rfl,ho,hb⟩;obtain⟨A8,c8,rfl⟩:=ho.form;have Z9:=hid (Zba ho);have Zo:=hid (Zad Zu.out hb);have Qt:=hid (ZB.out w18 Zo.out);clear ho hb a0 a1 a2 a3 a4 a5 a6 a7 a8 a9 y0 y1 y2 y3 y4 y5 y6 y7 y8 y9 f0 f1 f2 f3 f4 f5 f6 f7 f8 f9;obtain⟨a0,a1,a2,a3,a4,a5,a6,a7,a8,a9⟩:=Za5 Qt.out.z;obtain⟨y0,y1,y2,y3,y4,y5,y6,y7,y8,y9⟩:=Za5 Qt.out.r;obtain⟨f0,f1,f2,f3,f4,f5,f6,f7,f8,f9⟩:=Zc7 Qt.out.r)
    | (go_at_call 125;refine(HEQ.out w18 _ zr (HVR.out.mono Qt.out.bl) Z9.out U6.out).mono ?_;rintro e w19 ⟨rfl,hw⟩;replace hw:=hw.symm;subst hw;rw[HQ.out]))
   change bodyPost _ _ _ _ _ (Zfx w18 r0 (.bool rg) (.int .i64 nu) (.bool mnn) (.int .i64 mni) (.string mns) (.bool mxn) (.int .i64 mxi) (.string mxs) (.int .i64 hs) (.slice B bn bc))
   have R0:=Zd1 Qt.out.r (.bool rg) (.int .i64 nu) (.bool mnn) (.int .i64 mni) (.string mns) (.bool mxn) (.int .i64 mxi) (.string mxs) (.int .i64 hs) (.slice B bn bc);have hch:=Zd5 w18 r0 (.bool rg) (.int .i64 nu) (.bool mnn) (.int .i64 mni) (.string mns) (.bool mxn) (.int .i64 mxi) (.string mxs) (.int .i64 hs) (.slice B bn bc);have hbl:=hch.below Qt.out.bl Qt.out.bl.size (by omega) (by omega);have how:=Zk8 (Zb4 (Zbt QO.out Zo.out) hch (Nat.lt_succ_self r0) (Nat.lt_succ_self r0)) (Nat.le_succ r0);clear a0 a1 a2 a3 a4 a5 a6 a7 a8 a9 y0 y1 y2 y3 y4 y5 y6 y7 y8 y9 f0 f1 f2 f3 f4 f5 f6 f7 f8 f9;generalize Zfx w18 r0 (.bool rg) (.int .i64 nu) (.bool mnn) (.int .i64 mni) (.string mns) (.bool mxn) (.int .i64 mxi) (.string mxs) (.int .i64 hs) (.slice B bn bc)=wz at *;obtain⟨q0,q1,q2,q3,q4,q5,q6,q7,q8,q9⟩:=Za5 R0;refine bodyPost_ret (v:=.tuple #[.agg #[.bool rg,.int .i64 nu,.bool mnn,.int .i64 mni,.string mns,.bool mxn,.int .i64 mxi,.string mxs,.int .i64 hs,.slice B bn bc],.bool true]) ?_ rfl ?_
   ·simp[results,Tryz.results86,go_sem,q0,q1,q2,q3,q4,q5,q6,q7,q8,q9]
   ·rw[← Qm.out];exact⟨hbl,true,⟨rg,nu,⟨mnn,mni,mns⟩,⟨mxn,mxi,mxs⟩,hs,bl⟩,.slice B bn bc,rfl,by rw[hr0,Xy.out];exact how,.inl ⟨rfl,Xx.out.symm,JR.out,QG.out⟩⟩
  ·have HQ:Hid (decide (xs=zr)=false):=hid (decide_eq_false heq);have JS:Hid (¬ (zOk k rows (Zfs k rows xs)=true∧zRec k rows (Zfs k rows xs)=xs)):=hid (by rw[Xx.out,U4.out];exact fun h=>heq h.2.symm);clear heq;go_wp2_with (first
    | (go_at_call 124;refine(Zn.out w16).mono ?_;rintro e w17 ⟨rfl,hb⟩;have Zu:=hid hb;have Qt:=hid (ZB.out w17 hb);clear hb a0 a1 a2 a3 a4 a5 a6 a7 a8 a9 y0 y1 y2 y3 y4 y5 y6 y7 y8 y9 f0 f1 f2 f3 f4 f5 f6 f7 f8 f9;obtain⟨a0,a1,a2,a3,a4,a5,a6,a7,a8,a9⟩:=Za5 Qt.out.z;obtain⟨y0,y1,y2,y3,y4,y5,y6,y7,y8,y9⟩:=Za5 Qt.out.r;obtain⟨f0,f1,f2,f3,f4,f5,f6,f7,f8,f9⟩:=Zc7 Qt.out.r)
    | (go_at_call 62;refine(U5.out w17 Zu.out).mono ?_;rintro e w18 ⟨r1,rfl,ho,hb⟩;obtain⟨A8,c8,rfl⟩:=ho.form;have Z9:=hid (Zba ho);have Zo:=hid (Zad Zu.out hb);have Qt:=hid (ZB.out w18 Zo.out);clear ho hb a0 a1 a2 a3 a4 a5 a6 a7 a8 a9 y0 y1 y2 y3 y4 y5 y6 y7 y8 y9 f0 f1 f2 f3 f4 f5 f6 f7 f8 f9;obtain⟨a0,a1,a2,a3,a4,a5,a6,a7,a8,a9⟩:=Za5 Qt.out.z;obtain⟨y0,y1,y2,y3,y4,y5,y6,y7,y8,y9⟩:=Za5 Qt.out.r;obtain⟨f0,f1,f2,f3,f4,f5,f6,f7,f8,f9⟩:=Zc7 Qt.out.r)
    | (go_at_call 125;refine(HEQ.out w18 _ zr (HVR.out.mono Qt.out.bl) Z9.out U6.out).mono ?_;rintro e w19 ⟨rfl,hw⟩;replace hw:=hw.symm;subst hw;rw[HQ.out]))
   change bodyPost _ _ _ _ _ (Zfx w18 r0 (.bool false) (.int .i64 0) (.bool false) (.int .i64 0) (.string ⟨#[]⟩) (.bool false) (.int .i64 0) (.string ⟨#[]⟩) (.int .i64 0) (.slice none 0 0))
   have R0:=Zd1 Qt.out.r (.bool false) (.int .i64 0) (.bool false) (.int .i64 0) (.string ⟨#[]⟩) (.bool false) (.int .i64 0) (.string ⟨#[]⟩) (.int .i64 0) (.slice none 0 0);have hch:=Zd5 w18 r0 (.bool false) (.int .i64 0) (.bool false) (.int .i64 0) (.string ⟨#[]⟩) (.bool false) (.int .i64 0) (.string ⟨#[]⟩) (.int .i64 0) (.slice none 0 0);have hbl:=hch.below Qt.out.bl Qt.out.bl.size (by omega) (by omega);clear a0 a1 a2 a3 a4 a5 a6 a7 a8 a9 y0 y1 y2 y3 y4 y5 y6 y7 y8 y9 f0 f1 f2 f3 f4 f5 f6 f7 f8 f9;generalize Zfx w18 r0 (.bool false) (.int .i64 0) (.bool false) (.int .i64 0) (.string ⟨#[]⟩) (.bool false) (.int .i64 0) (.string ⟨#[]⟩) (.int .i64 0) (.slice none 0 0)=wz at *;obtain⟨q0,q1,q2,q3,q4,q5,q6,q7,q8,q9⟩:=Za5 R0;refine bodyPost_ret (v:=.tuple #[.agg #[.bool false,.int .i64 0,.bool false,.int .i64 0,.string ⟨#[]⟩,.bool false,.int .i64 0,.string ⟨#[]⟩,.int .i64 0,.slice none 0 0],.bool false]) ?_ rfl ?_
   ·simp[results,Tryz.results86,go_sem,q0,q1,q2,q3,q4,q5,q6,q7,q8,q9]
   ·rw[← Qm.out];exact⟨hbl,false,ZM.df,.slice none 0 0,rfl,World.ownsRow_nil _ _ _ _,.inr ⟨rfl,rfl,JS.out⟩⟩
set_option maxHeartbeats 8000000 in
theorem Zn4 (k rows:Int) (z:ZM) (B:Option Addr) (bc:Nat) (w:World):Calls Tryz.prog 135 #[z.v (.slice B z.bl.length bc),.int .i64 k,.int .i64 rows] w fun e w'=>e=.returned (.bool (zOk k rows z))∧Below w.heap.size w w':=by
 have ZN:=hid (fun w2:World=>Zft z.mn k w2);have ZJ:=hid (fun w2:World=>Zft z.mx k w2);obtain⟨bn,hbn⟩:∃ bn,z.bl.length=bn:=⟨_,rfl⟩;obtain⟨R,hR⟩:∃ R,zOk k rows z=R:=⟨_,rfl⟩;rw[hR,hbn];unfold zOk rgOk filZ Zej at hR;rw[hbn]at hR;clear hbn;obtain⟨v1,hv1⟩:∃ v1,Zdx k z.mn=v1:=⟨_,rfl⟩;obtain⟨v2,hv2⟩:∃ v2,Zdx k z.mx=v2:=⟨_,rfl⟩;rw[hv1,hv2]at hR;rw[hv1]at ZN;rw[hv2]at ZJ;clear hv1 hv2;have HR:=hid hR;clear hR;obtain⟨rg,nu,⟨mnn,mni,mns⟩,⟨mxn,mxi,mxs⟩,hs,bl⟩:=z;unfold ZM.v;unfold C3.v at ZN ZJ;simp only at HR ZN ZJ ⊢;have Ql:=hid ((Zab w).alloc (Nat.le_refl _) (.cells #[.bool rg,.int .i64 nu,.bool mnn,.int .i64 mni,.string mns,.bool mxn,.int .i64 mxi,.string mxs,.int .i64 hs,.slice B bn bc] 39));have Qj:Hid (Row (w.alloc (.cells #[.bool rg,.int .i64 nu,.bool mnn,.int .i64 mni,.string mns,.bool mxn,.int .i64 mxi,.string mxs,.int .i64 hs,.slice B bn bc] 39)) w.heap.size 39 [.bool rg,.int .i64 nu,.bool mnn,.int .i64 mni,.string mns,.bool mxn,.int .i64 mxi,.string mxs,.int .i64 hs,.slice B bn bc]):=hid (by unfold Row;rw[heap_alloc_new]);go_enter Tryz.func135,Tryz.ntmps135;go_upto_region 1 with fail
 generalize w.alloc (.cells #[.bool rg,.int .i64 nu,.bool mnn,.int .i64 mni,.string mns,.bool mxn,.int .i64 mxi,.string mxs,.int .i64 hs,.slice B bn bc] 39)=w0 at *;obtain⟨a0,a1,a2,a3,a4,a5,a6,a7,a8,a9⟩:=Za5 Qj.out;obtain⟨q1,hq1⟩:∃ q1,decide (bn=0∧hs≠0)=q1:=⟨_,rfl⟩;have YR:=hid hq1;clear hq1;go_cut [16]from 8 to 15 (fun s16 wc=>s16=.bool q1∧wc=w0)
 case first =>
  by_cases h0:bn=0
  ·subst h0;by_cases h1:hs=0
   ·obtain rfl:q1=false:=by rw[← YR.out];simp[h1]
    subst h1;go_wp2_with fail
    go_meet;exact⟨rfl,rfl⟩
   ·obtain rfl:q1=true:=by rw[← YR.out];simp[h1]
    have h1b:(hs != 0)=true:=by simp[h1]
    go_wp2_with fail
    go_meet;exact⟨rfl,rfl⟩
  ·obtain rfl:q1=false:=by rw[← YR.out];simp[h0]
   have h0b:((bn:Int)==0)=false:=by simp;omega
   go_wp2_with fail
   go_meet;exact⟨rfl,rfl⟩
 case rest =>
 obtain⟨rfl,hw⟩:=hcut;replace hw:=hw.symm;subst hw;cases q1;rotate_left
 ·have h:=of_decide_eq_true YR.out;go_wp2_with fail
  go_ret;exact⟨Zae (by rw[← HR.out,decide_eq_false (show ¬ (bn=0∧hs=0)from fun h2=>h.2 h2.2),decide_eq_false (show ¬ (1≤(bn:Int)∧(bn:Int)≤64∧1≤hs∧hs≤8) by omega)];simp),Ql.out⟩
 have h1:=of_decide_eq_false YR.out;have Ug:=hid h1;clear h1 YR;go_upto_region 3 with fail
 obtain⟨q3,hq3⟩:∃ q3,decide (0<bn∧(64<bn∨hs<1∨8<hs))=q3:=⟨_,rfl⟩;have Yn:=hid hq3;clear hq3;go_cut [36]from 17 to 35 (fun s36 wc=>s36=.bool q3∧wc=w0)
 case first =>
  by_cases h0:bn=0
  ·subst h0;obtain rfl:q3=false:=by rw[← Yn.out];simp
   go_wp2_with fail
   go_meet;exact⟨rfl,rfl⟩
  ·have h0b:(bn:Int) > 0:=by omega
   by_cases h2:(bn:Int) > 64
   ·obtain rfl:q3=true:=by rw[← Yn.out];exact decide_eq_true (by omega)
    go_wp2_with fail
    go_meet;exact⟨rfl,rfl⟩
   ·by_cases h3:hs<1
    ·obtain rfl:q3=true:=by rw[← Yn.out];exact decide_eq_true (by omega)
     go_wp2_with fail
     go_meet;exact⟨rfl,rfl⟩
    ·by_cases h4:hs > 8
     ·obtain rfl:q3=true:=by rw[← Yn.out];exact decide_eq_true (by omega)
      go_wp2_with fail
      go_meet;exact⟨rfl,rfl⟩
     ·obtain rfl:q3=false:=by rw[← Yn.out];exact decide_eq_false (by omega)
      go_wp2_with fail
      go_meet;exact⟨rfl,rfl⟩
 case rest =>
 obtain⟨rfl,hw⟩:=hcut;replace hw:=hw.symm;subst hw;cases q3;rotate_left
 ·have h:=of_decide_eq_true Yn.out;go_wp2_with fail
  go_ret;exact⟨Zae (by rw[← HR.out,decide_eq_false (show ¬ (bn=0∧hs=0) by omega),decide_eq_false (show ¬ (1≤(bn:Int)∧(bn:Int)≤64∧1≤hs∧hs≤8) by omega)];simp),Ql.out⟩
 have h3:=of_decide_eq_false Yn.out;have hfil:(decide (bn=0∧hs=0)||decide (1≤(bn:Int)∧(bn:Int)≤64∧1≤hs∧hs≤8))=true:=by
  have:=Ug.out;by_cases h0:bn=0
  ·rw[decide_eq_true (show bn=0∧hs=0 by omega)];rfl
  ·rw[decide_eq_true (show 1≤(bn:Int)∧(bn:Int)≤64∧1≤hs∧hs≤8 by omega)];simp
 rw[hfil,Bool.and_true]at HR;clear hfil h3 Yn Ug;have Qa:=hid (Ql.out.alloc Ql.out.size (.cells #[.bool false,.int .i64 0,.string ⟨#[]⟩] 36));have Q1:Hid (Row (w0.alloc (.cells #[.bool false,.int .i64 0,.string ⟨#[]⟩] 36)) w0.heap.size 36 [.bool false,.int .i64 0,.string ⟨#[]⟩]):=hid (by unfold Row;rw[heap_alloc_new]);have QI:=hid (Qj.out.mono ((Zab w0).alloc (Nat.le_refl _) (.cells #[.bool false,.int .i64 0,.string ⟨#[]⟩] 36)));go_upto_region 5 with fail
 cases rg
 ·rw[if_neg (by decide)]at HR;go_upto_region 7 with fail
  clear a0 a1 a2 a3 a4 a5 a6 a7 a8 a9;generalize w0.alloc (.cells #[.bool false,.int .i64 0,.string ⟨#[]⟩] 36)=w1 at *;obtain⟨a0,a1,a2,a3,a4,a5,a6,a7,a8,a9⟩:=Za5 QI.out;obtain⟨n0,n1,n2⟩:=Zeq Q1.out;by_cases hn:nu=0
  ·subst hn;rw[decide_eq_true rfl,Bool.true_and]at HR;cases mnn
   ·by_cases h1:mni=0
    ·subst h1;by_cases h2:mns.toList=[]
     ·cases mxn
      ·by_cases h3:mxi=0
       ·subst h3;by_cases h4:mxs.toList=[]
        ·go_wp2_with fail
         go_ret;exact⟨Zae (by rw[← HR.out];simp[isDf, *]),Qa.out⟩
        ·go_wp2_with fail
         go_ret;exact⟨Zae (by rw[← HR.out];simp[isDf, *]),Qa.out⟩
       ·go_wp2_with fail
        go_ret;exact⟨Zae (by rw[← HR.out];simp[isDf, *]),Qa.out⟩
      ·go_wp2_with fail
       go_ret;exact⟨Zae (by rw[← HR.out];simp[isDf, *]),Qa.out⟩
     ·go_wp2_with fail
      go_ret;exact⟨Zae (by rw[← HR.out];simp[isDf, *]),Qa.out⟩
    ·go_wp2_with fail
     go_ret;exact⟨Zae (by rw[← HR.out];simp[isDf, *]),Qa.out⟩
   ·go_wp2_with fail
    go_ret;exact⟨Zae (by rw[← HR.out];simp[isDf, *]),Qa.out⟩
  ·rw[decide_eq_false hn,Bool.false_and]at HR;have hnb:(nu==0)=false:=by simp[hn]
   cases mnn
   ·by_cases h1:mni=0
    ·subst h1;by_cases h2:mns.toList=[]
     ·cases mxn
      ·by_cases h3:mxi=0
       ·subst h3;by_cases h4:mxs.toList=[]
        ·go_wp2_with fail
         go_ret;exact⟨Zae (by rw[← HR.out]),Qa.out⟩
        ·go_wp2_with fail
         go_ret;exact⟨Zae (by rw[← HR.out]),Qa.out⟩
       ·go_wp2_with fail
        go_ret;exact⟨Zae (by rw[← HR.out]),Qa.out⟩
      ·go_wp2_with fail
       go_ret;exact⟨Zae (by rw[← HR.out]),Qa.out⟩
     ·go_wp2_with fail
      go_ret;exact⟨Zae (by rw[← HR.out]),Qa.out⟩
    ·go_wp2_with fail
     go_ret;exact⟨Zae (by rw[← HR.out]),Qa.out⟩
   ·go_wp2_with fail
    go_ret;exact⟨Zae (by rw[← HR.out]),Qa.out⟩
 ·rw[if_pos rfl]at HR;by_cases hn:nu=rows
  ·subst hn;rw[if_pos rfl]at HR;go_upto_region 7 with fail
   clear a0 a1 a2 a3 a4 a5 a6 a7 a8 a9;generalize w0.alloc (.cells #[.bool false,.int .i64 0,.string ⟨#[]⟩] 36)=w1 at *;obtain⟨a0,a1,a2,a3,a4,a5,a6,a7,a8,a9⟩:=Za5 QI.out;obtain⟨n0,n1,n2⟩:=Zeq Q1.out;cases mnn
   ·by_cases h1:mni=0
    ·subst h1;by_cases h2:mns.toList=[]
     ·cases mxn
      ·by_cases h3:mxi=0
       ·subst h3;by_cases h4:mxs.toList=[]
        ·go_wp2_with fail
         go_ret;exact⟨Zae (by rw[← HR.out];simp[isDf, *]),Qa.out⟩
        ·go_wp2_with fail
         go_ret;exact⟨Zae (by rw[← HR.out];simp[isDf, *]),Qa.out⟩
       ·go_wp2_with fail
        go_ret;exact⟨Zae (by rw[← HR.out];simp[isDf, *]),Qa.out⟩
      ·go_wp2_with fail
       go_ret;exact⟨Zae (by rw[← HR.out];simp[isDf, *]),Qa.out⟩
     ·go_wp2_with fail
      go_ret;exact⟨Zae (by rw[← HR.out];simp[isDf, *]),Qa.out⟩
    ·go_wp2_with fail
     go_ret;exact⟨Zae (by rw[← HR.out];simp[isDf, *]),Qa.out⟩
   ·go_wp2_with fail
    go_ret;exact⟨Zae (by rw[← HR.out];simp[isDf, *]),Qa.out⟩
  ·rw[if_neg hn]at HR;have hnb:(nu==rows)=false:=by simp[hn]
   by_cases h1:nu ≥ 0
   ·by_cases h2:nu<rows
    ·go_wp2_with (first
      | (go_at_call_of 167 (Value.agg #[.bool mnn,.int .i64 mni,.string mns]);refine(ZN.out _).mono ?_;rintro e w3 ⟨rfl,hb3⟩;have Qk:=hid hb3;have Qf:=hid (Qj.out.mono hb3);clear hb3;obtain⟨b0,b1,b2,b3,b4,b5,b6,b7,b8,b9⟩:=Za5 Qf.out)
      | (go_at_call 167;refine(ZJ.out _).mono ?_;rintro e w4 ⟨rfl,hb4⟩;have Q0:=hid hb4;clear hb4))
     ·go_ret;exact⟨Zae (by rw[← HR.out,decide_eq_true (show 0≤nu∧nu<rows from ⟨h1,h2⟩)];simp[*]),Zad (Zad Ql.out Qk.out) Q0.out⟩
     ·go_ret;exact⟨Zae (by rw[← HR.out,decide_eq_true (show 0≤nu∧nu<rows from ⟨h1,h2⟩)];simp[*]),Zad Ql.out Qk.out⟩
    ·go_wp2_with fail
     go_ret;exact⟨Zae (by rw[← HR.out,decide_eq_false (show ¬ (0≤nu∧nu<rows) by omega)];rfl),Ql.out⟩
   ·go_wp2_with fail
    go_ret;exact⟨Zae (by rw[← HR.out,decide_eq_false (show ¬ (0≤nu∧nu<rows) by omega)];rfl),Ql.out⟩
end Go.Proofs.YtmcjknjlihgihaaGreatDoor
