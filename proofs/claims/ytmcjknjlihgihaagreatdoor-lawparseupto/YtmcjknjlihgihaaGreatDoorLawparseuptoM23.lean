/- Package format: readZone. -/
import Derived.Test.YtmcjknjlihgihaaGreatDoorLawparseuptoM22
set_option linter.unusedVariables false
set_option linter.unusedSimpArgs false
set_option linter.unnecessarySimpa false
set_option maxRecDepth 100000
namespace Go.Proofs.YtmcjknjlihgihaaGreatDoor
open Go.RowKit
theorem Zyr:∀ f:Nat,f<256→bits BinOp.and IntKind.i64 (f:Int) 1=((f%2:Nat):Int):=by decide +kernel
theorem Zyz:∀ f:Nat,f<256→bits BinOp.and IntKind.i64 (f:Int) 2=((2*(f/2%2):Nat):Int):=by decide +kernel
def Zvu:List Value:=[.bool false,.int .i64 0,.bool false,.int .i64 0,.string ⟨#[]⟩,.bool false,.int .i64 0,.string ⟨#[]⟩,.int .i64 0,.slice none 0 0]
structure ZR (w wA wc:World) (r0 g zb:Nat) (zrow:List Value) (X:List Nat):Prop where
 z:Row wc zb 39 zrow
 rd:∃ s,Zaq wA wc g X s
 r:Row wc r0 39 Zvu
 lt:g<wc.heap.size
 bl:Below w.heap.size w wc
theorem ZR.call {w wA wc wd:World} {r0 g zb:Nat} {zrow:List Value} {X Y:List Nat} (h:ZR w wA wc r0 g zb zrow X) (hr:∃ s,Zaq wA wd g Y s) (hc:Chg g g wc wd) (h1:zb≠g) (h2:r0≠g) (h3:w.heap.size≤g):ZR w wA wd r0 g zb zrow Y :=
 ⟨hc.row h.z h1 h1,hr,hc.row h.r h2 h2,Nat.lt_of_lt_of_le h.lt hc.size,hc.below h.bl h.bl.size h3 h3⟩
theorem ZR.set {w wA wc:World} {r0 g zb:Nat} {zrow:List Value} {X:List Nat} (h:ZR w wA wc r0 g zb zrow X) (i:Nat) (v:Value) (h1:zb≠g) (h2:r0≠zb) (h3:wA.heap.size≤zb) (h4:w.heap.size≤zb):ZR w wA (wc.setCell ⟨zb,i,none⟩ v) r0 g zb (zrow.set i v) X :=
 ⟨h.z.set i v,by obtain⟨s,hs⟩:=h.rd;exact⟨s,hs.chg ((Chg.refl zb zb wc).setCell zb i v (.inl rfl)) h1.symm h1.symm h3 h3⟩,Zam h.r h2,by simpa [World.setCell]using h.lt,Zad h.bl zb i v h4⟩
theorem Zef {n:Nat} {xs:List Nat} {m:Nat} (h:xs.length≤m):(tkL n xs).length≤m:=by
 unfold tkL
 split
 ·rw[List.length_drop];omega
 ·simp
theorem Zus {k:Int} {xs:List Nat} (h:∀ x∈xs,x<256):∀ x∈bdL k xs,x<256:=by
 unfold bdL;split
 ·exact Zau (Zau h)
 ·exact Zau h
theorem Zxe {k:Int} {xs:List Nat} {m:Nat} (h:xs.length≤m):(bdL k xs).length≤m:=by
 unfold bdL;split
 ·exact Zef (Zef h)
 ·exact Zef h
theorem Z1x {xs:List Nat} (h:∀ x∈xs,x<256):pzF xs<256:=by
 unfold pzF;cases xs with
 | nil=>decide
 | cons x r =>
  have:tk 1 (x :: r)=[x]:=by unfold tk;rw[if_pos (by simp)];rfl
  rw[this,Zh4];exact h x (List.mem_cons_self ..)
def Zf5 (w:World) (g:Nat) (a0 a1 a2 a3 a4 a5 a6 a7 a8 a9:Value):World :=
 (((((((((w.setCell ⟨g,0,none⟩ a0).setCell ⟨g,1,none⟩ a1).setCell ⟨g,2,none⟩ a2).setCell ⟨g,3,none⟩ a3).setCell ⟨g,4,none⟩ a4).setCell ⟨g,5,none⟩ a5).setCell ⟨g,6,none⟩ a6).setCell ⟨g,7,none⟩ a7).setCell ⟨g,8,none⟩ a8).setCell ⟨g,9,none⟩ a9
theorem Zd1 {w:World} {g:Nat} {e:TypeId} {b0 b1 b2 b3 b4 b5 b6 b7 b8 b9:Value} (h:Row w g e [b0,b1,b2,b3,b4,b5,b6,b7,b8,b9]) (a0 a1 a2 a3 a4 a5 a6 a7 a8 a9:Value) :
  Row (Zf5 w g a0 a1 a2 a3 a4 a5 a6 a7 a8 a9) g e [a0,a1,a2,a3,a4,a5,a6,a7,a8,a9] :=
 (((((((((h.set 0 a0).set 1 a1).set 2 a2).set 3 a3).set 4 a4).set 5 a5).set 6 a6).set 7 a7).set 8 a8).set 9 a9
theorem Zd4 (w:World) (g:Nat) (a0 a1 a2 a3 a4 a5 a6 a7 a8 a9:Value):Chg g g w (Zf5 w g a0 a1 a2 a3 a4 a5 a6 a7 a8 a9) :=
 ((((((((((Chg.refl g g w).setCell g 0 a0 (.inl rfl)).setCell g 1 a1 (.inl rfl)).setCell g 2 a2 (.inl rfl)).setCell g 3 a3 (.inl rfl)).setCell g 4 a4 (.inl rfl)).setCell g 5 a5 (.inl rfl)).setCell g 6 a6 (.inl rfl)).setCell g 7 a7 (.inl rfl)).setCell g 8 a8 (.inl rfl)).setCell g 9 a9 (.inl rfl)
theorem Zm3 {w:World} {B B':Nat} {e:TypeId} {v:Value} {n:Nat} {cs:List Value} (h:w.ownsRow B e 1 v n cs) (hb:B'≤B):w.ownsRow B' e 1 v n cs:=by
 refine⟨h.1,?_⟩;rcases h.2 with hn | ⟨g,cap,cur,rfl,hb',r⟩
 ·exact .inl hn
 ·exact .inr ⟨g,cap,cur,rfl,by omega,r⟩
theorem Zru (k:Int) (c:C3):∀ x∈Zb3 k c,x<256:=by
 intro x hx;unfold Zb3 at hx
 split at hx
 ·rcases List.mem_append.1 hx with h | h
  ·exact Znv 4 _ x h
  ·exact Zz6 _ x h
 ·exact Znv 8 _ x hx
theorem Zxo {k rows:Int} {z:ZM} (hz:zOk k rows z=true):∀ x∈zRec k rows z,x<256:=by
 intro x hx;unfold zRec at hx;simp only[List.mem_append,List.mem_singleton]at hx;rcases hx with ((h | h) | h) | h
 ·have:=Zmo z;omega
 ·unfold recA at h
  split at h
  ·exact Znv 4 _ x h
  ·cases h
 ·unfold recB at h
  split at h
  ·rcases List.mem_append.1 h with h | h
   ·exact Zru k _ x h
   ·exact Zru k _ x h
  ·cases h
 ·unfold recC at h
  split at h
  ·cases h
  ·rename_i hne
   simp only[List.mem_append,List.mem_singleton]at h;rcases Zfx hz with h2 | h2
   ·exact absurd h2.1 hne
   ·rcases h with (h | h) | h
    ·omega
    ·exact Znv 4 _ x h
    ·unfold le8 at h;obtain⟨y,_,hy⟩:=List.mem_flatMap.1 h;exact Znv 8 _ x hy
def ZAns (k rows:Int) (xs:List Nat) (w:World) (e:Ending) (w':World):Prop:=Below w.heap.size w w'∧∃(ok:Bool) (z:ZM) (B:Value),
 e=.returned (.tuple #[z.v B,.bool ok])∧w'.ownsRow w.heap.size 73 1 B z.bl.length (u64s z.bl) ∧
 ((ok=true∧z=Zgb k rows xs∧zOk k rows z=true∧zRec k rows z=xs)∨(ok=false∧z=ZM.df∧¬ (zOk k rows (Zgb k rows xs)=true∧zRec k rows (Zgb k rows xs)=xs)))
set_option maxHeartbeats 8000000 in
theorem Zk0 (w:World) (k rows:Int) (v:Value) (xs:List Nat) (hk:Zax k=true) (hr:0≤rows∧rows≤65536) (hv:Rd w v xs.length 1 (u8s xs)) (hb:∀ x∈xs,x<256) (hl:xs.length≤16777216) :
  Calls Tryz.prog 86 #[.int .i64 k,.int .i64 rows,v] w (ZAns k rows xs w):=by
 obtain⟨ANS,hANS⟩:∃ ANS,ZAns k rows xs w=ANS:=⟨_,rfl⟩;have Qj:=hid hANS;rw[hANS];clear hANS;obtain⟨r0,hr0⟩:∃ r0,w.heap.size=r0:=⟨_,rfl⟩;have hBA:=(Zab w).alloc (Nat.le_refl _) (.cells #[.bool false,.int .i64 0,.bool false,.int .i64 0,.string ⟨#[]⟩,.bool false,.int .i64 0,.string ⟨#[]⟩,.int .i64 0,.slice none 0 0] 39);have Zh:=hid hBA;have QH:Hid (Row (w.alloc (.cells #[.bool false,.int .i64 0,.bool false,.int .i64 0,.string ⟨#[]⟩,.bool false,.int .i64 0,.string ⟨#[]⟩,.int .i64 0,.slice none 0 0] 39)) r0 39 Zvu):=hid (by rw[← hr0];unfold Row;rw[heap_alloc_new];rfl);have hsA:(w.alloc (.cells #[.bool false,.int .i64 0,.bool false,.int .i64 0,.string ⟨#[]⟩,.bool false,.int .i64 0,.string ⟨#[]⟩,.int .i64 0,.slice none 0 0] 39)).heap.size=r0+1:=by simp[hr0]
 have X9:=hid (Zeu _ v xs (hv.mono hBA));have HVR:=hid hv;have HX:=hid (And.intro hb hl);obtain⟨A0,c0,rfl,_,_,_⟩:=hv.form;clear hBA hv hb hl;obtain⟨xn,hxn⟩:∃ xn,xs.length=xn:=⟨_,rfl⟩;have UE:=hid hxn;rw[hxn]at X9 HVR ⊢;clear hxn;go_enter Tryz.func86,Tryz.ntmps86;go_upto_region 1 with fail
 generalize w.alloc (.cells #[.bool false,.int .i64 0,.bool false,.int .i64 0,.string ⟨#[]⟩,.bool false,.int .i64 0,.string ⟨#[]⟩,.int .i64 0,.slice none 0 0] 39)=wA at *;rw[hsA]at X9;go_upto_region 2 with (go_at_call 79;refine X9.out.mono ?_;rintro e w1 ⟨rfl,hat,hb1,hz1⟩;have HAT1:=hid hat;have Qa:Hid (Below wA.heap.size wA w1):=hid (by rw[hsA];exact hb1);clear hat hb1)
 go_upto_region 3 with fail
 have hB1a:=Qa.out.alloc Qa.out.size (.cells #[.bool false,.int .i64 0,.bool false,.int .i64 0,.string ⟨#[]⟩,.bool false,.int .i64 0,.string ⟨#[]⟩,.int .i64 0,.slice none 0 0] 39);have JV:Hid (ZR w wA (w1.alloc (.cells #[.bool false,.int .i64 0,.bool false,.int .i64 0,.string ⟨#[]⟩,.bool false,.int .i64 0,.string ⟨#[]⟩,.int .i64 0,.slice none 0 0] 39)) r0 (r0+1) (r0+1+1) Zvu xs):=hid ⟨by
   have h:Row (w1.alloc (.cells #[.bool false,.int .i64 0,.bool false,.int .i64 0,.string ⟨#[]⟩,.bool false,.int .i64 0,.string ⟨#[]⟩,.int .i64 0,.slice none 0 0] 39)) w1.heap.size 39 Zvu:=by unfold Row;rw[heap_alloc_new];rfl
   rw[hz1]at h;exact h,⟨false,HAT1.out.mono ((Zab w1).alloc (Nat.le_refl _) _)⟩,QH.out.mono hB1a,by simp[hz1],Zh.out.trans (hB1a.mono Zh.out.size)⟩
 clear hB1a HAT1 Qa QH Zh X9;generalize w1.alloc (.cells #[.bool false,.int .i64 0,.bool false,.int .i64 0,.string ⟨#[]⟩,.bool false,.int .i64 0,.string ⟨#[]⟩,.int .i64 0,.slice none 0 0] 39)=w3 at *;clear hz1;have hn1:r0+1+1≠r0+1:=by omega
 have hn2:r0≠r0+1:=by omega
 have hn3:r0≠r0+1+1:=by omega
 have hw1:w.heap.size≤r0+1:=by omega
 have hw2:w.heap.size≤r0+1+1:=by omega
 have hA2:wA.heap.size≤r0+1+1:=by omega
 have YS:=hid (fun(wc wd:World) (zrow:List Value) (X Y:List Nat) (h:ZR w wA wc r0 (r0+1) (r0+1+1) zrow X) (hr:∃ s,Zaq wA wd (r0+1) Y s) (hc:Chg (r0+1) (r0+1) wc wd)=>h.call hr hc hn1 hn2 hw1);have Qt:=hid (fun(wc:World) (zrow:List Value) (X:List Nat) (h:ZR w wA wc r0 (r0+1) (r0+1+1) zrow X) (i:Nat) (v:Value)=>h.set i v hn1 hn3 hA2 hw2);clear hn1 hn2 hn3 hw1 hw2 hA2;have hf:=Z1x HX.out.1;have YT:=hid (fun(s:Bool) (w2:World) (h:Zaq wA w2 (r0+1) xs s)=>Zgs wA w2 (r0+1) xs s h HX.out.1 HX.out.2);have Up:=hid (And.intro (Zau (n:=1) HX.out.1) (Zef (n:=1) HX.out.2));have ZU:Hid (L.wordOf 8 (tk 1 xs)=pzF xs):=hid rfl;have Uj:Hid (pzR xs=decide (pzF xs%2=1)):=hid rfl;have Um:Hid (pzB xs=decide (pzF xs/2%2=1)):=hid rfl;have UF:Hid (pzN xs=if pzR xs=true then ((L.wordOf 8 (tk 4 (tkL 1 xs)):Nat):Int)else 0):=hid rfl;have JX:Hid (pzX2 xs=if pzR xs=true then tkL 4 (tkL 1 xs)else tkL 1 xs):=hid rfl;have JY:Hid (pzD rows xs=(pzR xs&&decide (pzN xs≠rows))):=hid rfl;have JZ:Hid (pzX4 k rows xs=if pzD rows xs=true then bdL k (bdL k (pzX2 xs))else pzX2 xs):=hid rfl;have HPZ:Hid (Zgb k rows xs=⟨pzR xs,pzN xs,if pzD rows xs=true then bdC k (pzX2 xs)else C3.df,if pzD rows xs=true then bdC k (bdL k (pzX2 xs))else C3.df,
  if pzB xs=true then (L.wordOf 8 (tk 1 (pzX4 k rows xs)):Nat)else 0,
  if pzB xs=true then numL 8 (tk (8*L.wordOf 8 (tk 4 (tkL 1 (pzX4 k rows xs)))) (tkL 4 (tkL 1 (pzX4 k rows xs))))else []⟩):=hid rfl
 rw[ZU.out]at YT;generalize pzF xs=f at *;generalize pzR xs=rg at *;generalize pzB xs=fb at *;generalize pzN xs=nu at *;generalize pzX2 xs=x2 at *;generalize pzD rows xs=dd at *;generalize pzX4 k rows xs=x4 at *;generalize tkL 1 xs=x1 at *;clear ZU;obtain⟨s3,hs3⟩:=JV.out.rd;have JF:=hid hs3;clear hs3;go_upto_region 4 with (go_at_call 82;refine(YT.out s3 w3 JF.out).mono ?_;rintro e w4 ⟨rfl,hat,hch⟩;have UG:=hid (YS.out w3 w4 _ _ _ JV.out ⟨_,hat⟩ hch);clear hat hch)
 clear YT JV JF;have hbit:=Zyr f hf;have hbit2:=Zyz f hf;have Xd:=hid hbit2;clear hbit2;obtain⟨a0,a1,a2,a3,a4,a5,a6,a7,a8,a9⟩:=Za6 UG.out.z;obtain⟨f0,f1,f2,f3,f4,f5,f6,f7,f8,f9⟩:=Zdf UG.out.z;have UH:=hid (fun(s:Bool) (w2:World) (h:Zaq wA w2 (r0+1) x1 s)=>Zff wA w2 (r0+1) x1 s h Up.out.1 Up.out.2);have HX2:Hid ((∀ x∈x2,x<256)∧x2.length≤16777216):=hid (by
  rw[JX.out];split
  ·exact⟨Zau Up.out.1,Zef Up.out.2⟩
  ·exact Up.out)
 go_upto_if 17 with fail
 go_cut [17]from 18 to 21 (fun s17 wc=>(∃ v17:Value,s17=v17)∧Hid (ZR w wA wc r0 (r0+1) (r0+1+1) [.bool rg,.int .i64 nu,.bool false,.int .i64 0,.string ⟨#[]⟩,.bool false,.int .i64 0,.string ⟨#[]⟩,.int .i64 0,.slice none 0 0] x2))
 case first =>
  by_cases ho:f%2=1
  ·rw[ho]at hbit;have hrg:=Uj.out;rw[decide_eq_true ho]at hrg;subst hrg;rw[if_pos rfl]at UF JX;rw[← JX.out,← UF.out]at UH;go_upto_region 6 with fail
   have HZ5:=hid (Qt.out w4 _ _ UG.out 0 (.bool true));clear a0 a1 a2 a3 a4 a5 a6 a7 a8 a9 f0 f1 f2 f3 f4 f5 f6 f7 f8 f9 UG;generalize w4.setCell ⟨r0+1+1,0,none⟩ (.bool true)=w5 at *;obtain⟨s5,hs5⟩:=HZ5.out.rd;have Jq:=hid hs5;clear hs5;go_wp2_with (go_at_call 81;refine(UH.out s5 w5 Jq.out).mono ?_;rintro e w6 ⟨rfl,hat,hch⟩;have Y2:=hid (YS.out w5 w6 _ _ _ HZ5.out ⟨_,hat⟩ hch);clear hat hch;obtain⟨a0,a1,a2,a3,a4,a5,a6,a7,a8,a9⟩:=Za6 Y2.out.z;obtain⟨f0,f1,f2,f3,f4,f5,f6,f7,f8,f9⟩:=Zdf Y2.out.z)
   go_meet;exact⟨⟨_,rfl⟩,hid (Qt.out w6 _ _ Y2.out 1 (.int .i64 nu))⟩
  ·have ho0:f%2=0:=by omega
   rw[ho0]at hbit;have hrg:=Uj.out;rw[decide_eq_false ho]at hrg;subst hrg;rw[if_neg (by decide)]at UF JX;go_wp2_with fail
   go_meet;exact⟨⟨_,rfl⟩,hid (by rw[UF.out,JX.out];exact UG.out)⟩
 case rest =>
 obtain⟨⟨v17,rfl⟩,Jh⟩:=hcut;clear a0 a1 a2 a3 a4 a5 a6 a7 a8 a9 f0 f1 f2 f3 f4 f5 f6 f7 f8 f9 UG hbit Uj UF JX UH Up;generalize wc=w7 at *;obtain⟨a0,a1,a2,a3,a4,a5,a6,a7,a8,a9⟩:=Za6 Jh.out.z;obtain⟨f0,f1,f2,f3,f4,f5,f6,f7,f8,f9⟩:=Zdf Jh.out.z;go_upto_region 7 with fail
 go_cut [29]from 22 to 28 (fun s29 wc=>s29=.bool dd∧wc=w7)
 case first =>
  have hdd:=JY.out;cases rg
  ·rw[Bool.false_and]at hdd;subst hdd;go_wp2_with fail
   go_meet;exact⟨rfl,rfl⟩
  ·rw[Bool.true_and]at hdd;by_cases he:nu=rows
   ·subst he;rw[decide_eq_false (by simp)]at hdd;subst hdd;go_wp2_with fail
    go_meet;exact⟨rfl,rfl⟩
   ·rw[decide_eq_true he]at hdd;subst hdd;have heb:(nu != rows)=true:=by simp[he]
    go_wp2_with fail
    go_meet;exact⟨rfl,rfl⟩
 case rest =>
 obtain⟨rfl,hw⟩:=hcut;replace hw:=hw.symm;subst hw;obtain⟨mn,hmn⟩:∃ mn,(if dd=true then bdC k x2 else C3.df)=mn:=⟨_,rfl⟩;obtain⟨mx,hmx⟩:∃ mx,(if dd=true then bdC k (bdL k x2)else C3.df)=mx:=⟨_,rfl⟩;have Jc:=hid hmn;have JK:=hid hmx;rw[hmn,hmx]at HPZ;clear hmn hmx JY;have HX3:Hid ((∀ x∈bdL k x2,x<256)∧(bdL k x2).length≤16777216):=hid ⟨Zus HX2.out.1,Zxe HX2.out.2⟩;have VF:Hid ((∀ x∈x4,x<256)∧x4.length≤16777216):=hid (by
  rw[JZ.out];split
  ·exact⟨Zus HX3.out.1,Zxe HX3.out.2⟩
  ·exact HX2.out)
 have Y3:=hid (fun(s:Bool) (w2:World) (h:Zaq wA w2 (r0+1) x2 s) (hg:r0+1<w2.heap.size)=>Zjt wA w2 (r0+1) x2 s k h hg HX2.out.1 HX2.out.2);have UI:=hid (fun(s:Bool) (w2:World) (h:Zaq wA w2 (r0+1) (bdL k x2) s) (hg:r0+1<w2.heap.size)=>Zjt wA w2 (r0+1) (bdL k x2) s k h hg HX3.out.1 HX3.out.2);go_upto_if 29 with fail
 go_cut [29]from 30 to 37 (fun s29 wc=>(∃ v29:Value,s29=v29)∧Hid (ZR w wA wc r0 (r0+1) (r0+1+1) [.bool rg,.int .i64 nu,.bool mn.n,.int .i64 mn.i,.string mn.s,.bool mx.n,.int .i64 mx.i,.string mx.s,.int .i64 0,.slice none 0 0] x4))
 case first =>
  cases dd
  ·rw[if_neg (by decide)]at Jc JK JZ;go_wp2_with fail
   go_meet;exact⟨⟨_,rfl⟩,hid (by rw[← Jc.out,← JK.out,JZ.out];exact Jh.out)⟩
  ·rw[if_pos rfl]at Jc JK JZ;rw[Jc.out]at Y3;rw[JK.out,← JZ.out]at UI;generalize bdL k x2=x3 at *;obtain⟨mnn,mni,mns⟩:=mn;obtain⟨mxn,mxi,mxs⟩:=mx;unfold C3.v at Y3 UI;simp only at Y3 UI;obtain⟨s7,hs7⟩:=Jh.out.rd;have ZG:=hid hs7;clear hs7;go_upto_region 9 with (go_at_call 122;refine(Y3.out s7 w7 ZG.out Jh.out.lt).mono ?_;rintro e w8 ⟨rfl,hat,hch⟩;have Ua:=hid (YS.out w7 w8 _ _ _ Jh.out hat hch);clear hat hch a0 a1 a2 a3 a4 a5 a6 a7 a8 a9 f0 f1 f2 f3 f4 f5 f6 f7 f8 f9;obtain⟨a0,a1,a2,a3,a4,a5,a6,a7,a8,a9⟩:=Za6 Ua.out.z;obtain⟨f0,f1,f2,f3,f4,f5,f6,f7,f8,f9⟩:=Zdf Ua.out.z)
   have VG:=hid (Qt.out _ _ _ (Qt.out _ _ _ (Qt.out w8 _ _ Ua.out 2 (.bool mnn)) 3 (.int .i64 mni)) 4 (.string mns));clear a0 a1 a2 a3 a4 a5 a6 a7 a8 a9 f0 f1 f2 f3 f4 f5 f6 f7 f8 f9 Ua Jh ZG;change Code.wp _ _ _ _ (((w8.setCell ⟨r0+1+1,2,none⟩ (.bool mnn)).setCell ⟨r0+1+1,3,none⟩ (.int .i64 mni)).setCell ⟨r0+1+1,4,none⟩ (.string mns))
   generalize ((w8.setCell ⟨r0+1+1,2,none⟩ (.bool mnn)).setCell ⟨r0+1+1,3,none⟩ (.int .i64 mni)).setCell ⟨r0+1+1,4,none⟩ (.string mns)=w9 at *;simp only[List.set_cons_succ,List.set_cons_zero]at VG;obtain⟨s9,hs9⟩:=VG.out.rd;have VA:=hid hs9;clear hs9;go_wp2_with (go_at_call 122;refine(UI.out s9 w9 VA.out VG.out.lt).mono ?_;rintro e w10 ⟨rfl,hat,hch⟩;have XA:=hid (YS.out w9 w10 _ _ _ VG.out hat hch);clear hat hch;obtain⟨a0,a1,a2,a3,a4,a5,a6,a7,a8,a9⟩:=Za6 XA.out.z;obtain⟨f0,f1,f2,f3,f4,f5,f6,f7,f8,f9⟩:=Zdf XA.out.z)
   go_meet;exact⟨⟨_,rfl⟩,hid (Qt.out _ _ _ (Qt.out _ _ _ (Qt.out w10 _ _ XA.out 5 (.bool mxn)) 6 (.int .i64 mxi)) 7 (.string mxs))⟩
 case rest =>
 obtain⟨⟨v29,rfl⟩,J0⟩:=hcut;clear a0 a1 a2 a3 a4 a5 a6 a7 a8 a9 f0 f1 f2 f3 f4 f5 f6 f7 f8 f9 Jh Y3 UI Jc JK HX3 HX2 JZ;generalize wc=w11 at *;obtain⟨hs,hhs⟩:∃ hs:Int,(if fb=true then ((L.wordOf 8 (tk 1 x4):Nat):Int)else 0)=hs:=⟨_,rfl⟩;obtain⟨bl,hbl⟩:∃ bl,(if fb=true then numL 8 (tk (8*L.wordOf 8 (tk 4 (tkL 1 x4))) (tkL 4 (tkL 1 x4)))else [])=bl:=⟨_,rfl⟩;have HHS:=hid hhs;have QA:=hid hbl;rw[hhs,hbl]at HPZ;clear hhs hbl;obtain⟨a0,a1,a2,a3,a4,a5,a6,a7,a8,a9⟩:=Za6 J0.out.z;obtain⟨f0,f1,f2,f3,f4,f5,f6,f7,f8,f9⟩:=Zdf J0.out.z;have hbit2:=Xd.out;go_upto_if 40 with fail
 go_cut [40]from 41 to 48 (fun s40 wc=>(∃ v40:Value,s40=v40)∧∃(B:Option Addr) (bc:Nat) (X:List Nat),Hid (ZR w wA wc r0 (r0+1) (r0+1+1) [.bool rg,.int .i64 nu,.bool mn.n,.int .i64 mn.i,.string mn.s,.bool mx.n,.int .i64 mx.i,.string mx.s,.int .i64 hs,.slice B bl.length bc] X)∧Hid (wc.ownsRow (r0+1) 73 1 (.slice B bl.length bc) bl.length (u64s bl))∧Hid ((∀ x∈bl,x<18446744073709551616)∧bl.length≤16777216))
 case first =>
  by_cases ho:f/2%2=1
  ·rw[ho]at hbit2;have hfb:=Um.out;rw[decide_eq_true ho]at hfb;subst hfb;rw[if_pos rfl]at HHS QA;have Qz:=hid (fun(s:Bool) (w2:World) (h:Zaq wA w2 (r0+1) x4 s)=>Zgs wA w2 (r0+1) x4 s h VF.out.1 VF.out.2);rw[HHS.out]at Qz;have HX5:=hid (And.intro (Zau (n:=1) VF.out.1) (Zef (n:=1) VF.out.2));generalize tkL 1 x4=x5 at *;have HU5:=hid (fun(s:Bool) (w2:World) (h:Zaq wA w2 (r0+1) x5 s)=>Zff wA w2 (r0+1) x5 s h HX5.out.1 HX5.out.2);have HX6:=hid (And.intro (Zau (n:=4) HX5.out.1) (Zef (n:=4) HX5.out.2));have hn6:L.wordOf 8 (tk 4 x5)<4294967296:=Zb0 _ (Zdh HX5.out.1) (Zit 4 x5);generalize tkL 4 x5=x6 at *;generalize L.wordOf 8 (tk 4 x5)=n6 at *;have HU6:=hid (fun(s:Bool) (w2:World) (h:Zaq wA w2 (r0+1) x6 s) (hg:r0+1<w2.heap.size)=>Zhw wA w2 (r0+1) x6 s n6 h hg HX6.out.1 HX6.out.2 (by omega));rw[QA.out]at HU6;have Yl:Hid ((∀ x∈bl,x<18446744073709551616)∧bl.length≤16777216):=hid (by
    rw[← QA.out];have ht:(tk (8*n6) x6).length≤16777216:=by
     have:=HX6.out.2;unfold tk;split
     ·rw[List.length_take];omega
     ·simp
    exact⟨Zdz (Zdh HX6.out.1) (by decide),by rw[Zan];omega⟩)
   clear QA HHS;obtain⟨s11,hs11⟩:=J0.out.rd;have HS11:=hid hs11;clear hs11;go_upto_region 12 with (go_at_call 82;refine(Qz.out s11 w11 HS11.out).mono ?_;rintro e w12 ⟨rfl,hat,hch⟩;have VH:=hid (YS.out w11 w12 _ _ _ J0.out ⟨_,hat⟩ hch);clear hat hch a0 a1 a2 a3 a4 a5 a6 a7 a8 a9 f0 f1 f2 f3 f4 f5 f6 f7 f8 f9;obtain⟨a0,a1,a2,a3,a4,a5,a6,a7,a8,a9⟩:=Za6 VH.out.z;obtain⟨f0,f1,f2,f3,f4,f5,f6,f7,f8,f9⟩:=Zdf VH.out.z)
   have XB:=hid (Qt.out w12 _ _ VH.out 8 (.int .i64 hs));clear a0 a1 a2 a3 a4 a5 a6 a7 a8 a9 f0 f1 f2 f3 f4 f5 f6 f7 f8 f9 VH J0 HS11;generalize w12.setCell ⟨r0+1+1,8,none⟩ (.int .i64 hs)=w13 at *;simp only[List.set_cons_succ,List.set_cons_zero]at XB;obtain⟨s13,hs13⟩:=XB.out.rd;have HS13:=hid hs13;clear hs13;go_wp2_with (first
    | (go_at_call 81;refine(HU5.out s13 w13 HS13.out).mono ?_;rintro e w14 ⟨rfl,hat,hch⟩;have XC:=hid (YS.out w13 w14 _ _ _ XB.out ⟨_,hat⟩ hch);have HS14:=hid hat;clear hat hch)
    | (go_at_call 123;refine(HU6.out _ w14 HS14.out XC.out.lt).mono ?_;rintro e w15 ⟨p,hp,rfl,hrow,hat,hch⟩;have XD:=hid (YS.out w14 w15 _ _ _ XC.out ⟨_,hat⟩ hch);have HPP:=hid hp;have Qq:=hid hrow;clear hat hch hp hrow;obtain⟨a0,a1,a2,a3,a4,a5,a6,a7,a8,a9⟩:=Za6 XD.out.z;obtain⟨f0,f1,f2,f3,f4,f5,f6,f7,f8,f9⟩:=Zdf XD.out.z))
   go_meet;have hzl:r0+1+1<w14.heap.size:=XC.out.z.lt;have hpp:=HPP.out;refine⟨⟨_,rfl⟩,some ⟨p,0,none⟩,bl.length,_,hid (Qt.out w15 _ _ XD.out 9 (.slice (some ⟨p,0,none⟩) bl.length bl.length)),hid ?_,Yl⟩;exact(Zam Qq.out (by omega)).owns (by omega) (Ziz bl) (by have:=Yl.out.2;unfold maxLen;omega)
  ·have ho0:f/2%2=0:=by omega
   rw[ho0]at hbit2;have hfb:=Um.out;rw[decide_eq_false ho]at hfb;subst hfb;rw[if_neg (by decide)]at HHS QA;go_wp2_with fail
   go_meet;refine⟨⟨_,rfl⟩,none,0,_,hid (by rw[← HHS.out,← QA.out];exact J0.out),hid ?_,hid ?_⟩
   ·rw[← QA.out];exact World.ownsRow_nil _ _ _ _
   ·rw[← QA.out];exact⟨fun x hx=>(by cases hx),by simp⟩
 case rest =>
 obtain⟨⟨v40,rfl⟩,B,bc,X,QB,QI,Yl⟩:=hcut;clear a0 a1 a2 a3 a4 a5 a6 a7 a8 a9 f0 f1 f2 f3 f4 f5 f6 f7 f8 f9 J0 Xd Um HHS QA VF hbit2 hf;generalize wc=w16 at *;have Z8:=hid (fun w2:World=>Zwf k rows ⟨rg,nu,mn,mx,hs,bl⟩ B bc w2);have Ub:=hid (fun(hz:zOk k rows ⟨rg,nu,mn,mx,hs,bl⟩=true) (w2:World) (hb:Below w16.heap.size w16 w2)=>Znh k rows ⟨rg,nu,mn,mx,hs,bl⟩ B bc w2 hr hz ((Zba QI.out).mono hb) Yl.out.1);have HEQ:=hid (fun(w2:World) (b:Value) (zr:List Nat) (h1:Rd w2 (.slice A0 xn c0) xn 1 (u8s xs)) (h2:Rd w2 b zr.length 1 (u8s zr)) (h3:∀ x∈zr,x<256)=>Znn (.slice A0 xn c0) b xs zr w2 (by rw[UE.out];exact h1) h2 HX.out.1 h3);have Zv:Hid (zOk k rows ⟨rg,nu,mn,mx,hs,bl⟩=true→∀ x∈zRec k rows ⟨rg,nu,mn,mx,hs,bl⟩,x<256):=hid (fun hz=>Zxo hz);have XE:Hid (Zgb k rows xs=⟨rg,nu,mn,mx,hs,bl⟩):=hid HPZ.out;clear HPZ;obtain⟨zk,hzk⟩:∃ zk,zOk k rows ⟨rg,nu,mn,mx,hs,bl⟩=zk:=⟨_,rfl⟩;have Uc:=hid hzk;rw[hzk]at Z8 Ub Zv;clear hzk;obtain⟨zr,hzr⟩:∃ zr,zRec k rows ⟨rg,nu,mn,mx,hs,bl⟩=zr:=⟨_,rfl⟩;have UJ:=hid hzr;rw[hzr]at Ub Zv;clear hzr;obtain⟨bn,hbn⟩:∃ bn,bl.length=bn:=⟨_,rfl⟩;have XF:=hid hbn;simp only[hbn]at Z8 Ub QB QI;clear hbn;obtain⟨mnn,mni,mns⟩:=mn;obtain⟨mxn,mxi,mxs⟩:=mx;unfold ZM.v at Z8 Ub;simp only at Z8 Ub QB;obtain⟨a0,a1,a2,a3,a4,a5,a6,a7,a8,a9⟩:=Za6 QB.out.z;obtain⟨y0,y1,y2,y3,y4,y5,y6,y7,y8,y9⟩:=Za6 QB.out.r;obtain⟨f0,f1,f2,f3,f4,f5,f6,f7,f8,f9⟩:=Zdf QB.out.r;have ZV:=hid (fun(wd:World) (h:Below w16.heap.size w16 wd)=>(⟨QB.out.z.mono h,by obtain⟨s,hs⟩:=QB.out.rd;exact⟨s,hs.mono h⟩,QB.out.r.mono h,Nat.lt_of_lt_of_le QB.out.lt h.size,QB.out.bl.trans (h.mono QB.out.bl.size)⟩:ZR w wA wd r0 (r0+1) (r0+1+1) [.bool rg,.int .i64 nu,.bool mnn,.int .i64 mni,.string mns,.bool mxn,.int .i64 mxi,.string mxs,.int .i64 hs,.slice B bn bc] X));cases zk
 ·have Ud:Hid (¬ (zOk k rows (Zgb k rows xs)=true∧zRec k rows (Zgb k rows xs)=xs)):=hid (by rw[XE.out,Uc.out];exact fun h=>by cases h.1);go_wp2_with (go_at_call 124;refine(Z8.out w16).mono ?_;rintro e w17 ⟨rfl,hb⟩;have Qr:=hid (ZV.out w17 hb);clear hb a0 a1 a2 a3 a4 a5 a6 a7 a8 a9 y0 y1 y2 y3 y4 y5 y6 y7 y8 y9 f0 f1 f2 f3 f4 f5 f6 f7 f8 f9;obtain⟨a0,a1,a2,a3,a4,a5,a6,a7,a8,a9⟩:=Za6 Qr.out.z;obtain⟨y0,y1,y2,y3,y4,y5,y6,y7,y8,y9⟩:=Za6 Qr.out.r;obtain⟨f0,f1,f2,f3,f4,f5,f6,f7,f8,f9⟩:=Zdf Qr.out.r)
  ·change bodyPost _ _ _ _ _ (Zf5 w17 r0 (.bool false) (.int .i64 0) (.bool false) (.int .i64 0) (.string ⟨#[]⟩) (.bool false) (.int .i64 0) (.string ⟨#[]⟩) (.int .i64 0) (.slice none 0 0))
   have R0:=Zd1 Qr.out.r (.bool false) (.int .i64 0) (.bool false) (.int .i64 0) (.string ⟨#[]⟩) (.bool false) (.int .i64 0) (.string ⟨#[]⟩) (.int .i64 0) (.slice none 0 0);have hch:=Zd4 w17 r0 (.bool false) (.int .i64 0) (.bool false) (.int .i64 0) (.string ⟨#[]⟩) (.bool false) (.int .i64 0) (.string ⟨#[]⟩) (.int .i64 0) (.slice none 0 0);have hbl:=hch.below Qr.out.bl Qr.out.bl.size (by omega) (by omega);clear a0 a1 a2 a3 a4 a5 a6 a7 a8 a9 y0 y1 y2 y3 y4 y5 y6 y7 y8 y9 f0 f1 f2 f3 f4 f5 f6 f7 f8 f9;generalize Zf5 w17 r0 (.bool false) (.int .i64 0) (.bool false) (.int .i64 0) (.string ⟨#[]⟩) (.bool false) (.int .i64 0) (.string ⟨#[]⟩) (.int .i64 0) (.slice none 0 0)=wz at *;obtain⟨q0,q1,q2,q3,q4,q5,q6,q7,q8,q9⟩:=Za6 R0;refine bodyPost_ret (v:=.tuple #[.agg #[.bool false,.int .i64 0,.bool false,.int .i64 0,.string ⟨#[]⟩,.bool false,.int .i64 0,.string ⟨#[]⟩,.int .i64 0,.slice none 0 0],.bool false]) ?_ rfl ?_
   ·simp[results,Tryz.results86,go_sem,q0,q1,q2,q3,q4,q5,q6,q7,q8,q9]
   ·rw[← Qj.out];exact⟨hbl,false,ZM.df,.slice none 0 0,rfl,World.ownsRow_nil _ _ _ _,.inr ⟨rfl,rfl,Ud.out⟩⟩
 ·have UK:=hid (Ub.out rfl);have UM:=hid (Zv.out rfl);by_cases heq:xs=zr
  ·have HQ:Hid (decide (xs=zr)=true):=hid (decide_eq_true heq);have QL:Hid (zRec k rows ⟨rg,nu,⟨mnn,mni,mns⟩,⟨mxn,mxi,mxs⟩,hs,bl⟩=xs):=hid (by rw[UJ.out];exact heq.symm);clear heq;go_wp2_with (first
    | (go_at_call 124;refine(Z8.out w16).mono ?_;rintro e w17 ⟨rfl,hb⟩;have Ys:=hid hb;have Qr:=hid (ZV.out w17 hb);clear hb a0 a1 a2 a3 a4 a5 a6 a7 a8 a9 y0 y1 y2 y3 y4 y5 y6 y7 y8 y9 f0 f1 f2 f3 f4 f5 f6 f7 f8 f9;obtain⟨a0,a1,a2,a3,a4,a5,a6,a7,a8,a9⟩:=Za6 Qr.out.z;obtain⟨y0,y1,y2,y3,y4,y5,y6,y7,y8,y9⟩:=Za6 Qr.out.r;obtain⟨f0,f1,f2,f3,f4,f5,f6,f7,f8,f9⟩:=Zdf Qr.out.r)
    | (go_at_call 62;refine(UK.out w17 Ys.out).mono ?_;rintro e w18 ⟨r1,rfl,ho,hb⟩;obtain⟨A8,c8,rfl⟩:=ho.form;have ZT:=hid (Zba ho);have Z9:=hid (Zac Ys.out hb);have Qr:=hid (ZV.out w18 Z9.out);clear ho hb a0 a1 a2 a3 a4 a5 a6 a7 a8 a9 y0 y1 y2 y3 y4 y5 y6 y7 y8 y9 f0 f1 f2 f3 f4 f5 f6 f7 f8 f9;obtain⟨a0,a1,a2,a3,a4,a5,a6,a7,a8,a9⟩:=Za6 Qr.out.z;obtain⟨y0,y1,y2,y3,y4,y5,y6,y7,y8,y9⟩:=Za6 Qr.out.r;obtain⟨f0,f1,f2,f3,f4,f5,f6,f7,f8,f9⟩:=Zdf Qr.out.r)
    | (go_at_call 125;refine(HEQ.out w18 _ zr (HVR.out.mono Qr.out.bl) ZT.out UM.out).mono ?_;rintro e w19 ⟨rfl,hw⟩;replace hw:=hw.symm;subst hw;rw[HQ.out]))
   change bodyPost _ _ _ _ _ (Zf5 w18 r0 (.bool rg) (.int .i64 nu) (.bool mnn) (.int .i64 mni) (.string mns) (.bool mxn) (.int .i64 mxi) (.string mxs) (.int .i64 hs) (.slice B bn bc))
   have R0:=Zd1 Qr.out.r (.bool rg) (.int .i64 nu) (.bool mnn) (.int .i64 mni) (.string mns) (.bool mxn) (.int .i64 mxi) (.string mxs) (.int .i64 hs) (.slice B bn bc);have hch:=Zd4 w18 r0 (.bool rg) (.int .i64 nu) (.bool mnn) (.int .i64 mni) (.string mns) (.bool mxn) (.int .i64 mxi) (.string mxs) (.int .i64 hs) (.slice B bn bc);have hbl:=hch.below Qr.out.bl Qr.out.bl.size (by omega) (by omega);have how:=Zm3 (Zb5 (Zbs QI.out Z9.out) hch (Nat.lt_succ_self r0) (Nat.lt_succ_self r0)) (Nat.le_succ r0);clear a0 a1 a2 a3 a4 a5 a6 a7 a8 a9 y0 y1 y2 y3 y4 y5 y6 y7 y8 y9 f0 f1 f2 f3 f4 f5 f6 f7 f8 f9;generalize Zf5 w18 r0 (.bool rg) (.int .i64 nu) (.bool mnn) (.int .i64 mni) (.string mns) (.bool mxn) (.int .i64 mxi) (.string mxs) (.int .i64 hs) (.slice B bn bc)=wz at *;obtain⟨q0,q1,q2,q3,q4,q5,q6,q7,q8,q9⟩:=Za6 R0;refine bodyPost_ret (v:=.tuple #[.agg #[.bool rg,.int .i64 nu,.bool mnn,.int .i64 mni,.string mns,.bool mxn,.int .i64 mxi,.string mxs,.int .i64 hs,.slice B bn bc],.bool true]) ?_ rfl ?_
   ·simp[results,Tryz.results86,go_sem,q0,q1,q2,q3,q4,q5,q6,q7,q8,q9]
   ·rw[← Qj.out];exact⟨hbl,true,⟨rg,nu,⟨mnn,mni,mns⟩,⟨mxn,mxi,mxs⟩,hs,bl⟩,.slice B bn bc,rfl,by rw[hr0,XF.out];exact how,.inl ⟨rfl,XE.out.symm,Uc.out,QL.out⟩⟩
  ·have HQ:Hid (decide (xs=zr)=false):=hid (decide_eq_false heq);have Ud:Hid (¬ (zOk k rows (Zgb k rows xs)=true∧zRec k rows (Zgb k rows xs)=xs)):=hid (by rw[XE.out,UJ.out];exact fun h=>heq h.2.symm);clear heq;go_wp2_with (first
    | (go_at_call 124;refine(Z8.out w16).mono ?_;rintro e w17 ⟨rfl,hb⟩;have Ys:=hid hb;have Qr:=hid (ZV.out w17 hb);clear hb a0 a1 a2 a3 a4 a5 a6 a7 a8 a9 y0 y1 y2 y3 y4 y5 y6 y7 y8 y9 f0 f1 f2 f3 f4 f5 f6 f7 f8 f9;obtain⟨a0,a1,a2,a3,a4,a5,a6,a7,a8,a9⟩:=Za6 Qr.out.z;obtain⟨y0,y1,y2,y3,y4,y5,y6,y7,y8,y9⟩:=Za6 Qr.out.r;obtain⟨f0,f1,f2,f3,f4,f5,f6,f7,f8,f9⟩:=Zdf Qr.out.r)
    | (go_at_call 62;refine(UK.out w17 Ys.out).mono ?_;rintro e w18 ⟨r1,rfl,ho,hb⟩;obtain⟨A8,c8,rfl⟩:=ho.form;have ZT:=hid (Zba ho);have Z9:=hid (Zac Ys.out hb);have Qr:=hid (ZV.out w18 Z9.out);clear ho hb a0 a1 a2 a3 a4 a5 a6 a7 a8 a9 y0 y1 y2 y3 y4 y5 y6 y7 y8 y9 f0 f1 f2 f3 f4 f5 f6 f7 f8 f9;obtain⟨a0,a1,a2,a3,a4,a5,a6,a7,a8,a9⟩:=Za6 Qr.out.z;obtain⟨y0,y1,y2,y3,y4,y5,y6,y7,y8,y9⟩:=Za6 Qr.out.r;obtain⟨f0,f1,f2,f3,f4,f5,f6,f7,f8,f9⟩:=Zdf Qr.out.r)
    | (go_at_call 125;refine(HEQ.out w18 _ zr (HVR.out.mono Qr.out.bl) ZT.out UM.out).mono ?_;rintro e w19 ⟨rfl,hw⟩;replace hw:=hw.symm;subst hw;rw[HQ.out]))
   change bodyPost _ _ _ _ _ (Zf5 w18 r0 (.bool false) (.int .i64 0) (.bool false) (.int .i64 0) (.string ⟨#[]⟩) (.bool false) (.int .i64 0) (.string ⟨#[]⟩) (.int .i64 0) (.slice none 0 0))
   have R0:=Zd1 Qr.out.r (.bool false) (.int .i64 0) (.bool false) (.int .i64 0) (.string ⟨#[]⟩) (.bool false) (.int .i64 0) (.string ⟨#[]⟩) (.int .i64 0) (.slice none 0 0);have hch:=Zd4 w18 r0 (.bool false) (.int .i64 0) (.bool false) (.int .i64 0) (.string ⟨#[]⟩) (.bool false) (.int .i64 0) (.string ⟨#[]⟩) (.int .i64 0) (.slice none 0 0);have hbl:=hch.below Qr.out.bl Qr.out.bl.size (by omega) (by omega);clear a0 a1 a2 a3 a4 a5 a6 a7 a8 a9 y0 y1 y2 y3 y4 y5 y6 y7 y8 y9 f0 f1 f2 f3 f4 f5 f6 f7 f8 f9;generalize Zf5 w18 r0 (.bool false) (.int .i64 0) (.bool false) (.int .i64 0) (.string ⟨#[]⟩) (.bool false) (.int .i64 0) (.string ⟨#[]⟩) (.int .i64 0) (.slice none 0 0)=wz at *;obtain⟨q0,q1,q2,q3,q4,q5,q6,q7,q8,q9⟩:=Za6 R0;refine bodyPost_ret (v:=.tuple #[.agg #[.bool false,.int .i64 0,.bool false,.int .i64 0,.string ⟨#[]⟩,.bool false,.int .i64 0,.string ⟨#[]⟩,.int .i64 0,.slice none 0 0],.bool false]) ?_ rfl ?_
   ·simp[results,Tryz.results86,go_sem,q0,q1,q2,q3,q4,q5,q6,q7,q8,q9]
   ·rw[← Qj.out];exact⟨hbl,false,ZM.df,.slice none 0 0,rfl,World.ownsRow_nil _ _ _ _,.inr ⟨rfl,rfl,Ud.out⟩⟩
end Go.Proofs.YtmcjknjlihgihaaGreatDoor
