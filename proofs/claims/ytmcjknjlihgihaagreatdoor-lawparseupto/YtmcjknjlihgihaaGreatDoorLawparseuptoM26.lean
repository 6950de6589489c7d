/- The plain answer: zoneOf. -/
import Derived.Test.YtmcjknjlihgihaaGreatDoorLawparseuptoM25
set_option linter.unusedVariables false
set_option linter.unusedSimpArgs false
set_option linter.unnecessarySimpa false
set_option maxRecDepth 100000
namespace Go.Proofs.YtmcjknjlihgihaaGreatDoor
open Go.RowKit
theorem Zij {u:World} {X Y:Array Value} {eX eY:TypeId}:Row ((u.alloc (.cells X eX)).alloc (.cells Y eY)) u.heap.size eX X.toList∧Row ((u.alloc (.cells X eX)).alloc (.cells Y eY)) (u.heap.size+1) eY Y.toList∧Below u.heap.size u ((u.alloc (.cells X eX)).alloc (.cells Y eY)):=by
 have e:u.heap.size+1=(u.alloc (.cells X eX)).heap.size:=by simp
 refine⟨?_,?_,((Below.refl u.heap.size u).alloc (Nat.le_refl _) _).alloc (by simp) _⟩
 ·have h1:Row (u.alloc (.cells X eX)) u.heap.size eX X.toList:=by unfold Row;rw[heap_alloc_new]
  exact h1.mono ((Below.refl _ _).alloc (Nat.le_refl _) _)
 ·rw[e];unfold Row;rw[heap_alloc_new]
structure ZS (w wc:World) (r0:Nat) (zrow:List Value):Prop where
 z:Row wc (r0+1) 39 zrow
 r:Row wc r0 39 Zvu
 bl:Below w.heap.size w wc
theorem ZS.mono {w wc wd:World} {r0:Nat} {zrow:List Value} (h:ZS w wc r0 zrow) (hb:Below wc.heap.size wc wd):ZS w wd r0 zrow:=⟨h.z.mono hb,h.r.mono hb,h.bl.trans (hb.mono h.bl.size)⟩
theorem ZS.set {w wc:World} {r0:Nat} {zrow:List Value} (h:ZS w wc r0 zrow) (i:Nat) (v:Value) (hw:w.heap.size≤r0):ZS w (wc.setCell ⟨r0+1,i,none⟩ v) r0 (zrow.set i v) :=
 ⟨h.z.set i v,Zam h.r (by omega),Zad h.bl _ i v (by omega)⟩
def RAns (k rows:Int) (xs:List Nat) (w:World) (e:Ending) (w':World):Prop:=Below w.heap.size w w'∧∃(ok:Bool) (z:ZM) (B:Value),
 e=.returned (.tuple #[z.v B,.bool ok])∧w'.ownsRow w.heap.size 73 1 B z.bl.length (u64s z.bl) ∧
 ((ok=true∧z=Ztx k rows xs∧zOk k rows z=true∧zRec k rows z=xs)∨(ok=false∧z=ZM.df∧∀ z',Zkq z'→zOk k rows z'=true→zRec k rows z'≠xs))
set_option maxHeartbeats 8000000 in
theorem Zv5 (w:World) (k rows:Int) (v:Value) (xs:List Nat) (hk:Zax k=true) (hr:0≤rows∧rows≤65536) (hv:Rd w v xs.length 1 (u8s xs)) (hb:∀ x∈xs,x<256) (hl:xs.length≤16777216) :
  Calls Tryz.prog 93 #[v,.int .i64 k,.int .i64 rows] w (RAns k rows xs w):=by
 obtain⟨ANS,hANS⟩:∃ ANS,RAns k rows xs w=ANS:=⟨_,rfl⟩;have Qj:=hid hANS;rw[hANS];clear hANS;have XI:=hid (fun(z':ZM) (h1:Zkq z') (h2:zOk k rows z'=true) (h3:zRec k rows z'=xs)=>Zyo hk hr h1 h2 h3);obtain⟨r0,hr0⟩:∃ r0,w.heap.size=r0:=⟨_,rfl⟩;have hB1:Below w.heap.size w ((w.alloc (.cells #[.bool false,.int .i64 0,.bool false,.int .i64 0,.string ⟨#[]⟩,.bool false,.int .i64 0,.string ⟨#[]⟩,.int .i64 0,.slice none 0 0] 39)).alloc (.cells #[.bool false,.int .i64 0,.bool false,.int .i64 0,.string ⟨#[]⟩,.bool false,.int .i64 0,.string ⟨#[]⟩,.int .i64 0,.slice none 0 0] 39)):=((Zab w).alloc (Nat.le_refl _) _).alloc (by simp) _;have Qy:Hid (ZS w ((w.alloc (.cells #[.bool false,.int .i64 0,.bool false,.int .i64 0,.string ⟨#[]⟩,.bool false,.int .i64 0,.string ⟨#[]⟩,.int .i64 0,.slice none 0 0] 39)).alloc (.cells #[.bool false,.int .i64 0,.bool false,.int .i64 0,.string ⟨#[]⟩,.bool false,.int .i64 0,.string ⟨#[]⟩,.int .i64 0,.slice none 0 0] 39)) r0 Zvu):=hid (by
  obtain⟨q1,q2,q3⟩:=Zij (u:=w) (X:=#[.bool false,.int .i64 0,.bool false,.int .i64 0,.string ⟨#[]⟩,.bool false,.int .i64 0,.string ⟨#[]⟩,.int .i64 0,.slice none 0 0]) (Y:=#[.bool false,.int .i64 0,.bool false,.int .i64 0,.string ⟨#[]⟩,.bool false,.int .i64 0,.string ⟨#[]⟩,.int .i64 0,.slice none 0 0]) (eX:=39) (eY:=39);rw[hr0]at q1 q2;exact⟨q2,q1,hB1⟩)
 have HVR:=hid hv;have HX:=hid (And.intro hb hl);have QV:=hid (fun(w2:World) (h:Below w.heap.size w w2)=>Zcz v xs 1 4 w2 (hv.mono h) hb hl (by omega) (by omega));have J1:=hid (fun(p:Nat) (hp:p≤33554432) (w2:World) (h:Below w.heap.size w w2)=>Zt2 v xs p k w2 (hv.mono h) hb hl hp);have Zs:=hid (fun(p c:Nat) (hp:p≤33554432) (hc:c≤16777216) (w2:World) (h:Below w.heap.size w w2)=>Zcn v xs p 8 c w2 (hv.mono h) hb hl (.inr rfl) (by omega) (by omega));obtain⟨A0,c0,rfl,hlc0,hcm0,hseg0⟩:=hv.form;have UN:=hid hseg0;clear hB1 hv hb hl hseg0;obtain⟨xn,hxn⟩:∃ xn,xs.length=xn:=⟨_,rfl⟩;have UE:=hid hxn;by_cases hx0:xn=0
 ·subst hx0;have Q8:Hid (∀ z',Zkq z'→zOk k rows z'=true→zRec k rows z'≠xs):=hid (fun z' h1 h2 h3=>(XI.out z' h1 h2 h3).1 (List.length_eq_zero_iff.1 hxn));rw[hxn];clear hxn QV J1 Zs UN hlc0;go_enter Tryz.func93,Tryz.ntmps93;go_upto_region 2 with fail
  generalize (w.alloc (.cells #[.bool false,.int .i64 0,.bool false,.int .i64 0,.string ⟨#[]⟩,.bool false,.int .i64 0,.string ⟨#[]⟩,.int .i64 0,.slice none 0 0] 39)).alloc (.cells #[.bool false,.int .i64 0,.bool false,.int .i64 0,.string ⟨#[]⟩,.bool false,.int .i64 0,.string ⟨#[]⟩,.int .i64 0,.slice none 0 0] 39)=w1 at *;obtain⟨a0,a1,a2,a3,a4,a5,a6,a7,a8,a9⟩:=Za6 Qy.out.z;obtain⟨y0,y1,y2,y3,y4,y5,y6,y7,y8,y9⟩:=Za6 Qy.out.r;obtain⟨f0,f1,f2,f3,f4,f5,f6,f7,f8,f9⟩:=Zdf Qy.out.z;obtain⟨g0,g1,g2,g3,g4,g5,g6,g7,g8,g9⟩:=Zdf Qy.out.r;go_wp2_with fail
  change bodyPost _ _ _ _ _ (Zf5 w1 r0 (.bool false) (.int .i64 0) (.bool false) (.int .i64 0) (.string ⟨#[]⟩) (.bool false) (.int .i64 0) (.string ⟨#[]⟩) (.int .i64 0) (.slice none 0 0))
  have R0:=Zd1 Qy.out.r (.bool false) (.int .i64 0) (.bool false) (.int .i64 0) (.string ⟨#[]⟩) (.bool false) (.int .i64 0) (.string ⟨#[]⟩) (.int .i64 0) (.slice none 0 0);have hch:=Zd4 w1 r0 (.bool false) (.int .i64 0) (.bool false) (.int .i64 0) (.string ⟨#[]⟩) (.bool false) (.int .i64 0) (.string ⟨#[]⟩) (.int .i64 0) (.slice none 0 0);have hbl:=hch.below Qy.out.bl Qy.out.bl.size (by omega) (by omega);clear a0 a1 a2 a3 a4 a5 a6 a7 a8 a9 y0 y1 y2 y3 y4 y5 y6 y7 y8 y9 f0 f1 f2 f3 f4 f5 f6 f7 f8 f9 g0 g1 g2 g3 g4 g5 g6 g7 g8 g9;generalize Zf5 w1 r0 (.bool false) (.int .i64 0) (.bool false) (.int .i64 0) (.string ⟨#[]⟩) (.bool false) (.int .i64 0) (.string ⟨#[]⟩) (.int .i64 0) (.slice none 0 0)=wz at *;obtain⟨q0,q1,q2,q3,q4,q5,q6,q7,q8,q9⟩:=Za6 R0;refine bodyPost_ret (v:=.tuple #[.agg #[.bool false,.int .i64 0,.bool false,.int .i64 0,.string ⟨#[]⟩,.bool false,.int .i64 0,.string ⟨#[]⟩,.int .i64 0,.slice none 0 0],.bool false]) ?_ rfl ?_
  ·simp[results,Tryz.results93,go_sem,q0,q1,q2,q3,q4,q5,q6,q7,q8,q9]
  ·rw[← Qj.out];exact⟨hbl,false,ZM.df,.slice none 0 0,rfl,World.ownsRow_nil _ _ _ _,.inr ⟨rfl,rfl,Q8.out⟩⟩
 ·have hxp:0<xn:=by omega
  have HF0:Hid (rzF xs<256):=hid (by
   unfold rzF;have:xs.getD 0 0∈xs:=by simp[List.getD,show 0<xs.length by omega]
   exact HX.out.1 _ this)
  obtain⟨b,o,rfl,hs⟩:=UN.out (by omega);have c0':=hs.byte 0 (by omega);rw[Nat.add_zero]at c0';have Z3:=hid hs;have hb1:b<w.heap.size:=World.block_lt_of_cell? w _ c0';clear hs UN;have Qx:Hid (rzR xs=decide (rzF xs%2=1)):=hid rfl;have JT:Hid (rzN xs=if rzR xs=true then ((nAt 4 1 xs:Nat):Int)else 0):=hid rfl;have UO:Hid (rzP1 xs=if rzR xs=true then 5 else 1):=hid rfl;have JY:Hid (rzD rows xs=(rzR xs&&(Zb8 4 1 xs.length&&decide ((nAt 4 1 xs:Int)≠rows)))):=hid rfl;have HOKD:Hid (rzOk k xs=(vaOk k 5 xs&&vaOk k (rzQ k xs) xs)):=hid rfl;have HQD:Hid (rzQ k xs=vaN k 5 xs):=hid rfl;have YU:Hid (rzP2 k rows xs=if rzD rows xs=true then vaN k (rzQ k xs) xs else rzP1 xs):=hid rfl;have Ze:Hid (rzB k rows xs=(decide (2≤rzF xs)&&decide (rzP2 k rows xs<xs.length))):=hid rfl;have UP:Hid (Zpd k rows xs=(xs.length-rzP2 k rows xs-5)/8):=hid rfl;have ZW:Hid (rzHs k rows xs=if rzB k rows xs=true then ((xs.getD (rzP2 k rows xs) 0:Nat):Int)else 0):=hid rfl;have QU:Hid (rzBl k rows xs=if rzB k rows xs=true∧Zav 8 (Zpd k rows xs) (rzP2 k rows xs+5) xs.length=true then numL 8 (tk (8*Zpd k rows xs) (xs.drop (rzP2 k rows xs+5)))else []):=hid rfl;obtain⟨mn,hmn⟩:∃ mn,(if rzD rows xs=true then vaC k 5 xs else C3.df)=mn:=⟨_,rfl⟩;obtain⟨mx,hmx⟩:∃ mx,(if rzD rows xs=true then vaC k (rzQ k xs) xs else C3.df)=mx:=⟨_,rfl⟩;have Jc:=hid hmn;have JK:=hid hmx;have Q0:Hid (Ztx k rows xs=⟨rzR xs,rzN xs,mn,mx,rzHs k rows xs,rzBl k rows xs⟩):=hid (by rw[← hmn,← hmx];rfl);clear hmn hmx;have XJ:Hid (nAt 4 1 xs<4294967296):=hid (Zdx HX.out.1);have XK:Hid (∀ p,vaN k p xs≤16777216∨vaN k p xs=p+8):=hid (fun p=>by
   unfold vaN
   split
   ·right;rfl
   ·split
    ·rename_i h1 h2
     unfold vaOk at h2;rw[if_neg h1,Bool.and_eq_true,decide_eq_true_eq]at h2;have:=HX.out.2
     left;omega
    ·left;omega)
  have HNAD:Hid (nAt 4 1 xs=if Zb8 4 1 xs.length=true then L.wordOf 8 ((xs.drop 1).take 4)else 0):=hid rfl;rw[← HNAD.out]at QV;have HF00:Hid (xs.getD 0 0=rzF xs):=hid rfl;rw[HF00.out]at c0';have JL:Hid (∀ z',Zkq z'→zOk k rows z'=true→zRec k rows z'=xs→(rzD rows xs=true→rzOk k xs=true)∧Ztx k rows xs=z'):=hid (fun z' h1 h2 h3=>(XI.out z' h1 h2 h3).2);rw[hxn];rw[hxn]at QV J1 Zs JY Ze UP QU hlc0;have XL:=hid hb1;clear hxn HNAD HF00 XI hb1;generalize rzF xs=f at *;generalize rzR xs=rg at *;generalize rzN xs=nu at *;generalize rzD rows xs=dd at *;generalize Zb8 4 1 xn=o4 at *;generalize nAt 4 1 xs=n4 at *;have hf:=HF0.out;have hmod:(f:Int)%2=((f%2:Nat):Int):=by omega
  have hx0b:((xn:Int)==0)=false:=by simp;omega
  go_enter Tryz.func93,Tryz.ntmps93;go_upto_region 2 with fail
  have c1':=Qy.out.bl.cell (p:=⟨b,o,none⟩) XL.out;rw[c0']at c1';generalize (w.alloc (.cells #[.bool false,.int .i64 0,.bool false,.int .i64 0,.string ⟨#[]⟩,.bool false,.int .i64 0,.string ⟨#[]⟩,.int .i64 0,.slice none 0 0] 39)).alloc (.cells #[.bool false,.int .i64 0,.bool false,.int .i64 0,.string ⟨#[]⟩,.bool false,.int .i64 0,.string ⟨#[]⟩,.int .i64 0,.slice none 0 0] 39)=w1 at *;go_upto_region 5 with fail
  go_cut [29]from 25 to 28 (fun s29 wc=>s29=.bool rg∧wc=w1)
  case first =>
   have hrd:=Qx.out;by_cases ho:f%2=1
   ·rw[ho]at hmod;rw[decide_eq_true ho]at hrd;subst hrd;go_wp2_with fail
    go_meet;exact⟨rfl,rfl⟩
   ·rw[show f%2=0 by omega]at hmod;rw[decide_eq_false ho]at hrd;subst hrd;go_wp2_with fail
    go_meet;exact⟨rfl,rfl⟩
  case rest =>
  obtain⟨rfl,hw⟩:=hcut;replace hw:=hw.symm;subst hw;clear hmod Qx;have QK:=hid c1';clear c1';obtain⟨p2,hp2⟩:∃ p2,rzP2 k rows xs=p2:=⟨_,rfl⟩;rw[hp2]at YU Ze UP ZW QU;clear hp2;have HNW:=hid (QV.out w1 Qy.out.bl);have Qt:=hid (fun(wc:World) (zrow:List Value) (h:ZS w wc r0 zrow) (i:Nat) (v:Value)=>h.set i v (by omega));obtain⟨a0,a1,a2,a3,a4,a5,a6,a7,a8,a9⟩:=Za6 Qy.out.z;obtain⟨f0,f1,f2,f3,f4,f5,f6,f7,f8,f9⟩:=Zdf Qy.out.z;go_upto_if 29 with fail
  go_cut [9]from 10 to 76 (fun s9 wc=>s9=.int .i64 (p2:Nat)∧Hid (p2≤33554432)∧Hid (dd=true→rzOk k xs=true)∧Hid (ZS w wc r0 [.bool rg,.int .i64 nu,.bool mn.n,.int .i64 mn.i,.string mn.s,.bool mx.n,.int .i64 mx.i,.string mx.s,.int .i64 0,.slice none 0 0]))
  case first =>
   cases rg
   ·have hdd:=JY.out;rw[Bool.false_and]at hdd;subst hdd;rw[if_neg (by decide)]at JT UO YU Jc JK;rw[UO.out]at YU;have hp2:=YU.out;subst hp2;go_wp2_with fail
    go_meet;exact⟨rfl,hid (by omega),hid (fun h=>by cases h),hid (by rw[JT.out,← Jc.out,← JK.out];exact Qy.out)⟩
   ·have hdd:=JY.out;rw[Bool.true_and]at hdd;rw[if_pos rfl]at JT UO;have hnl:=XJ.out;have hcn:IntKind.i64.wrap (n4:Int)=(n4:Int):=by rw[IntKind.wrap_i64];omega
    go_upto_region 10 with (go_at_call 91;refine HNW.out.mono ?_;rintro e w2 ⟨rfl,hw⟩;replace hw:=hw.symm;subst hw)
    have ZF:=hid (Qt.out _ _ (Qt.out w1 _ Qy.out 0 (.bool true)) 1 (.int .i64 n4));change Code.wp _ _ _ _ ((w1.setCell ⟨r0+1,0,none⟩ (.bool true)).setCell ⟨r0+1,1,none⟩ (.int .i64 n4))
    clear a0 a1 a2 a3 a4 a5 a6 a7 a8 a9 f0 f1 f2 f3 f4 f5 f6 f7 f8 f9;generalize (w1.setCell ⟨r0+1,0,none⟩ (.bool true)).setCell ⟨r0+1,1,none⟩ (.int .i64 n4)=w2 at *;obtain⟨a0,a1,a2,a3,a4,a5,a6,a7,a8,a9⟩:=Za6 ZF.out.z;obtain⟨f0,f1,f2,f3,f4,f5,f6,f7,f8,f9⟩:=Zdf ZF.out.z;by_cases hgo:o4=true∧(n4:Int)≠rows
    ·obtain⟨ho4,hne⟩:=hgo;subst ho4;have hdt:dd=true:=by rw[hdd,decide_eq_true hne];rfl
     clear hdd;subst hdt;rw[if_pos rfl]at YU Jc JK;have hneb:((n4:Int) != rows)=true:=by simp[hne]
     have hq5:=XK.out 5;rw[← HQD.out]at hq5;have hp2l:=XK.out (rzQ k xs);rw[← YU.out]at hp2l;have XM:=hid (J1.out 5 (by omega));rw[Jc.out,← HQD.out]at XM;have HV6:=hid (J1.out (rzQ k xs) (by omega));rw[JK.out,← YU.out]at HV6;have XN:=hid HOKD.out;have HP2B:Hid (p2≤33554432):=hid (by omega);clear hq5 hp2l;generalize rzQ k xs=q at *;generalize vaOk k 5 xs=o5 at *;generalize vaOk k q xs=o6 at *;obtain⟨mnn,mni,mns⟩:=mn;obtain⟨mxn,mxi,mxs⟩:=mx;unfold C3.v at XM HV6;simp only at XM HV6;go_upto_region 12 with (go_at_call 134;refine(XM.out w2 ZF.out.bl).mono ?_;rintro e w3 ⟨rfl,hb3⟩;have Qe:=hid hb3;clear hb3)
     have Zd:=hid (Zac Qe.out ((Zab w3).alloc (Nat.le_refl _) (.cells #[.bool mnn,.int .i64 mni,.string mns] 36)));have Yn:Hid (Row (w3.alloc (.cells #[.bool mnn,.int .i64 mni,.string mns] 36)) w3.heap.size 36 [.bool mnn,.int .i64 mni,.string mns]):=hid (by unfold Row;rw[heap_alloc_new]);have UG:=hid (ZF.out.mono Zd.out);clear Zd Qe a0 a1 a2 a3 a4 a5 a6 a7 a8 a9 f0 f1 f2 f3 f4 f5 f6 f7 f8 f9 ZF;generalize w3.alloc (.cells #[.bool mnn,.int .i64 mni,.string mns] 36)=w4 at *;generalize w3.heap.size=e12 at *;go_upto_region 13 with (go_at_call 134;refine(HV6.out w4 UG.out.bl).mono ?_;rintro e w5 ⟨rfl,hb5⟩;have Q1:=hid hb5;clear hb5)
     have Uv:=hid (Zac Q1.out ((Zab w5).alloc (Nat.le_refl _) (.cells #[.bool mxn,.int .i64 mxi,.string mxs] 36)));have HD6:Hid (Row (w5.alloc (.cells #[.bool mxn,.int .i64 mxi,.string mxs] 36)) w5.heap.size 36 [.bool mxn,.int .i64 mxi,.string mxs]):=hid (by unfold Row;rw[heap_alloc_new]);have Y2:=hid (UG.out.mono Uv.out);have Vz:=hid (Yn.out.mono Uv.out);have hzl:r0+1<w4.heap.size:=UG.out.z.lt;have h5w:=Q1.out.size;have XO:Hid (r0+1≠w5.heap.size):=hid (by omega);clear Uv Q1 UG Yn hzl h5w;generalize w5.alloc (.cells #[.bool mxn,.int .i64 mxi,.string mxs] 36)=w6 at *;generalize w5.heap.size=e15 at *;obtain⟨a0,a1,a2,a3,a4,a5,a6,a7,a8,a9⟩:=Za6 Y2.out.z;obtain⟨y0,y1,y2,y3,y4,y5,y6,y7,y8,y9⟩:=Za6 Y2.out.r;obtain⟨f0,f1,f2,f3,f4,f5,f6,f7,f8,f9⟩:=Zdf Y2.out.z;obtain⟨g0,g1,g2,g3,g4,g5,g6,g7,g8,g9⟩:=Zdf Y2.out.r;obtain⟨k0,k1,k2⟩:=cell3 Vz.out;obtain⟨l0,l1,l2⟩:=cell3 HD6.out;cases o5
     ·have Q8:Hid (∀ z',Zkq z'→zOk k rows z'=true→zRec k rows z'≠xs):=hid (fun z' h1 h2 h3=>by
       have:=(JL.out z' h1 h2 h3).1 (by trivial);rw[XN.out]at this;simp at this)
      go_wp2_with fail
      change bodyPost _ _ _ _ _ (Zf5 w6 r0 (.bool false) (.int .i64 0) (.bool false) (.int .i64 0) (.string ⟨#[]⟩) (.bool false) (.int .i64 0) (.string ⟨#[]⟩) (.int .i64 0) (.slice none 0 0))
      have R0:=Zd1 Y2.out.r (.bool false) (.int .i64 0) (.bool false) (.int .i64 0) (.string ⟨#[]⟩) (.bool false) (.int .i64 0) (.string ⟨#[]⟩) (.int .i64 0) (.slice none 0 0);have hch:=Zd4 w6 r0 (.bool false) (.int .i64 0) (.bool false) (.int .i64 0) (.string ⟨#[]⟩) (.bool false) (.int .i64 0) (.string ⟨#[]⟩) (.int .i64 0) (.slice none 0 0);have hbl:=hch.below Y2.out.bl Y2.out.bl.size (by omega) (by omega);clear a0 a1 a2 a3 a4 a5 a6 a7 a8 a9 y0 y1 y2 y3 y4 y5 y6 y7 y8 y9 f0 f1 f2 f3 f4 f5 f6 f7 f8 f9 g0 g1 g2 g3 g4 g5 g6 g7 g8 g9;generalize Zf5 w6 r0 (.bool false) (.int .i64 0) (.bool false) (.int .i64 0) (.string ⟨#[]⟩) (.bool false) (.int .i64 0) (.string ⟨#[]⟩) (.int .i64 0) (.slice none 0 0)=wz at *;obtain⟨q0,q1,q2,q3,q4,q5,q6,q7,q8,q9⟩:=Za6 R0;refine bodyPost_ret (v:=.tuple #[.agg #[.bool false,.int .i64 0,.bool false,.int .i64 0,.string ⟨#[]⟩,.bool false,.int .i64 0,.string ⟨#[]⟩,.int .i64 0,.slice none 0 0],.bool false]) ?_ rfl ?_
      ·simp[results,Tryz.results93,go_sem,q0,q1,q2,q3,q4,q5,q6,q7,q8,q9]
      ·rw[← Qj.out];exact⟨hbl,false,ZM.df,.slice none 0 0,rfl,World.ownsRow_nil _ _ _ _,.inr ⟨rfl,rfl,Q8.out⟩⟩
     ·cases o6
      ·have Q8:Hid (∀ z',Zkq z'→zOk k rows z'=true→zRec k rows z'≠xs):=hid (fun z' h1 h2 h3=>by
        have:=(JL.out z' h1 h2 h3).1 (by trivial);rw[XN.out]at this;simp at this)
       go_wp2_with fail
       change bodyPost _ _ _ _ _ (Zf5 w6 r0 (.bool false) (.int .i64 0) (.bool false) (.int .i64 0) (.string ⟨#[]⟩) (.bool false) (.int .i64 0) (.string ⟨#[]⟩) (.int .i64 0) (.slice none 0 0))
       have R0:=Zd1 Y2.out.r (.bool false) (.int .i64 0) (.bool false) (.int .i64 0) (.string ⟨#[]⟩) (.bool false) (.int .i64 0) (.string ⟨#[]⟩) (.int .i64 0) (.slice none 0 0);have hch:=Zd4 w6 r0 (.bool false) (.int .i64 0) (.bool false) (.int .i64 0) (.string ⟨#[]⟩) (.bool false) (.int .i64 0) (.string ⟨#[]⟩) (.int .i64 0) (.slice none 0 0);have hbl:=hch.below Y2.out.bl Y2.out.bl.size (by omega) (by omega);clear a0 a1 a2 a3 a4 a5 a6 a7 a8 a9 y0 y1 y2 y3 y4 y5 y6 y7 y8 y9 f0 f1 f2 f3 f4 f5 f6 f7 f8 f9 g0 g1 g2 g3 g4 g5 g6 g7 g8 g9;generalize Zf5 w6 r0 (.bool false) (.int .i64 0) (.bool false) (.int .i64 0) (.string ⟨#[]⟩) (.bool false) (.int .i64 0) (.string ⟨#[]⟩) (.int .i64 0) (.slice none 0 0)=wz at *;obtain⟨q0,q1,q2,q3,q4,q5,q6,q7,q8,q9⟩:=Za6 R0;refine bodyPost_ret (v:=.tuple #[.agg #[.bool false,.int .i64 0,.bool false,.int .i64 0,.string ⟨#[]⟩,.bool false,.int .i64 0,.string ⟨#[]⟩,.int .i64 0,.slice none 0 0],.bool false]) ?_ rfl ?_
       ·simp[results,Tryz.results93,go_sem,q0,q1,q2,q3,q4,q5,q6,q7,q8,q9]
       ·rw[← Qj.out];exact⟨hbl,false,ZM.df,.slice none 0 0,rfl,World.ownsRow_nil _ _ _ _,.inr ⟨rfl,rfl,Q8.out⟩⟩
      ·go_upto_region 16 with fail
       have Ua:=hid (Qt.out _ _ (Qt.out _ _ (Qt.out w6 _ Y2.out 2 (.bool mnn)) 3 (.int .i64 mni)) 4 (.string mns));change Code.wp _ _ _ _ (((w6.setCell ⟨r0+1,2,none⟩ (.bool mnn)).setCell ⟨r0+1,3,none⟩ (.int .i64 mni)).setCell ⟨r0+1,4,none⟩ (.string mns))
       have HD8:Hid (Row (((w6.setCell ⟨r0+1,2,none⟩ (.bool mnn)).setCell ⟨r0+1,3,none⟩ (.int .i64 mni)).setCell ⟨r0+1,4,none⟩ (.string mns)) e15 36 [.bool mxn,.int .i64 mxi,.string mxs]):=hid (Zam (Zam (Zam HD6.out XO.out.symm) XO.out.symm) XO.out.symm);clear a0 a1 a2 a3 a4 a5 a6 a7 a8 a9 y0 y1 y2 y3 y4 y5 y6 y7 y8 y9 f0 f1 f2 f3 f4 f5 f6 f7 f8 f9 g0 g1 g2 g3 g4 g5 g6 g7 g8 g9 k0 k1 k2 l0 l1 l2;generalize ((w6.setCell ⟨r0+1,2,none⟩ (.bool mnn)).setCell ⟨r0+1,3,none⟩ (.int .i64 mni)).setCell ⟨r0+1,4,none⟩ (.string mns)=w8 at *;obtain⟨a0,a1,a2,a3,a4,a5,a6,a7,a8,a9⟩:=Za6 Ua.out.z;obtain⟨f0,f1,f2,f3,f4,f5,f6,f7,f8,f9⟩:=Zdf Ua.out.z;obtain⟨l0,l1,l2⟩:=cell3 HD8.out;go_wp2_with fail
       go_meet;exact⟨rfl,HP2B,hid (fun _=>by rw[XN.out];rfl),hid (by rw[JT.out];exact Qt.out _ _ (Qt.out _ _ (Qt.out w8 _ Ua.out 5 (.bool mxn)) 6 (.int .i64 mxi)) 7 (.string mxs))⟩
    ·have hdf:dd=false:=by
      rw[hdd];cases o4
      ·rfl
      ·rw[Bool.true_and];exact decide_eq_false (fun h=>hgo ⟨rfl,h⟩)
     clear hdd;subst hdf;rw[if_neg (by decide)]at YU Jc JK;rw[UO.out]at YU;have hp2:=YU.out;subst hp2;cases o4
     ·go_wp2_with fail
      go_meet;exact⟨rfl,hid (by omega),hid (fun h=>by cases h),hid (by rw[JT.out,← Jc.out,← JK.out];exact ZF.out)⟩
     ·have he:(n4:Int)=rows:=by
       by_cases h:(n4:Int)=rows
       ·exact h
       ·exact absurd ⟨rfl,h⟩ hgo
      have heb:((n4:Int) != rows)=false:=by simp[he]
      go_wp2_with fail
      go_meet;exact⟨rfl,hid (by omega),hid (fun h=>by cases h),hid (by rw[JT.out,← Jc.out,← JK.out];exact ZF.out)⟩
  case rest =>
  obtain⟨rfl,HP2L,HDOK,Jh⟩:=hcut;clear a0 a1 a2 a3 a4 a5 a6 a7 a8 a9 f0 f1 f2 f3 f4 f5 f6 f7 f8 f9 Qy HNW J1 XK JT UO JY HOKD HQD YU Jc JK XJ QV;generalize wc=w7 at *;have hp2l:=HP2L.out;have c7:=Jh.out.bl.cell (p:=⟨b,o,none⟩) XL.out;have Je:Hid (w.cell? ⟨b,o,none⟩=some (.int .u8 (f:Int))):=hid c0';rw[Je.out]at c7;obtain⟨bb,hbb⟩:∃ bb,rzB k rows xs=bb:=⟨_,rfl⟩;rw[hbb]at Ze ZW QU;clear hbb;go_upto_region 18 with fail
  go_cut [86]from 77 to 85 (fun s86 wc=>s86=.bool bb∧wc=w7)
  case first =>
   have hbd:=Ze.out;by_cases h2:(f:Int) ≥ 2
   ·rw[decide_eq_true (show 2≤f by omega),Bool.true_and]at hbd;by_cases h3:(p2:Int)<(xn:Int)
    ·rw[decide_eq_true (show p2<xn by omega)]at hbd;subst hbd;go_wp2_with fail
     go_meet;exact⟨rfl,rfl⟩
    ·rw[decide_eq_false (show ¬ p2<xn by omega)]at hbd;subst hbd;go_wp2_with fail
     go_meet;exact⟨rfl,rfl⟩
   ·rw[decide_eq_false (show ¬ 2≤f by omega),Bool.false_and]at hbd;subst hbd;go_wp2_with fail
    go_meet;exact⟨rfl,rfl⟩
  case rest =>
  obtain⟨rfl,hw⟩:=hcut;replace hw:=hw.symm;subst hw;clear c7;obtain⟨hs,hhs⟩:∃ hs,rzHs k rows xs=hs:=⟨_,rfl⟩;obtain⟨bl,hbl⟩:∃ bl,rzBl k rows xs=bl:=⟨_,rfl⟩;obtain⟨cnt,hcnt⟩:∃ cnt,Zpd k rows xs=cnt:=⟨_,rfl⟩;rw[hhs]at ZW Q0;rw[hbl]at QU Q0;rw[hcnt]at UP QU;clear hhs hbl hcnt;obtain⟨a0,a1,a2,a3,a4,a5,a6,a7,a8,a9⟩:=Za6 Jh.out.z;obtain⟨f0,f1,f2,f3,f4,f5,f6,f7,f8,f9⟩:=Zdf Jh.out.z;go_upto_if 86 with fail
  go_cut [9]from 10 to 109 (fun s9 wc=>(∃ v9:Value,s9=v9)∧∃(B:Option Addr) (bc:Nat),Hid (ZS w wc r0 [.bool rg,.int .i64 nu,.bool mn.n,.int .i64 mn.i,.string mn.s,.bool mx.n,.int .i64 mx.i,.string mx.s,.int .i64 hs,.slice B bl.length bc])∧Hid (wc.ownsRow (r0+2) 73 1 (.slice B bl.length bc) bl.length (u64s bl))∧Hid ((∀ x∈bl,x<18446744073709551616)∧bl.length≤16777216))
  case first =>
   cases bb
   ·rw[if_neg (by decide)]at ZW;rw[if_neg (by simp)]at QU;go_wp2_with fail
    go_meet;refine⟨⟨_,rfl⟩,none,0,hid (by rw[ZW.out,QU.out];exact Jh.out),hid ?_,hid ?_⟩
    ·rw[QU.out];exact World.ownsRow_nil _ _ _ _
    ·rw[QU.out];exact⟨fun x hx=>(by cases hx),by simp⟩
   ·rw[if_pos rfl]at ZW;have hlt:p2<xn:=by
     have h:=Ze.out
     symm at h
     rw[Bool.and_eq_true,decide_eq_true_eq,decide_eq_true_eq]at h;exact h.2
    have c8:=Z3.out.byte p2 (by rw[UE.out];exact hlt);have c9:=Jh.out.bl.cell (p:=⟨b,o+p2,none⟩) XL.out;rw[c8]at c9;have hgb:xs.getD p2 0<256:=HX.out.1 _ (by simp[List.getD,show p2<xs.length by rw[UE.out];exact hlt]);have HC9:=hid c9;have hhsn:=ZW.out;generalize xs.getD p2 0=h8 at *;have hlti:(p2:Int)<(xn:Int):=by omega
    clear c8;go_upto_region 20 with fail
    have Ua:=hid (Qt.out w7 _ Jh.out 8 (.int .i64 h8));clear a0 a1 a2 a3 a4 a5 a6 a7 a8 a9 f0 f1 f2 f3 f4 f5 f6 f7 f8 f9 c9;generalize w7.setCell ⟨r0+1,8,none⟩ (.int .i64 h8)=w8 at *;simp only[List.set_cons_succ,List.set_cons_zero]at Ua;obtain⟨q5,hq5⟩:∃ q5,p2+5=q5:=⟨_,rfl⟩;have hq5i:(p2:Int)+5=(q5:Int):=by omega
    have hxl:xn≤16777216:=by rw[← UE.out];exact HX.out.2
    have hcn:=UP.out;have YH:=hid (Zs.out q5 cnt (by omega) (by omega) w8 Ua.out.bl);have Vy:=hid (Zdz (k:=8) (Zdh (n:=8*cnt) (fun x hx=>HX.out.1 x (List.mem_of_mem_drop (i:=q5) hx))) (by decide));have HTN:Hid ((numL 8 (tk (8*cnt) (xs.drop q5))).length≤16777216):=hid (by
     rw[Zan];have:(tk (8*cnt) (xs.drop q5)).length≤xs.length:=by
      unfold tk;split
      ·rw[List.length_take,List.length_drop];omega
      ·simp
     have:=HX.out.2;omega)
    rw[hq5]at QU;generalize numL 8 (tk (8*cnt) (xs.drop q5))=ws at *;generalize Zav 8 cnt q5 xn=o5 at *;have HQT:Hid (Int.tdiv ((xn:Int)-(p2:Int)-5) 8=(cnt:Int)):=hid (by
     by_cases h:5≤xn-p2
     ·rw[Int.tdiv_eq_ediv_of_nonneg (by omega)];omega
     ·have h4:(xn:Int)-p2-5 = -4∨(xn:Int)-p2-5 = -3∨(xn:Int)-p2-5 = -2∨(xn:Int)-p2-5 = -1:=by omega
      have hc0:cnt=0:=by omega
      rw[hc0];rcases h4 with h4 | h4 | h4 | h4<;>rw[h4]<;>decide)
    have hzl:r0+1<w8.heap.size:=Ua.out.z.lt;have HZL:=hid hzl;have hqt:=HQT.out;obtain⟨dn,hdn⟩:∃ dn:Int,(xn:Int)-(p2:Int)-5=dn:=⟨_,rfl⟩;rw[hdn]at hqt;have hwd:IntKind.i64.wrap ((xn:Int)-(p2:Int))=(xn:Int)-(p2:Int):=by rw[IntKind.wrap_i64];omega
    have hwc:wrap64 (cnt:Int)=(cnt:Int):=by unfold wrap64;omega
    clear hq5 hcn hzl;go_upto_region 21 with (go_at_call 89;refine YH.out.mono ?_;rintro e w9 ⟨u,rfl,how,hb9⟩;obtain⟨Au,cu,rfl,_⟩:=Zao how;have QI:=hid how;have Ym:=hid hb9;clear how hb9)
    have HB89:=hid (Ym.out);have VG:=hid (Ua.out.mono Ym.out);clear hdn hqt hwd hwc;obtain⟨a0,a1,a2,a3,a4,a5,a6,a7,a8,a9⟩:=Za6 VG.out.z;obtain⟨f0,f1,f2,f3,f4,f5,f6,f7,f8,f9⟩:=Zdf VG.out.z;cases o5
    ·rw[if_neg (by simp)]at QU;go_wp2_with fail
     go_meet;refine⟨⟨_,rfl⟩,none,0,hid (by rw[hhsn,QU.out];exact VG.out),hid ?_,hid ?_⟩
     ·rw[QU.out];exact World.ownsRow_nil _ _ _ _
     ·rw[QU.out];exact⟨fun x hx=>(by cases hx),by simp⟩
    ·rw[if_pos (by simp)]at QU;have hb:=QU.out
     symm at hb
     subst hb;clear QU;go_wp2_with fail
     go_meet;refine⟨⟨_,rfl⟩,Au,cu,hid (by rw[hhsn];exact Qt.out w9 _ VG.out 9 (.slice Au ws.length cu)),hid ?_,hid ⟨Vy.out,HTN.out⟩⟩;exact Zb5 (Zm3 QI.out (by have:=HZL.out;omega)) ((Chg.refl (r0+1) (r0+1) w9).setCell (r0+1) 9 _ (.inl rfl)) (by omega) (by omega)
  case rest =>
  obtain⟨⟨v9,rfl⟩,B,bc,QB,QI,Yl⟩:=hcut;clear a0 a1 a2 a3 a4 a5 a6 a7 a8 a9 f0 f1 f2 f3 f4 f5 f6 f7 f8 f9 Jh Z3 Ze UP ZW QU Zs Qt;generalize wc=w16 at *;have Z8:=hid (fun w2:World=>Zpz k rows ⟨rg,nu,mn,mx,hs,bl⟩ B bc w2);have Ub:=hid (fun(hz:zOk k rows ⟨rg,nu,mn,mx,hs,bl⟩=true) (w2:World) (hb:Below w16.heap.size w16 w2)=>Zki k rows ⟨rg,nu,mn,mx,hs,bl⟩ B bc w2 hk hr hz ((Zba QI.out).mono hb) Yl.out.1);have HEQ:=hid (fun(w2:World) (c:Value) (zr:List Nat) (h1:Rd w2 (.slice (some ⟨b,o,none⟩) xn c0) xn 1 (u8s xs)) (h2:Rd w2 c zr.length 1 (u8s zr)) (h3:∀ x∈zr,x<256)=>Zld c (.slice (some ⟨b,o,none⟩) xn c0) zr xs w2 h2 (by rw[UE.out];exact h1) h3 HX.out.1);have HVR2:Hid (Rd w (.slice (some ⟨b,o,none⟩) xn c0) xn 1 (u8s xs)):=hid (by have h:=HVR.out;rw[UE.out]at h;exact h);have Zv:Hid (zOk k rows ⟨rg,nu,mn,mx,hs,bl⟩=true→∀ x∈zRec k rows ⟨rg,nu,mn,mx,hs,bl⟩,x<256):=hid (fun hz=>Zxo hz);have Ud:Hid (¬ (zOk k rows ⟨rg,nu,mn,mx,hs,bl⟩=true∧zRec k rows ⟨rg,nu,mn,mx,hs,bl⟩=xs)→∀ z',Zkq z'→zOk k rows z'=true→zRec k rows z'≠xs):=hid (fun hn z' h1 h2 h3=>by
   have h:=(JL.out z' h1 h2 h3).2;rw[Q0.out]at h;subst h;exact hn ⟨h2,h3⟩)
  obtain⟨zk,hzk⟩:∃ zk,zOk k rows ⟨rg,nu,mn,mx,hs,bl⟩=zk:=⟨_,rfl⟩;have Uc:=hid hzk;rw[hzk]at Z8 Ub Zv;clear hzk JL;obtain⟨zr,hzr⟩:∃ zr,zRec k rows ⟨rg,nu,mn,mx,hs,bl⟩=zr:=⟨_,rfl⟩;have UJ:=hid hzr;rw[hzr]at Ub Zv;clear hzr;obtain⟨bn,hbn⟩:∃ bn,bl.length=bn:=⟨_,rfl⟩;have XF:=hid hbn;simp only[hbn]at Z8 Ub QB QI;clear hbn;obtain⟨mnn,mni,mns⟩:=mn;obtain⟨mxn,mxi,mxs⟩:=mx;unfold ZM.v at Z8 Ub;simp only at Z8 Ub QB;obtain⟨a0,a1,a2,a3,a4,a5,a6,a7,a8,a9⟩:=Za6 QB.out.z;obtain⟨y0,y1,y2,y3,y4,y5,y6,y7,y8,y9⟩:=Za6 QB.out.r;obtain⟨f0,f1,f2,f3,f4,f5,f6,f7,f8,f9⟩:=Zdf QB.out.z;obtain⟨g0,g1,g2,g3,g4,g5,g6,g7,g8,g9⟩:=Zdf QB.out.r;cases zk
  ·have Q8:=hid (Ud.out (by rw[Uc.out];exact fun h=>by cases h.1));go_wp2_with (go_at_call 135;refine(Z8.out w16).mono ?_;rintro e w17 ⟨rfl,hb⟩;have Qr:=hid (QB.out.mono hb);clear hb a0 a1 a2 a3 a4 a5 a6 a7 a8 a9 f0 f1 f2 f3 f4 f5 f6 f7 f8 f9 y0 y1 y2 y3 y4 y5 y6 y7 y8 y9 g0 g1 g2 g3 g4 g5 g6 g7 g8 g9;obtain⟨a0,a1,a2,a3,a4,a5,a6,a7,a8,a9⟩:=Za6 Qr.out.z;obtain⟨y0,y1,y2,y3,y4,y5,y6,y7,y8,y9⟩:=Za6 Qr.out.r;obtain⟨f0,f1,f2,f3,f4,f5,f6,f7,f8,f9⟩:=Zdf Qr.out.z;obtain⟨g0,g1,g2,g3,g4,g5,g6,g7,g8,g9⟩:=Zdf Qr.out.r)
   change bodyPost _ _ _ _ _ (Zf5 w17 r0 (.bool false) (.int .i64 0) (.bool false) (.int .i64 0) (.string ⟨#[]⟩) (.bool false) (.int .i64 0) (.string ⟨#[]⟩) (.int .i64 0) (.slice none 0 0))
   have R0:=Zd1 Qr.out.r (.bool false) (.int .i64 0) (.bool false) (.int .i64 0) (.string ⟨#[]⟩) (.bool false) (.int .i64 0) (.string ⟨#[]⟩) (.int .i64 0) (.slice none 0 0);have hch:=Zd4 w17 r0 (.bool false) (.int .i64 0) (.bool false) (.int .i64 0) (.string ⟨#[]⟩) (.bool false) (.int .i64 0) (.string ⟨#[]⟩) (.int .i64 0) (.slice none 0 0);have hbl:=hch.below Qr.out.bl Qr.out.bl.size (by omega) (by omega);clear a0 a1 a2 a3 a4 a5 a6 a7 a8 a9 y0 y1 y2 y3 y4 y5 y6 y7 y8 y9 f0 f1 f2 f3 f4 f5 f6 f7 f8 f9 g0 g1 g2 g3 g4 g5 g6 g7 g8 g9;generalize Zf5 w17 r0 (.bool false) (.int .i64 0) (.bool false) (.int .i64 0) (.string ⟨#[]⟩) (.bool false) (.int .i64 0) (.string ⟨#[]⟩) (.int .i64 0) (.slice none 0 0)=wz at *;obtain⟨q0,q1,q2,q3,q4,q5,q6,q7,q8,q9⟩:=Za6 R0;refine bodyPost_ret (v:=.tuple #[.agg #[.bool false,.int .i64 0,.bool false,.int .i64 0,.string ⟨#[]⟩,.bool false,.int .i64 0,.string ⟨#[]⟩,.int .i64 0,.slice none 0 0],.bool false]) ?_ rfl ?_
   ·simp[results,Tryz.results93,go_sem,q0,q1,q2,q3,q4,q5,q6,q7,q8,q9]
   ·rw[← Qj.out];exact⟨hbl,false,ZM.df,.slice none 0 0,rfl,World.ownsRow_nil _ _ _ _,.inr ⟨rfl,rfl,Q8.out⟩⟩
  ·have UK:=hid (Ub.out rfl);have UM:=hid (Zv.out rfl);by_cases heq:zr=xs
   ·have HQ:Hid (decide (zr=xs)=true):=hid (decide_eq_true heq);have QL:Hid (zRec k rows ⟨rg,nu,⟨mnn,mni,mns⟩,⟨mxn,mxi,mxs⟩,hs,bl⟩=xs):=hid (by rw[UJ.out];exact heq);clear heq;go_wp2_with (first
     | (go_at_call 135;refine(Z8.out w16).mono ?_;rintro e w17 ⟨rfl,hb⟩;have Ys:=hid hb;have Qr:=hid (QB.out.mono hb);clear hb a0 a1 a2 a3 a4 a5 a6 a7 a8 a9 f0 f1 f2 f3 f4 f5 f6 f7 f8 f9 y0 y1 y2 y3 y4 y5 y6 y7 y8 y9 g0 g1 g2 g3 g4 g5 g6 g7 g8 g9;obtain⟨a0,a1,a2,a3,a4,a5,a6,a7,a8,a9⟩:=Za6 Qr.out.z;obtain⟨y0,y1,y2,y3,y4,y5,y6,y7,y8,y9⟩:=Za6 Qr.out.r;obtain⟨f0,f1,f2,f3,f4,f5,f6,f7,f8,f9⟩:=Zdf Qr.out.z;obtain⟨g0,g1,g2,g3,g4,g5,g6,g7,g8,g9⟩:=Zdf Qr.out.r)
     | (go_at_call 43;refine(UK.out w17 Ys.out).mono ?_;rintro e w18 ⟨r1,rfl,ho,hb⟩;obtain⟨A8,c8,rfl⟩:=ho.form;have ZT:=hid (Zba ho);have Z9:=hid (Zac Ys.out hb);have Qr:=hid (QB.out.mono Z9.out);clear ho hb a0 a1 a2 a3 a4 a5 a6 a7 a8 a9 f0 f1 f2 f3 f4 f5 f6 f7 f8 f9 y0 y1 y2 y3 y4 y5 y6 y7 y8 y9 g0 g1 g2 g3 g4 g5 g6 g7 g8 g9;obtain⟨a0,a1,a2,a3,a4,a5,a6,a7,a8,a9⟩:=Za6 Qr.out.z;obtain⟨y0,y1,y2,y3,y4,y5,y6,y7,y8,y9⟩:=Za6 Qr.out.r;obtain⟨f0,f1,f2,f3,f4,f5,f6,f7,f8,f9⟩:=Zdf Qr.out.z;obtain⟨g0,g1,g2,g3,g4,g5,g6,g7,g8,g9⟩:=Zdf Qr.out.r)
     | (go_at_call 136;refine(HEQ.out w18 _ zr (HVR2.out.mono Qr.out.bl) ZT.out UM.out).mono ?_;rintro e w19 ⟨rfl,hw⟩;replace hw:=hw.symm;subst hw;rw[HQ.out]))
    change bodyPost _ _ _ _ _ (Zf5 w18 r0 (.bool rg) (.int .i64 nu) (.bool mnn) (.int .i64 mni) (.string mns) (.bool mxn) (.int .i64 mxi) (.string mxs) (.int .i64 hs) (.slice B bn bc))
    have R0:=Zd1 Qr.out.r (.bool rg) (.int .i64 nu) (.bool mnn) (.int .i64 mni) (.string mns) (.bool mxn) (.int .i64 mxi) (.string mxs) (.int .i64 hs) (.slice B bn bc);have hch:=Zd4 w18 r0 (.bool rg) (.int .i64 nu) (.bool mnn) (.int .i64 mni) (.string mns) (.bool mxn) (.int .i64 mxi) (.string mxs) (.int .i64 hs) (.slice B bn bc);have hbl:=hch.below Qr.out.bl Qr.out.bl.size (by omega) (by omega);have how:=Zm3 (Zb5 (Zbs QI.out Z9.out) hch (by omega) (by omega)) (show r0≤r0+2 by omega);clear a0 a1 a2 a3 a4 a5 a6 a7 a8 a9 f0 f1 f2 f3 f4 f5 f6 f7 f8 f9 y0 y1 y2 y3 y4 y5 y6 y7 y8 y9 g0 g1 g2 g3 g4 g5 g6 g7 g8 g9;generalize Zf5 w18 r0 (.bool rg) (.int .i64 nu) (.bool mnn) (.int .i64 mni) (.string mns) (.bool mxn) (.int .i64 mxi) (.string mxs) (.int .i64 hs) (.slice B bn bc)=wz at *;obtain⟨q0,q1,q2,q3,q4,q5,q6,q7,q8,q9⟩:=Za6 R0;refine bodyPost_ret (v:=.tuple #[.agg #[.bool rg,.int .i64 nu,.bool mnn,.int .i64 mni,.string mns,.bool mxn,.int .i64 mxi,.string mxs,.int .i64 hs,.slice B bn bc],.bool true]) ?_ rfl ?_
    ·simp[results,Tryz.results93,go_sem,q0,q1,q2,q3,q4,q5,q6,q7,q8,q9]
    ·rw[← Qj.out];exact⟨hbl,true,⟨rg,nu,⟨mnn,mni,mns⟩,⟨mxn,mxi,mxs⟩,hs,bl⟩,.slice B bn bc,rfl,by rw[hr0,XF.out];exact how,.inl ⟨rfl,Q0.out.symm,Uc.out,QL.out⟩⟩
   ·have HQ:Hid (decide (zr=xs)=false):=hid (decide_eq_false heq);have Q8:=hid (Ud.out (by rw[UJ.out];exact fun h=>heq h.2));clear heq;go_wp2_with (first
     | (go_at_call 135;refine(Z8.out w16).mono ?_;rintro e w17 ⟨rfl,hb⟩;have Ys:=hid hb;have Qr:=hid (QB.out.mono hb);clear hb a0 a1 a2 a3 a4 a5 a6 a7 a8 a9 f0 f1 f2 f3 f4 f5 f6 f7 f8 f9 y0 y1 y2 y3 y4 y5 y6 y7 y8 y9 g0 g1 g2 g3 g4 g5 g6 g7 g8 g9;obtain⟨a0,a1,a2,a3,a4,a5,a6,a7,a8,a9⟩:=Za6 Qr.out.z;obtain⟨y0,y1,y2,y3,y4,y5,y6,y7,y8,y9⟩:=Za6 Qr.out.r;obtain⟨f0,f1,f2,f3,f4,f5,f6,f7,f8,f9⟩:=Zdf Qr.out.z;obtain⟨g0,g1,g2,g3,g4,g5,g6,g7,g8,g9⟩:=Zdf Qr.out.r)
     | (go_at_call 43;refine(UK.out w17 Ys.out).mono ?_;rintro e w18 ⟨r1,rfl,ho,hb⟩;obtain⟨A8,c8,rfl⟩:=ho.form;have ZT:=hid (Zba ho);have Z9:=hid (Zac Ys.out hb);have Qr:=hid (QB.out.mono Z9.out);clear ho hb a0 a1 a2 a3 a4 a5 a6 a7 a8 a9 f0 f1 f2 f3 f4 f5 f6 f7 f8 f9 y0 y1 y2 y3 y4 y5 y6 y7 y8 y9 g0 g1 g2 g3 g4 g5 g6 g7 g8 g9;obtain⟨a0,a1,a2,a3,a4,a5,a6,a7,a8,a9⟩:=Za6 Qr.out.z;obtain⟨y0,y1,y2,y3,y4,y5,y6,y7,y8,y9⟩:=Za6 Qr.out.r;obtain⟨f0,f1,f2,f3,f4,f5,f6,f7,f8,f9⟩:=Zdf Qr.out.z;obtain⟨g0,g1,g2,g3,g4,g5,g6,g7,g8,g9⟩:=Zdf Qr.out.r)
     | (go_at_call 136;refine(HEQ.out w18 _ zr (HVR2.out.mono Qr.out.bl) ZT.out UM.out).mono ?_;rintro e w19 ⟨rfl,hw⟩;replace hw:=hw.symm;subst hw;rw[HQ.out]))
    change bodyPost _ _ _ _ _ (Zf5 w18 r0 (.bool false) (.int .i64 0) (.bool false) (.int .i64 0) (.string ⟨#[]⟩) (.bool false) (.int .i64 0) (.string ⟨#[]⟩) (.int .i64 0) (.slice none 0 0))
    have R0:=Zd1 Qr.out.r (.bool false) (.int .i64 0) (.bool false) (.int .i64 0) (.string ⟨#[]⟩) (.bool false) (.int .i64 0) (.string ⟨#[]⟩) (.int .i64 0) (.slice none 0 0);have hch:=Zd4 w18 r0 (.bool false) (.int .i64 0) (.bool false) (.int .i64 0) (.string ⟨#[]⟩) (.bool false) (.int .i64 0) (.string ⟨#[]⟩) (.int .i64 0) (.slice none 0 0);have hbl:=hch.below Qr.out.bl Qr.out.bl.size (by omega) (by omega);clear a0 a1 a2 a3 a4 a5 a6 a7 a8 a9 y0 y1 y2 y3 y4 y5 y6 y7 y8 y9 f0 f1 f2 f3 f4 f5 f6 f7 f8 f9 g0 g1 g2 g3 g4 g5 g6 g7 g8 g9;generalize Zf5 w18 r0 (.bool false) (.int .i64 0) (.bool false) (.int .i64 0) (.string ⟨#[]⟩) (.bool false) (.int .i64 0) (.string ⟨#[]⟩) (.int .i64 0) (.slice none 0 0)=wz at *;obtain⟨q0,q1,q2,q3,q4,q5,q6,q7,q8,q9⟩:=Za6 R0;refine bodyPost_ret (v:=.tuple #[.agg #[.bool false,.int .i64 0,.bool false,.int .i64 0,.string ⟨#[]⟩,.bool false,.int .i64 0,.string ⟨#[]⟩,.int .i64 0,.slice none 0 0],.bool false]) ?_ rfl ?_
    ·simp[results,Tryz.results93,go_sem,q0,q1,q2,q3,q4,q5,q6,q7,q8,q9]
    ·rw[← Qj.out];exact⟨hbl,false,ZM.df,.slice none 0 0,rfl,World.ownsRow_nil _ _ _ _,.inr ⟨rfl,rfl,Q8.out⟩⟩
end Go.Proofs.YtmcjknjlihgihaaGreatDoor
