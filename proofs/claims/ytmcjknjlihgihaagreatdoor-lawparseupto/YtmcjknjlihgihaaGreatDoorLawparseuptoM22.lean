/- Package format: a bound read; bytes held against bytes. -/
import Derived.Test.YtmcjknjlihgihaaGreatDoorLawparseuptoM21
set_option linter.unusedVariables false
set_option linter.unusedSimpArgs false
set_option linter.unnecessarySimpa false
set_option maxRecDepth 100000
namespace Go.Proofs.YtmcjknjlihgihaaGreatDoor
open Go.RowKit
def ZM.vs (z:ZM) (b:Value):List Value:=[.bool z.rg,.int .i64 z.nu,.bool z.mn.n,.int .i64 z.mn.i,.string z.mn.s,.bool z.mx.n,.int .i64 z.mx.i,.string z.mx.s,.int .i64 z.hs,b]
def ZM.v (z:ZM) (b:Value):Value:=.agg #[.bool z.rg,.int .i64 z.nu,.bool z.mn.n,.int .i64 z.mn.i,.string z.mn.s,.bool z.mx.n,.int .i64 z.mx.i,.string z.mx.s,.int .i64 z.hs,b]
theorem Za6 {w:World} {g:Nat} {e:TypeId} {a0 a1 a2 a3 a4 a5 a6 a7 a8 a9:Value} (h:Row w g e [a0,a1,a2,a3,a4,a5,a6,a7,a8,a9]) :
  w.cell? ⟨g,0,none⟩=some a0∧w.cell? ⟨g,1,none⟩=some a1∧w.cell? ⟨g,2,none⟩=some a2∧w.cell? ⟨g,3,none⟩=some a3∧w.cell? ⟨g,4,none⟩=some a4∧w.cell? ⟨g,5,none⟩=some a5∧w.cell? ⟨g,6,none⟩=some a6∧w.cell? ⟨g,7,none⟩=some a7∧w.cell? ⟨g,8,none⟩=some a8∧w.cell? ⟨g,9,none⟩=some a9 :=
 ⟨by rw[h.cell];rfl,by rw[h.cell];rfl,by rw[h.cell];rfl,by rw[h.cell];rfl,by rw[h.cell];rfl,by rw[h.cell];rfl,by rw[h.cell];rfl,by rw[h.cell];rfl,by rw[h.cell];rfl,by rw[h.cell];rfl⟩
theorem Zdf {w:World} {g:Nat} {e:TypeId} {cs:List Value} (h:Row w g e cs):w.frozen? ⟨g,0,none⟩=false∧w.frozen? ⟨g,1,none⟩=false∧w.frozen? ⟨g,2,none⟩=false∧w.frozen? ⟨g,3,none⟩=false∧w.frozen? ⟨g,4,none⟩=false∧w.frozen? ⟨g,5,none⟩=false∧w.frozen? ⟨g,6,none⟩=false∧w.frozen? ⟨g,7,none⟩=false∧w.frozen? ⟨g,8,none⟩=false∧w.frozen? ⟨g,9,none⟩=false :=
 ⟨h.frozen 0,h.frozen 1,h.frozen 2,h.frozen 3,h.frozen 4,h.frozen 5,h.frozen 6,h.frozen 7,h.frozen 8,h.frozen 9⟩
theorem Zrr (n k:Int) (w:World):Calls Tryz.prog 147 #[.int .i64 n,.int .i64 k] w fun e w'=>e=.returned (.bool (Zet n k))∧w'=w:=by
 unfold Zet;go_enter Tryz.func147,Tryz.ntmps147;by_cases h1:n ≥ 1<;>by_cases h2:n≤64<;>by_cases h3:k ≥ 1<;>by_cases h4:k≤8<;>go_wp2<;>(go_ret;exact⟨Zae (by simp[*]<;>omega),rfl⟩)
theorem Zja (n:Nat) (k:Int) (w:World):Calls Tryz.prog 140 #[.int .i64 n,.int .i64 k] w fun e w'=>e=.returned (.bool (filZ n k))∧w'=w:=by
 have HF:=hid (fun w2:World=>Zrr n k w2);unfold filZ;go_enter Tryz.func140,Tryz.ntmps140;by_cases h1:(n:Int)=0
 ·have h1':n=0:=by omega
  subst h1';by_cases h2:k=0
  ·go_wp2;go_ret;exact⟨Zae (by simp[*]),rfl⟩
  ·generalize Zet ((0:Nat):Int) k=R at *;go_wp2_with (go_at_call 147;refine(HF.out _).mono ?_;rintro e w1 ⟨rfl,hw⟩;replace hw:=hw.symm;subst hw)
   go_ret;exact⟨Zae (by simp[*]),rfl⟩
 ·have h1':¬ n=0:=by omega
  generalize Zet (n:Int) k=R at *;go_wp2_with (go_at_call 147;refine(HF.out _).mono ?_;rintro e w1 ⟨rfl,hw⟩;replace hw:=hw.symm;subst hw)
  go_ret;exact⟨Zae (by simp[*]),rfl⟩
set_option maxHeartbeats 8000000 in
theorem Ztm (k rows:Int) (z:ZM) (B:Option Addr) (bn bc:Nat) (w:World):Calls Tryz.prog 153 #[.int .i64 k,.int .i64 rows,z.v (.slice B bn bc)] w fun e w'=>e=.returned (.bool (rgOk k rows z))∧Below w.heap.size w w':=by
 have Jf:=hid (fun w2:World=>Zl9 z.mn k w2);have Zc:=hid (fun w2:World=>Zl9 z.mx k w2);obtain⟨R,hR⟩:∃ R,rgOk k rows z=R:=⟨_,rfl⟩;rw[hR];unfold rgOk at hR;obtain⟨q,hq⟩:∃ q,(isDf z.mn&&isDf z.mx)=q:=⟨_,rfl⟩;obtain⟨v1,hv1⟩:∃ v1,Zdw k z.mn=v1:=⟨_,rfl⟩;obtain⟨v2,hv2⟩:∃ v2,Zdw k z.mx=v2:=⟨_,rfl⟩;rw[hq,hv1,hv2]at hR;rw[hv1]at Jf;rw[hv2]at Zc;clear hv1 hv2;have HQ:=hid hq;have HR:=hid hR;clear hq hR;obtain⟨rg,nu,⟨mnn,mni,mns⟩,⟨mxn,mxi,mxs⟩,hs,bl⟩:=z;unfold ZM.v;unfold C3.v at Jf Zc;simp only at HQ HR Jf Zc ⊢;have Qh:=hid ((Zab w).alloc (Nat.le_refl _) (.cells #[.bool rg,.int .i64 nu,.bool mnn,.int .i64 mni,.string mns,.bool mxn,.int .i64 mxi,.string mxs,.int .i64 hs,.slice B bn bc] 39));have Qg:Hid (Row (w.alloc (.cells #[.bool rg,.int .i64 nu,.bool mnn,.int .i64 mni,.string mns,.bool mxn,.int .i64 mxi,.string mxs,.int .i64 hs,.slice B bn bc] 39)) w.heap.size 39 [.bool rg,.int .i64 nu,.bool mnn,.int .i64 mni,.string mns,.bool mxn,.int .i64 mxi,.string mxs,.int .i64 hs,.slice B bn bc]):=hid (by unfold Row;rw[heap_alloc_new]);go_enter Tryz.func153,Tryz.ntmps153;go_upto_region 1 with fail
 generalize w.alloc (.cells #[.bool rg,.int .i64 nu,.bool mnn,.int .i64 mni,.string mns,.bool mxn,.int .i64 mxi,.string mxs,.int .i64 hs,.slice B bn bc] 39)=w0 at *;obtain⟨a0,a1,a2,a3,a4,a5,a6,a7,a8,a9⟩:=Za6 Qg.out;go_cut [7]from 8 to 17 (fun s7 wc=>s7=.bool q∧wc=w0)
 case first =>
  clear HR Jf Zc;cases mnn
  ·by_cases h1:mni=0
   ·subst h1;by_cases h2:mns.toList=[]
    ·cases mxn
     ·by_cases h3:mxi=0
      ·subst h3;by_cases h4:mxs.toList=[]
       ·go_wp2_with fail
        go_meet;exact⟨by rw[← HQ.out];simp[isDf, *],rfl⟩
       ·go_wp2_with fail
        go_meet;exact⟨by rw[← HQ.out];simp[isDf, *],rfl⟩
      ·go_wp2_with fail
       go_meet;exact⟨by rw[← HQ.out];simp[isDf, *],rfl⟩
     ·go_wp2_with fail
      go_meet;exact⟨by rw[← HQ.out];simp[isDf, *],rfl⟩
    ·go_wp2_with fail
     go_meet;exact⟨by rw[← HQ.out];simp[isDf, *],rfl⟩
   ·go_wp2_with fail
    go_meet;exact⟨by rw[← HQ.out];simp[isDf, *],rfl⟩
  ·go_wp2_with fail
   go_meet;exact⟨by rw[← HQ.out];simp[isDf, *],rfl⟩
 case rest =>
 obtain⟨rfl,hw⟩:=hcut;replace hw:=hw.symm;subst hw;clear HQ;cases rg
 ·rw[if_neg (by decide)]at HR;by_cases h0:nu=0
  ·subst h0;go_wp2_with fail
   go_ret;exact⟨Zae (by rw[← HR.out];simp),Qh.out⟩
  ·go_wp2_with fail
   go_ret;exact⟨Zae (by rw[← HR.out];simp[h0]),Qh.out⟩
 ·rw[if_pos rfl]at HR;by_cases h0:nu=rows
  ·subst h0;rw[if_pos rfl]at HR;go_wp2_with fail
   go_ret;exact⟨Zae (by rw[← HR.out]),Qh.out⟩
  ·rw[if_neg h0]at HR;by_cases h1:nu ≥ 0
   ·by_cases h2:nu<rows
    ·go_wp2_with (first
      | (go_at_call_of 184 (Value.agg #[.bool mnn,.int .i64 mni,.string mns]);refine(Jf.out _).mono ?_;rintro e w3 ⟨rfl,hb3⟩;have Qe:=hid hb3;have Qd:=hid (Qg.out.mono hb3);clear hb3;obtain⟨b0,b1,b2,b3,b4,b5,b6,b7,b8,b9⟩:=Za6 Qd.out)
      | (go_at_call 184;refine(Zc.out _).mono ?_;rintro e w4 ⟨rfl,hb4⟩;have Qz:=hid hb4;clear hb4))
     ·go_ret;exact⟨Zae (by rw[← HR.out,decide_eq_true (show 0≤nu∧nu<rows from ⟨h1,h2⟩)];simp[*]),Zac (Zac Qh.out Qe.out) Qz.out⟩
     ·go_ret;exact⟨Zae (by rw[← HR.out,decide_eq_true (show 0≤nu∧nu<rows from ⟨h1,h2⟩)];simp[*]),Zac Qh.out Qe.out⟩
    ·go_wp2_with fail
     go_ret;exact⟨Zae (by rw[← HR.out,decide_eq_false (show ¬ (0≤nu∧nu<rows) by omega)];rfl),Qh.out⟩
   ·go_wp2_with fail
    go_ret;exact⟨Zae (by rw[← HR.out,decide_eq_false (show ¬ (0≤nu∧nu<rows) by omega)];rfl),Qh.out⟩
set_option maxHeartbeats 4000000 in
theorem Zwf (k rows:Int) (z:ZM) (B:Option Addr) (bc:Nat) (w:World):Calls Tryz.prog 124 #[.int .i64 k,.int .i64 rows,z.v (.slice B z.bl.length bc)] w fun e w'=>e=.returned (.bool (zOk k rows z))∧Below w.heap.size w w':=by
 obtain⟨bn,hbn⟩:∃ bn,z.bl.length=bn:=⟨_,rfl⟩;have HI:=hid (fun w2:World=>Ztm k rows z B bn bc w2);have HF:=hid (fun w2:World=>Zja bn z.hs w2);have HZ:Hid (zOk k rows z=(rgOk k rows z&&filZ bn z.hs)):=hid (by rw[← hbn];rfl);rw[hbn,HZ.out];generalize rgOk k rows z=r1 at *;obtain⟨rg,nu,⟨mnn,mni,mns⟩,⟨mxn,mxi,mxs⟩,hs,bl⟩:=z;unfold ZM.v at HI ⊢;simp only at HI HF ⊢;generalize filZ bn hs=r2 at *;clear HZ hbn;have Qh:=hid ((Zab w).alloc (Nat.le_refl _) (.cells #[.bool rg,.int .i64 nu,.bool mnn,.int .i64 mni,.string mns,.bool mxn,.int .i64 mxi,.string mxs,.int .i64 hs,.slice B bn bc] 39));have Qg:Hid (Row (w.alloc (.cells #[.bool rg,.int .i64 nu,.bool mnn,.int .i64 mni,.string mns,.bool mxn,.int .i64 mxi,.string mxs,.int .i64 hs,.slice B bn bc] 39)) w.heap.size 39 [.bool rg,.int .i64 nu,.bool mnn,.int .i64 mni,.string mns,.bool mxn,.int .i64 mxi,.string mxs,.int .i64 hs,.slice B bn bc]):=hid (by unfold Row;rw[heap_alloc_new]);go_enter Tryz.func124,Tryz.ntmps124;go_upto_region 1 with fail
 generalize w.alloc (.cells #[.bool rg,.int .i64 nu,.bool mnn,.int .i64 mni,.string mns,.bool mxn,.int .i64 mxi,.string mxs,.int .i64 hs,.slice B bn bc] 39)=w0 at *;obtain⟨a0,a1,a2,a3,a4,a5,a6,a7,a8,a9⟩:=Za6 Qg.out;cases r1
 ·go_wp2_with (go_at_call 153;refine(HI.out _).mono ?_;rintro e w3 ⟨rfl,hb3⟩;have Qe:=hid hb3;clear hb3)
  go_ret;exact⟨Zae (by simp),Zac Qh.out Qe.out⟩
 ·go_wp2_with (first
   | (go_at_call 153;refine(HI.out _).mono ?_;rintro e w3 ⟨rfl,hb3⟩;have Qe:=hid hb3;have Qd:=hid (Qg.out.mono hb3);clear hb3;obtain⟨b0,b1,b2,b3,b4,b5,b6,b7,b8,b9⟩:=Za6 Qd.out)
   | (go_at_call 140;refine(HF.out _).mono ?_;rintro e w4 ⟨rfl,hw⟩;replace hw:=hw.symm;subst hw))
  go_ret;exact⟨Zae (by simp),Zac Qh.out Qe.out⟩
theorem Zur {a b:Int} (h:a=b):Ending.returned (.int .u8 a)=.returned (.int .u8 b):=by rw[h]
set_option maxHeartbeats 4000000 in
theorem Zo2 (z:ZM) (B:Option Addr) (bc:Nat) (w:World):Calls Tryz.prog 107 #[z.v (.slice B z.bl.length bc)] w fun e w'=>e=.returned (.int .u8 (Zdq z:Nat))∧Below w.heap.size w w':=by
 obtain⟨bn,hbn⟩:∃ bn,z.bl.length=bn:=⟨_,rfl⟩;have HZ:Hid (Zdq z=(if z.rg=true then 1 else 0)+(if bn=0 then 0 else 2)):=hid (by
  rw[← hbn];unfold Zdq;by_cases h:z.bl=[]<;>simp[h])
 obtain⟨R,hR⟩:∃ R,Zdq z=R:=⟨_,rfl⟩;rw[hR]at HZ ⊢;rw[hbn];clear hR;obtain⟨rg,nu,⟨mnn,mni,mns⟩,⟨mxn,mxi,mxs⟩,hs,bl⟩:=z;unfold ZM.v;simp only at HZ ⊢;clear hbn;have hb:Below w.heap.size w (w.alloc (.cells #[.bool rg,.int .i64 nu,.bool mnn,.int .i64 mni,.string mns,.bool mxn,.int .i64 mxi,.string mxs,.int .i64 hs,.slice B bn bc] 39)):=(Zab w).alloc (Nat.le_refl _) _;have Qh:=hid hb;clear hb;go_enter Tryz.func107,Tryz.ntmps107;cases rg<;>by_cases h0:bn=0
 ·subst h0;go_wp2_with fail
  go_ret;exact⟨Zur (by rw[HZ.out];rfl),Qh.out⟩
 ·have h1:(bn:Int) > 0:=by omega
  go_wp2_with fail
  go_ret;exact⟨Zur (by rw[HZ.out,if_neg h0];rfl),Qh.out⟩
 ·subst h0;go_wp2_with fail
  go_ret;exact⟨Zur (by rw[HZ.out];rfl),Qh.out⟩
 ·have h1:(bn:Int) > 0:=by omega
  go_wp2_with fail
  go_ret;exact⟨Zur (by rw[HZ.out,if_neg h0];rfl),Qh.out⟩
set_option maxHeartbeats 4000000 in
theorem Zgz (B:Nat) (v:Value) (bs:List Nat) (k:Int) (c:C3) (w:World) (hown:OwnB B w v bs) (hB:B≤w.heap.size) (hs:c.s.size≤16777216) (hl:bs.length≤1099511627776) :
  Calls Tryz.prog 108 #[v,.int .i64 k,c.v] w fun e w'=>Zp8 B v w w' e (bs++Zb3 k c):=by
 obtain⟨cn,ci,cs⟩:=c;unfold C3.v Zb3;simp only at hs ⊢;have Qh:=hid ((Zab w).alloc (Nat.le_refl _) (.cells #[.bool cn,.int .i64 ci,.string cs] 36));have Qg:Hid (Row (w.alloc (.cells #[.bool cn,.int .i64 ci,.string cs] 36)) w.heap.size 36 [.bool cn,.int .i64 ci,.string cs]):=hid (by unfold Row;rw[heap_alloc_new]);have QI:Hid (OwnB B (w.alloc (.cells #[.bool cn,.int .i64 ci,.string cs] 36)) v bs):=hid (Zbs hown Qh.out);have QQ:Hid (B≤(w.alloc (.cells #[.bool cn,.int .i64 ci,.string cs] 36)).heap.size):=hid (Nat.le_trans hB Qh.out.size);have VC:Hid (Kp v w (w.alloc (.cells #[.bool cn,.int .i64 ci,.string cs] 36)) v):=hid (Kp.below Qh.out);have JW:=hid (fun k hk=>(World.ownsRow.lt hown k hk).2);have Ql:=hid hB;obtain⟨A1,c1,rfl⟩:=hown.form;clear hown hB;obtain⟨n1,hn1⟩:∃ n1,bs.length=n1:=⟨_,rfl⟩;by_cases h2:k=2
 ·subst h2;rw[if_pos rfl,← List.append_assoc];have HA:=hid (fun w2 v2 (h:OwnB B w2 v2 bs) (hb:B≤w2.heap.size)=>Zgo B v2 bs cs.size w2 h hb (by omega) (by omega));have HL:Hid ((bs++leN 4 cs.size).length+cs.size≤17592186044416):=hid (by rw[List.length_append,Zai];omega);obtain⟨b4,hb4⟩:∃ b4,bs++leN 4 cs.size=b4:=⟨_,rfl⟩;rw[hb4]at HA HL ⊢;clear hb4 hl;simp only[hn1]at QI VC JW ⊢;clear hn1;go_enter Tryz.func108,Tryz.ntmps108;go_upto_region 1 with fail
  generalize w.alloc (.cells #[.bool cn,.int .i64 ci,.string cs] 36)=w0 at *;obtain⟨a0,a1,a2⟩:=cell3 Qg.out;go_upto_region 3 with (go_at_call 67;refine(HA.out w0 _ QI.out QQ.out).mono ?_;rintro e w1 ⟨r1,rfl,o1,b1,z1,k1⟩;obtain⟨A2,c2,rfl⟩:=o1.form;have Y7:=hid o1;have Qa:=hid b1;have Qy:=hid z1;have Zw:=hid k1;clear o1 b1 z1 k1)
  have QD:Hid (Row w1 w.heap.size 36 [.bool cn,.int .i64 ci,.string cs]):=hid (by
   have h:=Zw.out.1 w.heap.size Qg.out.lt (fun e=>by have:=JW.out _ e.symm;omega);unfold Row;rw[h];exact Qg.out)
  obtain⟨d0,d1,d2⟩:=cell3 QD.out;have YA:=hid (Nat.le_trans QQ.out Qy.out);clear a0 a1 a2;go_wp2_with (at_builtin;refine Znd rfl (.tmp 14) (.tmp 16) rfl rfl rfl Y7.out HL.out YA.out ?_;intro v' w' h1 h2 h3 h4;have H1:=hid h1;have H2:=hid h2;have H3:=hid h3;have H4:=hid h4;clear h1 h2 h3 h4)
  go_ret;exact⟨_,rfl,H1.out,(Qh.out.mono Ql.out).trans (Qa.out.trans H2.out),Nat.le_trans Qh.out.size (Nat.le_trans Qy.out H3.out),(VC.out.trans Zw.out Qh.out.size).trans H4.out (Nat.le_trans Qh.out.size Qy.out)⟩
 ·rw[if_neg h2];have HA:=hid (fun w2 v2 (h:OwnB B w2 v2 bs) (hb:B≤w2.heap.size)=>Zjg B v2 bs (toU ci) w2 h hb (Znx ci) (by omega));have hcv:IntKind.u64.wrap ci=((toU ci:Nat):Int):=by rw[IntKind.wrap_u64];unfold toU;omega
  generalize toU ci=xu at *;obtain⟨b4,hb4⟩:∃ b4,bs++leN 8 xu=b4:=⟨_,rfl⟩;rw[hb4]at HA ⊢;clear hb4 hl;simp only[hn1]at QI VC JW ⊢;clear hn1;go_enter Tryz.func108,Tryz.ntmps108;go_upto_region 1 with fail
  generalize w.alloc (.cells #[.bool cn,.int .i64 ci,.string cs] 36)=w0 at *;obtain⟨a0,a1,a2⟩:=cell3 Qg.out;go_wp2_with (go_at_call 145;refine(HA.out w0 _ QI.out QQ.out).mono ?_;rintro e w1 ⟨r1,rfl,o1,b1,z1,k1⟩;obtain⟨A2,c2,rfl⟩:=o1.form;have Y7:=hid o1;have Qa:=hid b1;have Qy:=hid z1;have Zw:=hid k1;clear o1 b1 z1 k1)
  go_ret;exact⟨_,rfl,Y7.out,(Qh.out.mono Ql.out).trans Qa.out,Nat.le_trans Qh.out.size Qy.out,VC.out.trans Zw.out Qh.out.size⟩
theorem Zht {k:Int} {c:C3} (h:Zdw k c=true):c.s.size≤1024:=by
 unfold Zdw ofK at h;rw[Bool.and_eq_true,Bool.not_eq_true']at h;rw[h.1]at h;have h2:=h.2;simp only[Bool.false_eq_true,if_false]at h2;by_cases hk:k=1
 ·rw[if_pos hk]at h2;rw[Zfr h2]
  decide
 ·rw[if_neg hk,decide_eq_true_eq]at h2;exact h2.2.2
def ZSt (s1:Nat) (w0 wc:World) (v:Value) (bs:List Nat):Prop:=OwnB s1 wc v bs∧Below s1 w0 wc∧s1≤wc.heap.size
theorem ZSt.step {s1:Nat} {w0 w1 w2:World} {v r:Value} {bs cs:List Nat} (h:ZSt s1 w0 w1 v bs) (h2:OwnB s1 w2 r cs) (h3:Below s1 w1 w2) (h4:w1.heap.size≤w2.heap.size):ZSt s1 w0 w2 r cs :=
 ⟨h2,h.2.1.trans h3,Nat.le_trans h.2.2 h4⟩
set_option maxHeartbeats 16000000 in
theorem Znh (k rows:Int) (z:ZM) (B:Option Addr) (bc:Nat) (w:World) (hr:0≤rows∧rows≤65536) (hz:zOk k rows z=true) (hbl:Rd w (.slice B z.bl.length bc) z.bl.length 1 (u64s z.bl)) (hv:∀ x∈z.bl,x<18446744073709551616) :
  Calls Tryz.prog 62 #[.int .i64 k,.int .i64 rows,z.v (.slice B z.bl.length bc)] w fun e w'=>∃ r,e=.returned r∧OwnB (w.heap.size+1) w' r (zRec k rows z)∧Below w.heap.size w w':=by
 obtain⟨hn0,hn1⟩:=Zub hr hz;have UA:=hid (Zfx hz);have Ze:=hid (Zn0 hz);have HZF:=hid (fun w2:World=>Zo2 z B bc w2);have hfl:=Zmo z;have hzr:zRec k rows z=[Zdq z]++recA z++recB k rows z++recC z:=rfl;obtain⟨F,hF⟩:∃ F,Zdq z=F:=⟨_,rfl⟩;rw[hF]at HZF hfl hzr;rw[hzr];have HA:Hid (recA z=if z.rg=true then leN 4 z.nu.toNat else []):=hid rfl;have HB:Hid (recB k rows z=if z.rg=true∧z.nu≠rows then Zb3 k z.mn++Zb3 k z.mx else []):=hid rfl;have HC:Hid (recC z=if z.bl=[]then []else [z.hs.toNat]++leN 4 z.bl.length++le8 z.bl):=hid rfl;generalize recA z=RA at *;generalize recB k rows z=RB at *;generalize recC z=RC at *;have QA:=hid hbl;have HV:=hid hv;clear hz hF hzr hbl hv;obtain⟨rg,nu,mn,mx,hs,bl⟩:=z;simp only at *;obtain⟨nn,rfl⟩:=Int.eq_ofNat_of_zero_le hn0;rw[Int.toNat_natCast]at HA;have YQ:=hid (fun(s1:Nat) (v:Value) (bs:List Nat) (w2:World) (h:OwnB s1 w2 v bs) (hb:s1≤w2.heap.size) (h1:mn.s.size≤16777216) (h2:bs.length≤1099511627776)=>Zgz s1 v bs k mn w2 h hb h1 h2);have YR:=hid (fun(s1:Nat) (v:Value) (bs:List Nat) (w2:World) (h:OwnB s1 w2 v bs) (hb:s1≤w2.heap.size) (h1:mx.s.size≤16777216) (h2:bs.length≤1099511627776)=>Zgz s1 v bs k mx w2 h hb h1 h2);have Z6:Hid ((rg=true∧(nn:Int)≠rows)→mn.s.size≤1024∧mx.s.size≤1024):=hid (by
  intro h;rcases Ze.out with ⟨_,_,h3,h4⟩ | ⟨h1,_⟩
  ·exact⟨Zht h3,Zht h4⟩
  ·exact absurd h h1)
 have UB:Hid (RB.length≤8192):=hid (by
  rw[HB.out]
  split
  ·rename_i h
   have h5:=Z6.out h;have h6:∀ c:C3,c.s.size≤1024→(Zb3 k c).length≤4096:=fun c hc=>by
    unfold Zb3
    split
    ·rw[List.length_append,Zai,Zcb];omega
    ·rw[Zai];omega
   have:=h6 mn h5.1;have:=h6 mx h5.2;rw[List.length_append];omega
  ·simp)
 have VD:Hid (RA.length≤4):=hid (by
  rw[HA.out]
  split
  ·rw[Zai];omega
  ·simp)
 clear Ze;obtain⟨bn,hbn⟩:∃ bn,bl.length=bn:=⟨_,rfl⟩;have Yl:=hid hbn;rw[hbn]at HZF QA HC ⊢;clear hbn;generalize Zb3 k mn=R1 at *;generalize Zb3 k mx=R2 at *;obtain⟨mnn,mni,mns⟩:=mn;obtain⟨mxn,mxi,mxs⟩:=mx;unfold ZM.v at HZF ⊢;unfold C3.v at YQ YR;simp only at HZF YQ YR Z6 ⊢;have Qh:=hid ((Zab w).alloc (Nat.le_refl _) (.cells #[.bool rg,.int .i64 nn,.bool mnn,.int .i64 mni,.string mns,.bool mxn,.int .i64 mxi,.string mxs,.int .i64 hs,.slice B bn bc] 39));have Qg:Hid (Row (w.alloc (.cells #[.bool rg,.int .i64 nn,.bool mnn,.int .i64 mni,.string mns,.bool mxn,.int .i64 mxi,.string mxs,.int .i64 hs,.slice B bn bc] 39)) w.heap.size 39 [.bool rg,.int .i64 nn,.bool mnn,.int .i64 mni,.string mns,.bool mxn,.int .i64 mxi,.string mxs,.int .i64 hs,.slice B bn bc]):=hid (by unfold Row;rw[heap_alloc_new]);have Yh:Hid ((w.alloc (.cells #[.bool rg,.int .i64 nn,.bool mnn,.int .i64 mni,.string mns,.bool mxn,.int .i64 mxi,.string mxs,.int .i64 hs,.slice B bn bc] 39)).heap.size=w.heap.size+1):=hid (by simp);obtain⟨RES,hRES⟩:∃ RES,[F]++RA++RB++RC=RES:=⟨_,rfl⟩;have YC:=hid hRES;rw[hRES];clear hRES;go_enter Tryz.func62,Tryz.ntmps62;go_upto_region 1 with fail
 generalize w.alloc (.cells #[.bool rg,.int .i64 nn,.bool mnn,.int .i64 mni,.string mns,.bool mxn,.int .i64 mxi,.string mxs,.int .i64 hs,.slice B bn bc] 39)=w0 at *;obtain⟨a0,a1,a2,a3,a4,a5,a6,a7,a8,a9⟩:=Za6 Qg.out;go_upto_region 2 with (go_at_call 107;refine(HZF.out w0).mono ?_;rintro e w1 ⟨rfl,hb1⟩;have Qa:=hid hb1;clear hb1)
 have hs1:w0.heap.size≤w1.heap.size:=Qa.out.size;have Qy:Hid (ZSt w0.heap.size w0 (w1.alloc (.cells #[.int .u8 F] 5)) (.slice (some ⟨w1.heap.size,0,none⟩) 1 1) [F]):=hid ⟨by
  have h:Row (w1.alloc (.cells #[.int .u8 F] 5)) w1.heap.size 5 (u8s [F]):=by unfold Row;rw[heap_alloc_new];rfl
  exact h.owns hs1 rfl (by unfold maxLen;decide),Qa.out.alloc hs1 _,by simp;omega⟩
 clear HZF Qa a0 a1 a2 a3 a4 a5 a6 a7 a8 a9;generalize w1.alloc (.cells #[.int .u8 F] 5)=w2 at *;generalize w1.heap.size=g1 at *;have HBL0:=hid (QA.out.mono Qh.out);have Qm:=hid (Qg.out.mono Qy.out.2.1);obtain⟨a0,a1,a2,a3,a4,a5,a6,a7,a8,a9⟩:=Za6 Qm.out;go_upto_if 12 with fail
 go_cut [7]from 12 to 16 (fun s7 wc=>Hid (ZSt w0.heap.size w0 wc s7 ([F]++RA)))
 case first =>
  cases rg
  ·rw[if_neg (by decide)]at HA;go_wp2_with fail
   go_meet;exact hid (by rw[HA.out,List.append_nil];exact Qy.out)
  ·rw[if_pos rfl]at HA;have X6:=hid (Zgo w0.heap.size _ [F] nn w2 Qy.out.1 Qy.out.2.2 (by omega) (by simp));rw[← HA.out]at X6;go_wp2_with (go_at_call 67;refine X6.out.mono ?_;rintro e w3 ⟨r1,rfl,o1,b1,z1,k1⟩;obtain⟨A2,c2,rfl⟩:=o1.form;have Y7:=hid (Qy.out.step o1 b1 z1);clear o1 b1 z1 k1)
   go_meet;exact Y7
 case rest =>
 obtain⟨A2,c2,hf2⟩:=hcut.1.form;subst hf2;have JV:=hid hcut;clear hcut Qy Qm a0 a1 a2 a3 a4 a5 a6 a7 a8 a9;generalize wc=w3 at *;have Qd:=hid (Qg.out.mono JV.out.2.1);have Xc:Hid (([F]++RA).length≤5):=hid (by rw[List.length_append];have:=VD.out;simp;omega);obtain⟨b3,hb3⟩:∃ b3,[F]++RA=b3:=⟨_,rfl⟩;rw[hb3]at JV Xc ⊢;have Qe:=hid hb3;clear hb3;obtain⟨a0,a1,a2,a3,a4,a5,a6,a7,a8,a9⟩:=Za6 Qd.out;obtain⟨q,hq⟩:∃ q,decide (rg=true∧(nn:Int)≠rows)=q:=⟨_,rfl⟩;have HQ:=hid hq;clear hq;obtain⟨m3,hm3⟩:∃ m3,b3.length=m3:=⟨_,rfl⟩;rw[hm3];have HM3:=hid hm3;clear hm3;go_upto_region 4 with fail
 go_cut [24]from 17 to 23 (fun s24 wc=>s24=.bool q∧wc=w3)
 case first =>
  cases rg
  ·obtain rfl:q=false:=by rw[← HQ.out];simp
   go_wp2_with fail
   go_meet;exact⟨rfl,rfl⟩
  ·by_cases he:(nn:Int)=rows
   ·subst he;obtain rfl:q=false:=by rw[← HQ.out];simp
    go_wp2_with fail
    go_meet;exact⟨rfl,rfl⟩
   ·have heb:((nn:Int) != rows)=true:=by simp[he]
    obtain rfl:q=true:=by rw[← HQ.out];simp[he]
    go_wp2_with fail
    go_meet;exact⟨rfl,rfl⟩
 case rest =>
 obtain⟨rfl,hw⟩:=hcut;replace hw:=hw.symm;subst hw;go_upto_if 24 with fail
 go_cut [7]from 24 to 34 (fun s7 wc=>Hid (ZSt w0.heap.size w0 wc s7 (b3++RB)))
 case first =>
  cases q
  ·rw[if_neg (of_decide_eq_false HQ.out)]at HB;go_wp2_with fail
   go_meet;exact hid (by rw[HB.out,List.append_nil,← HM3.out];exact JV.out)
  ·have hc:=of_decide_eq_true HQ.out;rw[if_pos hc]at HB;obtain⟨z1,z2⟩:=Z6.out hc;clear hc;have X7:Hid (ZSt w0.heap.size w0 w3 (.slice A2 m3 c2) b3):=hid (by rw[← HM3.out];exact JV.out);have Yc:Hid ((b3++R1).length≤1099511627776):=hid (by
    have:=UB.out;rw[HB.out,List.length_append]at this;have:=Xc.out;rw[List.length_append];omega)
   have VE:=hid (YQ.out w0.heap.size _ b3 w3 X7.out.1 X7.out.2.2 (by omega) (by have:=Xc.out;omega));have JJ:=hid (fun(v:Value) (w2:World) (h:OwnB w0.heap.size w2 v (b3++R1)) (hb:w0.heap.size≤w2.heap.size)=>YR.out w0.heap.size v (b3++R1) w2 h hb (by omega) Yc.out);have X8:Hid (b3++RB=b3++R1++R2):=hid (by rw[HB.out,← List.append_assoc]);clear Yc;obtain⟨b4,hb4⟩:∃ b4,b3++R1=b4:=⟨_,rfl⟩;rw[hb4]at VE JJ X8;obtain⟨b5,hb5⟩:∃ b5,b4++R2=b5:=⟨_,rfl⟩;rw[hb5]at JJ X8;clear hb4 hb5 YQ YR;go_wp2_with (first
    | (go_at_call_of 108 (Value.agg #[.bool mnn,.int .i64 mni,.string mns]);refine VE.out.mono ?_;rintro e w4 ⟨r1,rfl,o1,b1,z1',k1⟩;obtain⟨A4,c4,rfl⟩:=o1.form;have Zr:=hid (X7.out.step o1 b1 z1');have U4:=hid (Qg.out.mono Zr.out.2.1);clear o1 b1 z1' k1;obtain⟨d0,d1,d2,d3,d4,d5,d6,d7,d8,d9⟩:=Za6 U4.out)
    | (go_at_call 108;refine(JJ.out _ w4 Zr.out.1 Zr.out.2.2).mono ?_;rintro e w5 ⟨r1,rfl,o1,b1,z1',k1⟩;obtain⟨A5,c5,rfl⟩:=o1.form;have YF:=hid (Zr.out.step o1 b1 z1');clear o1 b1 z1' k1))
   go_meet;exact hid (by rw[X8.out];exact YF.out)
 case rest =>
 obtain⟨A6,c6,hf6⟩:=hcut.1.form;subst hf6;have Y2:=hid hcut;clear hcut JV Qd a0 a1 a2 a3 a4 a5 a6 a7 a8 a9 HQ Z6 YQ YR;generalize wc=w6 at *;have Vn:=hid (Qg.out.mono Y2.out.2.1);have UC:Hid ((b3++RB).length≤9000):=hid (by rw[List.length_append];have:=UB.out;have:=Xc.out;omega);obtain⟨b6,hb6⟩:∃ b6,b3++RB=b6:=⟨_,rfl⟩;rw[hb6]at Y2 UC ⊢;have HE6:Hid (RES=b6++RC):=hid (by rw[← YC.out,Qe.out,hb6]);clear hb6;obtain⟨a0,a1,a2,a3,a4,a5,a6,a7,a8,a9⟩:=Za6 Vn.out;obtain⟨m6,hm6⟩:∃ m6,b6.length=m6:=⟨_,rfl⟩;rw[hm6]at UC ⊢;have YD:Hid (ZSt w0.heap.size w0 w6 (.slice A6 m6 c6) b6):=hid (by rw[← hm6];exact Y2.out);have HM6:=hid hm6;clear hm6 Y2;by_cases hb0:bn=0
 ·have hbl0:bl=[]:=List.length_eq_zero_iff.1 (by rw[Yl.out];exact hb0);rw[if_pos hbl0]at HC;subst hb0;clear hbl0;go_wp2_with fail
  go_ret;refine⟨_,rfl,by rw[HE6.out,HC.out,List.append_nil,← Yh.out];exact YD.out.1,?_⟩;exact Qh.out.trans (YD.out.2.1.mono Qh.out.size)
 ·have hbl0:bl≠[]:=fun h=>hb0 (by rw[← Yl.out,h];rfl)
  rw[if_neg hbl0]at HC;obtain⟨f1,f2,f3⟩:bl.length≤64∧1≤hs∧hs≤8:=by
   rcases UA.out with h | h
   ·exact absurd h.1 hbl0
   ·exact h.2
  rw[Yl.out]at f1;clear hbl0 UA;obtain⟨hn,rfl⟩:=Int.eq_ofNat_of_zero_le (show 0≤hs by omega);rw[Int.toNat_natCast]at HC;have hgt:(bn:Int) > 0:=by omega
  have hwr:IntKind.u8.wrap (hn:Int)=(hn:Int):=by rw[IntKind.wrap_u8];omega
  have UD:=hid UC.out;have HE7:Hid (b6++RC=b6++[hn]++leN 4 bn++le8 bl):=hid (by rw[HC.out];simp[List.append_assoc]);obtain⟨b7,hb7⟩:∃ b7,b6++[hn]=b7:=⟨_,rfl⟩;have QN:=hid hb7;have UD:Hid (b7.length≤9001):=hid (by rw[← hb7,List.length_append,HM6.out];have:=UC.out;simp;omega);have HP8:=hid (fun(v:Value) (w2:World) (h:OwnB w0.heap.size w2 v b7) (hb:w0.heap.size≤w2.heap.size)=>Zgo w0.heap.size v b7 bn w2 h hb (by omega) (by have:=UD.out;omega));obtain⟨b8,hb8⟩:∃ b8,b7++leN 4 bn=b8:=⟨_,rfl⟩;have HL8:Hid (b8.length≤9005):=hid (by rw[← hb8,List.length_append,Zai];have:=UD.out;omega);have HP9:=hid (fun(v:Value) (w2:World) (h:OwnB w0.heap.size w2 v b8) (hb:Below w0.heap.size w0 w2) (hs2:w0.heap.size≤w2.heap.size)=>Zm8 w0.heap.size v (.slice B bn bc) b8 bl w2 h (Stay.low (by rw[Yl.out];exact QA.out.mono Qh.out) hb (Nat.le_refl _)) HV.out hs2 (by have:=HL8.out;omega) (by rw[Yl.out];omega));rw[hb8]at HP8;obtain⟨b9,hb9⟩:∃ b9,b8++le8 bl=b9:=⟨_,rfl⟩;rw[hb9]at HP9;have Jy:Hid (RES=b9):=hid (by rw[HE6.out,HE7.out,hb7,hb8,hb9]);clear hb7 hb8 hb9 HE7 HC UD HL8;go_upto_region 9 with (at_builtin;refine Zfc rfl (.tmp 39) (.tmp 43) rfl 5 (.int .u8 0) 1 Tryz.underlying22 Tryz.infoU8 rfl rfl rfl YD.out.1 YD.out.2.2 (by rfl) (by rw[HM6.out];have:=UC.out;unfold maxLen;omega) (by rw[HM6.out];have:=UC.out;omega) ?_;intro v7 w7 h1 h2 h3 h4 h5;have H1:=hid h1;have H2:=hid h2;have H3:=hid h3;clear h1 h2 h3 h4 h5)
  have ZO:Hid (ZSt w0.heap.size w0 w7 v7 b7):=hid (YD.out.step (by
   have h:=H1.out;rw[← Zpm,QN.out]at h;have hl:b7.length=b6.length+1:=by rw[← QN.out];simp
   unfold OwnB;rw[hl];exact h) H2.out H3.out)
  clear H1 H2 H3;obtain⟨A7,c7,hf7⟩:=ZO.out.1.form;subst hf7;have Jz:=hid (Qg.out.mono ZO.out.2.1);clear a0 a1 a2 a3 a4 a5 a6 a7 a8 a9;obtain⟨a0,a1,a2,a3,a4,a5,a6,a7,a8,a9⟩:=Za6 Jz.out;go_wp2_with (first
   | (go_at_call 67;refine(HP8.out _ w7 ZO.out.1 ZO.out.2.2).mono ?_;rintro e w8 ⟨r1,rfl,o1,b1,z1',k1⟩;obtain⟨A8,c8,rfl⟩:=o1.form;have ZT:=hid (ZO.out.step o1 b1 z1');have Zv:=hid (Qg.out.mono ZT.out.2.1);clear o1 b1 z1' k1;obtain⟨d0,d1,d2,d3,d4,d5,d6,d7,d8,d9⟩:=Za6 Zv.out)
   | (go_at_call 109;refine(HP9.out _ w8 ZT.out.1 ZT.out.2.1 ZT.out.2.2).mono ?_;rintro e w9 ⟨r1,rfl,o1,b1,z1',k1⟩;obtain⟨A9,c9,rfl⟩:=o1.form;have Z7:=hid (ZT.out.step o1 b1 z1');clear o1 b1 z1' k1))
  go_ret;exact⟨_,rfl,by rw[Jy.out,← Yh.out];exact Z7.out.1,Qh.out.trans (Z7.out.2.1.mono Qh.out.size)⟩
theorem Zik (xs:List Nat):(Zat xs).toList=xs.map UInt8.ofNat:=by
 rw[ByteArray.toList_eq];unfold Zat;simp
theorem Zip {xs ys:List Nat} (hx:∀ x∈xs,x<256) (hy:∀ x∈ys,x<256) (h:(Zat xs).toList=(Zat ys).toList):xs=ys:=by
 rw[Zik,Zik]at h;have h2:=congrArg (List.map UInt8.toNat) h;rw[List.map_map,List.map_map]at h2;have e:∀ zs:List Nat,(∀ x∈zs,x<256)→zs.map (UInt8.toNat ∘ UInt8.ofNat)=zs:=by
  intro zs hz
  conv=>rhs;rw[← List.map_id zs]
  apply List.map_congr_left;intro x hx;have:=hz x hx;simp[Function.comp,UInt8.toNat_ofNat',Nat.mod_eq_of_lt this]
 rwa [e xs hx,e ys hy]at h2
theorem Zqx (w:World) (p:Nat) (cs:List Value):Chg p p w (Zfy w p cs):=(((Chg.refl p p w).setCell p 0 _ (.inl rfl)).setCell p 1 _ (.inl rfl)).setCell p 2 _ (.inl rfl)
set_option maxHeartbeats 2000000 in
theorem Znn (a b:Value) (xs ys:List Nat) (w:World) (ha:Rd w a xs.length 1 (u8s xs)) (hb:Rd w b ys.length 1 (u8s ys)) (hx:∀ x∈xs,x<256) (hy:∀ x∈ys,x<256) :
  Calls Tryz.prog 125 #[a,b] w fun e w'=>e=.returned (.bool (decide (xs=ys)))∧w'=w:=by
 have h1:=Zd9 ha;have h2:=Zd9 hb;obtain⟨q,hq⟩:∃ q,decide (xs=ys)=q:=⟨_,rfl⟩;have hcmp:((Zat xs).toList==(Zat ys).toList)=q:=by
  rw[← hq];by_cases e:xs=ys
  ·subst e;simp
  ·have:¬ (Zat xs).toList=(Zat ys).toList:=fun h=>e (Zip hx hy h)
   simp[e,this]
 rw[hq];obtain⟨A1,c1,rfl,_,_,_⟩:=ha.form;obtain⟨A2,c2,rfl,_,_,_⟩:=hb.form;clear ha hb hx hy hq;generalize xs.length=n at *;generalize ys.length=m at *;generalize Zat xs=sx at *;generalize Zat ys=sy at *;go_enter Tryz.func125,Tryz.ntmps125;go_wp2_with fail
 go_ret;exact⟨Zae (by simpa using hcmp),rfl⟩
set_option maxHeartbeats 4000000 in
theorem Zjt (w0 w:World) (g:Nat) (xs:List Nat) (s:Bool) (k:Int) (h:Zaq w0 w g xs s) (hgs:g<w.heap.size) (hv:∀ x∈xs,x<256) (hl:xs.length≤16777216) :
  Calls Tryz.prog 122 #[.pointer (some ⟨g,0,none⟩),.int .i64 k] w fun e w'=>e=.returned (bdC k xs).v∧(∃ s',Zaq w0 w' g (bdL k xs) s')∧Chg g g w w':=by
 have Qa:=hid ((Zab w).alloc (Nat.le_refl _) (.cells #[.bool false,.int .i64 0,.string ⟨#[]⟩] 36));have QD:Hid (Row (w.alloc (.cells #[.bool false,.int .i64 0,.string ⟨#[]⟩] 36)) w.heap.size 36 [.bool false,.int .i64 0,.string ⟨#[]⟩]):=hid (by unfold Row;rw[heap_alloc_new]);have Yd:=hid (h.mono Qa.out);have hw0:w0.heap.size≤w.heap.size:=h.2.1.size;have Yi:=hid (Zdh (n:=4) hv);clear h;have hng:g≠w.heap.size:=by omega
 by_cases hk:k=2
 ·subst hk;unfold bdC bdL;rw[if_pos rfl,if_pos rfl];have HU:=hid (fun(w2:World) (h:Zaq w0 w2 g xs s)=>Zff w0 w2 g xs s h hv hl);obtain⟨n,hn⟩:∃ n,L.wordOf 8 (tk 4 xs)=n:=⟨_,rfl⟩;have hn4:n<4294967296:=by rw[← hn];exact Zb0 _ Yi.out (Zit 4 xs)
  rw[hn]at HU ⊢;clear hn Yi;have hl2:(tkL 4 xs).length≤16777216:=by unfold tkL;split<;>simp<;>omega
  generalize tkL 4 xs=x1 at *;generalize tkS 4 xs s=s1 at *;have HT:=hid (fun(w2:World) (h:Zaq w0 w2 g x1 s1)=>Zfs w0 w2 g x1 s1 n h hl2 (by omega));obtain⟨C,hC⟩:∃ C:C3,(⟨false,0,Zat (tk n x1)⟩:C3)=C:=⟨_,rfl⟩;have HC:=hid hC;rw[hC];clear hC hv hl hl2;generalize tkL n x1=x2 at *;generalize tkS n x1 s1=s2 at *;generalize tk n x1=ys at *;go_enter Tryz.func122,Tryz.ntmps122;go_upto_region 1 with fail
  generalize w.alloc (.cells #[.bool false,.int .i64 0,.string ⟨#[]⟩] 36)=w1 at *;go_wp2_with (first
   | (go_at_call 81;refine(HU.out w1 Yd.out).mono ?_;rintro e w2 ⟨rfl,hat,hch⟩;have Qu:=hid hat;have QF:=hid hch;clear hat hch)
   | (go_at_call 80;refine(HT.out w2 Qu.out).mono ?_;rintro e w3 ⟨t,rfl,hrd,hat,hch⟩;have Jn:=hid hat;have Y9:=hid (QF.out.trans hch);have hcv:=Zd9 (hrd.mono hat.2.1);have Qd:=hid (Y9.out.row QD.out hng.symm hng.symm);have f0:=Qd.out.frozen 0;have f1:=Qd.out.frozen 1;have f2:=Qd.out.frozen 2;obtain⟨z0,z1,z2⟩:=cell3 Qd.out;obtain⟨At,ct,rfl,_,_,_⟩:=hrd.form;clear hrd hat hch))
  change bodyPost _ _ _ _ _ (Zfy w3 w.heap.size [.bool false,.int .i64 0,.string (Zat ys)])
  have R0:=Zel Qd.out (.bool false) (.int .i64 0) (.string (Zat ys));have hat4:=Jn.out.chg (Zqx w3 w.heap.size [.bool false,.int .i64 0,.string (Zat ys)]) hng hng hw0 hw0;have hch4:=((Chg.of_below (a:=g) (b:=g) Qa.out).trans Y9.out).then_below (Zdi (Below.refl w.heap.size w3) w.heap.size (Nat.le_refl _) [.bool false,.int .i64 0,.string (Zat ys)]) (Nat.le_refl _);clear z0 z1 z2 f0 f1 f2;generalize Zfy w3 w.heap.size [.bool false,.int .i64 0,.string (Zat ys)]=w4 at *;obtain⟨q0,q1,q2⟩:=cell3 R0;refine bodyPost_ret (v:=C.v) ?_ rfl ⟨rfl,⟨_,hat4⟩,hch4⟩;rw[← HC.out];unfold C3.v;simp[results,Tryz.results122,go_sem,q0,q1,q2]
 ·unfold bdC bdL;rw[if_neg hk,if_neg hk];have HU:=hid (fun(w2:World) (h:Zaq w0 w2 g xs s)=>Zx6 w0 w2 g xs s h hv hl);obtain⟨n,hn⟩:∃ n,L.wordOf 8 (tk 8 xs)=n:=⟨_,rfl⟩;rw[hn]at HU ⊢;have hcv:IntKind.i64.wrap (n:Int)=Zcf n:=by rw[IntKind.wrap_i64];unfold Zcf wrap64;rfl
  obtain⟨C,hC⟩:∃ C:C3,(⟨false,Zcf n,ByteArray.empty⟩:C3)=C:=⟨_,rfl⟩;have HC:=hid hC;rw[hC];clear hC hv hl hn Yi;generalize tkL 8 xs=x2 at *;generalize tkS 8 xs s=s2 at *;generalize Zcf n=iv at *;go_enter Tryz.func122,Tryz.ntmps122;go_upto_region 1 with fail
  generalize w.alloc (.cells #[.bool false,.int .i64 0,.string ⟨#[]⟩] 36)=w1 at *;go_wp2_with (go_at_call 152;refine(HU.out w1 Yd.out).mono ?_;rintro e w3 ⟨rfl,hat,hch⟩;have Jn:=hid hat;have Y9:=hid hch;have Qd:=hid (Y9.out.row QD.out hng.symm hng.symm);have f0:=Qd.out.frozen 0;have f1:=Qd.out.frozen 1;have f2:=Qd.out.frozen 2;obtain⟨z0,z1,z2⟩:=cell3 Qd.out;clear hat hch)
  change bodyPost _ _ _ _ _ (Zfy w3 w.heap.size [.bool false,.int .i64 iv,.string ByteArray.empty])
  have R0:=Zel Qd.out (.bool false) (.int .i64 iv) (.string ByteArray.empty);have hat4:=Jn.out.chg (Zqx w3 w.heap.size [.bool false,.int .i64 iv,.string ByteArray.empty]) hng hng hw0 hw0;have hch4:=((Chg.of_below (a:=g) (b:=g) Qa.out).trans Y9.out).then_below (Zdi (Below.refl w.heap.size w3) w.heap.size (Nat.le_refl _) [.bool false,.int .i64 iv,.string ByteArray.empty]) (Nat.le_refl _);clear z0 z1 z2 f0 f1 f2;generalize Zfy w3 w.heap.size [.bool false,.int .i64 iv,.string ByteArray.empty]=w4 at *;obtain⟨q0,q1,q2⟩:=cell3 R0;refine bodyPost_ret (v:=C.v) ?_ rfl ⟨rfl,⟨_,hat4⟩,hch4⟩;rw[← HC.out];unfold C3.v;simp[results,Tryz.results122,go_sem,q0,q1,q2]
end Go.Proofs.YtmcjknjlihgihaaGreatDoor
