/- A loop over a function of which every round goes on: what the function promises, and the loop's law. The loop may stand in such a function itself. -/
import Derived.RangeFuncNested
import Derived.RangeFuncBound
import Derived.RangeFuncCalls
import Derived.RangeFuncLeaves
import Derived.Test.YtmcjknjlihgihaaGreatDoorLawfreshlistsuptoM15
set_option linter.unusedVariables false
set_option linter.unusedSimpArgs false
set_option linter.unnecessarySimpa false
set_option maxRecDepth 100000
namespace Go.Proofs.YtmcjknjlihgihaaGreatDoor
open Go.RowKit
theorem Zhg {k:Int} {c:C3} (h:Zdx k c=true):c.s.size≤1024:=by
 unfold Zdx ofK at h;rw[Bool.and_eq_true,Bool.not_eq_true']at h;rw[h.1]at h;have h2:=h.2;simp only[Bool.false_eq_true,if_false]at h2;by_cases hk:k=1
 ·rw[if_pos hk]at h2;rw[Zfg h2]
  decide
 ·rw[if_neg hk,decide_eq_true_eq]at h2;exact h2.2.2
def ZSt (s1:Nat) (w0 wc:World) (v:Value) (bs:List Nat):Prop:=OwnB s1 wc v bs∧Below s1 w0 wc∧s1≤wc.heap.size
theorem ZSt.step {s1:Nat} {w0 w1 w2:World} {v r:Value} {bs cs:List Nat} (h:ZSt s1 w0 w1 v bs) (h2:OwnB s1 w2 r cs) (h3:Below s1 w1 w2) (h4:w1.heap.size≤w2.heap.size):ZSt s1 w0 w2 r cs :=
 ⟨h2,h.2.1.trans h3,Nat.le_trans h.2.2 h4⟩
set_option maxHeartbeats 16000000 in
theorem Zmi (k rows:Int) (z:ZM) (B:Option Addr) (bc:Nat) (w:World) (hr:0≤rows∧rows≤65536) (hz:zOk k rows z=true) (hbl:Rd w (.slice B z.bl.length bc) z.bl.length 1 (u64s z.bl)) (hv:∀ x∈z.bl,x<18446744073709551616) :
  Calls Tryz.prog 62 #[.int .i64 k,.int .i64 rows,z.v (.slice B z.bl.length bc)] w fun e w'=>∃ r,e=.returned r∧OwnB (w.heap.size+1) w' r (zRec k rows z)∧Below w.heap.size w w':=by
 obtain⟨hn0,hn1⟩:=Ztz hr hz;have Uw:=hid (Zfq hz);have ZP:=hid (Zmv hz);have HZF:=hid (fun w2:World=>Znj z B bc w2);have hfl:=Zmd z;have hzr:zRec k rows z=[Zdl z]++recA z++recB k rows z++recC z:=rfl;obtain⟨F,hF⟩:∃ F,Zdl z=F:=⟨_,rfl⟩;rw[hF]at HZF hfl hzr;rw[hzr];have HA:Hid (recA z=if z.rg=true then leN 4 z.nu.toNat else []):=hid rfl;have HB:Hid (recB k rows z=if z.rg=true∧z.nu≠rows then Zb3 k z.mn++Zb3 k z.mx else []):=hid rfl;have HC:Hid (recC z=if z.bl=[]then []else [z.hs.toNat]++leN 4 z.bl.length++le8 z.bl):=hid rfl;generalize recA z=RA at *;generalize recB k rows z=RB at *;generalize recC z=RC at *;have Q9:=hid hbl;have HV:=hid hv;clear hz hF hzr hbl hv;obtain⟨rg,nu,mn,mx,hs,bl⟩:=z;simp only at *;obtain⟨nn,rfl⟩:=Int.eq_ofNat_of_zero_le hn0;rw[Int.toNat_natCast]at HA;have YE:=hid (fun(s1:Nat) (v:Value) (bs:List Nat) (w2:World) (h:OwnB s1 w2 v bs) (hb:s1≤w2.heap.size) (h1:mn.s.size≤16777216) (h2:bs.length≤1099511627776)=>Zgw s1 v bs k mn w2 h hb h1 h2);have YF:=hid (fun(s1:Nat) (v:Value) (bs:List Nat) (w2:World) (h:OwnB s1 w2 v bs) (hb:s1≤w2.heap.size) (h1:mx.s.size≤16777216) (h2:bs.length≤1099511627776)=>Zgw s1 v bs k mx w2 h hb h1 h2);have Zl:Hid ((rg=true∧(nn:Int)≠rows)→mn.s.size≤1024∧mx.s.size≤1024):=hid (by
  intro h;rcases ZP.out with ⟨_,_,h3,h4⟩ | ⟨h1,_⟩
  ·exact⟨Zhg h3,Zhg h4⟩
  ·exact absurd h h1)
 have Ux:Hid (RB.length≤8192):=hid (by
  rw[HB.out]
  split
  ·rename_i h
   have h5:=Zl.out h;have h6:∀ c:C3,c.s.size≤1024→(Zb3 k c).length≤4096:=fun c hc=>by
    unfold Zb3
    split
    ·rw[List.length_append,Zak,Zca];omega
    ·rw[Zak];omega
   have:=h6 mn h5.1;have:=h6 mx h5.2;rw[List.length_append];omega
  ·simp)
 have Vx:Hid (RA.length≤4):=hid (by
  rw[HA.out]
  split
  ·rw[Zak];omega
  ·simp)
 clear ZP;obtain⟨bn,hbn⟩:∃ bn,bl.length=bn:=⟨_,rfl⟩;have Yc:=hid hbn;rw[hbn]at HZF Q9 HC ⊢;clear hbn;generalize Zb3 k mn=R1 at *;generalize Zb3 k mx=R2 at *;obtain⟨mnn,mni,mns⟩:=mn;obtain⟨mxn,mxi,mxs⟩:=mx;unfold ZM.v at HZF ⊢;unfold C3.v at YE YF;simp only at HZF YE YF Zl ⊢;have Ql:=hid ((Zab w).alloc (Nat.le_refl _) (.cells #[.bool rg,.int .i64 nn,.bool mnn,.int .i64 mni,.string mns,.bool mxn,.int .i64 mxi,.string mxs,.int .i64 hs,.slice B bn bc] 39));have Qj:Hid (Row (w.alloc (.cells #[.bool rg,.int .i64 nn,.bool mnn,.int .i64 mni,.string mns,.bool mxn,.int .i64 mxi,.string mxs,.int .i64 hs,.slice B bn bc] 39)) w.heap.size 39 [.bool rg,.int .i64 nn,.bool mnn,.int .i64 mni,.string mns,.bool mxn,.int .i64 mxi,.string mxs,.int .i64 hs,.slice B bn bc]):=hid (by unfold Row;rw[heap_alloc_new]);have QY:Hid ((w.alloc (.cells #[.bool rg,.int .i64 nn,.bool mnn,.int .i64 mni,.string mns,.bool mxn,.int .i64 mxi,.string mxs,.int .i64 hs,.slice B bn bc] 39)).heap.size=w.heap.size+1):=hid (by simp);obtain⟨RES,hRES⟩:∃ RES,[F]++RA++RB++RC=RES:=⟨_,rfl⟩;have JL:=hid hRES;rw[hRES];clear hRES;go_enter Tryz.func62,Tryz.ntmps62;go_upto_region 1 with fail
 generalize w.alloc (.cells #[.bool rg,.int .i64 nn,.bool mnn,.int .i64 mni,.string mns,.bool mxn,.int .i64 mxi,.string mxs,.int .i64 hs,.slice B bn bc] 39)=w0 at *;obtain⟨a0,a1,a2,a3,a4,a5,a6,a7,a8,a9⟩:=Za5 Qj.out;go_upto_region 2 with (go_at_call 107;refine(HZF.out w0).mono ?_;rintro e w1 ⟨rfl,hb1⟩;have Qa:=hid hb1;clear hb1)
 have hs1:w0.heap.size≤w1.heap.size:=Qa.out.size;have Qx:Hid (ZSt w0.heap.size w0 (w1.alloc (.cells #[.int .u8 F] 5)) (.slice (some ⟨w1.heap.size,0,none⟩) 1 1) [F]):=hid ⟨by
  have h:Row (w1.alloc (.cells #[.int .u8 F] 5)) w1.heap.size 5 (u8s [F]):=by unfold Row;rw[heap_alloc_new];rfl
  exact h.owns hs1 rfl (by unfold maxLen;decide),Qa.out.alloc hs1 _,by simp;omega⟩
 clear HZF Qa a0 a1 a2 a3 a4 a5 a6 a7 a8 a9;generalize w1.alloc (.cells #[.int .u8 F] 5)=w2 at *;generalize w1.heap.size=g1 at *;have HBL0:=hid (Q9.out.mono Ql.out);have Qq:=hid (Qj.out.mono Qx.out.2.1);obtain⟨a0,a1,a2,a3,a4,a5,a6,a7,a8,a9⟩:=Za5 Qq.out;go_upto_if 12 with fail
 go_cut [7]from 12 to 16 (fun s7 wc=>Hid (ZSt w0.heap.size w0 wc s7 ([F]++RA)))
 case first =>
  cases rg
  ·rw[if_neg (by decide)]at HA;go_wp2_with fail
   go_meet;exact hid (by rw[HA.out,List.append_nil];exact Qx.out)
  ·rw[if_pos rfl]at HA;have Xo:=hid (Zf9 w0.heap.size _ [F] nn w2 Qx.out.1 Qx.out.2.2 (by omega) (by simp));rw[← HA.out]at Xo;go_wp2_with (go_at_call 67;refine Xo.out.mono ?_;rintro e w3 ⟨r1,rfl,o1,b1,z1,k1⟩;obtain⟨A2,c2,rfl⟩:=o1.form;have Y1:=hid (Qx.out.step o1 b1 z1);clear o1 b1 z1 k1)
   go_meet;exact Y1
 case rest =>
 obtain⟨A2,c2,hf2⟩:=hcut.1.form;subst hf2;have JJ:=hid hcut;clear hcut Qx Qq a0 a1 a2 a3 a4 a5 a6 a7 a8 a9;generalize wc=w3 at *;have Qf:=hid (Qj.out.mono JJ.out.2.1);have VK:Hid (([F]++RA).length≤5):=hid (by rw[List.length_append];have:=Vx.out;simp;omega);obtain⟨b3,hb3⟩:∃ b3,[F]++RA=b3:=⟨_,rfl⟩;rw[hb3]at JJ VK ⊢;have Qk:=hid hb3;clear hb3;obtain⟨a0,a1,a2,a3,a4,a5,a6,a7,a8,a9⟩:=Za5 Qf.out;obtain⟨q,hq⟩:∃ q,decide (rg=true∧(nn:Int)≠rows)=q:=⟨_,rfl⟩;have HQ:=hid hq;clear hq;obtain⟨m3,hm3⟩:∃ m3,b3.length=m3:=⟨_,rfl⟩;rw[hm3];have HM3:=hid hm3;clear hm3;go_upto_region 4 with fail
 go_cut [24]from 17 to 23 (fun s24 wc=>s24=.bool q∧wc=w3)
 case first =>
  cases rg
  ·obtain rfl:q=false:=by rw[← HQ.out];simp
   go_wp2_with fail
   go_meet;exact⟨rfl,rfl⟩
  ·by_cases he:(nn:Int)=rows
   ·subst he;obtain rfl:q=false:=by rw[← HQ.out];simp
    go_wp2_with fail
    go_meet;exact⟨rfl,rfl⟩
   ·have heb:((nn:Int) != rows)=true:=by simp[he]
    obtain rfl:q=true:=by rw[← HQ.out];simp[he]
    go_wp2_with fail
    go_meet;exact⟨rfl,rfl⟩
 case rest =>
 obtain⟨rfl,hw⟩:=hcut;replace hw:=hw.symm;subst hw;go_upto_if 24 with fail
 go_cut [7]from 24 to 34 (fun s7 wc=>Hid (ZSt w0.heap.size w0 wc s7 (b3++RB)))
 case first =>
  cases q
  ·rw[if_neg (of_decide_eq_false HQ.out)]at HB;go_wp2_with fail
   go_meet;exact hid (by rw[HB.out,List.append_nil,← HM3.out];exact JJ.out)
  ·have hc:=of_decide_eq_true HQ.out;rw[if_pos hc]at HB;obtain⟨z1,z2⟩:=Zl.out hc;clear hc;have Xp:Hid (ZSt w0.heap.size w0 w3 (.slice A2 m3 c2) b3):=hid (by rw[← HM3.out];exact JJ.out);have QW:Hid ((b3++R1).length≤1099511627776):=hid (by
    have:=Ux.out;rw[HB.out,List.length_append]at this;have:=VK.out;rw[List.length_append];omega)
   have Vc:=hid (YE.out w0.heap.size _ b3 w3 Xp.out.1 Xp.out.2.2 (by omega) (by have:=VK.out;omega));have J7:=hid (fun(v:Value) (w2:World) (h:OwnB w0.heap.size w2 v (b3++R1)) (hb:w0.heap.size≤w2.heap.size)=>YF.out w0.heap.size v (b3++R1) w2 h hb (by omega) QW.out);have Xq:Hid (b3++RB=b3++R1++R2):=hid (by rw[HB.out,← List.append_assoc]);clear QW;obtain⟨b4,hb4⟩:∃ b4,b3++R1=b4:=⟨_,rfl⟩;rw[hb4]at Vc J7 Xq;obtain⟨b5,hb5⟩:∃ b5,b4++R2=b5:=⟨_,rfl⟩;rw[hb5]at J7 Xq;clear hb4 hb5 YE YF;go_wp2_with (first
    | (go_at_call_of 108 (Value.agg #[.bool mnn,.int .i64 mni,.string mns]);refine Vc.out.mono ?_;rintro e w4 ⟨r1,rfl,o1,b1,z1',k1⟩;obtain⟨A4,c4,rfl⟩:=o1.form;have YY:=hid (Xp.out.step o1 b1 z1');have Xr:=hid (Qj.out.mono YY.out.2.1);clear o1 b1 z1' k1;obtain⟨d0,d1,d2,d3,d4,d5,d6,d7,d8,d9⟩:=Za5 Xr.out)
    | (go_at_call 108;refine(J7.out _ w4 YY.out.1 YY.out.2.2).mono ?_;rintro e w5 ⟨r1,rfl,o1,b1,z1',k1⟩;obtain⟨A5,c5,rfl⟩:=o1.form;have Y8:=hid (YY.out.step o1 b1 z1');clear o1 b1 z1' k1))
   go_meet;exact hid (by rw[Xq.out];exact Y8.out)
 case rest =>
 obtain⟨A6,c6,hf6⟩:=hcut.1.form;subst hf6;have Yw:=hid hcut;clear hcut JJ Qf a0 a1 a2 a3 a4 a5 a6 a7 a8 a9 HQ Zl YE YF;generalize wc=w6 at *;have Vb:=hid (Qj.out.mono Yw.out.2.1);have Uy:Hid ((b3++RB).length≤9000):=hid (by rw[List.length_append];have:=Ux.out;have:=VK.out;omega);obtain⟨b6,hb6⟩:∃ b6,b3++RB=b6:=⟨_,rfl⟩;rw[hb6]at Yw Uy ⊢;have HE6:Hid (RES=b6++RC):=hid (by rw[← JL.out,Qk.out,hb6]);clear hb6;obtain⟨a0,a1,a2,a3,a4,a5,a6,a7,a8,a9⟩:=Za5 Vb.out;obtain⟨m6,hm6⟩:∃ m6,b6.length=m6:=⟨_,rfl⟩;rw[hm6]at Uy ⊢;have Y6:Hid (ZSt w0.heap.size w0 w6 (.slice A6 m6 c6) b6):=hid (by rw[← hm6];exact Yw.out);have HM6:=hid hm6;clear hm6 Yw;by_cases hb0:bn=0
 ·have hbl0:bl=[]:=List.length_eq_zero_iff.1 (by rw[Yc.out];exact hb0);rw[if_pos hbl0]at HC;subst hb0;clear hbl0;go_wp2_with fail
  go_ret;refine⟨_,rfl,by rw[HE6.out,HC.out,List.append_nil,← QY.out];exact Y6.out.1,?_⟩;exact Ql.out.trans (Y6.out.2.1.mono Ql.out.size)
 ·have hbl0:bl≠[]:=fun h=>hb0 (by rw[← Yc.out,h];rfl)
  rw[if_neg hbl0]at HC;obtain⟨f1,f2,f3⟩:bl.length≤64∧1≤hs∧hs≤8:=by
   rcases Uw.out with h | h
   ·exact absurd h.1 hbl0
   ·exact h.2
  rw[Yc.out]at f1;clear hbl0 Uw;obtain⟨hn,rfl⟩:=Int.eq_ofNat_of_zero_le (show 0≤hs by omega);rw[Int.toNat_natCast]at HC;have hgt:(bn:Int) > 0:=by omega
  have hwr:IntKind.u8.wrap (hn:Int)=(hn:Int):=by rw[IntKind.wrap_u8];omega
  have VL:=hid Uy.out;have HE7:Hid (b6++RC=b6++[hn]++leN 4 bn++le8 bl):=hid (by rw[HC.out];simp[List.append_assoc]);obtain⟨b7,hb7⟩:∃ b7,b6++[hn]=b7:=⟨_,rfl⟩;have QM:=hid hb7;have VL:Hid (b7.length≤9001):=hid (by rw[← hb7,List.length_append,HM6.out];have:=Uy.out;simp;omega);have HP8:=hid (fun(v:Value) (w2:World) (h:OwnB w0.heap.size w2 v b7) (hb:w0.heap.size≤w2.heap.size)=>Zf9 w0.heap.size v b7 bn w2 h hb (by omega) (by have:=VL.out;omega));obtain⟨b8,hb8⟩:∃ b8,b7++leN 4 bn=b8:=⟨_,rfl⟩;have HL8:Hid (b8.length≤9005):=hid (by rw[← hb8,List.length_append,Zak];have:=VL.out;omega);have HP9:=hid (fun(v:Value) (w2:World) (h:OwnB w0.heap.size w2 v b8) (hb:Below w0.heap.size w0 w2) (hs2:w0.heap.size≤w2.heap.size)=>Zmq w0.heap.size v (.slice B bn bc) b8 bl w2 h (Stay.low (by rw[Yc.out];exact Q9.out.mono Ql.out) hb (Nat.le_refl _)) HV.out hs2 (by have:=HL8.out;omega) (by rw[Yc.out];omega));rw[hb8]at HP8;obtain⟨b9,hb9⟩:∃ b9,b8++le8 bl=b9:=⟨_,rfl⟩;rw[hb9]at HP9;have Jk:Hid (RES=b9):=hid (by rw[HE6.out,HE7.out,hb7,hb8,hb9]);clear hb7 hb8 hb9 HE7 HC VL HL8;go_upto_region 9 with (at_builtin;refine Zcp rfl (.tmp 39) (.tmp 43) rfl 5 (.int .u8 0) 1 Tryz.underlying22 Tryz.infoU8 rfl rfl rfl Y6.out.1 Y6.out.2.2 (by rfl) (by rw[HM6.out];have:=Uy.out;unfold maxLen;omega) (by rw[HM6.out];have:=Uy.out;omega) ?_;intro v7 w7 h1 h2 h3 h4 h5;have H1:=hid h1;have H2:=hid h2;have H3:=hid h3;clear h1 h2 h3 h4 h5)
  have Z4:Hid (ZSt w0.heap.size w0 w7 v7 b7):=hid (Y6.out.step (by
   have h:=H1.out;rw[← Zn6,QM.out]at h;have hl:b7.length=b6.length+1:=by rw[← QM.out];simp
   unfold OwnB;rw[hl];exact h) H2.out H3.out)
  clear H1 H2 H3;obtain⟨A7,c7,hf7⟩:=Z4.out.1.form;subst hf7;have Jl:=hid (Qj.out.mono Z4.out.2.1);clear a0 a1 a2 a3 a4 a5 a6 a7 a8 a9;obtain⟨a0,a1,a2,a3,a4,a5,a6,a7,a8,a9⟩:=Za5 Jl.out;go_wp2_with (first
   | (go_at_call 67;refine(HP8.out _ w7 Z4.out.1 Z4.out.2.2).mono ?_;rintro e w8 ⟨r1,rfl,o1,b1,z1',k1⟩;obtain⟨A8,c8,rfl⟩:=o1.form;have Z9:=hid (Z4.out.step o1 b1 z1');have Zb:=hid (Qj.out.mono Z9.out.2.1);clear o1 b1 z1' k1;obtain⟨d0,d1,d2,d3,d4,d5,d6,d7,d8,d9⟩:=Za5 Zb.out)
   | (go_at_call 109;refine(HP9.out _ w8 Z9.out.1 Z9.out.2.1 Z9.out.2.2).mono ?_;rintro e w9 ⟨r1,rfl,o1,b1,z1',k1⟩;obtain⟨A9,c9,rfl⟩:=o1.form;have Zm:=hid (Z9.out.step o1 b1 z1');clear o1 b1 z1' k1))
  go_ret;exact⟨_,rfl,by rw[Jk.out,← QY.out];exact Zm.out.1,Ql.out.trans (Zm.out.2.1.mono Ql.out.size)⟩
theorem Zhu (xs:List Nat):(Zat xs).toList=xs.map UInt8.ofNat:=by
 rw[ByteArray.toList_eq];unfold Zat;simp
theorem Zh2 {xs ys:List Nat} (hx:∀ x∈xs,x<256) (hy:∀ x∈ys,x<256) (h:(Zat xs).toList=(Zat ys).toList):xs=ys:=by
 rw[Zhu,Zhu]at h;have h2:=congrArg (List.map UInt8.toNat) h;rw[List.map_map,List.map_map]at h2;have e:∀ zs:List Nat,(∀ x∈zs,x<256)→zs.map (UInt8.toNat ∘ UInt8.ofNat)=zs:=by
  intro zs hz
  conv=>rhs;rw[← List.map_id zs]
  apply List.map_congr_left;intro x hx;have:=hz x hx;simp[Function.comp,UInt8.toNat_ofNat',Nat.mod_eq_of_lt this]
 rwa [e xs hx,e ys hy]at h2
theorem Zqg (w:World) (p:Nat) (cs:List Value):Chg p p w (Zil w p cs):=(((Chg.refl p p w).setCell p 0 _ (.inl rfl)).setCell p 1 _ (.inl rfl)).setCell p 2 _ (.inl rfl)
set_option maxHeartbeats 2000000 in
theorem Zms (a b:Value) (xs ys:List Nat) (w:World) (ha:Rd w a xs.length 1 (u8s xs)) (hb:Rd w b ys.length 1 (u8s ys)) (hx:∀ x∈xs,x<256) (hy:∀ x∈ys,x<256) :
  Calls Tryz.prog 125 #[a,b] w fun e w'=>e=.returned (.bool (decide (xs=ys)))∧w'=w:=by
 have h1:=Zfc ha;have h2:=Zfc hb;obtain⟨q,hq⟩:∃ q,decide (xs=ys)=q:=⟨_,rfl⟩;have hcmp:((Zat xs).toList==(Zat ys).toList)=q:=by
  rw[← hq];by_cases e:xs=ys
  ·subst e;simp
  ·have:¬ (Zat xs).toList=(Zat ys).toList:=fun h=>e (Zh2 hx hy h)
   simp[e,this]
 rw[hq];obtain⟨A1,c1,rfl,_,_,_⟩:=ha.form;obtain⟨A2,c2,rfl,_,_,_⟩:=hb.form;clear ha hb hx hy hq;generalize xs.length=n at *;generalize ys.length=m at *;generalize Zat xs=sx at *;generalize Zat ys=sy at *;go_enter Tryz.func125,Tryz.ntmps125;go_wp2_with fail
 go_ret;exact⟨Zae (by simpa using hcmp),rfl⟩
set_option maxHeartbeats 4000000 in
theorem Zi9 (w0 w:World) (g:Nat) (xs:List Nat) (s:Bool) (k:Int) (h:Zap w0 w g xs s) (hgs:g<w.heap.size) (hv:∀ x∈xs,x<256) (hl:xs.length≤16777216) :
  Calls Tryz.prog 122 #[.pointer (some ⟨g,0,none⟩),.int .i64 k] w fun e w'=>e=.returned (bdC k xs).v∧(∃ s',Zap w0 w' g (bdL k xs) s')∧Chg g g w w':=by
 have Qa:=hid ((Zab w).alloc (Nat.le_refl _) (.cells #[.bool false,.int .i64 0,.string ⟨#[]⟩] 36));have QI:Hid (Row (w.alloc (.cells #[.bool false,.int .i64 0,.string ⟨#[]⟩] 36)) w.heap.size 36 [.bool false,.int .i64 0,.string ⟨#[]⟩]):=hid (by unfold Row;rw[heap_alloc_new]);have QX:=hid (h.mono Qa.out);have hw0:w0.heap.size≤w.heap.size:=h.2.1.size;have Yl:=hid (Zc8 (n:=4) hv);clear h;have hng:g≠w.heap.size:=by omega
 by_cases hk:k=2
 ·subst hk;unfold bdC bdL;rw[if_pos rfl,if_pos rfl];have HU:=hid (fun(w2:World) (h:Zap w0 w2 g xs s)=>Zfa w0 w2 g xs s h hv hl);obtain⟨n,hn⟩:∃ n,L.wordOf 8 (tk 4 xs)=n:=⟨_,rfl⟩;have hn4:n<4294967296:=by rw[← hn];exact Zb2 _ Yl.out (Zib 4 xs)
  rw[hn]at HU ⊢;clear hn Yl;have hl2:(tkL 4 xs).length≤16777216:=by unfold tkL;split<;>simp<;>omega
  generalize tkL 4 xs=x1 at *;generalize tkS 4 xs s=s1 at *;have HT:=hid (fun(w2:World) (h:Zap w0 w2 g x1 s1)=>Zfl w0 w2 g x1 s1 n h hl2 (by omega));obtain⟨C,hC⟩:∃ C:C3,(⟨false,0,Zat (tk n x1)⟩:C3)=C:=⟨_,rfl⟩;have HC:=hid hC;rw[hC];clear hC hv hl hl2;generalize tkL n x1=x2 at *;generalize tkS n x1 s1=s2 at *;generalize tk n x1=ys at *;go_enter Tryz.func122,Tryz.ntmps122;go_upto_region 1 with fail
  generalize w.alloc (.cells #[.bool false,.int .i64 0,.string ⟨#[]⟩] 36)=w1 at *;go_wp2_with (first
   | (go_at_call 81;refine(HU.out w1 QX.out).mono ?_;rintro e w2 ⟨rfl,hat,hch⟩;have Qv:=hid hat;have QC:=hid hch;clear hat hch)
   | (go_at_call 80;refine(HT.out w2 Qv.out).mono ?_;rintro e w3 ⟨t,rfl,hrd,hat,hch⟩;have Ja:=hid hat;have Y3:=hid (QC.out.trans hch);have hcv:=Zfc (hrd.mono hat.2.1);have Qf:=hid (Y3.out.row QI.out hng.symm hng.symm);have f0:=Qf.out.frozen 0;have f1:=Qf.out.frozen 1;have f2:=Qf.out.frozen 2;obtain⟨z0,z1,z2⟩:=Zeq Qf.out;obtain⟨At,ct,rfl,_,_,_⟩:=hrd.form;clear hrd hat hch))
  change bodyPost _ _ _ _ _ (Zil w3 w.heap.size [.bool false,.int .i64 0,.string (Zat ys)])
  have R0:=Zf0 Qf.out (.bool false) (.int .i64 0) (.string (Zat ys));have hat4:=Ja.out.chg (Zqg w3 w.heap.size [.bool false,.int .i64 0,.string (Zat ys)]) hng hng hw0 hw0;have hch4:=((Chg.of_below (a:=g) (b:=g) Qa.out).trans Y3.out).then_below (Zd9 (Below.refl w.heap.size w3) w.heap.size (Nat.le_refl _) [.bool false,.int .i64 0,.string (Zat ys)]) (Nat.le_refl _);clear z0 z1 z2 f0 f1 f2;generalize Zil w3 w.heap.size [.bool false,.int .i64 0,.string (Zat ys)]=w4 at *;obtain⟨q0,q1,q2⟩:=Zeq R0;refine bodyPost_ret (v:=C.v) ?_ rfl ⟨rfl,⟨_,hat4⟩,hch4⟩;rw[← HC.out];unfold C3.v;simp[results,Tryz.results122,go_sem,q0,q1,q2]
 ·unfold bdC bdL;rw[if_neg hk,if_neg hk];have HU:=hid (fun(w2:World) (h:Zap w0 w2 g xs s)=>Zwj w0 w2 g xs s h hv hl);obtain⟨n,hn⟩:∃ n,L.wordOf 8 (tk 8 xs)=n:=⟨_,rfl⟩;rw[hn]at HU ⊢;have hcv:IntKind.i64.wrap (n:Int)=Zcf n:=by rw[IntKind.wrap_i64];unfold Zcf wrap64;rfl
  obtain⟨C,hC⟩:∃ C:C3,(⟨false,Zcf n,ByteArray.empty⟩:C3)=C:=⟨_,rfl⟩;have HC:=hid hC;rw[hC];clear hC hv hl hn Yl;generalize tkL 8 xs=x2 at *;generalize tkS 8 xs s=s2 at *;generalize Zcf n=iv at *;go_enter Tryz.func122,Tryz.ntmps122;go_upto_region 1 with fail
  generalize w.alloc (.cells #[.bool false,.int .i64 0,.string ⟨#[]⟩] 36)=w1 at *;go_wp2_with (go_at_call 152;refine(HU.out w1 QX.out).mono ?_;rintro e w3 ⟨rfl,hat,hch⟩;have Ja:=hid hat;have Y3:=hid hch;have Qf:=hid (Y3.out.row QI.out hng.symm hng.symm);have f0:=Qf.out.frozen 0;have f1:=Qf.out.frozen 1;have f2:=Qf.out.frozen 2;obtain⟨z0,z1,z2⟩:=Zeq Qf.out;clear hat hch)
  change bodyPost _ _ _ _ _ (Zil w3 w.heap.size [.bool false,.int .i64 iv,.string ByteArray.empty])
  have R0:=Zf0 Qf.out (.bool false) (.int .i64 iv) (.string ByteArray.empty);have hat4:=Ja.out.chg (Zqg w3 w.heap.size [.bool false,.int .i64 iv,.string ByteArray.empty]) hng hng hw0 hw0;have hch4:=((Chg.of_below (a:=g) (b:=g) Qa.out).trans Y3.out).then_below (Zd9 (Below.refl w.heap.size w3) w.heap.size (Nat.le_refl _) [.bool false,.int .i64 iv,.string ByteArray.empty]) (Nat.le_refl _);clear z0 z1 z2 f0 f1 f2;generalize Zil w3 w.heap.size [.bool false,.int .i64 iv,.string ByteArray.empty]=w4 at *;obtain⟨q0,q1,q2⟩:=Zeq R0;refine bodyPost_ret (v:=C.v) ?_ rfl ⟨rfl,⟨_,hat4⟩,hch4⟩;rw[← HC.out];unfold C3.v;simp[results,Tryz.results122,go_sem,q0,q1,q2]
set_option maxRecDepth 512
structure Mid (U:Nat→Prop) (b:Nat) (w w':World):Prop where
 low:Below 0 w w'
 keep:∀ k,k<w.heap.size→(U k∨b≤k)→w'.heap[k]? = w.heap[k]?
theorem Mid.refl (U:Nat→Prop) (b:Nat) (w:World):Mid U b w w:=⟨Below.refl _ _,fun _ _ _=>rfl⟩
theorem Mid.trans {U:Nat→Prop} {b:Nat} {u v w:World} (h:Mid U b u v) (k:Mid U b v w):Mid U b u w :=
 ⟨h.low.trans k.low,fun i hi hb=>(k.keep i (Nat.lt_of_lt_of_le hi h.low.size) hb).trans (h.keep i hi hb)⟩
theorem Mid.of_below {U:Nat→Prop} {b:Nat} {w w':World} (h:Below w.heap.size w w'):Mid U b w w':=⟨h.mono (Nat.zero_le _),fun k hk _=>h.block k hk⟩
theorem Mid.set {U:Nat→Prop} {b:Nat} (w:World) (p i:Nat) (v:Value) (ha:¬ U p) (hb:p<b):Mid U b w (w.setCell ⟨p,i,none⟩ v) :=
 ⟨Zac (Below.refl 0 w) p i v (Nat.zero_le _),fun k _ hk=>by
  rw[heap_setCell_other];intro e;simp only at e;subst e;rcases hk with hk | hk
  ·exact ha hk
  ·omega⟩
theorem Mid.sub {U V:Nat→Prop} {b b':Nat} {w w':World} (h:Mid U b w w') (hv:∀ k,V k→U k∨b≤k) (hb:b≤b'):Mid V b' w w' :=
 ⟨h.low,fun k hk hk2=>h.keep k hk (hk2.elim (hv k) (fun h2=>.inr (Nat.le_trans hb h2)))⟩
theorem Mid.below {U:Nat→Prop} {b n:Nat} {w w':World} (h:Mid U b w w') (hn:n≤w.heap.size) (hu:∀ k,k<n→U k):Below n w w' :=
 ⟨h.low.os,h.low.tape,h.low.output,h.low.size,fun k hk=>h.keep k (by omega) (.inl (hu k hk))⟩
theorem Zj0 {w w':World} {p i:Nat} (h:w'.heap[p]? = w.heap[p]?):w'.cell? ⟨p,i,none⟩=w.cell? ⟨p,i,none⟩:=World.cell?_of_block h
theorem Zcy {w:World} {l:Nat} {o o':Obj} (h:w.heap[l]? = some o) {a:Nat} (ha:a≤l):Below a w (w.putObj l o'):=by
 have hl:=(Array.getElem?_eq_some_iff.1 h).1;exact(Below.refl a w).grown (grownBy_putObj' w l o') (by omega) (fun k e=>by cases e;exact ha)
theorem Zr3 {U:Nat→Prop} {w:World} {l b:Nat} {o o':Obj} (h:w.heap[l]? = some o) (ha:¬ U l) (hb:l<b):Mid U b w (w.putObj l o') :=
 ⟨Zcy h (Nat.zero_le _),fun k _ hk=>World.putObj_heap_other (by
  intro e;subst e;rcases hk with hk | hk
  ·exact ha hk
  ·omega)⟩
theorem Zbg {w:World} {g p i:Nat} {e:TypeId} {cs:List Value} {v:Value} (h:Row w g e cs) (hne:g≠p):Row (w.setCell ⟨p,i,none⟩ v) g e cs:=by
 unfold Row;rw[heap_setCell_other _ _ _ _ (by simpa using hne)];exact h
theorem Zg2 {m m':Nat} {P:Program} {l:Nat} {args:Array Value} {W:World} {R:Ending→World→Prop} (h:YieldAt Fence.wide m P l args W R):YieldAt Fence.wide m' P l args W R:=by
 obtain⟨fn,tmps,assign,body,h1,h2,h3⟩:=h;exact⟨fn,tmps,assign,body,h1,h2,fun c cs _=>h3 c cs (room_wide _)⟩
end Go.Proofs.YtmcjknjlihgihaaGreatDoor
