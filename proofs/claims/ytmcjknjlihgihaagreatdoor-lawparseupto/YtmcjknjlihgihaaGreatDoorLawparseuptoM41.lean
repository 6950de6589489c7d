/- Package format: lookChunk (what its walks share). -/
import Derived.Test.YtmcjknjlihgihaaGreatDoorLawparseuptoM37
set_option linter.unusedVariables false
set_option linter.unusedSimpArgs false
set_option linter.unnecessarySimpa false
set_option maxRecDepth 20000
namespace Go.Proofs.YtmcjknjlihgihaaGreatDoor
open Go.RowKit
theorem Zaq.low {w0 w w':World} {g B:Nat} {xs:List Nat} {s:Bool} (h:Zaq w0 w g xs s) (hb:Below B w w') (hg:g<B):Zaq w0 w' g xs s:=by
 obtain⟨h1,h2,v,hr,hv⟩:=h;exact⟨h1,h2.trans (hb.mono (by omega)),v,hr.below hb hg,hv⟩
theorem Z1m (w0 w:World) (g p:Nat) (xs:List Nat) (h:Zaq w0 w g (xs.drop p) false) (hp:p+4≤xs.length) (hv:∀ x∈xs,x<256) (hl:xs.length≤16777216) :
  Calls Tryz.prog 81 #[.pointer (some ⟨g,0,none⟩)] w fun e w'=>e=.returned (.int .i64 (nAt 4 p xs:Nat))∧Zaq w0 w' g (xs.drop (p+4)) false∧Chg g g w w':=by
 have:=Zff w0 w g (xs.drop p) false h (fun x hx=>hv x (List.mem_of_mem_drop hx)) (by rw[List.length_drop];omega);rw[(Zes hp).1,(Zes hp).2,Zrv hp]at this;exact this
theorem Z0q (w0 w:World) (g p:Nat) (xs:List Nat) (h:Zaq w0 w g (xs.drop p) false) (hp:p+1≤xs.length) (hv:∀ x∈xs,x<256) (hl:xs.length≤16777216) :
  Calls Tryz.prog 82 #[.pointer (some ⟨g,0,none⟩)] w fun e w'=>e=.returned (.int .i64 (xs.getD p 0:Nat))∧Zaq w0 w' g (xs.drop (p+1)) false∧Chg g g w w':=by
 have:=Zgs w0 w g (xs.drop p) false h (fun x hx=>hv x (List.mem_of_mem_drop hx)) (by rw[List.length_drop];omega);rw[(Zes hp).1,(Zes hp).2,Zrv hp,Z0i (by omega)]at this;exact this
def En.vs (e:En):List Value:=[.int .i64 (e.off:Nat),.int .i64 (e.len:Nat),.int .u32 (e.sum:Nat),.int .i64 (e.zl:Nat)]
def ensL (xs:List Nat) (q n:Nat):List En:=(List.range n).map fun c=>enAt xs (q+16*c)
def ensV (xs:List Nat) (q n:Nat):List Value:=(ensL xs q n).flatMap En.vs
theorem Zmd (xs:List Nat) (q n:Nat):ensV xs q (n+1)=ensV xs q n++(enAt xs (q+16*n)).vs:=by
 unfold ensV ensL;rw[List.range_succ];simp
theorem Zr7 (xs:List Nat) (q n:Nat):(ensV xs q n).length=n*4:=by
 induction n with
 | zero=>rfl
 | succ n ih=>rw[Zmd,List.length_append,ih];show n*4+4=_;omega
theorem Tryz.infoCE:(Tryz.prog.info? 108).map (fun i=>(i.zero,i.size,i.bytes))=some (some (.agg [.int .i64 0,.int .i64 0,.int .u32 0,.int .i64 0].toArray),4,32):=by kernel_rfl
theorem Tryz.infoGE:(Tryz.prog.info? 106).map (fun i=>(i.zero,i.size,i.bytes))=some (some (.agg [.int .i64 0,.slice none 0 0].toArray),2,32):=by kernel_rfl
structure GEs (w0 w:World) (g r0 s1:Nat) (xs:List Nat) (p j:Nat) (v:Value) (wr:World):Prop where
 rd:Zaq w0 wr g (xs.drop (p+4+16*j)) false
 r:Row wr r0 106 [.int .i64 0,.slice none 0 0]
 s:Row wr s1 106 [.int .i64 (nAt 4 p xs:Nat),v]
 own:wr.ownsRow (s1+1) 108 4 v j (ensV xs (p+4) j)
 chg:Chg g g w wr
 h1:w.heap.size≤r0
 h2:r0<s1
 h3:g<w.heap.size
 h4:s1<wr.heap.size
set_option maxHeartbeats 4000000 in
theorem Zj0 (w0 w:World) (g p C:Nat) (xs:List Nat) (h:Zaq w0 w g (xs.drop p) false) (hg:g<w.heap.size) (hp:p+4+16*C≤xs.length) (hv:∀ x∈xs,x<256) (hl:xs.length≤16777216) :
  Calls Tryz.prog 83 #[.pointer (some ⟨g,0,none⟩),.int .i64 C] w fun e w'=>∃ v,e=.returned (.agg #[.int .i64 (nAt 4 p xs:Nat),v])∧w'.ownsRow w.heap.size 108 4 v C (ensV xs (p+4) C) ∧
   Zaq w0 w' g (xs.drop (p+4+16*C)) false∧Chg g g w w':=by
 have HU:=hid (fun(q:Nat) (w2:World) (h2:Zaq w0 w2 g (xs.drop q) false) (hq:q+4≤xs.length)=>Z1m w0 w2 g q xs h2 hq hv hl);have HP:=hid hp;have HH:=hid h;have HV:=hid hv;clear h hv;go_enter Tryz.func83,Tryz.ntmps83;go_upto_region 1 with fail
 have hr0:=Zbe (w:=w) (C:=#[.int .i64 0,.slice none 0 0]) (e:=106);have Qg:=hid hr0.1;have HRD0:=hid (HH.out.mono hr0.2);have Qh:=hid hr0.2;have hz0:(w.alloc (.cells #[.int .i64 0,.slice none 0 0] 106)).heap.size=w.heap.size+1:=by simp
 have HZ0:=hid hz0;clear hr0 hz0;generalize w.alloc (.cells #[.int .i64 0,.slice none 0 0] 106)=wa at *;go_upto_region 2 with (go_at_call 81;refine(HU.out p wa HRD0.out (by have:=HP.out;omega)).mono ?_;rintro e w1 ⟨rfl,hrd,hch⟩;have UU:=hid hrd;have VP:=hid hch;clear hrd hch)
 have hr1:=Zbe (w:=w1) (C:=#[.int .i64 (nAt 4 p xs:Nat),.slice none 0 0]) (e:=106);have QC:Hid (GEs w0 w g w.heap.size w1.heap.size xs p 0 (.slice none 0 0) (w1.alloc (.cells #[.int .i64 (nAt 4 p xs:Nat),.slice none 0 0] 106))):=hid (by
  have h0:=HZ0.out;have h1:=VP.out.size;refine⟨UU.out.mono hr1.2,(VP.out.row Qg.out (by omega) (by omega)).mono hr1.2,hr1.1,by simpa [ensV,ensL]using World.ownsRow_nil _ _ _ _,((Chg.of_below Qh.out).trans VP.out).trans (Chg.of_below hr1.2),Nat.le_refl _,by omega,hg,by simp⟩)
 clear hr1 Qg HRD0 Qh HZ0 UU VP HH;generalize w1.alloc (.cells #[.int .i64 (nAt 4 p xs:Nat),.slice none 0 0] 106)=w2 at *;obtain⟨s1,hs1⟩:∃ s1,w1.heap.size=s1:=⟨_,rfl⟩;obtain⟨r0,hr0⟩:∃ r0,w.heap.size=r0:=⟨_,rfl⟩;obtain⟨n4,hn4⟩:∃ n4,nAt 4 p xs=n4:=⟨_,rfl⟩;have HR0E:=hid hr0;rw[hs1,hr0]at QC;rw[hs1,hr0,hn4];have XJ:=hid hn4;clear hs1 hr0 hn4 hp;go_upto_region 3 with fail
 go_loopw [11] (fun i wr=>∃(j:Nat) (v:Value),j≤C∧i=.int .i64 j∧Hid (GEs w0 w g r0 s1 xs p j v wr)) (fun i _=>C-(intOf i).toNat)
 case atStart=>exact⟨0,_,by omega,rfl,QC⟩
 case round =>
  obtain⟨j,v,hj,rfl,hst⟩:=hrel;by_cases hlt:j<C
  ·obtain⟨q,hq⟩:∃ q,p+4+16*j=q:=⟨_,rfl⟩;have hql:q+16≤xs.length:=by have:=HP.out;omega
   have HQL:=hid hql;have Qx:=hid hst.out.rd;rw[hq]at Qx;have HE:Hid (ensV xs (p+4) (j+1)=ensV xs (p+4) j++[.int .i64 (nAt 4 q xs:Nat),.int .i64 (nAt 4 (q+4) xs:Nat),.int .u32 (nAt 4 (q+8) xs:Nat),.int .i64 (nAt 4 (q+12) xs:Nat)]):=hid (by
    rw[Zmd,hq];rfl)
   have hq4:p+4+16*(j+1)=q+16:=by omega
   have XV:=hid hq4;have H0:=hid (fun(w2:World) (h:Zaq w0 w2 g (xs.drop q) false)=>HU.out q w2 h (by omega));have H1:=hid (fun(w2:World) (h:Zaq w0 w2 g (xs.drop (q+4)) false)=>HU.out (q+4) w2 h (by omega));have H2:=hid (fun(w2:World) (h:Zaq w0 w2 g (xs.drop (q+8)) false)=>HU.out (q+8) w2 h (by omega));have H3:=hid (fun(w2:World) (h:Zaq w0 w2 g (xs.drop (q+12)) false)=>HU.out (q+12) w2 h (by omega));have hm2:nAt 4 (q+8) xs<4294967296:=Zdx HV.out;generalize nAt 4 q xs=e0 at *;generalize nAt 4 (q+4) xs=e1 at *;generalize nAt 4 (q+8) xs=e2 at *;generalize nAt 4 (q+12) xs=e3 at *;clear hq hql hq4 HU;go_upto_region 5 with (first
    | (go_at_call 81;refine(H0.out wr Qx.out).mono ?_;rintro e wb ⟨rfl,hrd,hch⟩;have HRDb:=hid hrd;have HCHb:=hid hch;clear hrd hch)
    | (go_at_call 81;refine(H1.out wb HRDb.out).mono ?_;rintro e wc ⟨rfl,hrd,hch⟩;have XW:=hid hrd;have XX:=hid (HCHb.out.trans hch);clear hrd hch))
   have hrn:=Zbe (w:=wc) (C:=#[.int .i64 (e0:Nat),.int .i64 (e1:Nat),.int .u32 0,.int .i64 0]) (e:=108);have Q5:=hid hrn.1;have HRDn:=hid (XW.out.mono hrn.2);have HCHn:=hid (XX.out.trans (Chg.of_below hrn.2));have Yi:=hid XW.out.lt;have hn:=hrn.2.size;have Yh:Hid (wc.heap.size<(wc.alloc (.cells #[.int .i64 (e0:Nat),.int .i64 (e1:Nat),.int .u32 0,.int .i64 0] 108)).heap.size):=hid (by simp);clear hrn hn;generalize wc.alloc (.cells #[.int .i64 (e0:Nat),.int .i64 (e1:Nat),.int .u32 0,.int .i64 0] 108)=wd at *;obtain⟨t,ht⟩:∃ t,wc.heap.size=t:=⟨_,rfl⟩;have HTW:Hid (wr.heap.size≤t):=hid (by rw[← ht];exact XX.out.size);rw[ht]at Q5 Yi Yh;rw[ht];have HRN2:Hid (Row wd t 108 [.int .i64 (e0:Nat),.int .i64 (e1:Nat),.int .u32 0,.int .i64 0]):=Q5;clear HRDb HCHb XW XX ht Q5;have hgt:t≠g:=by have:=Yi.out;omega
   go_upto_region 6 with (go_at_call 81;refine(H2.out wd HRDn.out).mono ?_;rintro e we ⟨rfl,hrd,hch⟩;have XY:=hid hrd;have HCHe:=hid (HCHn.out.trans hch);have VQ:=hid (hch.row HRN2.out hgt hgt);have fz:=VQ.out.frozen 2;have cz:=VQ.out.cell 2;clear hrd hch)
   have HRNf:Hid (Row (we.setCell ⟨t,2,none⟩ (.int .u32 (e2:Nat))) t 108 [.int .i64 (e0:Nat),.int .i64 (e1:Nat),.int .u32 (e2:Nat),.int .i64 0]):=hid (VQ.out.set 2 _);have hcf:=(Chg.refl t t we).setCell t 2 (.int .u32 (e2:Nat)) (.inl rfl);have HRDf:=hid (XY.out.chg hcf hgt.symm hgt.symm (by have:=XY.out.1;have:=QC.out.h3;have:=hst.out.rd.lt;have:=HTW.out;have:=hst.out.rd.2.1.size;omega) (by have:=HTW.out;have:=hst.out.rd.2.1.size;omega));have HCHf:=hid ((HCHe.out.wide (b:=t)).trans hcf.wide');clear hcf fz cz XY HCHe VQ HRN2 HRDn HCHn;generalize we.setCell ⟨t,2,none⟩ (.int .u32 (e2:Nat))=wf at *;go_upto_region 7 with (go_at_call 81;refine(H3.out wf HRDf.out).mono ?_;rintro e wg ⟨rfl,hrd,hch⟩;have HRDg:=hid hrd;have HCHg:=hid (HCHf.out.trans hch.wide);have VR:=hid (hch.row HRNf.out hgt hgt);have fz:=VR.out.frozen 3;have cz:=VR.out.cell 3;clear hrd hch)
   have UV:Hid (Row (wg.setCell ⟨t,3,none⟩ (.int .i64 (e3:Nat))) t 108 [.int .i64 (e0:Nat),.int .i64 (e1:Nat),.int .u32 (e2:Nat),.int .i64 (e3:Nat)]):=hid (VR.out.set 3 _);have hch2:=(Chg.refl t t wg).setCell t 3 (.int .i64 (e3:Nat)) (.inl rfl);have h30:w0.heap.size≤t:=by have:=HTW.out;have:=hst.out.rd.2.1.size;omega
   have VS:=hid (HRDg.out.chg hch2 hgt.symm hgt.symm h30 h30);have hchh:=HCHg.out.trans (hch2.wide' (a:=g));have hcg:Chg g g wr (wg.setCell ⟨t,3,none⟩ (.int .i64 (e3:Nat))):=⟨hchh.os,hchh.tape,hchh.output,hchh.size,fun k hk h1 _=>hchh.block k hk h1 (by have:=HTW.out;omega)⟩;have UW:=hid hcg;clear hch2 hchh hcg fz cz HRDg HCHg VR HCHf HRDf HRNf H0 H1 H2 H3;generalize wg.setCell ⟨t,3,none⟩ (.int .i64 (e3:Nat))=wh at *;have hgs:g<s1+1:=by have:=hst.out.h1;have:=hst.out.h2;have:=hst.out.h3;omega
   have h2:=hst.out.h2;have h1:=hst.out.h1;have h3:=hst.out.h3;have Qi:=hid (Zcp hst.out.own UW.out (fun k hk=>by have:=(hst.out.own.lt k hk).1;omega));have JI:=hid (UW.out.row hst.out.s (by omega) (by omega));have Qo:=hid (UW.out.row hst.out.r (by omega) (by omega));have HC9:=hid (hst.out.chg.trans UW.out);have hBs:s1+1≤wh.heap.size:=by have:=JI.out.lt;omega
   have ht0:=UV.out.cell 0;have ht1:=UV.out.cell 1;have ht2:=UV.out.cell 2;have ht3:=UV.out.cell 3;have hs1:=JI.out.cell 1;have hC8:C≤16777216:=by have:=HP.out;omega
   rw[XJ.out]at JI;clear h1 h2 h3;go_wp2_with (at_builtin;refine Zch [.int .i64 (e0:Nat),.int .i64 (e1:Nat),.int .u32 (e2:Nat),.int .i64 (e3:Nat)] 4 rfl (.tmp 26) (.tmp 28) rfl 108 (.agg [.int .i64 0,.int .i64 0,.int .u32 0,.int .i64 0].toArray) 32 Tryz.underlying104 Tryz.infoCE rfl (by decide) rfl rfl rfl Qi.out hBs (by simp[Value.oneCell']) (by unfold maxLen;omega) (by omega) ?_;intro v' w' ho hb hz hk;obtain⟨A9,c9,rfl⟩:=Zag ho;have HO:=hid ho;have HB:=hid hb;have HZ:=hid hz;have VT:=hid (JI.out.below hb (by omega));have fs:=VT.out.frozen 1;have cs1:=VT.out.cell 1;clear ho hb hz hk)
   have hcs:=(Chg.refl s1 s1 w').setCell s1 1 (.slice A9 (j+1) c9) (.inl rfl);have Qv:Hid (Row (w'.setCell ⟨s1,1,none⟩ (.slice A9 (j+1) c9)) s1 106 [.int .i64 (n4:Nat),.slice A9 (j+1) c9]):=hid (VT.out.set 1 _);have hr0s:r0<s1:=hst.out.h2;have hw0:w.heap.size≤r0:=hst.out.h1;have hgw:g<w.heap.size:=hst.out.h3;have Qw:Hid (GEs w0 w g r0 s1 xs p (j+1) (.slice A9 (j+1) c9) (w'.setCell ⟨s1,1,none⟩ (.slice A9 (j+1) c9))):=hid (by
    refine⟨?_,hcs.row (Qo.out.below HB.out (by omega)) (by omega) (by omega),by rw[XJ.out];exact Qv.out,?_,?_,hw0,hr0s,hgw,Qv.out.lt⟩
    ·rw[XV.out];exact(VS.out.low HB.out hgs).chg hcs (by omega) (by omega) (by have:=VS.out.1;omega) (by have:=VS.out.1;omega)
    ·rw[HE.out];exact Zcp HO.out hcs (fun k hk=>by have:=(HO.out.lt k hk).1;omega)
    ·have h5:=HC9.out.then_below HB.out (by omega);have h6:Below (s1+1-1) w' (w'.setCell ⟨s1,1,none⟩ (.slice A9 (j+1) c9)):=Zad (Below.refl _ _) _ _ _ (by omega);exact h5.then_below h6 (by omega))
   clear Qv hcs VT HO HB HZ fs cs1 VS UV Qi JI Qo HC9 UW hst;generalize w'.setCell ⟨s1,1,none⟩ (.slice A9 (j+1) c9)=wz at *;go_wp2_with fail
   go_roundw
   case rel=>exact⟨j+1,_,by omega,by go_num,Qw⟩
   case measure=>simp[intOf];omega
  ·obtain rfl:j=C:=by omega
   have hrs:=hst.out.s;have hrr:=hst.out.r;rw[XJ.out]at hrs;obtain⟨A9,c9,rfl⟩:=Zag hst.out.own;have q0:=hrs.cell 0;have q1:=hrs.cell 1;have z0:=hrr.cell 0;have z1:=hrr.cell 1;have f0:=hrr.frozen 0;have f1:=hrr.frozen 1;have Qo:=hid hrr;clear hrs hrr;go_wp2_with fail
   have hcr:=((Chg.refl r0 r0 wr).setCell r0 0 (.int .i64 (n4:Nat)) (.inl rfl)).setCell r0 1 (.slice A9 j c9) (.inl rfl);have Q0:=hid ((Qo.out.set 0 (.int .i64 (n4:Nat))).set 1 (.slice A9 j c9));have h1:=hst.out.h1;have h2:=hst.out.h2;have h3:=hst.out.h3;have h4:=hst.out.rd.1;have Ym:Hid (Below r0 wr ((wr.setCell ⟨r0,0,none⟩ (.int .i64 (n4:Nat))).setCell ⟨r0,1,none⟩ (.slice A9 j c9))):=hid (Zad (Zad (Below.refl _ _) _ _ _ (Nat.le_refl _)) _ _ _ (Nat.le_refl _));clear q0 q1 z0 z1 f0 f1 Qo;generalize (wr.setCell ⟨r0,0,none⟩ (.int .i64 (n4:Nat))).setCell ⟨r0,1,none⟩ (.slice A9 j c9)=wz at *;have y0:=Q0.out.cell 0;have y1:=Q0.out.cell 1;simp at y0 y1;refine bodyPost_ret (v:=.agg #[.int .i64 (n4:Nat),.slice A9 j c9]) ?_ rfl ⟨_,by rw[XJ.out],?_,?_,?_⟩
   ·simp[results,Tryz.results83,go_sem,y0,y1]
   ·exact Zbc (Zcp hst.out.own hcr (fun k hk=>by have:=(hst.out.own.lt k hk).1;omega)) (by omega)
   ·exact hst.out.rd.chg hcr (by omega) (by omega) (by omega) (by omega)
   ·exact hst.out.chg.then_below Ym.out (by omega)
def GsIn (w:World) (v:Value) (C G:Nat) (xs:List Nat):Prop :=
 ∃(A:Option Addr) (cap:Nat),v=.slice A G cap∧G≤cap∧cap≤maxLen ∧
  ∀ g,g<G→∃(b o:Nat) (ev:Value),A=some ⟨b,o,none⟩∧w.cell? ⟨b,o+g*2,none⟩=some (.int .i64 (Zap C xs g:Nat))∧w.cell? ⟨b,o+g*2+1,none⟩=some ev∧Rd w ev C 4 (ensV xs (gP C g+4) C)
theorem GsIn.mono {w w':World} {v:Value} {C G:Nat} {xs:List Nat} (h:GsIn w v C G xs) (hb:Below w.heap.size w w'):GsIn w' v C G xs:=by
 obtain⟨A,cap,hv,h1,h2,h3⟩:=h;refine⟨A,cap,hv,h1,h2,fun k hk=>?_⟩;obtain⟨b,o,av,hA,c0,c1,hr⟩:=h3 k hk;have hl:b<w.heap.size:=World.block_lt_of_cell? w _ c0;exact⟨b,o,av,hA,(hb.cell (p:=⟨b,_,none⟩) hl).trans c0,(hb.cell (p:=⟨b,_,none⟩) hl).trans c1,hr.mono hb⟩
theorem GsIn.form {w:World} {v:Value} {C G:Nat} {xs:List Nat} (h:GsIn w v C G xs):∃ A cap,v=.slice A G cap:=by
 obtain⟨A,cap,hv,_⟩:=h;exact⟨A,cap,hv⟩
theorem GsIn.at {w:World} {A:Option Addr} {n cap:Nat} {C G:Nat} {xs:List Nat} (h:GsIn w (.slice A n cap) C G xs) (g:Nat) (hg:g<G) :
  ∃(b o:Nat) (B:Option Addr) (c:Nat),A=some ⟨b,o,none⟩∧w.cell? ⟨b,o+g*2,none⟩=some (.int .i64 (Zap C xs g:Nat))∧w.cell? ⟨b,o+g*2+1,none⟩=some (.slice B C c)∧Rd w (.slice B C c) C 4 (ensV xs (gP C g+4) C):=by
 obtain⟨A',cap',hv,_,_,h3⟩:=h;injection hv with e1 e2 e3
 subst e1;obtain⟨b,o,av,hA,c0,c1,hr⟩:=h3 g hg;obtain⟨B,c,rfl,_⟩:=hr.form;exact⟨b,o,B,c,hA,c0,c1,hr⟩
theorem Zzd (xs:List Nat) (q n:Nat):∀ c,c<n→(ensV xs q n)[c*4]? = some (.int .i64 ((enAt xs (q+16*c)).off:Nat))∧(ensV xs q n)[c*4+1]? = some (.int .i64 ((enAt xs (q+16*c)).len:Nat)) ∧
  (ensV xs q n)[c*4+2]? = some (.int .u32 ((enAt xs (q+16*c)).sum:Nat))∧(ensV xs q n)[c*4+3]? = some (.int .i64 ((enAt xs (q+16*c)).zl:Nat)):=by
 induction n with
 | zero=>intro c hc;omega
 | succ n ih =>
  intro c hc;rw[Zmd];have hl:=Zr7 xs q n;by_cases h:c<n
  ·obtain⟨h0,h1,h2,h3⟩:=ih c h;rw[List.getElem?_append_left (by omega),List.getElem?_append_left (by omega),List.getElem?_append_left (by omega),List.getElem?_append_left (by omega)];exact⟨h0,h1,h2,h3⟩
  ·obtain rfl:c=n:=by omega
   rw[List.getElem?_append_right (by omega),List.getElem?_append_right (by omega),List.getElem?_append_right (by omega),List.getElem?_append_right (by omega),hl];rw[show c*4-c*4=0 by omega,show c*4+1-c*4=1 by omega,show c*4+2-c*4=2 by omega,show c*4+3-c*4=3 by omega];exact⟨rfl,rfl,rfl,rfl⟩
theorem Seg.en {w:World} {b o:Nat} {xs:List Nat} {q n:Nat} (h:Seg w b o (ensV xs q n)) (c:Nat) (hc:c<n) :
  w.cell? ⟨b,o+c*4,none⟩=some (.int .i64 ((enAt xs (q+16*c)).off:Nat))∧w.cell? ⟨b,o+c*4+1,none⟩=some (.int .i64 ((enAt xs (q+16*c)).len:Nat)) ∧
   w.cell? ⟨b,o+c*4+2,none⟩=some (.int .u32 ((enAt xs (q+16*c)).sum:Nat))∧w.cell? ⟨b,o+c*4+3,none⟩=some (.int .i64 ((enAt xs (q+16*c)).zl:Nat)):=by
 obtain⟨h0,h1,h2,h3⟩:=Zzd xs q n c hc;exact⟨h _ _ h0,h _ _ h1,h _ _ h2,h _ _ h3⟩
set_option maxHeartbeats 1000000 in
theorem Zjy (C G:Nat) (w:World) (hC:C≤16) (hG:G≤256):Calls Tryz.prog 66 #[.int .i64 C,.int .i64 G] w fun e w'=>e=.returned (.int .i64 (iD C G:Nat))∧w'=w:=by
 have h1:G*(4+16*C)≤256*260:=Nat.mul_le_mul hG (by omega);obtain⟨m,hm⟩:∃ m,G*(4+16*C)=m:=⟨_,rfl⟩;have hmi:(G:Int)*(4+16*(C:Int))=(m:Int):=by rw[← hm];simp
 have hd:((iD C G:Nat):Int)=16+(C:Int)+(m:Int):=by unfold iD;rw[hm];simp
 rw[hm]at h1;rw[hd];clear hd hm;go_enter Tryz.func66,Tryz.ntmps66;go_wp2;go_ret;exact⟨by go_num,rfl⟩
theorem Zvt (ks:List Nat) (k:Nat) (hk:k<ks.length):(ks.take (k+1)).all (fun k=>Zax (k:Int))=((ks.take k).all (fun k=>Zax (k:Int))&&Zax ((ks.getD k 0:Nat):Int)):=by
 rw[List.take_succ_eq_append_getElem hk,List.all_append];simp[List.getD,List.getElem?_eq_getElem hk]
theorem Zzl (ks:List Nat) (k:Nat) (hk:k<ks.length) (h:Zax ((ks.getD k 0:Nat):Int)=false):ks.all (fun k=>Zax (k:Int))=false:=by
 rw[← Bool.not_eq_true];intro h2;rw[List.all_eq_true]at h2;have:=h2 (ks.getD k 0) (by simp[List.getD,List.getElem?_eq_getElem hk]);rw[h]at this;cases this
set_option maxHeartbeats 1000000 in
theorem Zpp (v:Value) (ks:List Nat) (w:World) (hx:Rd w v ks.length 1 (i64s (nI ks))) :
  Calls Tryz.prog 57 #[v] w fun e w'=>e=.returned (.bool (ks.all fun k=>Zax (k:Int)))∧w'=w:=by
 obtain⟨A,ca,rfl,hlc,hcm,hA⟩:=hx.form;unfold maxLen at hcm;obtain⟨n,hn⟩:∃ n,ks.length=n:=⟨_,rfl⟩;have HN:=hid hn;rw[hn]at hlc hA ⊢;clear hx hn;go_enter Tryz.func57,Tryz.ntmps57;go_wp2;go_loop [7] (fun i=>∃ k:Nat,k≤n∧i=.int .i64 k∧Hid ((ks.take k).all (fun k=>Zax (k:Int))=true)) (fun i=>n-(intOf i).toNat)
 case atStart=>exact⟨0,by omega,rfl,hid (by simp)⟩
 case round =>
  obtain⟨k,hk,rfl,hall⟩:=hrel;by_cases hlt:k<n
  ·obtain⟨b,o,rfl,hs⟩:=hA (by omega);have hkl:k<ks.length:=by rw[HN.out];exact hlt
   have c1:=hs.int k (by rw[Zas];exact hkl);rw[Zok ks k hkl]at c1;have HS:=hid (Zvt ks k hkl);have HB:=hid (Zzl ks k hkl);clear hA hs hkl;generalize ks.getD k 0=p at *;have HK:=hid (Ze4 (p:Int) w);generalize Zax (p:Int)=kk at *;cases kk
   ·have Qb:=hid (HB.out rfl);go_wp2_with (go_at_call 96;refine HK.out.mono ?_;rintro e w1 ⟨rfl,hw⟩;replace hw:=hw.symm;subst hw)
    go_ret;exact⟨Zae Qb.out.symm,rfl⟩
   ·go_wp2_with (go_at_call 96;refine HK.out.mono ?_;rintro e w1 ⟨rfl,hw⟩;replace hw:=hw.symm;subst hw)
    go_round
    case rel=>exact⟨k+1,by omega,by go_num,hid (by rw[HS.out,hall.out];rfl)⟩
    case measure=>simp[intOf];omega
  ·obtain rfl:k=n:=by omega
   clear hA;go_wp2;go_ret;refine⟨Zae ?_,rfl⟩;rw[← hall.out,List.take_of_length_le (by rw[HN.out];exact Nat.le_refl _)]
set_option maxHeartbeats 1000000 in
theorem Zsz (kv gv:Value) (C G:Nat) (xs:List Nat) (w:World) (hg:GsIn w gv C G xs) (hG:G≤256) (hb:∀ x∈xs,x<256) :
  Calls Tryz.prog 84 #[.agg #[kv,gv]] w fun e w'=>e=.returned (.int .i64 (sumR C xs G:Nat))∧Below w.heap.size w w':=by
 obtain⟨A,ca,rfl⟩:=hg.form;have HG:=hid hg;have HS:=hid (Ztk (C:=C) hb);have HL:Hid (∀ g,Zap C xs g<4294967296):=hid (fun g=>Zdx hb);clear hg hb;go_enter Tryz.func84,Tryz.ntmps84;go_upto_region 1 with fail
 have hf:=Zbe (w:=w) (C:=#[kv,.slice A G ca]) (e:=101);have QO:=hid (HG.out.mono hf.2);have QD:=hid hf.1;have Qa:=hid hf.2;have hg1:=QD.out.cell 1;clear hf;generalize w.alloc (.cells #[kv,.slice A G ca] 101)=w1 at *;go_upto_region 3 with fail
 clear hg1;go_loopw [3,9] (fun s i wr=>∃ j:Nat,j≤G∧i=.int .i64 j∧s=.int .i64 (sumR C xs j:Nat)∧Hid (Below w1.heap.size w1 wr)) (fun _ i _=>G-(intOf i).toNat)
 case atStart=>exact⟨0,by omega,rfl,rfl,hid (Zab w1)⟩
 case round =>
  obtain⟨j,hj,rfl,rfl,hb⟩:=hrel;by_cases hlt:j<G
  ·obtain⟨b,o,B,c,rfl,c0,c1,hr⟩:=(QO.out.mono hb.out).at j hlt;have h1:=HS.out j;have h2:=HL.out j;have ZA:Hid (sumR C xs (j+1)=sumR C xs j+Zap C xs j):=hid rfl;generalize sumR C xs j=sm at *;generalize Zap C xs j=r at *;have Qb:=hid ((Zab wr).alloc (Nat.le_refl _) (.cells #[.int .i64 (r:Nat),.slice B C c] 106));clear hr;go_wp2_with fail
   go_roundw
   case rel=>exact⟨j+1,by omega,by go_num,by rw[ZA.out];go_num,hid (Zac hb.out Qb.out)⟩
   case measure=>simp[intOf];omega
  ·obtain rfl:j=G:=by omega
   go_wp2_with fail
   go_ret;exact⟨rfl,Zac Qa.out hb.out⟩
def Zlf (C G:Nat) (xs:List Nat) (i:Nat):Nat:=eAt C (iD C G) xs i
theorem Zwk {C G:Nat} {xs:List Nat} {g c:Nat} (hc:c<C):Zlf C G xs (g*C+c+1)=Zlf C G xs (g*C+c)+((eN C xs g c).len+(eN C xs g c).zl):=by
 unfold Zlf;rw[show g*C+c+1=(g*C+c)+1 from rfl,eAt,Zr8 hc]
set_option maxHeartbeats 2000000 in
theorem Zqc (kv gv:Value) (C G:Nat) (xs:List Nat) (ks:List Nat) (w:World) (hk:Rd w kv C 1 (i64s (nI ks))) (hg:GsIn w gv C G xs) (hC:1≤C∧C≤16) (hG:G≤256) (hb:∀ x∈xs,x<256) (hl:xs.length≤16777216) :
  Calls Tryz.prog 85 #[.agg #[kv,gv],.int .i64 xs.length] w fun e w'=>e=.returned (.bool (laid C (iD C G) xs (G*C)&&decide (eAt C (iD C G) xs (G*C)=xs.length)))∧Below w.heap.size w w':=by
 obtain⟨A,ca,rfl⟩:=hg.form;obtain⟨K,ka,rfl,_,_,_⟩:=hk.form;have HG:=hid hg;have HD:=hid (fun w2:World=>Zjy C G w2 hC.2 hG);have HP:Hid (∀ i,i≤4096→Zlf C G xs i≤66592+4096*8589934592):=hid (fun i hi=>by
  have:=Zwy (C:=C) (D:=iD C G) hb i;have h2:=Z13 hC.2 hG;unfold Zlf;omega)
 have HE:Hid (∀ g c,(eN C xs g c).off<4294967296∧(eN C xs g c).len<4294967296∧(eN C xs g c).sum<4294967296∧(eN C xs g c).zl<4294967296):=hid (fun g c=>Zym hb g c);have VU:Hid (∀ g,g<G→g*C+C≤G*C):=hid (fun g h=>by have:=Nat.mul_le_mul_right C h;rw[Nat.succ_mul]at this;exact this);have XZ:Hid (G*C≤4096):=hid (Nat.mul_le_mul hG hC.2);obtain⟨F,hF⟩:∃ F,(laid C (iD C G) xs (G*C)&&decide (eAt C (iD C G) xs (G*C)=xs.length))=F:=⟨_,rfl⟩;have HF:=hid hF;rw[hF];obtain⟨q,hq⟩:∃ q,xs.length=q:=⟨_,rfl⟩;have HQ:=hid hq;rw[hq]at hl ⊢;clear hg hk hb hF hq;go_enter Tryz.func85,Tryz.ntmps85;go_upto_region 1 with fail
 have hf:=Zbe (w:=w) (C:=#[.slice K C ka,.slice A G ca]) (e:=101);have QO:=hid (HG.out.mono hf.2);have QD:=hid hf.1;have Qa:=hid hf.2;have hg0:=QD.out.cell 0;have hg1:=QD.out.cell 1;clear hf;generalize w.alloc (.cells #[.slice K C ka,.slice A G ca] 101)=w1 at *;go_upto_region 3 with (go_at_call 66;refine(HD.out w1).mono ?_;rintro e w2 ⟨rfl,hw⟩;replace hw:=hw.symm;subst hw)
 clear hg0 hg1;have HL0:Hid (laid C (iD C G) xs 0=true):=hid (by simp[laid]);have HZ:=hid (show Zlf C G xs 0=iD C G from rfl);have Q8:=hid (fun(g c:Nat) (h1:g<G) (h2:c<C) (h3:(eN C xs g c).off≠Zlf C G xs (g*C+c))=>show F=false by
  have h4:laid C (iD C G) xs (G*C)=false:=Zx8 (i:=g*C+c) (by have:=VU.out g h1;omega) (by rw[Zr8 h2];exact h3);rw[← HF.out,h4];rfl)
 have QL:=hid (fun(g c:Nat) (h2:c<C) (h3:(eN C xs g c).off=Zlf C G xs (g*C+c)) (h4:laid C (iD C G) xs (g*C+c)=true)=>show laid C (iD C G) xs (g*C+c+1)=true by
  rw[Zq7,h4,Zr8 h2];exact decide_eq_true h3)
 have ZA:=hid (fun(g c:Nat) (h:c<C)=>Zwk (G:=G) (xs:=xs) (g:=g) h);have Jy:Hid (laid C (iD C G) xs (G*C)=true→decide (Zlf C G xs (G*C)=q)=F):=hid (fun h=>by rw[← HF.out,h,HQ.out];rfl);have HEND2:=hid (show ∀ g,(g+1)*C=g*C+C from fun g=>Nat.succ_mul g C);clear HF HD HQ;go_loopw [5,20] (fun a i wr=>∃ g:Nat,g≤G∧i=.int .i64 g∧a=.int .i64 (Zlf C G xs (g*C):Nat)∧Hid (laid C (iD C G) xs (g*C)=true)∧Hid (Below w1.heap.size w1 wr)) (fun _ i _=>G-(intOf i).toNat)
 case atStart=>exact⟨0,by omega,rfl,by rw[Nat.zero_mul,HZ.out],by rw[Nat.zero_mul];exact HL0,hid (Zab w1)⟩
 case round =>
  obtain⟨g,hg,rfl,rfl,hla,hb⟩:=hrel;by_cases hlt:g<G
  ·obtain⟨b,o,B,c,rfl,c0,c1,hr⟩:=(QO.out.mono hb.out).at g hlt;have Qb:=hid ((Zab wr).alloc (Nat.le_refl _) (.cells #[.int .i64 (Zap C xs g:Nat),.slice B C c] 106));have HR:=hid (hr.mono Qb.out);have Qe:=hid (Zac hb.out Qb.out);have hgc:=VU.out g hlt;have hgc2:=XZ.out;obtain⟨m,hm⟩:∃ m,g*C=m:=⟨_,rfl⟩;have HM:=hid hm;rw[hm]at hgc hla ⊢;clear hr Qb hm;go_upto_region 6 with fail
   clear c0 c1;generalize wr.alloc (.cells #[.int .i64 (Zap C xs g:Nat),.slice B C c] 106)=wq at *;go_loopw [5,27] (fun a i wv=>∃ k:Nat,k≤C∧i=.int .i64 k∧a=.int .i64 (Zlf C G xs (m+k):Nat)∧Hid (laid C (iD C G) xs (m+k)=true)∧Hid (Below wq.heap.size wq wv)) (fun _ i _=>C-(intOf i).toNat)
   case atStart=>exact⟨0,by omega,rfl,rfl,hla,hid (Zab wq)⟩
   case round =>
    obtain⟨k,hk,rfl,rfl,hla2,hb2⟩:=hrel;by_cases hkC:k<C
    ·obtain⟨b2,o2,rfl,hs⟩:=(HR.out.mono hb2.out).at (by omega);obtain⟨d0,d1,d2,d3⟩:=hs.en k hkC;have hen:enAt xs (gP C g+4+16*k)=eN C xs g k:=rfl;rw[hen]at d0 d1 d2 d3;have ZB:=hid (Q8.out g k hlt hkC);have YW:=hid (QL.out g k hkC);have UX:=hid (ZA.out g k hkC);rw[HM.out]at ZB YW UX;have hp:=HP.out (m+k) (by omega);have he:=HE.out g k;obtain⟨mk,hmk⟩:∃ mk,m+k=mk:=⟨_,rfl⟩;have hmk1:m+(k+1)=mk+1:=by omega
     rw[hmk]at ZB YW UX hp hla2 ⊢;have HMK:=hid hmk1;clear hs hen hmk hmk1;generalize eN C xs g k=e at *;obtain⟨eo,el,es,ez⟩:=e;simp only at d0 d1 d2 d3 ZB YW UX he;have Qz:=hid ((Zab wr).alloc (Nat.le_refl _) (.cells #[.int .i64 (eo:Nat),.int .i64 (el:Nat),.int .u32 (es:Nat),.int .i64 (ez:Nat)] 108));obtain⟨ps,hps⟩:∃ ps,Zlf C G xs mk=ps:=⟨_,rfl⟩;rw[hps]at ZB YW UX hp ⊢;clear hps;by_cases heq:eo=ps
     ·subst heq;have HY:=hid (YW.out rfl hla2.out);go_wp2_with fail
      go_roundw
      case rel=>exact⟨k+1,by omega,by go_num,by rw[HMK.out,UX.out];go_num,by rw[HMK.out];exact HY,hid (Zac hb2.out Qz.out)⟩
      case measure=>simp[intOf];omega
     ·have HN:=hid (ZB.out heq);have hne:((eo:Int) != (ps:Int))=true:=by simp;omega
      go_wp2_with fail
      go_ret;exact⟨Zae HN.out.symm,Zac (Zac (Zac Qa.out Qe.out) hb2.out) Qz.out⟩
    ·obtain rfl:k=C:=by omega
     have he2:=HEND2.out g;rw[HM.out]at he2;have HE2:=hid he2;clear he2;go_wp2_with fail
     go_roundw
     case rel=>exact⟨g+1,by omega,by go_num,by rw[HE2.out],by rw[HE2.out];exact hla2,hid (Zac Qe.out hb2.out)⟩
     case measure=>simp[intOf];omega
  ·obtain rfl:g=G:=by omega
   have HF2:=hid (Jy.out hla.out);go_wp2_with fail
   go_ret;exact⟨Zae (by rw[← HF2.out,Bool.eq_iff_iff,beq_iff_eq,decide_eq_true_eq];omega),Zac Qa.out hb.out⟩
structure InK (wr:World) (pg C:Nat) (xs:List Nat) (j:Nat) (cv:Value) (cs:List Ent) (wv:World):Prop where
 bw:Below wr.heap.size wr wv
 g:Row wv pg 33 [.int .i64 (Zap C xs j:Nat),cv]
 ck:CkN wv (pg+1) cv cs C xs j
 all:∀ c,c<cs.length→Ze9 C xs j c=true
 h1:wr.heap.size≤pg
 h2:pg<wv.heap.size
theorem InK.mono {wr wv wq:World} {pg C:Nat} {xs:List Nat} {j:Nat} {cv:Value} {cs:List Ent} (h:InK wr pg C xs j cv cs wv) (hb:Below wv.heap.size wv wq):InK wr pg C xs j cv cs wq :=
 ⟨Zac h.bw hb,h.g.mono hb,h.ck.below (T:=0) hb,h.all,h.h1,Nat.lt_of_lt_of_le h.h2 hb.size⟩
theorem InK.chunk {wr wv w1 w3:World} {pg C:Nat} {xs:List Nat} {j:Nat} {cv v' bv:Value} {cs:List Ent} (h:InK wr pg C xs j cv cs wv) (hb:Below wv.heap.size wv w1) (hok:Ze9 C xs j cs.length=true)
  (hbv:w1.ownsRow wv.heap.size 73 1 bv (Zfq C xs j cs.length).length (u64s (Zfq C xs j cs.length)))
  (ho:w3.ownsRow (pg+1) 41 15 v' (cs.length+1) (entV cs++(ckX C xs j cs.length++[bv]))) (h3:Below (pg+1) w1 w3) (hs:w1.heap.size≤w3.heap.size) (hk:Kp cv w1 w3 v') :
  InK wr pg C xs j v' (cs++[(ckX C xs j cs.length,bv)]) (w3.setCell ⟨pg,1,none⟩ v'):=by
 have e1:=h.h1;have e2:=h.h2;have hm:=h.mono hb;have hg3:Row w3 pg 33 [.int .i64 (Zap C xs j:Nat),cv]:=hm.g.below h3 (by omega);have hcn:CkN w3 (pg+1) v' (cs++[(ckX C xs j cs.length,bv)]) C xs j:=h.ck.push hb (by omega) hbv ho hk;refine⟨Zad (hm.bw.trans (h3.mono (by omega))) _ _ _ e1,hg3.set 1 v',?_,fun c hc=>?_,e1,by have:=hg3.lt;simp;omega⟩
 ·exact hcn.keep (fun k hk=>heap_setCell_other _ _ _ _ (by simpa using Zc5 hcn.n.own hg3 (by decide) k hk)) (fun i hi k hk=>heap_setCell_other _ _ _ _ (by simpa using Zc5 (hcn.n.inn i hi) hg3 (by decide) k hk))
 ·by_cases hc2:c<cs.length
  ·exact h.all c hc2
  ·have:c=cs.length:=by simp at hc;omega
   rw[this];exact hok
structure LkS (wd:World) (pd pim C:Nat) (xs:List Nat) (kv gd gv:Value) (es:List Ent) (ces:Nat→List Ent) (lo:Nat→Nat) (wr:World):Prop where
 bd:Below wd.heap.size wd wr
 dir:Row wr pd 101 [kv,gd]
 im:Row wr pim 26 [kv,gv]
 gs:Gr wr (pim+1) gv es ces lo C xs
 all:∀ g,g<es.length→∀ c,c<C→Ze9 C xs g c=true
 h1:wd.heap.size≤pd
 h2:pd<pim
 h3:pim<wr.heap.size
theorem LkS.mono {wd wr wq:World} {pd pim C:Nat} {xs:List Nat} {kv gd gv:Value} {es:List Ent} {ces:Nat→List Ent} {lo:Nat→Nat} (h:LkS wd pd pim C xs kv gd gv es ces lo wr) (hb:Below wr.heap.size wr wq):LkS wd pd pim C xs kv gd gv es ces lo wq :=
 ⟨Zac h.bd hb,h.dir.mono hb,h.im.mono hb,h.gs.mono hb,h.all,h.h1,h.h2,Nat.lt_of_lt_of_le h.h3 hb.size⟩
theorem LkS.inner {wd wr:World} {pd pim C:Nat} {xs:List Nat} {kv gd gv:Value} {es:List Ent} {ces:Nat→List Ent} {lo:Nat→Nat} (h:LkS wd pd pim C xs kv gd gv es ces lo wr) (a b:Value) :
  InK wr (wr.heap.size+1) C xs es.length (.slice none 0 0) [] ((wr.alloc (.cells #[a,b] 106)).alloc (.cells #[.int .i64 (Zap C xs es.length:Nat),.slice none 0 0] 33)):=by
 have hf:=Zij (u:=wr) (X:=#[a,b]) (Y:=#[.int .i64 (Zap C xs es.length:Nat),.slice none 0 0]) (eX:=106) (eY:=33);exact⟨hf.2.2,hf.2.1,CkN.nil _ _ _ _ _,fun c hc=>(by cases hc),by omega,by simp⟩
theorem LkS.group {wd wr wv w3:World} {pd pim pg C:Nat} {xs:List Nat} {kv gd gv v' cv:Value} {es cs:List Ent} {ces:Nat→List Ent} {lo:Nat→Nat} (h:LkS wd pd pim C xs kv gd gv es ces lo wr)
  (hi:InK wr pg C xs es.length cv cs wv) (hl:cs.length=C)
  (ho:w3.ownsRow (pim+1) 33 2 v' (es.length+1) (entV es++([Value.int .i64 (Zap C xs es.length:Nat)]++[cv]))) (hb:Below (pim+1) wv w3) (hs:wv.heap.size≤w3.heap.size) (hk:Kp gv wv w3 v') :
  ∃ es2 ces2 lo2,es2.length=es.length+1∧LkS wd pd pim C xs kv gd v' es2 ces2 lo2 (w3.setCell ⟨pim,1,none⟩ v'):=by
 have h1:=h.h1;have h2:=h.h2;have h3:=h.h3;have e1:=hi.h1;have e2:=hi.h2;have e5:=hi.bw.size;have hv:=h.mono hi.bw;have hlo:lo es.length≤pg+1:=by have:=h.gs.top;omega
 have hp:=hv.gs.push (hi.ck.weak hlo) hl ho hk hs;have im3:=hv.im.below hb (by omega);have dir3:=hv.dir.below hb (by omega);refine⟨_,_,_,by simp,⟨Zad (hv.bd.trans (hb.mono (by omega))) _ _ _ (by omega),Zam dir3 (by omega),im3.set 1 v',hp.under (fun k h3 h4=>heap_setCell_other _ _ _ _ (by simp;omega)) (by simp),?_,h1,h2,?_⟩⟩
 ·intro g hg c hc;by_cases hgl:g<es.length
  ·exact h.all g hgl c hc
  ·have:g=es.length:=by simp at hg;omega
   rw[this];exact hi.all c (by omega)
 ·have:=im3.lt;simp;omega
set_option maxRecDepth 100000
def setZ (w:World) (g:Nat) (b0 b1 b2 b3 b4 b5 b6 b7 b8 b9:Value):World:=((((((((((w.setCell ⟨g,5,none⟩ b0).setCell ⟨g,6,none⟩ b1).setCell ⟨g,7,none⟩ b2).setCell ⟨g,8,none⟩ b3).setCell ⟨g,9,none⟩ b4).setCell ⟨g,10,none⟩ b5).setCell ⟨g,11,none⟩ b6).setCell ⟨g,12,none⟩ b7).setCell ⟨g,13,none⟩ b8).setCell ⟨g,14,none⟩ b9)
theorem Zue {w:World} {g:Nat} {e:TypeId} {a0 a1 a2 a3 a4 a5 a6 a7 a8 a9 a10 a11 a12 a13 a14:Value} (h:Row w g e [a0,a1,a2,a3,a4,a5,a6,a7,a8,a9,a10,a11,a12,a13,a14]) (b0 b1 b2 b3 b4 b5 b6 b7 b8 b9:Value):Row (setZ w g b0 b1 b2 b3 b4 b5 b6 b7 b8 b9) g e [a0,a1,a2,a3,a4,b0,b1,b2,b3,b4,b5,b6,b7,b8,b9]:=((((((((((h.set 5 b0).set 6 b1).set 7 b2).set 8 b3).set 9 b4).set 10 b5).set 11 b6).set 12 b7).set 13 b8).set 14 b9)
theorem Zug (w:World) (g:Nat) (b0 b1 b2 b3 b4 b5 b6 b7 b8 b9:Value):Chg g g w (setZ w g b0 b1 b2 b3 b4 b5 b6 b7 b8 b9):=(((((((((((Chg.refl g g w).setCell g 5 b0 (.inl rfl)).setCell g 6 b1 (.inl rfl)).setCell g 7 b2 (.inl rfl)).setCell g 8 b3 (.inl rfl)).setCell g 9 b4 (.inl rfl)).setCell g 10 b5 (.inl rfl)).setCell g 11 b6 (.inl rfl)).setCell g 12 b7 (.inl rfl)).setCell g 13 b8 (.inl rfl)).setCell g 14 b9 (.inl rfl))
theorem Zir.false_of {kd rows:Nat} {xs:List Nat} {en:En} {w w':World} (h:Zh9 kd rows xs en=false) (hb:Below w.heap.size w w'):Zir kd rows xs en w (.returned (.tuple #[Zig,.bool false])) w':=⟨hb,.inr ⟨h,rfl⟩⟩
end Go.Proofs.YtmcjknjlihgihaaGreatDoor
