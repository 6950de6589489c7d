/- Package chunk: offsets and whole payloads of integers off the reader. -/
import Derived.Test.YtmcjknjlihgihaaGreatDoorLawfreshlistsuptoM10
set_option linter.unusedVariables false
set_option linter.unusedSimpArgs false
set_option linter.unnecessarySimpa false
set_option maxRecDepth 100000
namespace Go.Proofs.YtmcjknjlihgihaaGreatDoor
open Go.RowKit
theorem Zig {w:World} {B C:Nat} {e:TypeId} {v:Value} {n:Nat} {cs:List Value} (h:w.ownsRow B e 1 v n cs) (hC:C≤B):w.ownsRow C e 1 v n cs:=by
 refine⟨h.1,?_⟩;rcases h.2 with hn | ⟨g,cap,cur,rfl,hb',hg,r⟩
 ·exact .inl hn
 ·exact .inr ⟨g,cap,cur,rfl,Nat.le_trans hC hb',hg,r⟩
def Zbm (wd:Int) (k:Nat) (xs:List Nat) (s:Bool):Out_S :=
 if 256<L.wordOf 8 (tk 4 xs)∨wd≠(Zgf (L.wordOf 8 (tk 4 xs)):Int)then { b:=false,left:=tkL 4 xs,short:=tkS 4 xs s,list:=[],ends:=[],lanes:=[] }
 else match rdS (L.wordOf 8 (tk 4 xs)) (tkL 4 xs) (tkS 4 xs s)with
  | (vals,ok,xl,s1) =>
   if (ok&&Zbb geS vals)=true then { b:=Zcj wd k 6 (Za6 xl) (L.wordOf 8 (tk 4 xs)),left:=tkL (8*(xl.length/8)) xl,short:=tkS (8*(xl.length/8)) xl s1,list:=vals,ends:=[],lanes:=Za6 xl }
   else { b:=false,left:=xl,short:=s1,list:=vals,ends:=[],lanes:=[] }
set_option maxHeartbeats 8000000 in
theorem Zu1 (w0 w:World) (g gr:Nat) (xs:List Nat) (s:Bool) (rows codec wd:Int) (k:Nat) (nulls bef:Value) (base:Int) (hT:Tab w0)
  (hc:Row w g 198 (ck_S rows codec wd nulls k nilS nilS base nilS Zbz bef)) (hr:Zap w0 w gr xs s) (hne:g≠gr) (hg0:w0.heap.size≤g) (hgs:gr<w.heap.size)
  (hv:∀ x∈xs,x<256) (hl:xs.length≤16777216) (hk:k≤65536) :
  Calls Tryz.prog 191 #[.pointer (some ⟨g,0,none⟩),.pointer (some ⟨gr,0,none⟩)] w fun e w' =>
   e=.returned (.bool (Zbm wd k xs s).b)∧OutAt_S w0 w w' w.heap.size g gr rows codec wd k nulls Zbz bef base (Zbm wd k xs s):=by
 have hU:=Zfa w0 w gr xs s hr hv hl;have hd32:L.wordOf 8 (tk 4 xs)<4294967296:=Zb2 _ (Zc8 hv) (Zib 4 xs);obtain⟨d,hd⟩:∃ d,L.wordOf 8 (tk 4 xs)=d:=⟨_,rfl⟩;obtain⟨xs1,hx1⟩:∃ xs1,tkL 4 xs=xs1:=⟨_,rfl⟩;obtain⟨s1,hs1⟩:∃ s1,tkS 4 xs s=s1:=⟨_,rfl⟩;have hxl1:xs1.length≤16777216:=by rw[← hx1];exact Nat.le_trans (Zbn _ _) hl
 have hxv1:∀ x∈xs1,x<256:=by rw[← hx1];exact Zas hv
 obtain⟨O,hO⟩:∃ O,Zbm wd k xs s=O:=⟨_,rfl⟩;have HO:=hid hO;unfold Zbm at HO;rw[hd,hx1,hs1]at HO;rw[hd,hx1,hs1]at hU;rw[hd]at hd32;rw[hO];have HU:=hid hU;have HC:=hid hc;have HT:=hid hT;have hgw:g<w.heap.size:=hc.lt;have d2:w.cell? ⟨g,2,none⟩=some (.int .i64 wd):=by rw[hc.cell];rfl
 clear hU hc hr hT hd hx1 hs1 hO hv hl;obtain⟨B,hB⟩:∃ B,w.heap.size=B:=⟨_,rfl⟩;have HB:=hid hB;rw[hB];clear hB;have hm:=Zg1;go_enter Tryz.func191,Tryz.ntmps191;go_upto_region 2 with (first | (go_at_call 81;refine HU.out.mono ?_;rintro e w1 ⟨rfl,ha1,hc1⟩;have JG:=hid ha1;have QF:=hid (Chg.wide' (a:=g) hc1);have QH:=hid (hc1.row HC.out hne hne);clear ha1 hc1))
 have e2:w1.cell? ⟨g,2,none⟩=some (.int .i64 wd):=by rw[QH.out.cell];rfl
 have hgr1:gr<w1.heap.size:=Nat.lt_of_lt_of_le hgs QF.out.size;have hgB:g<B:=by have:=HB.out;omega
 have hB1:B≤w1.heap.size:=by have:=HB.out;have:=QF.out.size;omega
 have Qb:Hid (∀ n,OutAt_S w0 w (w1.drewN n) B g gr rows codec wd k nulls Zbz bef base { b:=false,left:=xs1,short:=s1,list:=[],ends:=[],lanes:=[] }):=hid (fun n =>
  ⟨⟨_,_,_,QH.out.drewN n,World.ownsRow_nil _ _ _ _,World.ownsRow_nil _ _ _ _,World.ownsRow_nil _ _ _ _⟩,JG.out.mono (Zag (Zab w1) n),QF.out.drewN n⟩)
 clear HU HC d2;by_cases hbig:256<d
 ·have hO:O={ b:=false,left:=xs1,short:=s1,list:=[],ends:=[],lanes:=[] }:=by rw[← HO.out,if_pos (.inl hbig)]
  subst hO;have hb1:(d:Int) > 256:=by omega
  go_wp2_with fail
  go_quiet (fail)
  go_wp2_with fail
  go_ret;exact⟨rfl,Qb.out _⟩
 ·have hb1:¬ (d:Int) > 256:=by omega
  obtain⟨nd,hnd⟩:∃ nd,Zgf d=nd:=⟨_,rfl⟩;have HN:=hid (fun w2:World=>Ztv d w2 (by omega));rw[hnd]at HN HO;clear hnd;by_cases hw:wd=(nd:Int)
  ·have hw1:(wd != (nd:Int))=false:=by rw[hw];simp
   have hO2:=HO.out;rw[if_neg (fun h=>h.elim (fun h=>hbig h) (fun h=>h hw))]at hO2;obtain⟨vals,ok,xl,s2,hR⟩:∃ vals ok xl s2,rdS d xs1 s1=(vals,ok,xl,s2):=⟨_,_,_,_,rfl⟩;rw[hR]at hO2;simp only at hO2;have hxl:xl.length≤16777216:=by have:=(Zep d xs1 s1).1;rw[hR]at this;exact Nat.le_trans this hxl1
   have hxv:∀ x∈xl,x<256:=by have:=(Zep d xs1 s1).2 256 hxv1;rw[hR]at this;exact this
   have hvl:vals.length≤16777216:=by have:=Ziu d xs1 s1 hxl1;rw[hR]at this;exact this
   have Yb:=hid hO2;have QW:=hid (fun(w2:World) (h:Zap w0 w2 gr xs1 s1) (h2:gr<w2.heap.size)=>Zgc w0 w2 gr xs1 s1 d h h2 hxv1 hxl1 (by omega));rw[hR]at QW;have HHW:=hid hw;clear hO2 hR hw HO Qb;go_wp2_with fail
   go_quiet (first | (go_at_call 215;refine Calls.quiet_of_same (HN.out _)))
   have Uk:=hid (JG.out.mono (Zag (Zab w1) nq));have J4:=hid (QF.out.drewN nq);have Qp:=hid (QH.out.drewN nq);have hgr2:gr<(w1.drewN nq).heap.size:=hgr1;have hB2:B≤(w1.drewN nq).heap.size:=hB1;clear JG QF QH e2 HN;generalize w1.drewN nq=w2 at *;have d9:w2.cell? ⟨g,0+9,none⟩=some (.iface 157 (.agg #[])):=by rw[Qp.out.cell];rfl
   go_wp2_with fail
   refine(QW.out w2 Uk.out hgr2).mono ?_;rintro e w3 ⟨v3,rfl,ho3,ha3,hc3⟩;obtain⟨A3,c3,rfl,hcc3,_,_,_⟩:=Zaj ho3;have Y0:=hid (Zig ho3 hB2);have Yt:=hid ha3;have QN:=hid (J4.out.trans (Chg.wide' (a:=g) hc3));have Qo:=hid (hc3.row Qp.out hne hne);have e5:w3.cell? ⟨g,0+5,none⟩=some nilS:=by rw[Qo.out.cell];rfl
   have f5:=Qo.out.frozen (0+5);have hgr3:gr<w3.heap.size:=Nat.lt_of_lt_of_le hgs QN.out.size;have hch4:=(Chg.refl g g w3).setCell g 5 (.slice A3 vals.length c3) (.inl rfl);have Yu:Hid (Row (w3.setCell ⟨g,5,none⟩ (.slice A3 vals.length c3)) g 198 (ck_S rows codec wd nulls k (.slice A3 vals.length c3) nilS base nilS Zbz bef)):=hid (Qo.out.set 5 _);have YY:=hid (Zb4 Y0.out hch4 hgB hgB);have YQ:=hid (Yt.out.chg hch4 (Ne.symm hne) (Ne.symm hne) hg0 hg0);have Yg:=hid (QN.out.setCell g 5 (.slice A3 vals.length c3) (.inl rfl));have hgr4:gr<(w3.setCell ⟨g,5,none⟩ (.slice A3 vals.length c3)).heap.size:=Nat.lt_of_lt_of_le hgr3 hch4.size;have hB4:B≤(w3.setCell ⟨g,5,none⟩ (.slice A3 vals.length c3)).heap.size:=Nat.le_trans hB2 (Nat.le_trans hc3.size hch4.size);clear ho3 ha3 hc3 hcc3 Uk J4 Qp d9 QW Y0 Yt QN Qo hch4 hm hgr2 hgr3 hB2;go_upto_region 6 with fail
   clear e5 f5;generalize w3.setCell ⟨g,5,none⟩ (.slice A3 vals.length c3)=w4 at *;have Jb:=hid (Zmn _ vals w4 (Zba YY.out) (by unfold maxLen;omega));have Yr:=hid (fun n:Nat=>Zr5 w0 (w4.drewN n) g gr xl s2 rows codec wd k nulls (.slice A3 vals.length c3) nilS nilS Zbz bef base 6 d HT.out (Yu.out.drewN n) (YQ.out.mono (Zag (Zab w4) n)) hne hg0 hgr4 hxv hxl (by omega));have Y8:=hid (fun n:Nat=>(⟨⟨_,_,_,Yu.out.drewN n,Zbt YY.out (Zag (Zab w4) n),World.ownsRow_nil _ _ _ _,World.ownsRow_nil _ _ _ _⟩,YQ.out.mono (Zag (Zab w4) n),Yg.out.drewN n⟩:OutAt_S w0 w (w4.drewN n) B g gr rows codec wd k nulls Zbz bef base { b:=false,left:=xl,short:=s2,list:=vals,ends:=[],lanes:=[] }));obtain⟨asc,hasc⟩:∃ asc,Zbb geS vals=asc:=⟨_,rfl⟩;rw[hasc]at Jb Yb;clear hasc;cases ok
   case' false =>
    have hO:=Yb.out;rw[if_neg (by simp)]at hO;subst hO;go_wp2_with fail
    go_ret;exact⟨rfl,Y8.out 0⟩
   cases asc
   case' false =>
    have hO:=Yb.out;rw[if_neg (by simp)]at hO;subst hO;go_wp2_with (go_at_call 225;refine Jb.out.mono ?_;rintro e w5 ⟨rfl,n5,rfl⟩)
    go_ret;exact⟨rfl,Y8.out _⟩
   case' true =>
    have hO:=Yb.out;rw[if_pos (by rfl)]at hO;obtain⟨lb,hlb⟩:∃ lb,Zcj wd k 6 (Za6 xl) d=lb:=⟨_,rfl⟩;rw[hlb]at Yr hO;clear Y8 Yb hlb;subst hO;go_wp2_with (first
     | (go_at_call 225;refine Jb.out.mono ?_;rintro e w5 ⟨rfl,n5,rfl⟩)
     | (go_at_call 226;refine(Yr.out n5).mono ?_;rintro e w6 ⟨rfl,v6,hr6,ho6,ha6,hc6⟩;have Vb:=hid hr6;have Zf:=hid (Zig ho6 hB4);have Ul:=hid ha6;have Vm:=hid hc6;have Xc:=hid (Zb4 (Zbt YY.out (Zag (Zab w4) n5)) hc6 hgB (by have:=HB.out;omega));clear hr6 ho6 ha6 hc6))
    go_ret;exact⟨rfl,⟨_,_,_,Vb.out,Xc.out,World.ownsRow_nil _ _ _ _,Zf.out⟩,Ul.out,(Yg.out.drewN n5).trans Vm.out⟩
  ·have hO:O={ b:=false,left:=xs1,short:=s1,list:=[],ends:=[],lanes:=[] }:=by rw[← HO.out,if_pos (.inr hw)]
   subst hO;have hw1:(wd != (nd:Int))=true:=by rw[bne_iff_ne];exact hw
   go_wp2_with fail
   go_quiet (first | (go_at_call 215;refine Calls.quiet_of_same (HN.out _)))
   go_wp2_with fail
   go_ret;exact⟨rfl,Qb.out _⟩
def Zbh (wd:Int) (k:Nat) (xs:List Nat) (s:Bool):Out_S :=
 if wd≠0∨Zax (nI (numL 4 (tk (4*L.wordOf 8 (tk 4 xs)) (tkL 4 xs)))) k=false then
  { b:=false,left:=tkL (4*L.wordOf 8 (tk 4 xs)) (tkL 4 xs),short:=tkS (4*L.wordOf 8 (tk 4 xs)) (tkL 4 xs) (tkS 4 xs s),list:=[],ends:=numL 4 (tk (4*L.wordOf 8 (tk 4 xs)) (tkL 4 xs)),lanes:=[] }
 else match rdS (L.wordOf 8 (tk 4 xs)) (tkL (4*L.wordOf 8 (tk 4 xs)) (tkL 4 xs)) (tkS (4*L.wordOf 8 (tk 4 xs)) (tkL 4 xs) (tkS 4 xs s))with
  | (vals,ok,xl,s3)=>{ b:=ok&&Zbb eqS vals,left:=xl,short:=s3,list:=vals,ends:=numL 4 (tk (4*L.wordOf 8 (tk 4 xs)) (tkL 4 xs)),lanes:=[] }
set_option maxHeartbeats 8000000 in
theorem Zuk (w0 w:World) (g gr:Nat) (xs:List Nat) (s:Bool) (rows codec wd:Int) (k:Nat) (nulls bef:Value) (base:Int)
  (hc:Row w g 198 (ck_S rows codec wd nulls k nilS nilS base nilS Zbz bef)) (hr:Zap w0 w gr xs s) (hne:g≠gr) (hg0:w0.heap.size≤g) (hgs:gr<w.heap.size)
  (hv:∀ x∈xs,x<256) (hl:xs.length≤16777216) (hk:k≤65536) :
  Calls Tryz.prog 192 #[.pointer (some ⟨g,0,none⟩),.pointer (some ⟨gr,0,none⟩)] w fun e w' =>
   e=.returned (.bool (Zbh wd k xs s).b)∧OutAt_S w0 w w' w.heap.size g gr rows codec wd k nulls Zbz bef base (Zbh wd k xs s):=by
 have hU:=Zfa w0 w gr xs s hr hv hl;have hd32:L.wordOf 8 (tk 4 xs)<4294967296:=Zb2 _ (Zc8 hv) (Zib 4 xs);obtain⟨O,hO⟩:∃ O,Zbh wd k xs s=O:=⟨_,rfl⟩;have HO:=hid hO;unfold Zbh at HO;rw[hO];clear hO;obtain⟨d,hd⟩:∃ d,L.wordOf 8 (tk 4 xs)=d:=⟨_,rfl⟩;obtain⟨xs1,hx1⟩:∃ xs1,tkL 4 xs=xs1:=⟨_,rfl⟩;obtain⟨s1,hs1⟩:∃ s1,tkS 4 xs s=s1:=⟨_,rfl⟩;have hxl1:xs1.length≤16777216:=by rw[← hx1];exact Nat.le_trans (Zbn _ _) hl
 have hxv1:∀ x∈xs1,x<256:=by rw[← hx1];exact Zas hv
 rw[hd,hx1,hs1]at hU HO;rw[hd]at hd32;obtain⟨es,hes⟩:∃ es,numL 4 (tk (4*d) xs1)=es:=⟨_,rfl⟩;obtain⟨xs2,hx2⟩:∃ xs2,tkL (4*d) xs1=xs2:=⟨_,rfl⟩;obtain⟨s2,hs2⟩:∃ s2,tkS (4*d) xs1 s1=s2:=⟨_,rfl⟩;have hxl2:xs2.length≤16777216:=by rw[← hx2];exact Nat.le_trans (Zbn _ _) hxl1
 have hxv2:∀ x∈xs2,x<256:=by rw[← hx2];exact Zas hxv1
 have hel:es.length≤16777216:=by
  rw[← hes,Zal];unfold tk;split
  ·rw[List.length_take];omega
  ·simp
 rw[hes,hx2,hs2]at HO;have Xd:=hid (fun(w2:World) (h2:Zap w0 w2 gr xs1 s1) (hg2:gr<w2.heap.size)=>Znr w0 w2 gr xs1 s1 d h2 hg2 hxv1 hxl1 (by omega));rw[hes,hx2,hs2]at Xd;have HU:=hid hU;have HC:=hid hc;have hgw:g<w.heap.size:=hc.lt;clear hU hc hr hd hx1 hs1 hes hx2 hs2 hv hl;obtain⟨B,hB⟩:∃ B,w.heap.size=B:=⟨_,rfl⟩;have HB:=hid hB;rw[hB];clear hB;have hm:=Zg1;have hgB:g<B:=by have:=HB.out;omega
 have hrB:gr<B:=by have:=HB.out;omega
 go_enter Tryz.func192,Tryz.ntmps192;go_upto_region 2 with (first | (go_at_call 81;refine HU.out.mono ?_;rintro e w1 ⟨rfl,ha1,hc1⟩;have JG:=hid ha1;have QF:=hid (Chg.wide' (a:=g) hc1);have QH:=hid (hc1.row HC.out hne hne);clear ha1 hc1))
 have hgr1:gr<w1.heap.size:=Nat.lt_of_lt_of_le hgs QF.out.size;have hB1:B≤w1.heap.size:=by have:=HB.out;have:=QF.out.size;omega
 clear HU HC;go_wp2_with fail
 refine(Xd.out w1 JG.out hgr1).mono ?_;rintro e w2 ⟨p,hp,rfl,hrow2,ha2,hc2⟩;have hpB:B≤p:=Nat.le_trans hB1 hp;have hpg:p≠g:=by omega
 have hpr:p≠gr:=by omega
 have Qp:=hid (hc2.row QH.out hne hne);have e6:w2.cell? ⟨g,0+6,none⟩=some nilS:=by rw[Qp.out.cell];rfl
 have f6:=Qp.out.frozen (0+6);have hch:=(Chg.refl g g w2).setCell g 6 (.slice (some ⟨p,0,none⟩) es.length es.length) (.inl rfl);have Qo:Hid (Row (w2.setCell ⟨g,6,none⟩ (.slice (some ⟨p,0,none⟩) es.length es.length)) g 198 (ck_S rows codec wd nulls k nilS (.slice (some ⟨p,0,none⟩) es.length es.length) base nilS Zbz bef)):=hid (Qp.out.set 6 _);have Qf:=hid (hch.row hrow2 hpg hpg);have Yt:=hid (ha2.chg hch (Ne.symm hne) (Ne.symm hne) hg0 hg0);have QN:=hid ((QF.out.trans (Chg.wide' (a:=g) hc2)).setCell g 6 (.slice (some ⟨p,0,none⟩) es.length es.length) (.inl rfl));have hgr3:gr<(w2.setCell ⟨g,6,none⟩ (.slice (some ⟨p,0,none⟩) es.length es.length)).heap.size:=Nat.lt_of_lt_of_le hgs QN.out.size;have hB3:B≤(w2.setCell ⟨g,6,none⟩ (.slice (some ⟨p,0,none⟩) es.length es.length)).heap.size:=Nat.le_trans hB1 (Nat.le_trans hc2.size hch.size);clear hrow2 ha2 hc2 JG QF QH Qp hch hgr1 hB1 Xd hp;go_upto_region 3 with fail
 clear e6 f6;generalize w2.setCell ⟨g,6,none⟩ (.slice (some ⟨p,0,none⟩) es.length es.length)=w3 at *;have JH:=hid (Qf.out.owns (B:=B) (n:=es.length) hpB (by simp[i64s,nI]) (by unfold maxLen;omega));have Qb:Hid (∀ n,OutAt_S w0 w (w3.drewN n) B g gr rows codec wd k nulls Zbz bef base { b:=false,left:=xs2,short:=s2,list:=[],ends:=es,lanes:=[] }):=hid (fun n =>
  ⟨⟨_,_,_,Qo.out.drewN n,World.ownsRow_nil _ _ _ _,Zbt JH.out (Zag (Zab w3) n),World.ownsRow_nil _ _ _ _⟩,Yt.out.mono (Zag (Zab w3) n),QN.out.drewN n⟩)
 have e2:w3.cell? ⟨g,2,none⟩=some (.int .i64 wd):=by rw[Qo.out.cell];rfl
 have e4:w3.cell? ⟨g,4,none⟩=some (.int .i64 k):=by rw[Qo.out.cell];rfl
 have e6:w3.cell? ⟨g,6,none⟩=some (.slice (some ⟨p,0,none⟩) es.length es.length):=by rw[Qo.out.cell];rfl
 have Ym:=hid (fun nd:Nat=>Zhr (.slice (some ⟨p,0,none⟩) es.length es.length) (nI es) k (w3.drewN nd) (by rw[Zaq];exact((Qf.out.drewN nd).rd' (n:=es.length) (by simp[i64s,nI]) (by unfold maxLen;omega))) (by rw[Zaq];unfold maxLen;omega));obtain⟨re,hre⟩:∃ re,Zax (nI es) k=re:=⟨_,rfl⟩;rw[hre]at Ym HO;clear hre;by_cases hw:wd=0
 case neg =>
  have hO:O={ b:=false,left:=xs2,short:=s2,list:=[],ends:=es,lanes:=[] }:=by rw[← HO.out,if_pos (.inl hw)]
  subst hO;have hw1:(wd != 0)=true:=by rw[bne_iff_ne];exact hw
  go_wp2_with fail
  go_quiet (fail)
  go_wp2_with fail
  go_ret;exact⟨rfl,Qb.out _⟩
 case pos =>
  have hw1:(wd != 0)=false:=by rw[hw];rfl
  cases re
  case false =>
   have hO:O={ b:=false,left:=xs2,short:=s2,list:=[],ends:=es,lanes:=[] }:=by rw[← HO.out,if_pos (.inr rfl)]
   subst hO;clear hw;go_wp2_with fail
   go_quiet (first | (go_at_call 228;refine Calls.quiet_of_same (Ym.out _)))
   go_wp2_with fail
   go_ret;exact⟨rfl,Qb.out _⟩
  case true =>
   have hO2:=HO.out;rw[if_neg (fun h=>h.elim (fun h=>h hw) (fun h=>by cases h))]at hO2;obtain⟨vals,ok,xl,s4,hR⟩:∃ vals ok xl s4,rdS d xs2 s2=(vals,ok,xl,s4):=⟨_,_,_,_,rfl⟩;rw[hR]at hO2;simp only at hO2;have hvl:vals.length≤16777216:=by have:=Ziu d xs2 s2 hxl2;rw[hR]at this;exact this
   have Yb:=hid hO2;have QW:=hid (fun(w2:World) (h:Zap w0 w2 gr xs2 s2) (h2:gr<w2.heap.size)=>Zgc w0 w2 gr xs2 s2 d h h2 hxv2 hxl2 (by omega));rw[hR]at QW;clear hO2 hR hw HO Qb;go_wp2_with fail
   go_quiet (first | (go_at_call 228;refine Calls.quiet_of_same (Ym.out _)))
   have YQ:=hid (Yt.out.mono (Zag (Zab w3) nq));have Yg:=hid (QN.out.drewN nq);have Yu:=hid (Qo.out.drewN nq);have Um:=hid (Zbt JH.out (Zag (Zab w3) nq));have hgr4:gr<(w3.drewN nq).heap.size:=hgr3;have hB4:B≤(w3.drewN nq).heap.size:=hB3;clear Yt QN Qo JH Qf e2 e4 e6 Ym hgr3 hB3;generalize w3.drewN nq=w4 at *;have d9:w4.cell? ⟨g,0+9,none⟩=some (.iface 157 (.agg #[])):=by rw[Yu.out.cell];rfl
   go_wp2_with fail
   refine(QW.out w4 YQ.out hgr4).mono ?_;rintro e w5 ⟨v3,rfl,ho3,ha3,hc3⟩;obtain⟨A3,c3,rfl,hcc3,_,_,_⟩:=Zaj ho3;have Y8:=hid (Zig ho3 hB4);have Vn:=hid ha3;have ZK:=hid (Yg.out.trans (Chg.wide' (a:=g) hc3));have Zg:=hid (hc3.row Yu.out hne hne);have Un:=hid (Zb4 Um.out hc3 hrB hrB);have e5:w5.cell? ⟨g,0+5,none⟩=some nilS:=by rw[Zg.out.cell];rfl
   have f5:=Zg.out.frozen (0+5);have hch6:=(Chg.refl g g w5).setCell g 5 (.slice A3 vals.length c3) (.inl rfl);have Xe:Hid (Row (w5.setCell ⟨g,5,none⟩ (.slice A3 vals.length c3)) g 198 (ck_S rows codec wd nulls k (.slice A3 vals.length c3) (.slice (some ⟨p,0,none⟩) es.length es.length) base nilS Zbz bef)):=hid (Zg.out.set 5 _);have Zf:=hid (Zb4 Y8.out hch6 hgB hgB);have Xf:=hid (Zb4 Un.out hch6 hgB hgB);have Ul:=hid (Vn.out.chg hch6 (Ne.symm hne) (Ne.symm hne) hg0 hg0);have Vm:=hid (ZK.out.setCell g 5 (.slice A3 vals.length c3) (.inl rfl));clear ho3 ha3 hc3 hcc3 YQ Yg Yu Um d9 QW Y8 Vn ZK Zg Un hch6 hm hgr4 hB4;go_upto_region 7 with fail
   clear e5 f5;generalize w5.setCell ⟨g,5,none⟩ (.slice A3 vals.length c3)=w6 at *;have HDF:=hid (Zq7 _ vals w6 (Zba Zf.out) (by unfold maxLen;omega));have Z4:=hid (fun(n:Nat) (b:Bool)=>(⟨⟨_,_,_,Xe.out.drewN n,Zbt Zf.out (Zag (Zab w6) n),Zbt Xf.out (Zag (Zab w6) n),World.ownsRow_nil _ _ _ _⟩,Ul.out.mono (Zag (Zab w6) n),Vm.out.drewN n⟩:OutAt_S w0 w (w6.drewN n) B g gr rows codec wd k nulls Zbz bef base { b:=b,left:=xl,short:=s4,list:=vals,ends:=es,lanes:=[] }));obtain⟨df,hdf⟩:∃ df,Zbb eqS vals=df:=⟨_,rfl⟩;rw[hdf]at HDF Yb;clear hdf;have hO:=Yb.out;subst hO;clear Yb;cases ok
   case' false =>
    go_wp2_with fail
    go_ret;exact⟨rfl,Z4.out 0 _⟩
   case' true =>
    go_wp2_with (go_at_call 229;refine HDF.out.mono ?_;rintro e w7 ⟨rfl,n7,rfl⟩)
    go_ret;exact⟨rfl,Z4.out _ _⟩
def Zbq (codec:Nat) (wd:Int) (k:Nat) (xs:List Nat) (s:Bool):Out_S :=
 if codec=1 then Zbk wd k xs s else if codec=2 then Zbm wd k xs s else Zbh wd k xs s
set_option maxHeartbeats 8000000 in
theorem Zou (w0 w:World) (g gr:Nat) (xs:List Nat) (s:Bool) (rows wd:Int) (codec k:Nat) (nulls bef:Value) (hT:Tab w0)
  (hc:Row w g 198 (ck_S rows codec wd nulls k nilS nilS 0 nilS Zbz bef)) (hr:Zap w0 w gr xs s) (hne:g≠gr) (hg0:w0.heap.size≤g) (hgs:gr<w.heap.size)
  (hv:∀ x∈xs,x<256) (hl:xs.length≤16777216) (hk:k≤65536) (hcd:1≤codec∧codec≤3) :
  Calls Tryz.prog 156 #[.pointer (some ⟨g,0,none⟩),.pointer (some ⟨gr,0,none⟩)] w fun e w' =>
   e=.returned (.bool (Zbq codec wd k xs s).b)∧OutAt_S w0 w w' w.heap.size g gr rows codec wd k nulls Zbz bef 0 (Zbq codec wd k xs s):=by
 have c1:w.cell? ⟨g,0+1,none⟩=some (.int .i64 codec):=by rw[hc.cell];rfl
 obtain⟨O,hO⟩:∃ O,Zbq codec wd k xs s=O:=⟨_,rfl⟩;rw[hO];have HO:=hid hO;have HC:=hid hc;clear hO;by_cases h1:codec=1
 ·subst h1;obtain rfl:Zbk wd k xs s=O:=by rw[← HO.out];rfl
  have HP:=hid (Zso w0 w g gr xs s rows _ wd k nulls bef 0 hc hr hne hg0 hgs hv hl hk);generalize Zbk wd k xs s=O at *;clear hc hr hv hT;go_enter Tryz.func156,Tryz.ntmps156;go_wp2_with (go_at_call 190;refine HP.out.mono ?_;rintro e w1 ⟨rfl,h⟩;have H:=hid h;clear h)
  go_ret;exact⟨rfl,H.out⟩
 by_cases h2:codec=2
 ·subst h2;obtain rfl:Zbm wd k xs s=O:=by rw[← HO.out];rfl
  have HP:=hid (Zu1 w0 w g gr xs s rows _ wd k nulls bef 0 hT hc hr hne hg0 hgs hv hl hk);generalize Zbm wd k xs s=O at *;clear hc hr hv hT;go_enter Tryz.func156,Tryz.ntmps156;go_wp2_with (go_at_call 191;refine HP.out.mono ?_;rintro e w1 ⟨rfl,h⟩;have H:=hid h;clear h)
  go_ret;exact⟨rfl,H.out⟩
 ·obtain rfl:codec=3:=by omega
  obtain rfl:Zbh wd k xs s=O:=by rw[← HO.out];rfl
  have HP:=hid (Zuk w0 w g gr xs s rows _ wd k nulls bef 0 hc hr hne hg0 hgs hv hl hk);generalize Zbh wd k xs s=O at *;clear hc hr hv hT;go_enter Tryz.func156,Tryz.ntmps156;go_wp2_with (go_at_call 192;refine HP.out.mono ?_;rintro e w1 ⟨rfl,h⟩;have H:=hid h;clear h)
  go_ret;exact⟨rfl,H.out⟩
end Go.Proofs.YtmcjknjlihgihaaGreatDoor
