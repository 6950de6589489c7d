/- Package chunk: offsets and whole payloads of integers off the reader. -/
import Derived.Deep.CutRange
import Derived.Deep.RegionHeld3
import Derived.Test.YtmcjknjlihgihaaGreatDoorLawfreshlistsuptoM5
set_option linter.unusedVariables false
set_option linter.unusedSimpArgs false
set_option linter.unnecessarySimpa false
set_option maxRecDepth 100000
namespace Go.Proofs.YtmcjknjlihgihaaGreatDoor
open Go.RowKit
set_option maxHeartbeats 4000000 in
theorem Zmg (w0 w:World) (g gr:Nat) (xs:List Nat) (s:Bool) (rows codec wd k:Int) (nulls list ends lanes kind bef:Value) (base op:Int) (lim:Nat)
  (hT:Tab w0) (hc:Row w g 207 (ck_I rows codec wd nulls k list ends base lanes kind bef)) (hr:Zap w0 w gr xs s) (hne:g≠gr) (hg0:w0.heap.size≤g) (hgs:gr<w.heap.size)
  (hv:∀ x∈xs,x<256) (hl:xs.length≤16777216) (hlim:lim<18446744073709551616) :
  Calls Tryz.prog 234 #[.pointer (some ⟨g,0,none⟩),.pointer (some ⟨gr,0,none⟩),.int .i64 op,.int .u64 lim] w fun e w' =>
   e=.returned (.bool (Zcj wd k op (Za6 xs) lim))∧∃ v,Row w' g 207 (ck_I rows codec wd nulls k list ends base v kind bef) ∧
    w'.ownsRow w.heap.size 73 1 v (Za6 xs).length (u64s (Za6 xs))∧Zap w0 w' gr (tkL (8*(xs.length/8)) xs) (tkS (8*(xs.length/8)) xs s)∧Chg g gr w w':=by
 obtain⟨ws,hws⟩:∃ ws,Za6 xs=ws:=⟨_,rfl⟩;have hwv:∀ x∈ws,x<18446744073709551616:=by rw[← hws];exact Zdu (Zc8 hv) (by omega)
 have hwl:ws.length≤2097152:=by rw[← hws,Zfb];omega
 obtain⟨c,hcc⟩:∃ c,xs.length/8=c:=⟨_,rfl⟩;obtain⟨xl,hxl⟩:∃ xl,tkL (8*c) xs=xl:=⟨_,rfl⟩;obtain⟨s1,hs1⟩:∃ s1,tkS (8*c) xs s=s1:=⟨_,rfl⟩;have hU:=Zhh w0 w gr xs s c hr hgs hv hl (by omega);have hwc:numL 8 (tk (8*c) xs)=ws:=by rw[← hws,← hcc];rfl
 rw[hwc,hxl,hs1]at hU;rw[hws,hcc,hxl,hs1];have HU:=hid hU;have Z3:=hid (Zhc w0 w gr xs s hr hl);have hce:(xs.length:Int)/8=(c:Int):=by omega
 have HC:=hid hc;have HR:=hid hr;have HT:=hid hT;have Vl:=hid hT.lt;have hgw:g<w.heap.size:=hc.lt;obtain⟨B,hB⟩:∃ B,w.heap.size=B:=⟨_,rfl⟩;have HB:=hid hB;rw[hB];obtain⟨wr,hwr⟩:∃ wr,cmpR wd k op ws lim=wr:=⟨_,rfl⟩;obtain⟨ok,hok⟩:∃ ok,Zho wd k op ws=ok:=⟨_,rfl⟩;have hwrl:wr.length≤maxLen:=by rw[← hwr];have:=Zua wd k op ws lim;unfold maxLen;omega
 have hwrv:∀ x∈wr,x<18446744073709551616:=by rw[← hwr];exact Zw7 wd k op ws lim
 have eB:Zcj wd k op ws lim=(ok&&(Zeg k k wr==0)):=by rw[Zcj,hwr,hok]
 rw[eB];have ZY:=hid (fun(w2:World) (v:Value) (h1:Tab w2) (h2:Rd w2 v ws.length 1 (u64s ws))=>Zlq v ws wd k op lim w2 h1 h2 hwv hlim (by unfold maxLen;omega));rw[hwr,hok]at ZY;obtain⟨rk,hrk⟩:∃ rk,Zeg k k wr=rk:=⟨_,rfl⟩;have YB:=hid (fun(w2:World) (v:Value) (h2:Rd w2 v wr.length 1 (u64s wr))=>Zk7 v wr k k w2 h2 hwrv hwrl);rw[hrk]at YB ⊢;clear hws hwc hxl hs1 hcc hU hc hr hT hB hwr hok eB hrk hv hwv;go_enter Tryz.func234,Tryz.ntmps234;go_upto_region 2 with (first
  | (go_at_call 158;refine Z3.out.mono ?_;rintro e w1 ⟨rfl,hw⟩;replace hw:=hw.symm;subst hw)
  | (go_at_call 123;refine HU.out.mono ?_;rintro e w1 ⟨p,hp,rfl,hrow,hat,hch⟩;have HP:=hid hp;have Q3:=hid hrow;have QX:=hid hat;have QQ:=hid hch;have Y2:=hid (hch.row HC.out hne hne);have c8:w1.cell? ⟨g,0+8,none⟩=some lanes:=(by rw[Y2.out.cell];rfl);have f8:=Y2.out.frozen (0+8);clear hp hrow hat hch))
 have Qp:Hid (Row (w1.setCell ⟨g,8,none⟩ (.slice (some ⟨p,0,none⟩) ws.length ws.length)) g 207 (ck_I rows codec wd nulls k list ends base (.slice (some ⟨p,0,none⟩) ws.length ws.length) kind bef)):=hid (Y2.out.set 8 _);have HS:=hid ((Chg.refl g gr w1).setCell g 8 (.slice (some ⟨p,0,none⟩) ws.length ws.length) (.inl rfl));have hpB:B≤p:=by have:=HP.out;have:=HB.out;omega
 have hpg:p≠g:=by have:=HB.out;omega
 have hpgr:p≠gr:=by have:=HB.out;omega
 have Qv:=hid (QX.out.chg ((Chg.refl g g w1).setCell g 8 (.slice (some ⟨p,0,none⟩) ws.length ws.length) (.inl rfl)) (Ne.symm hne) (Ne.symm hne) hg0 hg0);have QL:=hid (HS.out.row Q3.out hpg hpgr);have QC:=hid ((Chg.wide' (a:=g) QQ.out).trans HS.out);clear Y2 Q3 QX HS HC HR Z3 HU;generalize w1.setCell ⟨g,8,none⟩ (.slice (some ⟨p,0,none⟩) ws.length ws.length)=w2 at *;have hT2:Hid (Tab w2):=hid (HT.out.mono Qv.out.2.1 Vl.out);have Yh:=hid (QL.out.rd' (n:=ws.length) (by simp[u64s]) (by unfold maxLen;omega));have d8:w2.cell? ⟨g,0+8,none⟩=some (.slice (some ⟨p,0,none⟩) ws.length ws.length):=by rw[Qp.out.cell];rfl
 have d2:w2.cell? ⟨g,0+2,none⟩=some (.int .i64 wd):=by rw[Qp.out.cell];rfl
 have d4:w2.cell? ⟨g,0+4,none⟩=some (.int .i64 k):=by rw[Qp.out.cell];rfl
 have QN:=hid (fun nd:Nat=>ZY.out (w2.drewN nd) _ (hT2.out.mono (Zag (Zab w2) nd) hT2.out.lt) (Yh.out.mono (Zag (Zab w2) nd)));clear c8 f8 ZY;have d8':w2.cell? ⟨g,8,none⟩=some (.slice (some ⟨p,0,none⟩) ws.length ws.length):=by rw[Qp.out.cell];rfl
 have d2':w2.cell? ⟨g,2,none⟩=some (.int .i64 wd):=by rw[Qp.out.cell];rfl
 have d4':w2.cell? ⟨g,4,none⟩=some (.int .i64 k):=by rw[Qp.out.cell];rfl
 clear d8 d2 d4;have hgw2:g<w2.heap.size:=Qp.out.lt;go_cut [9,10]from 11 (fun s9 s10 wc=>s10=.bool ok∧Hid (Rd wc s9 wr.length 1 (u64s wr))∧Hid (Below w2.heap.size w2 wc))
 case first =>
  go_region_held3 (fun w'=>w'.cell? ⟨g,8,none⟩=some (.slice (some ⟨p,0,none⟩) ws.length ws.length)∧w'.cell? ⟨g,2,none⟩=some (.int .i64 wd)∧w'.cell? ⟨g,4,none⟩=some (.int .i64 k)) (go_keep)
   (first | (go_at_call 252;refine(QN.out 1).mono ?_;rintro e w3 ⟨r3,rfl,ho3,hb3⟩;have Y0:=hid ho3;have Qk:=hid hb3;obtain⟨A3,c3,rfl,hc3,_,_,_⟩:=Zaj ho3;have k8:=(hb3.cell (p:=⟨g,8,none⟩) hgw2).trans d8';have k2:=(hb3.cell (p:=⟨g,2,none⟩) hgw2).trans d2';have k4:=(hb3.cell (p:=⟨g,4,none⟩) hgw2).trans d4';clear ho3 hb3 hc3))
  all_goals (go_wp2_with fail;go_meet)
  all_goals exact⟨rfl,hid (Zba Y0.out),hid ((Zag (Zab w2) _).trans Qk.out)⟩
 case rest =>
  obtain⟨rfl,HW9,Ys⟩:=hcut;have Qo:Hid (Row wc g 207 (ck_I rows codec wd nulls k list ends base (.slice (some ⟨p,0,none⟩) ws.length ws.length) kind bef)):=hid (Qp.out.mono Ys.out);have e4:wc.cell? ⟨g,4,none⟩=some (.int .i64 k):=by rw[Qo.out.cell];rfl
  have ZZ:=hid (fun nd:Nat=>YB.out (wc.drewN nd) _ (HW9.out.mono (Zag (Zab wc) nd)));have Uj:=hid (QL.out.mono Ys.out);have Ja:=hid (Qv.out.mono Ys.out);have Y3:=hid (QC.out.then_below Ys.out QC.out.size);clear Qp QL Qv QC Ys d8' d2' d4' QN YB HW9 Yh hT2;cases ok
  case' false =>
   go_wp2_with fail
   go_quiet (fail)
  case' true =>
   go_wp2_with fail
   go_quiet (first | (go_at_call 154;refine Calls.quiet_of (ZZ.out _)))
  all_goals go_wp2_with fail
  all_goals go_ret
  all_goals exact⟨rfl,_,Qo.out.drewN nq,(Uj.out.drewN nq).owns hpB (by simp[u64s]) (by unfold maxLen;omega),Ja.out.mono (Zag (Zab wc) nq),Y3.out.drewN nq⟩
theorem Zgx:∀ w:World,(method 457 159 (.agg #[]) "colscan/chunk.readList").run Tryz.prog w=.ok (321,.agg #[]) w:=fun _=>by kernel_rfl
structure Out_I where
 b:Bool
 left:List Nat
 short:Bool
 list:List Int
 ends:List Nat
 lanes:List Nat
structure OutAt_I (w0 w w':World) (B g gr:Nat) (rows codec wd k:Int) (nulls kind bef:Value) (base:Int) (o:Out_I):Prop where
 ck:∃ lv ev nv,Row w' g 207 (ck_I rows codec wd nulls k lv ev base nv kind bef)∧w'.ownsRow B 2 1 lv o.list.length (i64s o.list) ∧
  w'.ownsRow B 3 1 ev o.ends.length (nIs o.ends)∧w'.ownsRow B 73 1 nv o.lanes.length (u64s o.lanes)
 rdr:Zap w0 w' gr o.left o.short
 chg:Chg g gr w w'
def Zbj:Value:=.iface 159 (.agg #[])
def Zbu (wd:Int) (k:Nat) (xs:List Nat) (s:Bool):Out_I :=
 { b:=(rdI k xs s).2.1&&decide (wd=0),left:=(rdI k xs s).2.2.1,short:=(rdI k xs s).2.2.2,list:=(rdI k xs s).1,ends:=[],lanes:=[] }
set_option maxHeartbeats 4000000 in
theorem Zrr (w0 w:World) (g gr:Nat) (xs:List Nat) (s:Bool) (rows codec wd:Int) (k:Nat) (nulls bef:Value) (base:Int)
  (hc:Row w g 207 (ck_I rows codec wd nulls k nilS nilS base nilS Zbj bef)) (hr:Zap w0 w gr xs s) (hne:g≠gr) (hg0:w0.heap.size≤g) (hgs:gr<w.heap.size)
  (hv:∀ x∈xs,x<256) (hl:xs.length≤16777216) (hk:k≤65536) :
  Calls Tryz.prog 198 #[.pointer (some ⟨g,0,none⟩),.pointer (some ⟨gr,0,none⟩)] w fun e w' =>
   e=.returned (.bool (Zbu wd k xs s).b)∧OutAt_I w0 w w' w.heap.size g gr rows codec wd k nulls Zbj bef base (Zbu wd k xs s):=by
 have HC:=hid hc;have HR:=hid hr;have QW:=hid (fun nd:Nat=>Zf8 w0 (w.drewN nd) gr xs s k (hr.mono (Zag (Zab w) nd)) hgs hv hl (by omega));have d9:w.cell? ⟨g,9,none⟩=some (.iface 159 (.agg #[])):=by rw[hc.cell];rfl
 have d4:w.cell? ⟨g,4,none⟩=some (.int .i64 k):=by rw[hc.cell];rfl
 have hgw:g<w.heap.size:=hc.lt;obtain⟨vals,b,xl,s1,hR⟩:∃ vals b xl s1,rdI k xs s=(vals,b,xl,s1):=⟨_,_,_,_,rfl⟩;have eO:Zbu wd k xs s={ b:=b&&decide (wd=0),left:=xl,short:=s1,list:=vals,ends:=[],lanes:=[] }:=by unfold Zbu;rw[hR]
 rw[eO];rw[hR]at QW;clear hc hr hv eO hR;obtain⟨B,hB⟩:∃ B,w.heap.size=B:=⟨_,rfl⟩;have HB:=hid hB;rw[hB];clear hB;have hm:=Zgx;go_enter Tryz.func198,Tryz.ntmps198;go_upto_region 1 with fail
 go_cut [5,6]from 7 (fun s5 s6 wc=>∃ A c,s5=.slice A vals.length c∧s6=.bool b∧Hid (wc.ownsRow B 2 1 (.slice A vals.length c) vals.length (i64s vals))∧Hid (Zap w0 wc gr xl s1)∧Hid (Chg g gr w wc)∧Hid (Row wc g 207 (ck_I rows codec wd nulls k nilS nilS base nilS Zbj bef)))
 case first =>
  go_region_held3 (fun w'=>w'.cell? ⟨g,9,none⟩=some (.iface 159 (.agg #[]))∧w'.cell? ⟨g,4,none⟩=some (.int .i64 k)) (go_keep)
   (first | (go_at_call 321;refine(QW.out 1).mono ?_;rintro e w3 ⟨v3,rfl,ho3,ha3,hc3⟩;have k9:=(hc3.cell g 9 hgw hne hne).trans d9;have k4:=(hc3.cell g 4 hgw hne hne).trans d4;have Y0:=hid ho3;have Yt:=hid ha3;have QN:=hid (Chg.wide' (a:=g) hc3);have Qo:=hid (hc3.row (HC.out.drewN 1) hne hne);obtain⟨A3,c3,rfl,hcc3,_,_,_⟩:=Zaj ho3;clear ho3 ha3 hc3 hcc3))
  all_goals (go_wp2_with fail;go_meet)
  all_goals exact⟨_,_,rfl,rfl,hid (by rw[← HB.out];exact Y0.out),Yt,hid (((Chg.refl g gr w).drewN 1).trans QN.out),Qo⟩
 case rest =>
  obtain⟨A3,c3,rfl,rfl,Y0,Yt,QN,Qo⟩:=hcut;have e5:wc.cell? ⟨g,0+5,none⟩=some nilS:=by rw[Qo.out.cell];rfl
  have e2:wc.cell? ⟨g,0+2,none⟩=some (.int .i64 wd):=by rw[Qo.out.cell];rfl
  have f5:=Qo.out.frozen (0+5);have hFIN:∀ bb:Bool,OutAt_I w0 w (wc.setCell ⟨g,5,none⟩ (.slice A3 vals.length c3)) B g gr rows codec wd k nulls Zbj bef base { b:=bb,left:=xl,short:=s1,list:=vals,ends:=[],lanes:=[] }:=by
   intro bb;have hch:=(Chg.refl g g wc).setCell g 5 (.slice A3 vals.length c3) (.inl rfl);have hgB:g<B:=by have:=HB.out;omega
   exact⟨⟨_,_,_,Qo.out.set 5 _,Zb4 Y0.out hch hgB hgB,World.ownsRow_nil _ _ _ _,World.ownsRow_nil _ _ _ _⟩,Yt.out.chg hch (Ne.symm hne) (Ne.symm hne) hg0 hg0,QN.out.setCell g 5 _ (.inl rfl)⟩
  have Qy:=hid hFIN;clear hFIN HC HR QW d9 d4 hm;cases b
  case' false=>go_wp2
  case' true=>go_wp2
  all_goals go_ret
  all_goals exact⟨by by_cases h:wd=0<;>simp[h],Qy.out _⟩
theorem Zdw {w:World} {B C:Nat} {e:TypeId} {v:Value} {n:Nat} {cs:List Value} (h:w.ownsRow B e 1 v n cs) (hC:C≤B):w.ownsRow C e 1 v n cs:=by
 refine⟨h.1,?_⟩;rcases h.2 with hn | ⟨g,cap,cur,rfl,hb',hg,r⟩
 ·exact .inl hn
 ·exact .inr ⟨g,cap,cur,rfl,Nat.le_trans hC hb',hg,r⟩
def Zbv (wd:Int) (k:Nat) (xs:List Nat) (s:Bool):Out_I :=
 if 256<L.wordOf 8 (tk 4 xs)∨wd≠(Zgf (L.wordOf 8 (tk 4 xs)):Int)then { b:=false,left:=tkL 4 xs,short:=tkS 4 xs s,list:=[],ends:=[],lanes:=[] }
 else match rdI (L.wordOf 8 (tk 4 xs)) (tkL 4 xs) (tkS 4 xs s)with
  | (vals,ok,xl,s1) =>
   if (ok&&Zbb geI vals)=true then { b:=Zcj wd k 6 (Za6 xl) (L.wordOf 8 (tk 4 xs)),left:=tkL (8*(xl.length/8)) xl,short:=tkS (8*(xl.length/8)) xl s1,list:=vals,ends:=[],lanes:=Za6 xl }
   else { b:=false,left:=xl,short:=s1,list:=vals,ends:=[],lanes:=[] }
set_option maxHeartbeats 8000000 in
theorem Zul (w0 w:World) (g gr:Nat) (xs:List Nat) (s:Bool) (rows codec wd:Int) (k:Nat) (nulls bef:Value) (base:Int) (hT:Tab w0)
  (hc:Row w g 207 (ck_I rows codec wd nulls k nilS nilS base nilS Zbj bef)) (hr:Zap w0 w gr xs s) (hne:g≠gr) (hg0:w0.heap.size≤g) (hgs:gr<w.heap.size)
  (hv:∀ x∈xs,x<256) (hl:xs.length≤16777216) (hk:k≤65536) :
  Calls Tryz.prog 199 #[.pointer (some ⟨g,0,none⟩),.pointer (some ⟨gr,0,none⟩)] w fun e w' =>
   e=.returned (.bool (Zbv wd k xs s).b)∧OutAt_I w0 w w' w.heap.size g gr rows codec wd k nulls Zbj bef base (Zbv wd k xs s):=by
 have hU:=Zfa w0 w gr xs s hr hv hl;have hd32:L.wordOf 8 (tk 4 xs)<4294967296:=Zb2 _ (Zc8 hv) (Zib 4 xs);obtain⟨d,hd⟩:∃ d,L.wordOf 8 (tk 4 xs)=d:=⟨_,rfl⟩;obtain⟨xs1,hx1⟩:∃ xs1,tkL 4 xs=xs1:=⟨_,rfl⟩;obtain⟨s1,hs1⟩:∃ s1,tkS 4 xs s=s1:=⟨_,rfl⟩;have hxl1:xs1.length≤16777216:=by rw[← hx1];exact Nat.le_trans (Zbn _ _) hl
 have hxv1:∀ x∈xs1,x<256:=by rw[← hx1];exact Zas hv
 obtain⟨O,hO⟩:∃ O,Zbv wd k xs s=O:=⟨_,rfl⟩;have HO:=hid hO;unfold Zbv at HO;rw[hd,hx1,hs1]at HO;rw[hd,hx1,hs1]at hU;rw[hd]at hd32;rw[hO];have HU:=hid hU;have HC:=hid hc;have HT:=hid hT;have hgw:g<w.heap.size:=hc.lt;have d2:w.cell? ⟨g,2,none⟩=some (.int .i64 wd):=by rw[hc.cell];rfl
 clear hU hc hr hT hd hx1 hs1 hO hv hl;obtain⟨B,hB⟩:∃ B,w.heap.size=B:=⟨_,rfl⟩;have HB:=hid hB;rw[hB];clear hB;have hm:=Zgx;go_enter Tryz.func199,Tryz.ntmps199;go_upto_region 2 with (first | (go_at_call 81;refine HU.out.mono ?_;rintro e w1 ⟨rfl,ha1,hc1⟩;have JG:=hid ha1;have QF:=hid (Chg.wide' (a:=g) hc1);have QH:=hid (hc1.row HC.out hne hne);clear ha1 hc1))
 have e2:w1.cell? ⟨g,2,none⟩=some (.int .i64 wd):=by rw[QH.out.cell];rfl
 have hgr1:gr<w1.heap.size:=Nat.lt_of_lt_of_le hgs QF.out.size;have hgB:g<B:=by have:=HB.out;omega
 have hB1:B≤w1.heap.size:=by have:=HB.out;have:=QF.out.size;omega
 have Qb:Hid (∀ n,OutAt_I w0 w (w1.drewN n) B g gr rows codec wd k nulls Zbj bef base { b:=false,left:=xs1,short:=s1,list:=[],ends:=[],lanes:=[] }):=hid (fun n =>
  ⟨⟨_,_,_,QH.out.drewN n,World.ownsRow_nil _ _ _ _,World.ownsRow_nil _ _ _ _,World.ownsRow_nil _ _ _ _⟩,JG.out.mono (Zag (Zab w1) n),QF.out.drewN n⟩)
 clear HU HC d2;by_cases hbig:256<d
 ·have hO:O={ b:=false,left:=xs1,short:=s1,list:=[],ends:=[],lanes:=[] }:=by rw[← HO.out,if_pos (.inl hbig)]
  subst hO;have hb1:(d:Int) > 256:=by omega
  go_wp2_with fail
  go_quiet (fail)
  go_wp2_with fail
  go_ret;exact⟨rfl,Qb.out _⟩
 ·have hb1:¬ (d:Int) > 256:=by omega
  obtain⟨nd,hnd⟩:∃ nd,Zgf d=nd:=⟨_,rfl⟩;have HN:=hid (fun w2:World=>Ztv d w2 (by omega));rw[hnd]at HN HO;clear hnd;by_cases hw:wd=(nd:Int)
  ·have hw1:(wd != (nd:Int))=false:=by rw[hw];simp
   have hO2:=HO.out;rw[if_neg (fun h=>h.elim (fun h=>hbig h) (fun h=>h hw))]at hO2;obtain⟨vals,ok,xl,s2,hR⟩:∃ vals ok xl s2,rdI d xs1 s1=(vals,ok,xl,s2):=⟨_,_,_,_,rfl⟩;rw[hR]at hO2;simp only at hO2;have hxl:xl.length≤16777216:=by have:=(Zel d xs1 s1).1;rw[hR]at this;exact Nat.le_trans this hxl1
   have hxv:∀ x∈xl,x<256:=by have:=(Zel d xs1 s1).2 256 hxv1;rw[hR]at this;exact this
   have hvl:vals.length≤16777216:=by have:=Ziq d xs1 s1 hxl1;rw[hR]at this;exact this
   have Yb:=hid hO2;have QW:=hid (fun(w2:World) (h:Zap w0 w2 gr xs1 s1) (h2:gr<w2.heap.size)=>Zf8 w0 w2 gr xs1 s1 d h h2 hxv1 hxl1 (by omega));rw[hR]at QW;have HHW:=hid hw;clear hO2 hR hw HO Qb;go_wp2_with fail
   go_quiet (first | (go_at_call 215;refine Calls.quiet_of_same (HN.out _)))
   have Uk:=hid (JG.out.mono (Zag (Zab w1) nq));have J4:=hid (QF.out.drewN nq);have Qp:=hid (QH.out.drewN nq);have hgr2:gr<(w1.drewN nq).heap.size:=hgr1;have hB2:B≤(w1.drewN nq).heap.size:=hB1;clear JG QF QH e2 HN;generalize w1.drewN nq=w2 at *;have d9:w2.cell? ⟨g,0+9,none⟩=some (.iface 159 (.agg #[])):=by rw[Qp.out.cell];rfl
   go_wp2_with fail
   refine(QW.out w2 Uk.out hgr2).mono ?_;rintro e w3 ⟨v3,rfl,ho3,ha3,hc3⟩;obtain⟨A3,c3,rfl,hcc3,_,_,_⟩:=Zaj ho3;have Y0:=hid (Zdw ho3 hB2);have Yt:=hid ha3;have QN:=hid (J4.out.trans (Chg.wide' (a:=g) hc3));have Qo:=hid (hc3.row Qp.out hne hne);have e5:w3.cell? ⟨g,0+5,none⟩=some nilS:=by rw[Qo.out.cell];rfl
   have f5:=Qo.out.frozen (0+5);have hgr3:gr<w3.heap.size:=Nat.lt_of_lt_of_le hgs QN.out.size;have hch4:=(Chg.refl g g w3).setCell g 5 (.slice A3 vals.length c3) (.inl rfl);have Yu:Hid (Row (w3.setCell ⟨g,5,none⟩ (.slice A3 vals.length c3)) g 207 (ck_I rows codec wd nulls k (.slice A3 vals.length c3) nilS base nilS Zbj bef)):=hid (Qo.out.set 5 _);have YY:=hid (Zb4 Y0.out hch4 hgB hgB);have YQ:=hid (Yt.out.chg hch4 (Ne.symm hne) (Ne.symm hne) hg0 hg0);have Yg:=hid (QN.out.setCell g 5 (.slice A3 vals.length c3) (.inl rfl));have hgr4:gr<(w3.setCell ⟨g,5,none⟩ (.slice A3 vals.length c3)).heap.size:=Nat.lt_of_lt_of_le hgr3 hch4.size;have hB4:B≤(w3.setCell ⟨g,5,none⟩ (.slice A3 vals.length c3)).heap.size:=Nat.le_trans hB2 (Nat.le_trans hc3.size hch4.size);clear ho3 ha3 hc3 hcc3 Uk J4 Qp d9 QW Y0 Yt QN Qo hch4 hm hgr2 hgr3 hB2;go_upto_region 6 with fail
   clear e5 f5;generalize w3.setCell ⟨g,5,none⟩ (.slice A3 vals.length c3)=w4 at *;have Jb:=hid (Zmm _ vals w4 (Zba YY.out) (by unfold maxLen;omega));have Yr:=hid (fun n:Nat=>Zmg w0 (w4.drewN n) g gr xl s2 rows codec wd k nulls (.slice A3 vals.length c3) nilS nilS Zbj bef base 6 d HT.out (Yu.out.drewN n) (YQ.out.mono (Zag (Zab w4) n)) hne hg0 hgr4 hxv hxl (by omega));have Y8:=hid (fun n:Nat=>(⟨⟨_,_,_,Yu.out.drewN n,Zbt YY.out (Zag (Zab w4) n),World.ownsRow_nil _ _ _ _,World.ownsRow_nil _ _ _ _⟩,YQ.out.mono (Zag (Zab w4) n),Yg.out.drewN n⟩:OutAt_I w0 w (w4.drewN n) B g gr rows codec wd k nulls Zbj bef base { b:=false,left:=xl,short:=s2,list:=vals,ends:=[],lanes:=[] }));obtain⟨asc,hasc⟩:∃ asc,Zbb geI vals=asc:=⟨_,rfl⟩;rw[hasc]at Jb Yb;clear hasc;cases ok
   case' false =>
    have hO:=Yb.out;rw[if_neg (by simp)]at hO;subst hO;go_wp2_with fail
    go_ret;exact⟨rfl,Y8.out 0⟩
   cases asc
   case' false =>
    have hO:=Yb.out;rw[if_neg (by simp)]at hO;subst hO;go_wp2_with (go_at_call 233;refine Jb.out.mono ?_;rintro e w5 ⟨rfl,n5,rfl⟩)
    go_ret;exact⟨rfl,Y8.out _⟩
   case' true =>
    have hO:=Yb.out;rw[if_pos (by rfl)]at hO;obtain⟨lb,hlb⟩:∃ lb,Zcj wd k 6 (Za6 xl) d=lb:=⟨_,rfl⟩;rw[hlb]at Yr hO;clear Y8 Yb hlb;subst hO;go_wp2_with (first
     | (go_at_call 233;refine Jb.out.mono ?_;rintro e w5 ⟨rfl,n5,rfl⟩)
     | (go_at_call 234;refine(Yr.out n5).mono ?_;rintro e w6 ⟨rfl,v6,hr6,ho6,ha6,hc6⟩;have Vb:=hid hr6;have Zf:=hid (Zdw ho6 hB4);have Ul:=hid ha6;have Vm:=hid hc6;have Xc:=hid (Zb4 (Zbt YY.out (Zag (Zab w4) n5)) hc6 hgB (by have:=HB.out;omega));clear hr6 ho6 ha6 hc6))
    go_ret;exact⟨rfl,⟨_,_,_,Vb.out,Xc.out,World.ownsRow_nil _ _ _ _,Zf.out⟩,Ul.out,(Yg.out.drewN n5).trans Vm.out⟩
  ·have hO:O={ b:=false,left:=xs1,short:=s1,list:=[],ends:=[],lanes:=[] }:=by rw[← HO.out,if_pos (.inr hw)]
   subst hO;have hw1:(wd != (nd:Int))=true:=by rw[bne_iff_ne];exact hw
   go_wp2_with fail
   go_quiet (first | (go_at_call 215;refine Calls.quiet_of_same (HN.out _)))
   go_wp2_with fail
   go_ret;exact⟨rfl,Qb.out _⟩
theorem Zww (w:World) (a b c:Value) (e:TypeId):∀ j u,[a,b,c][j]? = some u→(w.alloc (.cells #[a,b,c] e)).cell? ((⟨w.heap.size,0,none⟩:Addr).add j)=some u:=by
 intro j u h;have hr:Row (w.alloc (.cells #[a,b,c] e)) w.heap.size e [a,b,c]:=by unfold Row;rw[heap_alloc_new]
 rw[Zdn,hr.cell,Nat.zero_add];exact h
theorem Zb6 {P:Program} {w:World} {ops:Array Oper} {rest:List Oper} {o:Oper} {a:Act} {Q:Exit→Act→World→Prop} {t:TypeId} {x y z v:Value} {B n:Nat} {xs:List Value}
  (hgd:o.guard=none) (s r:Operand) (ho:o.op=.call { callee:=.builtin .append,args:=#[s,r],argTypes:=#[t,t] })
  (e:TypeId) (zs:List Value) (bytes:Nat) (h1:P.underlying t=some (.slice e)) (h2:(P.info? e).map (fun i=>(i.zero,i.size,i.bytes))=some (some (.agg zs.toArray),3,bytes)) (hz:zs.length=3)
  (hs:a.eval s=v) (hx:a.eval r=.slice (some ⟨w.heap.size,0,none⟩) 1 1)
  (hown:w.ownsRow B e 3 v n xs) (hB:B≤w.heap.size) (hu:∀ u∈[x,y,z],u.oneCell'=true) (hm:n+1≤maxLen) (hby:(n+1)*bytes≤140737488355328)
  (hK:∀ v' w',w'.ownsRow B e 3 v' (n+1) (xs++[x,y,z])→Below B w w'→wpList P ops Q rest (a.put o.dst v') w') :
  wpList P ops Q (o :: rest) a (w.alloc (.cells #[x,y,z] e)):=by
 refine wpList_plain hgd fun K hK'=>?_
 unfold Oper.wp execOp;simp only[ho,resolve,invoke,builtin,Sem.run_bind,Sem.run_pure,Result.andThen_ok,List.map_toArray,List.map_cons,List.map_nil,hs,hx];obtain⟨i,hi,hz0,hz1,hz2⟩:=info_parts h2;obtain⟨v',w',hr,h3,h4,_⟩:=run_append_own (P:=P) (w:=w.alloc (.cells #[x,y,z] e)) B t o.type e i (.agg zs.toArray) 3 bytes h1 hi hz0 hz1 hz2 (by simpa [Value.cells]using hz) (by omega) v n xs (hown.alloc _)
  ⟨w.heap.size,0,none⟩ 1 1 [x,y,z] rfl (Zww w x y z e) hu hm hby (by simp;omega)
 have hlt:=hown.lt;refine Zh1 hr (hK' _ _ (hK _ _ h3 ?_));refine(((Below.refl B w).alloc hB _).grown h4 (by simp;omega) ?_);intro k hk;exact(hlt k hk).1
theorem Zb1 {w:World} {B:Nat} {e:TypeId} {v:Value} {n:Nat} {cs:List Value} (h:w.ownsRow B e 3 v n cs):∃ A cap,v=.slice A n cap:=by
 rcases h.2 with ⟨rfl,rfl⟩ | ⟨g,cap,cur,rfl,_⟩
 ·exact⟨none,0,rfl⟩
 ·exact⟨_,_,rfl⟩
theorem Zob {w:World} {B:Nat} {e:TypeId} {v:Value} {n:Nat} {cs:List Value} (h:w.ownsRow B e 3 v n cs):Rd w v n 3 cs:=by
 refine⟨h.1,?_⟩;rcases h.2 with ⟨rfl,rfl⟩ | ⟨g,cap,cur,rfl,hb,hg,hnc,hcm,hcs,htake⟩
 ·exact .inl ⟨⟨_,rfl⟩,rfl⟩
 ·refine .inr ⟨g,0,cap,rfl,hnc,hcm,?_⟩;intro i v hv;have:=h.cells (g:=g) rfl i v hv
  rwa [Zdn]at this
theorem Zl0 {w w':World} {B:Nat} {e:TypeId} {v:Value} {n:Nat} {cs:List Value} (h:w.ownsRow B e 3 v n cs) (hb:Below w.heap.size w w'):w'.ownsRow B e 3 v n cs:=by
 refine⟨h.1,?_⟩;rcases h.2 with hn | ⟨g,cap,cur,rfl,hb',hg,r⟩
 ·exact .inl hn
 ·exact .inr ⟨g,cap,cur,rfl,hb',by rw[hb.block g (Array.getElem?_eq_some_iff.1 hg).1];exact hg,r⟩
def Zby (wd k p:Nat) (xs:List Nat):Bool:=decide (p≤xs.length∧(xs.length-p)%8=0)&&Za8 wd k (Za6 (xs.drop p))
def Zbo (wd k p:Nat) (xs:List Nat):List Nat:=if Zby wd k p xs=true then L.lanesL wd k (Za6 (xs.drop p))else []
set_option maxHeartbeats 2000000 in
theorem Zlf (v:Value) (xs:List Nat) (p wd k:Nat) (w:World) (hx:Rd w v xs.length 1 (u8s xs)) (hb:∀ x∈xs,x<256) (hl:xs.length≤16777216) (hp:p≤1099511627776) :
  Calls Tryz.prog 206 #[v,.int .i64 p,.int .i64 wd,.int .i64 k] w fun e w' =>
   ∃ u,e=.returned (.tuple #[u,.bool (Zby wd k p xs)])∧w'.ownsRow w.heap.size 73 1 u (Zbo wd k p xs).length (u64s (Zbo wd k p xs))∧Below w.heap.size w w':=by
 by_cases hg:p≤xs.length∧(xs.length-p)%8=0
 ·have hdl:(xs.drop p).length=xs.length-p:=by simp
  obtain⟨c,hc⟩:∃ c,(xs.length-p)/8=c:=⟨_,rfl⟩;have hci:((xs.length:Int)-(p:Int))/8=(c:Int):=by omega
  have hmod2:((xs.length:Int)-(p:Int))%8=0:=by omega
  have hrw:numL 8 (tk (8*c) (xs.drop p))=Za6 (xs.drop p):=by unfold Za6;rw[hdl,hc]
  have hno:Zau 8 c p xs.length=true:=by unfold Zau;exact decide_eq_true ⟨hg.1,by omega⟩
  have HN:=hid (Zcm v xs p 8 c w hx hb hl (.inr rfl) hp (by omega));rw[hrw,hno]at HN;have hwl:(Za6 (xs.drop p)).length≤16777216:=by rw[Zfb,hdl];omega
  have hwv:∀ x∈Za6 (xs.drop p),x<18446744073709551616:=by unfold Za6;exact Zdu (Zc8 (fun x h=>hb x (List.mem_of_mem_drop h))) (by omega)
  have eok:Zby wd k p xs=Za8 wd k (Za6 (xs.drop p)):=by unfold Zby;rw[decide_eq_true hg,Bool.true_and]
  have eV:Zbo wd k p xs=Ze6 wd k (Za6 (xs.drop p)):=by unfold Zbo Ze6;rw[eok];simp
  rw[eok,eV];generalize Za6 (xs.drop p)=ws at *;obtain⟨A,ca,rfl,hlc,hcm,hA⟩:=hx.form;have hp1:¬ (p:Int) > (xs.length:Int):=by omega
  have HU:=hid (fun(w2:World) (u:Value) (h:Rd w2 u ws.length 1 (u64s ws))=>Zov u ws wd k w2 h hwv (by unfold maxLen;omega));obtain⟨B,hB⟩:∃ B,w.heap.size=B:=⟨_,rfl⟩;have Ya:=hid hB;rw[hB];generalize Za8 wd k ws=ok at *;generalize Ze6 wd k ws=R at *;simp only[if_pos]at HN;clear hx hA eok eV hno hrw hwv hB hb;go_enter Tryz.func206,Tryz.ntmps206;go_wp2_with fail
  refine HN.out.mono ?_;rintro e w1 ⟨u,rfl,ho,hb1⟩;obtain⟨A1,c1,rfl,_,_,_⟩:=Zaj ho;have HO:=hid (Zba ho);have Qa:=hid hb1;clear ho hb1;go_wp2_with fail
  refine(HU.out w1 _ HO.out).mono ?_;rintro e w2 ⟨u2,rfl,ho2,hb2⟩;have Yb:=hid (Zdw ho2 (by have:=Ya.out;have:=Qa.out.size;omega:B≤w1.heap.size));have Qc:=hid (Zad Qa.out hb2);clear ho2 hb2;go_wp2_with fail
  go_ret2
  exact⟨_,rfl,Yb.out,by rw[← Ya.out];exact Qc.out⟩
 ·have eok:Zby wd k p xs=false:=by unfold Zby;rw[decide_eq_false hg,Bool.false_and]
  have eV:Zbo wd k p xs=[]:=by unfold Zbo;rw[eok];simp
  rw[eok,eV];obtain⟨A,ca,rfl,hlc,hcm,hA⟩:=hx.form;clear hx hA eok eV;go_enter Tryz.func206,Tryz.ntmps206;by_cases h1:p≤xs.length
  ·have hp1:¬ (p:Int) > (xs.length:Int):=by omega
   have hne:¬ (xs.length-p)%8=0:=fun h=>hg ⟨h1,h⟩
   have hmod2:(((xs.length:Int)-(p:Int))%8 != 0)=true:=by rw[bne_iff_ne];omega
   go_wp2;go_ret2
   exact⟨_,rfl,World.ownsRow_nil _ _ _ _,Zab w⟩
  ·have hp1:(p:Int) > (xs.length:Int):=by omega
   go_wp2;go_ret2
   exact⟨_,rfl,World.ownsRow_nil _ _ _ _,Zab w⟩
def Zbp (wd:Int) (k:Nat) (xs:List Nat) (s:Bool):Out_I :=
 if wd≠0∨Zax (nI (numL 4 (tk (4*L.wordOf 8 (tk 4 xs)) (tkL 4 xs)))) k=false then
  { b:=false,left:=tkL (4*L.wordOf 8 (tk 4 xs)) (tkL 4 xs),short:=tkS (4*L.wordOf 8 (tk 4 xs)) (tkL 4 xs) (tkS 4 xs s),list:=[],ends:=numL 4 (tk (4*L.wordOf 8 (tk 4 xs)) (tkL 4 xs)),lanes:=[] }
 else match rdI (L.wordOf 8 (tk 4 xs)) (tkL (4*L.wordOf 8 (tk 4 xs)) (tkL 4 xs)) (tkS (4*L.wordOf 8 (tk 4 xs)) (tkL 4 xs) (tkS 4 xs s))with
  | (vals,ok,xl,s3)=>{ b:=ok&&Zbb eqI vals,left:=xl,short:=s3,list:=vals,ends:=numL 4 (tk (4*L.wordOf 8 (tk 4 xs)) (tkL 4 xs)),lanes:=[] }
set_option maxHeartbeats 8000000 in
theorem Zvs (w0 w:World) (g gr:Nat) (xs:List Nat) (s:Bool) (rows codec wd:Int) (k:Nat) (nulls bef:Value) (base:Int)
  (hc:Row w g 207 (ck_I rows codec wd nulls k nilS nilS base nilS Zbj bef)) (hr:Zap w0 w gr xs s) (hne:g≠gr) (hg0:w0.heap.size≤g) (hgs:gr<w.heap.size)
  (hv:∀ x∈xs,x<256) (hl:xs.length≤16777216) (hk:k≤65536) :
  Calls Tryz.prog 200 #[.pointer (some ⟨g,0,none⟩),.pointer (some ⟨gr,0,none⟩)] w fun e w' =>
   e=.returned (.bool (Zbp wd k xs s).b)∧OutAt_I w0 w w' w.heap.size g gr rows codec wd k nulls Zbj bef base (Zbp wd k xs s):=by
 have hU:=Zfa w0 w gr xs s hr hv hl;have hd32:L.wordOf 8 (tk 4 xs)<4294967296:=Zb2 _ (Zc8 hv) (Zib 4 xs);obtain⟨O,hO⟩:∃ O,Zbp wd k xs s=O:=⟨_,rfl⟩;have HO:=hid hO;unfold Zbp at HO;rw[hO];clear hO;obtain⟨d,hd⟩:∃ d,L.wordOf 8 (tk 4 xs)=d:=⟨_,rfl⟩;obtain⟨xs1,hx1⟩:∃ xs1,tkL 4 xs=xs1:=⟨_,rfl⟩;obtain⟨s1,hs1⟩:∃ s1,tkS 4 xs s=s1:=⟨_,rfl⟩;have hxl1:xs1.length≤16777216:=by rw[← hx1];exact Nat.le_trans (Zbn _ _) hl
 have hxv1:∀ x∈xs1,x<256:=by rw[← hx1];exact Zas hv
 rw[hd,hx1,hs1]at hU HO;rw[hd]at hd32;obtain⟨es,hes⟩:∃ es,numL 4 (tk (4*d) xs1)=es:=⟨_,rfl⟩;obtain⟨xs2,hx2⟩:∃ xs2,tkL (4*d) xs1=xs2:=⟨_,rfl⟩;obtain⟨s2,hs2⟩:∃ s2,tkS (4*d) xs1 s1=s2:=⟨_,rfl⟩;have hxl2:xs2.length≤16777216:=by rw[← hx2];exact Nat.le_trans (Zbn _ _) hxl1
 have hxv2:∀ x∈xs2,x<256:=by rw[← hx2];exact Zas hxv1
 have hel:es.length≤16777216:=by
  rw[← hes,Zal];unfold tk;split
  ·rw[List.length_take];omega
  ·simp
 rw[hes,hx2,hs2]at HO;have Xd:=hid (fun(w2:World) (h2:Zap w0 w2 gr xs1 s1) (hg2:gr<w2.heap.size)=>Znr w0 w2 gr xs1 s1 d h2 hg2 hxv1 hxl1 (by omega));rw[hes,hx2,hs2]at Xd;have HU:=hid hU;have HC:=hid hc;have hgw:g<w.heap.size:=hc.lt;clear hU hc hr hd hx1 hs1 hes hx2 hs2 hv hl;obtain⟨B,hB⟩:∃ B,w.heap.size=B:=⟨_,rfl⟩;have HB:=hid hB;rw[hB];clear hB;have hm:=Zgx;have hgB:g<B:=by have:=HB.out;omega
 have hrB:gr<B:=by have:=HB.out;omega
 go_enter Tryz.func200,Tryz.ntmps200;go_upto_region 2 with (first | (go_at_call 81;refine HU.out.mono ?_;rintro e w1 ⟨rfl,ha1,hc1⟩;have JG:=hid ha1;have QF:=hid (Chg.wide' (a:=g) hc1);have QH:=hid (hc1.row HC.out hne hne);clear ha1 hc1))
 have hgr1:gr<w1.heap.size:=Nat.lt_of_lt_of_le hgs QF.out.size;have hB1:B≤w1.heap.size:=by have:=HB.out;have:=QF.out.size;omega
 clear HU HC;go_wp2_with fail
 refine(Xd.out w1 JG.out hgr1).mono ?_;rintro e w2 ⟨p,hp,rfl,hrow2,ha2,hc2⟩;have hpB:B≤p:=Nat.le_trans hB1 hp;have hpg:p≠g:=by omega
 have hpr:p≠gr:=by omega
 have Qp:=hid (hc2.row QH.out hne hne);have e6:w2.cell? ⟨g,0+6,none⟩=some nilS:=by rw[Qp.out.cell];rfl
 have f6:=Qp.out.frozen (0+6);have hch:=(Chg.refl g g w2).setCell g 6 (.slice (some ⟨p,0,none⟩) es.length es.length) (.inl rfl);have Qo:Hid (Row (w2.setCell ⟨g,6,none⟩ (.slice (some ⟨p,0,none⟩) es.length es.length)) g 207 (ck_I rows codec wd nulls k nilS (.slice (some ⟨p,0,none⟩) es.length es.length) base nilS Zbj bef)):=hid (Qp.out.set 6 _);have Qf:=hid (hch.row hrow2 hpg hpg);have Yt:=hid (ha2.chg hch (Ne.symm hne) (Ne.symm hne) hg0 hg0);have QN:=hid ((QF.out.trans (Chg.wide' (a:=g) hc2)).setCell g 6 (.slice (some ⟨p,0,none⟩) es.length es.length) (.inl rfl));have hgr3:gr<(w2.setCell ⟨g,6,none⟩ (.slice (some ⟨p,0,none⟩) es.length es.length)).heap.size:=Nat.lt_of_lt_of_le hgs QN.out.size;have hB3:B≤(w2.setCell ⟨g,6,none⟩ (.slice (some ⟨p,0,none⟩) es.length es.length)).heap.size:=Nat.le_trans hB1 (Nat.le_trans hc2.size hch.size);clear hrow2 ha2 hc2 JG QF QH Qp hch hgr1 hB1 Xd hp;go_upto_region 3 with fail
 clear e6 f6;generalize w2.setCell ⟨g,6,none⟩ (.slice (some ⟨p,0,none⟩) es.length es.length)=w3 at *;have JH:=hid (Qf.out.owns (B:=B) (n:=es.length) hpB (by simp[i64s,nI]) (by unfold maxLen;omega));have Qb:Hid (∀ n,OutAt_I w0 w (w3.drewN n) B g gr rows codec wd k nulls Zbj bef base { b:=false,left:=xs2,short:=s2,list:=[],ends:=es,lanes:=[] }):=hid (fun n =>
  ⟨⟨_,_,_,Qo.out.drewN n,World.ownsRow_nil _ _ _ _,Zbt JH.out (Zag (Zab w3) n),World.ownsRow_nil _ _ _ _⟩,Yt.out.mono (Zag (Zab w3) n),QN.out.drewN n⟩)
 have e2:w3.cell? ⟨g,2,none⟩=some (.int .i64 wd):=by rw[Qo.out.cell];rfl
 have e4:w3.cell? ⟨g,4,none⟩=some (.int .i64 k):=by rw[Qo.out.cell];rfl
 have e6:w3.cell? ⟨g,6,none⟩=some (.slice (some ⟨p,0,none⟩) es.length es.length):=by rw[Qo.out.cell];rfl
 have Ym:=hid (fun nd:Nat=>Zhr (.slice (some ⟨p,0,none⟩) es.length es.length) (nI es) k (w3.drewN nd) (by rw[Zaq];exact((Qf.out.drewN nd).rd' (n:=es.length) (by simp[i64s,nI]) (by unfold maxLen;omega))) (by rw[Zaq];unfold maxLen;omega));obtain⟨re,hre⟩:∃ re,Zax (nI es) k=re:=⟨_,rfl⟩;rw[hre]at Ym HO;clear hre;by_cases hw:wd=0
 case neg =>
  have hO:O={ b:=false,left:=xs2,short:=s2,list:=[],ends:=es,lanes:=[] }:=by rw[← HO.out,if_pos (.inl hw)]
  subst hO;have hw1:(wd != 0)=true:=by rw[bne_iff_ne];exact hw
  go_wp2_with fail
  go_quiet (fail)
  go_wp2_with fail
  go_ret;exact⟨rfl,Qb.out _⟩
 case pos =>
  have hw1:(wd != 0)=false:=by rw[hw];rfl
  cases re
  case false =>
   have hO:O={ b:=false,left:=xs2,short:=s2,list:=[],ends:=es,lanes:=[] }:=by rw[← HO.out,if_pos (.inr rfl)]
   subst hO;clear hw;go_wp2_with fail
   go_quiet (first | (go_at_call 228;refine Calls.quiet_of_same (Ym.out _)))
   go_wp2_with fail
   go_ret;exact⟨rfl,Qb.out _⟩
  case true =>
   have hO2:=HO.out;rw[if_neg (fun h=>h.elim (fun h=>h hw) (fun h=>by cases h))]at hO2;obtain⟨vals,ok,xl,s4,hR⟩:∃ vals ok xl s4,rdI d xs2 s2=(vals,ok,xl,s4):=⟨_,_,_,_,rfl⟩;rw[hR]at hO2;simp only at hO2;have hvl:vals.length≤16777216:=by have:=Ziq d xs2 s2 hxl2;rw[hR]at this;exact this
   have Yb:=hid hO2;have QW:=hid (fun(w2:World) (h:Zap w0 w2 gr xs2 s2) (h2:gr<w2.heap.size)=>Zf8 w0 w2 gr xs2 s2 d h h2 hxv2 hxl2 (by omega));rw[hR]at QW;clear hO2 hR hw HO Qb;go_wp2_with fail
   go_quiet (first | (go_at_call 228;refine Calls.quiet_of_same (Ym.out _)))
   have YQ:=hid (Yt.out.mono (Zag (Zab w3) nq));have Yg:=hid (QN.out.drewN nq);have Yu:=hid (Qo.out.drewN nq);have Um:=hid (Zbt JH.out (Zag (Zab w3) nq));have hgr4:gr<(w3.drewN nq).heap.size:=hgr3;have hB4:B≤(w3.drewN nq).heap.size:=hB3;clear Yt QN Qo JH Qf e2 e4 e6 Ym hgr3 hB3;generalize w3.drewN nq=w4 at *;have d9:w4.cell? ⟨g,0+9,none⟩=some (.iface 159 (.agg #[])):=by rw[Yu.out.cell];rfl
   go_wp2_with fail
   refine(QW.out w4 YQ.out hgr4).mono ?_;rintro e w5 ⟨v3,rfl,ho3,ha3,hc3⟩;obtain⟨A3,c3,rfl,hcc3,_,_,_⟩:=Zaj ho3;have Y8:=hid (Zdw ho3 hB4);have Vn:=hid ha3;have ZK:=hid (Yg.out.trans (Chg.wide' (a:=g) hc3));have Zg:=hid (hc3.row Yu.out hne hne);have Un:=hid (Zb4 Um.out hc3 hrB hrB);have e5:w5.cell? ⟨g,0+5,none⟩=some nilS:=by rw[Zg.out.cell];rfl
   have f5:=Zg.out.frozen (0+5);have hch6:=(Chg.refl g g w5).setCell g 5 (.slice A3 vals.length c3) (.inl rfl);have Xe:Hid (Row (w5.setCell ⟨g,5,none⟩ (.slice A3 vals.length c3)) g 207 (ck_I rows codec wd nulls k (.slice A3 vals.length c3) (.slice (some ⟨p,0,none⟩) es.length es.length) base nilS Zbj bef)):=hid (Zg.out.set 5 _);have Zf:=hid (Zb4 Y8.out hch6 hgB hgB);have Xf:=hid (Zb4 Un.out hch6 hgB hgB);have Ul:=hid (Vn.out.chg hch6 (Ne.symm hne) (Ne.symm hne) hg0 hg0);have Vm:=hid (ZK.out.setCell g 5 (.slice A3 vals.length c3) (.inl rfl));clear ho3 ha3 hc3 hcc3 YQ Yg Yu Um d9 QW Y8 Vn ZK Zg Un hch6 hm hgr4 hB4;go_upto_region 7 with fail
   clear e5 f5;generalize w5.setCell ⟨g,5,none⟩ (.slice A3 vals.length c3)=w6 at *;have HDF:=hid (Zsv _ vals w6 (Zba Zf.out) (by unfold maxLen;omega));have Z4:=hid (fun(n:Nat) (b:Bool)=>(⟨⟨_,_,_,Xe.out.drewN n,Zbt Zf.out (Zag (Zab w6) n),Zbt Xf.out (Zag (Zab w6) n),World.ownsRow_nil _ _ _ _⟩,Ul.out.mono (Zag (Zab w6) n),Vm.out.drewN n⟩:OutAt_I w0 w (w6.drewN n) B g gr rows codec wd k nulls Zbj bef base { b:=b,left:=xl,short:=s4,list:=vals,ends:=es,lanes:=[] }));obtain⟨df,hdf⟩:∃ df,Zbb eqI vals=df:=⟨_,rfl⟩;rw[hdf]at HDF Yb;clear hdf;have hO:=Yb.out;subst hO;clear Yb;cases ok
   case' false =>
    go_wp2_with fail
    go_ret;exact⟨rfl,Z4.out 0 _⟩
   case' true =>
    go_wp2_with (go_at_call 235;refine HDF.out.mono ?_;rintro e w7 ⟨rfl,n7,rfl⟩)
    go_ret;exact⟨rfl,Z4.out _ _⟩
def Zff (base:Int):Nat:=(9223372036854775807-base).toNat
def Zdm (wd base:Int) (k:Nat) (xs:List Nat) (s:Bool):Out_I :=
 { b:=Zcj wd k 5 (Za6 xs) (Zff base),left:=tkL (8*(xs.length/8)) xs,short:=tkS (8*(xs.length/8)) xs s,list:=[],ends:=[],lanes:=Za6 xs }
theorem Zt6 (b:Int) (h1 : -9223372036854775808≤b) (h2:b≤9223372036854775807):IntKind.u64.wrap (9223372036854775807-IntKind.u64.wrap b)=((Zff b:Nat):Int):=by
 unfold Zff;rw[IntKind.wrap_u64,IntKind.wrap_u64];omega
theorem Zjb (x:Nat) : -9223372036854775808≤Zcf x∧Zcf x≤9223372036854775807:=by unfold Zcf wrap64;omega
set_option maxHeartbeats 4000000 in
theorem Zg0 (w0 w:World) (g gr:Nat) (xs:List Nat) (s:Bool) (rows codec wd:Int) (k:Nat) (nulls bef:Value) (base:Int) (hT:Tab w0)
  (hc:Row w g 207 (ck_I rows codec wd nulls k nilS nilS base nilS Zbj bef)) (hr:Zap w0 w gr xs s) (hne:g≠gr) (hg0:w0.heap.size≤g) (hgs:gr<w.heap.size)
  (hv:∀ x∈xs,x<256) (hl:xs.length≤16777216) (hb1 : -9223372036854775808≤base) (hb2:base≤9223372036854775807) :
  Calls Tryz.prog 201 #[.pointer (some ⟨g,0,none⟩),.pointer (some ⟨gr,0,none⟩)] w fun e w' =>
   e=.returned (.bool (Zdm wd base k xs s).b)∧OutAt_I w0 w w' w.heap.size g gr rows codec wd k nulls Zbj bef base (Zdm wd base k xs s):=by
 have hroom:=Zt6 base hb1 hb2;have hrl:Zff base<18446744073709551616:=by unfold Zff;omega
 have Yr:=hid (Zmg w0 w g gr xs s rows codec wd k nulls nilS nilS nilS Zbj bef base 5 (Zff base) hT hc hr hne hg0 hgs hv hl hrl);have e7:w.cell? ⟨g,0+7,none⟩=some (.int .i64 base):=by rw[hc.cell];rfl
 unfold Zdm;generalize Zff base=rm at *;generalize Zcj wd k 5 (Za6 xs) rm=lb at *;clear hc hr hv hT;go_enter Tryz.func201,Tryz.ntmps201;go_wp2_with fail
 refine Yr.out.mono ?_;rintro e w1 ⟨rfl,v,h1,h2,h3,h4⟩;have H1:=hid h1;have H2:=hid h2;have H3:=hid h3;have H4:=hid h4;clear h1 h2 h3 h4;go_wp2_with fail
 go_ret;exact⟨rfl,⟨_,_,_,H1.out,World.ownsRow_nil _ _ _ _,World.ownsRow_nil _ _ _ _,H2.out⟩,H3.out,H4.out⟩
def Zc6 (codec:Nat) (xs:List Nat):Int:=if codec=4 then Zcf (L.wordOf 8 (tk 8 xs))else 0
def Zbc (codec:Nat) (wd:Int) (k:Nat) (xs:List Nat) (s:Bool):Out_I :=
 if codec=1 then Zbu wd k xs s else if codec=2 then Zbv wd k xs s else if codec=3 then Zbp wd k xs s
 else if codec=4 then Zdm wd (Zc6 4 xs) k (tkL 8 xs) (tkS 8 xs s)else Zdm wd 0 k xs s
set_option maxHeartbeats 8000000 in
theorem Zoe (w0 w:World) (g gr:Nat) (xs:List Nat) (s:Bool) (rows wd:Int) (codec k:Nat) (nulls bef:Value) (hT:Tab w0)
  (hc:Row w g 207 (ck_I rows codec wd nulls k nilS nilS 0 nilS Zbj bef)) (hr:Zap w0 w gr xs s) (hne:g≠gr) (hg0:w0.heap.size≤g) (hgs:gr<w.heap.size)
  (hv:∀ x∈xs,x<256) (hl:xs.length≤16777216) (hk:k≤65536) (hcd:1≤codec∧codec≤5) :
  Calls Tryz.prog 161 #[.pointer (some ⟨g,0,none⟩),.pointer (some ⟨gr,0,none⟩)] w fun e w' =>
   e=.returned (.bool (Zbc codec wd k xs s).b)∧OutAt_I w0 w w' w.heap.size g gr rows codec wd k nulls Zbj bef (Zc6 codec xs) (Zbc codec wd k xs s):=by
 have c1:w.cell? ⟨g,0+1,none⟩=some (.int .i64 codec):=by rw[hc.cell];rfl
 obtain⟨O,hO⟩:∃ O,Zbc codec wd k xs s=O:=⟨_,rfl⟩;obtain⟨bs,hbs⟩:∃ bs,Zc6 codec xs=bs:=⟨_,rfl⟩;rw[hO,hbs];have HO:=hid hO;have Yi:=hid hbs;have HC:=hid hc;clear hO hbs;by_cases h1:codec=1
 ·subst h1;obtain rfl:Zbu wd k xs s=O:=by rw[← HO.out];rfl
  obtain rfl:(0:Int)=bs:=by rw[← Yi.out];rfl
  have HP:=hid (Zrr w0 w g gr xs s rows _ wd k nulls bef 0 hc hr hne hg0 hgs hv hl hk);generalize Zbu wd k xs s=O at *;clear hc hr hv hT;go_enter Tryz.func161,Tryz.ntmps161;go_wp2_with (go_at_call 198;refine HP.out.mono ?_;rintro e w1 ⟨rfl,h⟩;have H:=hid h;clear h)
  go_ret;exact⟨rfl,H.out⟩
 by_cases h2:codec=2
 ·subst h2;obtain rfl:Zbv wd k xs s=O:=by rw[← HO.out];rfl
  obtain rfl:(0:Int)=bs:=by rw[← Yi.out];rfl
  have HP:=hid (Zul w0 w g gr xs s rows _ wd k nulls bef 0 hT hc hr hne hg0 hgs hv hl hk);generalize Zbv wd k xs s=O at *;clear hc hr hv hT;go_enter Tryz.func161,Tryz.ntmps161;go_wp2_with (go_at_call 199;refine HP.out.mono ?_;rintro e w1 ⟨rfl,h⟩;have H:=hid h;clear h)
  go_ret;exact⟨rfl,H.out⟩
 by_cases h3:codec=3
 ·subst h3;obtain rfl:Zbp wd k xs s=O:=by rw[← HO.out];rfl
  obtain rfl:(0:Int)=bs:=by rw[← Yi.out];rfl
  have HP:=hid (Zvs w0 w g gr xs s rows _ wd k nulls bef 0 hc hr hne hg0 hgs hv hl hk);generalize Zbp wd k xs s=O at *;clear hc hr hv hT;go_enter Tryz.func161,Tryz.ntmps161;go_wp2_with (go_at_call 200;refine HP.out.mono ?_;rintro e w1 ⟨rfl,h⟩;have H:=hid h;clear h)
  go_ret;exact⟨rfl,H.out⟩
 by_cases h4:codec=4
 ·subst h4;obtain rfl:Zdm wd (Zc6 4 xs) k (tkL 8 xs) (tkS 8 xs s)=O:=by rw[← HO.out];rfl
  obtain rfl:Zc6 4 xs=bs:=Yi.out;obtain⟨xs1,hx1⟩:∃ xs1,tkL 8 xs=xs1:=⟨_,rfl⟩;obtain⟨s1,hs1⟩:∃ s1,tkS 8 xs s=s1:=⟨_,rfl⟩;have hxl1:xs1.length≤16777216:=by rw[← hx1];exact Nat.le_trans (Zbn _ _) hl
  have hxv1:∀ x∈xs1,x<256:=by rw[← hx1];exact Zas hv
  obtain⟨x,hx⟩:∃ x,L.wordOf 8 (tk 8 xs)=x:=⟨_,rfl⟩;have hx64:x<18446744073709551616:=by rw[← hx];exact Zfz _ (Zc8 hv) (Zib 8 xs)
  have hbp:Zc6 4 xs=Zcf x:=by unfold Zc6;rw[if_pos rfl,hx]
  have hU:=Zwj w0 w gr xs s hr hv hl;rw[hx,hx1,hs1]at hU;rw[hx1,hs1,hbp];have HU:=hid hU;have HT:=hid hT;have c7:w.cell? ⟨g,0+7,none⟩=some (.int .i64 0):=by rw[hc.cell];rfl
  have hgw:g<w.heap.size:=hc.lt;have HOFF:=hid (fun(w2:World) (h1:Row w2 g 207 (ck_I rows (4:Nat) wd nulls k nilS nilS (Zcf x) nilS Zbj bef)) (h2:Zap w0 w2 gr xs1 s1) (h3:gr<w2.heap.size) =>
   Zg0 w0 w2 g gr xs1 s1 rows (4:Nat) wd k nulls bef (Zcf x) hT h1 h2 hne hg0 h3 hxv1 hxl1 (Zjb x).1 (Zjb x).2)
  obtain⟨B,hB⟩:∃ B,w.heap.size=B:=⟨_,rfl⟩;have HB:=hid hB;rw[hB];generalize Zdm wd (Zcf x) k xs1 s1=O at *;clear hc hr hv hT hU hx1 hs1 hx hbp HO Yi hB hxv1;go_enter Tryz.func161,Tryz.ntmps161;go_wp2_with fail
  refine HU.out.mono ?_;rintro e w1 ⟨rfl,h1,h2⟩;have QH:=hid (h2.row HC.out hne hne);have d7:w1.cell? ⟨g,0+7,none⟩=some (.int .i64 0):=by rw[QH.out.cell];rfl
  have f7:=QH.out.frozen (0+7);have hch:=(Chg.refl g g w1).setCell g 7 (.int .i64 (Zcf x)) (.inl rfl);have Qp:Hid (Row (w1.setCell ⟨g,7,none⟩ (.int .i64 (Zcf x))) g 207 (ck_I rows (4:Nat) wd nulls k nilS nilS (Zcf x) nilS Zbj bef)):=hid (QH.out.set 7 _);have Uk:=hid (h1.chg hch (Ne.symm hne) (Ne.symm hne) hg0 hg0);have J4:=hid ((Chg.wide' (a:=g) h2).setCell g 7 (.int .i64 (Zcf x)) (.inl rfl));have hgr2:gr<(w1.setCell ⟨g,7,none⟩ (.int .i64 (Zcf x))).heap.size:=Nat.lt_of_lt_of_le hgs J4.out.size;have hB2:B≤(w1.setCell ⟨g,7,none⟩ (.int .i64 (Zcf x))).heap.size:=by have:=HB.out;have:=J4.out.size;omega
  have esg:wrap64 (x:Int)=Zcf x:=rfl;clear h1 h2 hch HC QH c7 HU;go_wp2_with fail
  rw[esg];clear d7 f7 esg;generalize w1.setCell ⟨g,7,none⟩ (.int .i64 (Zcf x))=w2 at *;refine(HOFF.out w2 Qp.out Uk.out hgr2).mono ?_;rintro e w3 ⟨rfl,h⟩;have H:=hid h;clear h;go_wp2_with fail
  go_ret;obtain⟨⟨lv,ev,nv,h1,h2,h3,h4⟩,h5,h6⟩:=H.out;exact⟨rfl,⟨lv,ev,nv,h1,Zdw h2 hB2,Zdw h3 hB2,Zdw h4 hB2⟩,h5,J4.out.trans h6⟩
 ·obtain rfl:codec=5:=by omega
  obtain rfl:Zdm wd 0 k xs s=O:=by rw[← HO.out];rfl
  obtain rfl:(0:Int)=bs:=by rw[← Yi.out];rfl
  have HP:=hid (Zg0 w0 w g gr xs s rows _ wd k nulls bef 0 hT hc hr hne hg0 hgs hv hl (by omega) (by omega));generalize Zdm wd 0 k xs s=O at *;clear hc hr hv hT;go_enter Tryz.func161,Tryz.ntmps161;go_wp2_with (go_at_call 201;refine HP.out.mono ?_;rintro e w1 ⟨rfl,h⟩;have H:=hid h;clear h)
  go_ret;exact⟨rfl,H.out⟩
end Go.Proofs.YtmcjknjlihgihaaGreatDoor
