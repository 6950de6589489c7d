/- Package chunk: offsets and whole payloads of integers off the reader. -/
import Derived.Test.YtmcjknjlihgihaaGreatDoorLawparseuptoM13
set_option linter.unusedVariables false
set_option linter.unusedSimpArgs false
set_option linter.unnecessarySimpa false
set_option maxRecDepth 100000
namespace Go.Proofs.YtmcjknjlihgihaaGreatDoor
open Go.RowKit
set_option maxHeartbeats 4000000 in
theorem Zsi (w0 w:World) (g gr:Nat) (xs:List Nat) (s:Bool) (rows codec wd k:Int) (nulls list ends lanes kind bef:Value) (base op:Int) (lim:Nat)
  (hT:Tab w0) (hc:Row w g 198 (ck_S rows codec wd nulls k list ends base lanes kind bef)) (hr:Zaq w0 w gr xs s) (hne:g≠gr) (hg0:w0.heap.size≤g) (hgs:gr<w.heap.size)
  (hv:∀ x∈xs,x<256) (hl:xs.length≤16777216) (hlim:lim<18446744073709551616) :
  Calls Tryz.prog 226 #[.pointer (some ⟨g,0,none⟩),.pointer (some ⟨gr,0,none⟩),.int .i64 op,.int .u64 lim] w fun e w' =>
   e=.returned (.bool (Zck wd k op (Za7 xs) lim))∧∃ v,Row w' g 198 (ck_S rows codec wd nulls k list ends base v kind bef) ∧
    w'.ownsRow w.heap.size 73 1 v (Za7 xs).length (u64s (Za7 xs))∧Zaq w0 w' gr (tkL (8*(xs.length/8)) xs) (tkS (8*(xs.length/8)) xs s)∧Chg g gr w w':=by
 obtain⟨ws,hws⟩:∃ ws,Za7 xs=ws:=⟨_,rfl⟩;have hwv:∀ x∈ws,x<18446744073709551616:=by rw[← hws];exact Zdz (Zdh hv) (by omega)
 have hwl:ws.length≤2097152:=by rw[← hws,Zfj];omega
 obtain⟨c,hcc⟩:∃ c,xs.length/8=c:=⟨_,rfl⟩;obtain⟨xl,hxl⟩:∃ xl,tkL (8*c) xs=xl:=⟨_,rfl⟩;obtain⟨s1,hs1⟩:∃ s1,tkS (8*c) xs s=s1:=⟨_,rfl⟩;have hU:=Zhw w0 w gr xs s c hr hgs hv hl (by omega);have hwc:numL 8 (tk (8*c) xs)=ws:=by rw[← hws,← hcc];rfl
 rw[hwc,hxl,hs1]at hU;rw[hws,hcc,hxl,hs1];have HU:=hid hU;have ZL:=hid (Zhz w0 w gr xs s hr hl);have hce:(xs.length:Int)/8=(c:Int):=by omega
 have HC:=hid hc;have HR:=hid hr;have HT:=hid hT;have Vy:=hid hT.lt;have hgw:g<w.heap.size:=hc.lt;obtain⟨B,hB⟩:∃ B,w.heap.size=B:=⟨_,rfl⟩;have HB:=hid hB;rw[hB];obtain⟨wr,hwr⟩:∃ wr,cmpR wd k op ws lim=wr:=⟨_,rfl⟩;obtain⟨ok,hok⟩:∃ ok,Zh8 wd k op ws=ok:=⟨_,rfl⟩;have hwrl:wr.length≤maxLen:=by rw[← hwr];have:=Zt6 wd k op ws lim;unfold maxLen;omega
 have hwrv:∀ x∈wr,x<18446744073709551616:=by rw[← hwr];exact Zx1 wd k op ws lim
 have eB:Zck wd k op ws lim=(ok&&(Zee k k wr==0)):=by rw[Zck,hwr,hok]
 rw[eB];have Jl:=hid (fun(w2:World) (v:Value) (h1:Tab w2) (h2:Rd w2 v ws.length 1 (u64s ws))=>Zm6 v ws wd k op lim w2 h1 h2 hwv hlim (by unfold maxLen;omega));rw[hwr,hok]at Jl;obtain⟨rk,hrk⟩:∃ rk,Zee k k wr=rk:=⟨_,rfl⟩;have YL:=hid (fun(w2:World) (v:Value) (h2:Rd w2 v wr.length 1 (u64s wr))=>Zll v wr k k w2 h2 hwrv hwrl);rw[hrk]at YL ⊢;clear hws hwc hxl hs1 hcc hU hc hr hT hB hwr hok eB hrk hv hwv;go_enter Tryz.func226,Tryz.ntmps226;go_upto_region 2 with (first
  | (go_at_call 158;refine ZL.out.mono ?_;rintro e w1 ⟨rfl,hw⟩;replace hw:=hw.symm;subst hw)
  | (go_at_call 123;refine HU.out.mono ?_;rintro e w1 ⟨p,hp,rfl,hrow,hat,hch⟩;have HP:=hid hp;have Qq:=hid hrow;have Yd:=hid hat;have Ya:=hid hch;have Yj:=hid (hch.row HC.out hne hne);have c8:w1.cell? ⟨g,0+8,none⟩=some lanes:=(by rw[Yj.out.cell];rfl);have f8:=Yj.out.frozen (0+8);clear hp hrow hat hch))
 have Qp:Hid (Row (w1.setCell ⟨g,8,none⟩ (.slice (some ⟨p,0,none⟩) ws.length ws.length)) g 198 (ck_S rows codec wd nulls k list ends base (.slice (some ⟨p,0,none⟩) ws.length ws.length) kind bef)):=hid (Yj.out.set 8 _);have HS:=hid ((Chg.refl g gr w1).setCell g 8 (.slice (some ⟨p,0,none⟩) ws.length ws.length) (.inl rfl));have hpB:B≤p:=by have:=HP.out;have:=HB.out;omega
 have hpg:p≠g:=by have:=HB.out;omega
 have hpgr:p≠gr:=by have:=HB.out;omega
 have Qu:=hid (Yd.out.chg ((Chg.refl g g w1).setCell g 8 (.slice (some ⟨p,0,none⟩) ws.length ws.length) (.inl rfl)) (Ne.symm hne) (Ne.symm hne) hg0 hg0);have QR:=hid (HS.out.row Qq.out hpg hpgr);have QF:=hid ((Chg.wide' (a:=g) Ya.out).trans HS.out);clear Yj Qq Yd HS HC HR ZL HU;generalize w1.setCell ⟨g,8,none⟩ (.slice (some ⟨p,0,none⟩) ws.length ws.length)=w2 at *;have hT2:Hid (Tab w2):=hid (HT.out.mono Qu.out.2.1 Vy.out);have Ye:=hid (QR.out.rd' (n:=ws.length) (by simp[u64s]) (by unfold maxLen;omega));have d8:w2.cell? ⟨g,0+8,none⟩=some (.slice (some ⟨p,0,none⟩) ws.length ws.length):=by rw[Qp.out.cell];rfl
 have d2:w2.cell? ⟨g,0+2,none⟩=some (.int .i64 wd):=by rw[Qp.out.cell];rfl
 have d4:w2.cell? ⟨g,0+4,none⟩=some (.int .i64 k):=by rw[Qp.out.cell];rfl
 have QT:=hid (fun nd:Nat=>Jl.out (w2.drewN nd) _ (hT2.out.mono (Zaf (Zab w2) nd) hT2.out.lt) (Ye.out.mono (Zaf (Zab w2) nd)));clear c8 f8 Jl;have d8':w2.cell? ⟨g,8,none⟩=some (.slice (some ⟨p,0,none⟩) ws.length ws.length):=by rw[Qp.out.cell];rfl
 have d2':w2.cell? ⟨g,2,none⟩=some (.int .i64 wd):=by rw[Qp.out.cell];rfl
 have d4':w2.cell? ⟨g,4,none⟩=some (.int .i64 k):=by rw[Qp.out.cell];rfl
 clear d8 d2 d4;have hgw2:g<w2.heap.size:=Qp.out.lt;go_cut [9,10]from 11 (fun s9 s10 wc=>s10=.bool ok∧Hid (Rd wc s9 wr.length 1 (u64s wr))∧Hid (Below w2.heap.size w2 wc))
 case first =>
  go_region_held3 (fun w'=>w'.cell? ⟨g,8,none⟩=some (.slice (some ⟨p,0,none⟩) ws.length ws.length)∧w'.cell? ⟨g,2,none⟩=some (.int .i64 wd)∧w'.cell? ⟨g,4,none⟩=some (.int .i64 k)) (go_keep)
   (first | (go_at_call 252;refine(QT.out 1).mono ?_;rintro e w3 ⟨r3,rfl,ho3,hb3⟩;have Y6:=hid ho3;have Qe:=hid hb3;obtain⟨A3,c3,rfl,hc3,_,_,_⟩:=Zao ho3;have k8:=(hb3.cell (p:=⟨g,8,none⟩) hgw2).trans d8';have k2:=(hb3.cell (p:=⟨g,2,none⟩) hgw2).trans d2';have k4:=(hb3.cell (p:=⟨g,4,none⟩) hgw2).trans d4';clear ho3 hb3 hc3))
  all_goals (go_wp2_with fail;go_meet)
  all_goals exact⟨rfl,hid (Zba Y6.out),hid ((Zaf (Zab w2) _).trans Qe.out)⟩
 case rest =>
  obtain⟨rfl,HW9,Ym⟩:=hcut;have Qn:Hid (Row wc g 198 (ck_S rows codec wd nulls k list ends base (.slice (some ⟨p,0,none⟩) ws.length ws.length) kind bef)):=hid (Qp.out.mono Ym.out);have e4:wc.cell? ⟨g,4,none⟩=some (.int .i64 k):=by rw[Qn.out.cell];rfl
  have Jm:=hid (fun nd:Nat=>YL.out (wc.drewN nd) _ (HW9.out.mono (Zaf (Zab wc) nd)));have Ut:=hid (QR.out.mono Ym.out);have Jn:=hid (Qu.out.mono Ym.out);have Y9:=hid (QF.out.then_below Ym.out QF.out.size);clear Qp QR Qu QF Ym d8' d2' d4' QT YL HW9 Ye hT2;cases ok
  case' false =>
   go_wp2_with fail
   go_quiet (fail)
  case' true =>
   go_wp2_with fail
   go_quiet (first | (go_at_call 154;refine Calls.quiet_of (Jm.out _)))
  all_goals go_wp2_with fail
  all_goals go_ret
  all_goals exact⟨rfl,_,Qn.out.drewN nq,(Ut.out.drewN nq).owns hpB (by simp[u64s]) (by unfold maxLen;omega),Jn.out.mono (Zaf (Zab wc) nq),Y9.out.drewN nq⟩
theorem Zhm:∀ w:World,(method 457 157 (.agg #[]) "colscan/chunk.readList").run Tryz.prog w=.ok (315,.agg #[]) w:=fun _=>by kernel_rfl
structure Out_S where
 b:Bool
 left:List Nat
 short:Bool
 list:List ByteArray
 ends:List Nat
 lanes:List Nat
structure OutAt_S (w0 w w':World) (B g gr:Nat) (rows codec wd k:Int) (nulls kind bef:Value) (base:Int) (o:Out_S):Prop where
 ck:∃ lv ev nv,Row w' g 198 (ck_S rows codec wd nulls k lv ev base nv kind bef)∧w'.ownsRow B 9 1 lv o.list.length (strs o.list) ∧
  w'.ownsRow B 3 1 ev o.ends.length (nIs o.ends)∧w'.ownsRow B 73 1 nv o.lanes.length (u64s o.lanes)
 rdr:Zaq w0 w' gr o.left o.short
 chg:Chg g gr w w'
def Zbv:Value:=.iface 157 (.agg #[])
def Zbk (wd:Int) (k:Nat) (xs:List Nat) (s:Bool):Out_S :=
 { b:=(rdS k xs s).2.1&&decide (wd=0),left:=(rdS k xs s).2.2.1,short:=(rdS k xs s).2.2.2,list:=(rdS k xs s).1,ends:=[],lanes:=[] }
set_option maxHeartbeats 4000000 in
theorem Ztr (w0 w:World) (g gr:Nat) (xs:List Nat) (s:Bool) (rows codec wd:Int) (k:Nat) (nulls bef:Value) (base:Int)
  (hc:Row w g 198 (ck_S rows codec wd nulls k nilS nilS base nilS Zbv bef)) (hr:Zaq w0 w gr xs s) (hne:g≠gr) (hg0:w0.heap.size≤g) (hgs:gr<w.heap.size)
  (hv:∀ x∈xs,x<256) (hl:xs.length≤16777216) (hk:k≤65536) :
  Calls Tryz.prog 190 #[.pointer (some ⟨g,0,none⟩),.pointer (some ⟨gr,0,none⟩)] w fun e w' =>
   e=.returned (.bool (Zbk wd k xs s).b)∧OutAt_S w0 w w' w.heap.size g gr rows codec wd k nulls Zbv bef base (Zbk wd k xs s):=by
 have HC:=hid hc;have HR:=hid hr;have Yc:=hid (fun nd:Nat=>Zgq w0 (w.drewN nd) gr xs s k (hr.mono (Zaf (Zab w) nd)) hgs hv hl (by omega));have d9:w.cell? ⟨g,9,none⟩=some (.iface 157 (.agg #[])):=by rw[hc.cell];rfl
 have d4:w.cell? ⟨g,4,none⟩=some (.int .i64 k):=by rw[hc.cell];rfl
 have hgw:g<w.heap.size:=hc.lt;obtain⟨vals,b,xl,s1,hR⟩:∃ vals b xl s1,rdS k xs s=(vals,b,xl,s1):=⟨_,_,_,_,rfl⟩;have eO:Zbk wd k xs s={ b:=b&&decide (wd=0),left:=xl,short:=s1,list:=vals,ends:=[],lanes:=[] }:=by unfold Zbk;rw[hR]
 rw[eO];rw[hR]at Yc;clear hc hr hv eO hR;obtain⟨B,hB⟩:∃ B,w.heap.size=B:=⟨_,rfl⟩;have HB:=hid hB;rw[hB];clear hB;have hm:=Zhm;go_enter Tryz.func190,Tryz.ntmps190;go_upto_region 1 with fail
 go_cut [5,6]from 7 (fun s5 s6 wc=>∃ A c,s5=.slice A vals.length c∧s6=.bool b∧Hid (wc.ownsRow B 9 1 (.slice A vals.length c) vals.length (strs vals))∧Hid (Zaq w0 wc gr xl s1)∧Hid (Chg g gr w wc)∧Hid (Row wc g 198 (ck_S rows codec wd nulls k nilS nilS base nilS Zbv bef)))
 case first =>
  go_region_held3 (fun w'=>w'.cell? ⟨g,9,none⟩=some (.iface 157 (.agg #[]))∧w'.cell? ⟨g,4,none⟩=some (.int .i64 k)) (go_keep)
   (first | (go_at_call 315;refine(Yc.out 1).mono ?_;rintro e w3 ⟨v3,rfl,ho3,ha3,hc3⟩;have k9:=(hc3.cell g 9 hgw hne hne).trans d9;have k4:=(hc3.cell g 4 hgw hne hne).trans d4;have Y6:=hid ho3;have Yx:=hid ha3;have QT:=hid (Chg.wide' (a:=g) hc3);have Qn:=hid (hc3.row (HC.out.drewN 1) hne hne);obtain⟨A3,c3,rfl,hcc3,_,_,_⟩:=Zao ho3;clear ho3 ha3 hc3 hcc3))
  all_goals (go_wp2_with fail;go_meet)
  all_goals exact⟨_,_,rfl,rfl,hid (by rw[← HB.out];exact Y6.out),Yx,hid (((Chg.refl g gr w).drewN 1).trans QT.out),Qn⟩
 case rest =>
  obtain⟨A3,c3,rfl,rfl,Y6,Yx,QT,Qn⟩:=hcut;have e5:wc.cell? ⟨g,0+5,none⟩=some nilS:=by rw[Qn.out.cell];rfl
  have e2:wc.cell? ⟨g,0+2,none⟩=some (.int .i64 wd):=by rw[Qn.out.cell];rfl
  have f5:=Qn.out.frozen (0+5);have hFIN:∀ bb:Bool,OutAt_S w0 w (wc.setCell ⟨g,5,none⟩ (.slice A3 vals.length c3)) B g gr rows codec wd k nulls Zbv bef base { b:=bb,left:=xl,short:=s1,list:=vals,ends:=[],lanes:=[] }:=by
   intro bb;have hch:=(Chg.refl g g wc).setCell g 5 (.slice A3 vals.length c3) (.inl rfl);have hgB:g<B:=by have:=HB.out;omega
   exact⟨⟨_,_,_,Qn.out.set 5 _,Zb5 Y6.out hch hgB hgB,World.ownsRow_nil _ _ _ _,World.ownsRow_nil _ _ _ _⟩,Yx.out.chg hch (Ne.symm hne) (Ne.symm hne) hg0 hg0,QT.out.setCell g 5 _ (.inl rfl)⟩
  have Qw:=hid hFIN;clear hFIN HC HR Yc d9 d4 hm;cases b
  case' false=>go_wp2
  case' true=>go_wp2
  all_goals go_ret
  all_goals exact⟨by by_cases h:wd=0<;>simp[h],Qw.out _⟩
theorem Zim {w:World} {B C:Nat} {e:TypeId} {v:Value} {n:Nat} {cs:List Value} (h:w.ownsRow B e 1 v n cs) (hC:C≤B):w.ownsRow C e 1 v n cs:=by
 refine⟨h.1,?_⟩;rcases h.2 with hn | ⟨g,cap,cur,rfl,hb',hg,r⟩
 ·exact .inl hn
 ·exact .inr ⟨g,cap,cur,rfl,Nat.le_trans hC hb',hg,r⟩
def Zbp (wd:Int) (k:Nat) (xs:List Nat) (s:Bool):Out_S :=
 if 256<L.wordOf 8 (tk 4 xs)∨wd≠(Zgl (L.wordOf 8 (tk 4 xs)):Int)then { b:=false,left:=tkL 4 xs,short:=tkS 4 xs s,list:=[],ends:=[],lanes:=[] }
 else match rdS (L.wordOf 8 (tk 4 xs)) (tkL 4 xs) (tkS 4 xs s)with
  | (vals,ok,xl,s1) =>
   if (ok&&Zbd geS vals)=true then { b:=Zck wd k 6 (Za7 xl) (L.wordOf 8 (tk 4 xs)),left:=tkL (8*(xl.length/8)) xl,short:=tkS (8*(xl.length/8)) xl s1,list:=vals,ends:=[],lanes:=Za7 xl }
   else { b:=false,left:=xl,short:=s1,list:=vals,ends:=[],lanes:=[] }
set_option maxHeartbeats 8000000 in
theorem Zu5 (w0 w:World) (g gr:Nat) (xs:List Nat) (s:Bool) (rows codec wd:Int) (k:Nat) (nulls bef:Value) (base:Int) (hT:Tab w0)
  (hc:Row w g 198 (ck_S rows codec wd nulls k nilS nilS base nilS Zbv bef)) (hr:Zaq w0 w gr xs s) (hne:g≠gr) (hg0:w0.heap.size≤g) (hgs:gr<w.heap.size)
  (hv:∀ x∈xs,x<256) (hl:xs.length≤16777216) (hk:k≤65536) :
  Calls Tryz.prog 191 #[.pointer (some ⟨g,0,none⟩),.pointer (some ⟨gr,0,none⟩)] w fun e w' =>
   e=.returned (.bool (Zbp wd k xs s).b)∧OutAt_S w0 w w' w.heap.size g gr rows codec wd k nulls Zbv bef base (Zbp wd k xs s):=by
 have hU:=Zff w0 w gr xs s hr hv hl;have hd32:L.wordOf 8 (tk 4 xs)<4294967296:=Zb0 _ (Zdh hv) (Zit 4 xs);obtain⟨d,hd⟩:∃ d,L.wordOf 8 (tk 4 xs)=d:=⟨_,rfl⟩;obtain⟨xs1,hx1⟩:∃ xs1,tkL 4 xs=xs1:=⟨_,rfl⟩;obtain⟨s1,hs1⟩:∃ s1,tkS 4 xs s=s1:=⟨_,rfl⟩;have hxl1:xs1.length≤16777216:=by rw[← hx1];exact Nat.le_trans (Zbn _ _) hl
 have hxv1:∀ x∈xs1,x<256:=by rw[← hx1];exact Zau hv
 obtain⟨O,hO⟩:∃ O,Zbp wd k xs s=O:=⟨_,rfl⟩;have HO:=hid hO;unfold Zbp at HO;rw[hd,hx1,hs1]at HO;rw[hd,hx1,hs1]at hU;rw[hd]at hd32;rw[hO];have HU:=hid hU;have HC:=hid hc;have HT:=hid hT;have hgw:g<w.heap.size:=hc.lt;have d2:w.cell? ⟨g,2,none⟩=some (.int .i64 wd):=by rw[hc.cell];rfl
 clear hU hc hr hT hd hx1 hs1 hO hv hl;obtain⟨B,hB⟩:∃ B,w.heap.size=B:=⟨_,rfl⟩;have HB:=hid hB;rw[hB];clear hB;have hm:=Zhm;go_enter Tryz.func191,Tryz.ntmps191;go_upto_region 2 with (first | (go_at_call 81;refine HU.out.mono ?_;rintro e w1 ⟨rfl,ha1,hc1⟩;have JQ:=hid ha1;have QK:=hid (Chg.wide' (a:=g) hc1);have QM:=hid (hc1.row HC.out hne hne);clear ha1 hc1))
 have e2:w1.cell? ⟨g,2,none⟩=some (.int .i64 wd):=by rw[QM.out.cell];rfl
 have hgr1:gr<w1.heap.size:=Nat.lt_of_lt_of_le hgs QK.out.size;have hgB:g<B:=by have:=HB.out;omega
 have hB1:B≤w1.heap.size:=by have:=HB.out;have:=QK.out.size;omega
 have Qc:Hid (∀ n,OutAt_S w0 w (w1.drewN n) B g gr rows codec wd k nulls Zbv bef base { b:=false,left:=xs1,short:=s1,list:=[],ends:=[],lanes:=[] }):=hid (fun n =>
  ⟨⟨_,_,_,QM.out.drewN n,World.ownsRow_nil _ _ _ _,World.ownsRow_nil _ _ _ _,World.ownsRow_nil _ _ _ _⟩,JQ.out.mono (Zaf (Zab w1) n),QK.out.drewN n⟩)
 clear HU HC d2;by_cases hbig:256<d
 ·have hO:O={ b:=false,left:=xs1,short:=s1,list:=[],ends:=[],lanes:=[] }:=by rw[← HO.out,if_pos (.inl hbig)]
  subst hO;have hb1:(d:Int) > 256:=by omega
  go_wp2_with fail
  go_quiet (fail)
  go_wp2_with fail
  go_ret;exact⟨rfl,Qc.out _⟩
 ·have hb1:¬ (d:Int) > 256:=by omega
  obtain⟨nd,hnd⟩:∃ nd,Zgl d=nd:=⟨_,rfl⟩;have HN:=hid (fun w2:World=>Zt7 d w2 (by omega));rw[hnd]at HN HO;clear hnd;by_cases hw:wd=(nd:Int)
  ·have hw1:(wd != (nd:Int))=false:=by rw[hw];simp
   have hO2:=HO.out;rw[if_neg (fun h=>h.elim (fun h=>hbig h) (fun h=>h hw))]at hO2;obtain⟨vals,ok,xl,s2,hR⟩:∃ vals ok xl s2,rdS d xs1 s1=(vals,ok,xl,s2):=⟨_,_,_,_,rfl⟩;rw[hR]at hO2;simp only at hO2;have hxl:xl.length≤16777216:=by have:=(Zem d xs1 s1).1;rw[hR]at this;exact Nat.le_trans this hxl1
   have hxv:∀ x∈xl,x<256:=by have:=(Zem d xs1 s1).2 256 hxv1;rw[hR]at this;exact this
   have hvl:vals.length≤16777216:=by have:=Zjk d xs1 s1 hxl1;rw[hR]at this;exact this
   have Yk:=hid hO2;have Yc:=hid (fun(w2:World) (h:Zaq w0 w2 gr xs1 s1) (h2:gr<w2.heap.size)=>Zgq w0 w2 gr xs1 s1 d h h2 hxv1 hxl1 (by omega));rw[hR]at Yc;have HHW:=hid hw;clear hO2 hR hw HO Qc;go_wp2_with fail
   go_quiet (first | (go_at_call 215;refine Calls.quiet_of_same (HN.out _)))
   have Uu:=hid (JQ.out.mono (Zaf (Zab w1) nq));have Zq:=hid (QK.out.drewN nq);have Qp:=hid (QM.out.drewN nq);have hgr2:gr<(w1.drewN nq).heap.size:=hgr1;have hB2:B≤(w1.drewN nq).heap.size:=hB1;clear JQ QK QM e2 HN;generalize w1.drewN nq=w2 at *;have d9:w2.cell? ⟨g,0+9,none⟩=some (.iface 157 (.agg #[])):=by rw[Qp.out.cell];rfl
   go_wp2_with fail
   refine(Yc.out w2 Uu.out hgr2).mono ?_;rintro e w3 ⟨v3,rfl,ho3,ha3,hc3⟩;obtain⟨A3,c3,rfl,hcc3,_,_,_⟩:=Zao ho3;have Y6:=hid (Zim ho3 hB2);have Yx:=hid ha3;have QT:=hid (Zq.out.trans (Chg.wide' (a:=g) hc3));have Qn:=hid (hc3.row Qp.out hne hne);have e5:w3.cell? ⟨g,0+5,none⟩=some nilS:=by rw[Qn.out.cell];rfl
   have f5:=Qn.out.frozen (0+5);have hgr3:gr<w3.heap.size:=Nat.lt_of_lt_of_le hgs QT.out.size;have hch4:=(Chg.refl g g w3).setCell g 5 (.slice A3 vals.length c3) (.inl rfl);have Yy:Hid (Row (w3.setCell ⟨g,5,none⟩ (.slice A3 vals.length c3)) g 198 (ck_S rows codec wd nulls k (.slice A3 vals.length c3) nilS base nilS Zbv bef)):=hid (Qn.out.set 5 _);have Zr:=hid (Zb5 Y6.out hch4 hgB hgB);have Zd:=hid (Yx.out.chg hch4 (Ne.symm hne) (Ne.symm hne) hg0 hg0);have Yn:=hid (QT.out.setCell g 5 (.slice A3 vals.length c3) (.inl rfl));have hgr4:gr<(w3.setCell ⟨g,5,none⟩ (.slice A3 vals.length c3)).heap.size:=Nat.lt_of_lt_of_le hgr3 hch4.size;have hB4:B≤(w3.setCell ⟨g,5,none⟩ (.slice A3 vals.length c3)).heap.size:=Nat.le_trans hB2 (Nat.le_trans hc3.size hch4.size);clear ho3 ha3 hc3 hcc3 Uu Zq Qp d9 Yc Y6 Yx QT Qn hch4 hm hgr2 hgr3 hB2;go_upto_region 6 with fail
   clear e5 f5;generalize w3.setCell ⟨g,5,none⟩ (.slice A3 vals.length c3)=w4 at *;have Jo:=hid (Zni _ vals w4 (Zba Zr.out) (by unfold maxLen;omega));have QP:=hid (fun n:Nat=>Zsi w0 (w4.drewN n) g gr xl s2 rows codec wd k nulls (.slice A3 vals.length c3) nilS nilS Zbv bef base 6 d HT.out (Yy.out.drewN n) (Zd.out.mono (Zaf (Zab w4) n)) hne hg0 hgr4 hxv hxl (by omega));have YF:=hid (fun n:Nat=>(⟨⟨_,_,_,Yy.out.drewN n,Zbs Zr.out (Zaf (Zab w4) n),World.ownsRow_nil _ _ _ _,World.ownsRow_nil _ _ _ _⟩,Zd.out.mono (Zaf (Zab w4) n),Yn.out.drewN n⟩:OutAt_S w0 w (w4.drewN n) B g gr rows codec wd k nulls Zbv bef base { b:=false,left:=xl,short:=s2,list:=vals,ends:=[],lanes:=[] }));obtain⟨asc,hasc⟩:∃ asc,Zbd geS vals=asc:=⟨_,rfl⟩;rw[hasc]at Jo Yk;clear hasc;cases ok
   case' false =>
    have hO:=Yk.out;rw[if_neg (by simp)]at hO;subst hO;go_wp2_with fail
    go_ret;exact⟨rfl,YF.out 0⟩
   cases asc
   case' false =>
    have hO:=Yk.out;rw[if_neg (by simp)]at hO;subst hO;go_wp2_with (go_at_call 225;refine Jo.out.mono ?_;rintro e w5 ⟨rfl,n5,rfl⟩)
    go_ret;exact⟨rfl,YF.out _⟩
   case' true =>
    have hO:=Yk.out;rw[if_pos (by rfl)]at hO;obtain⟨lb,hlb⟩:∃ lb,Zck wd k 6 (Za7 xl) d=lb:=⟨_,rfl⟩;rw[hlb]at QP hO;clear YF Yk hlb;subst hO;go_wp2_with (first
     | (go_at_call 225;refine Jo.out.mono ?_;rintro e w5 ⟨rfl,n5,rfl⟩)
     | (go_at_call 226;refine(QP.out n5).mono ?_;rintro e w6 ⟨rfl,v6,hr6,ho6,ha6,hc6⟩;have Vn:=hid hr6;have ZN:=hid (Zim ho6 hB4);have Uv:=hid ha6;have Vz:=hid hc6;have Xr:=hid (Zb5 (Zbs Zr.out (Zaf (Zab w4) n5)) hc6 hgB (by have:=HB.out;omega));clear hr6 ho6 ha6 hc6))
    go_ret;exact⟨rfl,⟨_,_,_,Vn.out,Xr.out,World.ownsRow_nil _ _ _ _,ZN.out⟩,Uv.out,(Yn.out.drewN n5).trans Vz.out⟩
  ·have hO:O={ b:=false,left:=xs1,short:=s1,list:=[],ends:=[],lanes:=[] }:=by rw[← HO.out,if_pos (.inr hw)]
   subst hO;have hw1:(wd != (nd:Int))=true:=by rw[bne_iff_ne];exact hw
   go_wp2_with fail
   go_quiet (first | (go_at_call 215;refine Calls.quiet_of_same (HN.out _)))
   go_wp2_with fail
   go_ret;exact⟨rfl,Qc.out _⟩
def Zbi (wd:Int) (k:Nat) (xs:List Nat) (s:Bool):Out_S :=
 if wd≠0∨Za1 (nI (numL 4 (tk (4*L.wordOf 8 (tk 4 xs)) (tkL 4 xs)))) k=false then
  { b:=false,left:=tkL (4*L.wordOf 8 (tk 4 xs)) (tkL 4 xs),short:=tkS (4*L.wordOf 8 (tk 4 xs)) (tkL 4 xs) (tkS 4 xs s),list:=[],ends:=numL 4 (tk (4*L.wordOf 8 (tk 4 xs)) (tkL 4 xs)),lanes:=[] }
 else match rdS (L.wordOf 8 (tk 4 xs)) (tkL (4*L.wordOf 8 (tk 4 xs)) (tkL 4 xs)) (tkS (4*L.wordOf 8 (tk 4 xs)) (tkL 4 xs) (tkS 4 xs s))with
  | (vals,ok,xl,s3)=>{ b:=ok&&Zbd eqS vals,left:=xl,short:=s3,list:=vals,ends:=numL 4 (tk (4*L.wordOf 8 (tk 4 xs)) (tkL 4 xs)),lanes:=[] }
set_option maxHeartbeats 8000000 in
theorem Zu0 (w0 w:World) (g gr:Nat) (xs:List Nat) (s:Bool) (rows codec wd:Int) (k:Nat) (nulls bef:Value) (base:Int)
  (hc:Row w g 198 (ck_S rows codec wd nulls k nilS nilS base nilS Zbv bef)) (hr:Zaq w0 w gr xs s) (hne:g≠gr) (hg0:w0.heap.size≤g) (hgs:gr<w.heap.size)
  (hv:∀ x∈xs,x<256) (hl:xs.length≤16777216) (hk:k≤65536) :
  Calls Tryz.prog 192 #[.pointer (some ⟨g,0,none⟩),.pointer (some ⟨gr,0,none⟩)] w fun e w' =>
   e=.returned (.bool (Zbi wd k xs s).b)∧OutAt_S w0 w w' w.heap.size g gr rows codec wd k nulls Zbv bef base (Zbi wd k xs s):=by
 have hU:=Zff w0 w gr xs s hr hv hl;have hd32:L.wordOf 8 (tk 4 xs)<4294967296:=Zb0 _ (Zdh hv) (Zit 4 xs);obtain⟨O,hO⟩:∃ O,Zbi wd k xs s=O:=⟨_,rfl⟩;have HO:=hid hO;unfold Zbi at HO;rw[hO];clear hO;obtain⟨d,hd⟩:∃ d,L.wordOf 8 (tk 4 xs)=d:=⟨_,rfl⟩;obtain⟨xs1,hx1⟩:∃ xs1,tkL 4 xs=xs1:=⟨_,rfl⟩;obtain⟨s1,hs1⟩:∃ s1,tkS 4 xs s=s1:=⟨_,rfl⟩;have hxl1:xs1.length≤16777216:=by rw[← hx1];exact Nat.le_trans (Zbn _ _) hl
 have hxv1:∀ x∈xs1,x<256:=by rw[← hx1];exact Zau hv
 rw[hd,hx1,hs1]at hU HO;rw[hd]at hd32;obtain⟨es,hes⟩:∃ es,numL 4 (tk (4*d) xs1)=es:=⟨_,rfl⟩;obtain⟨xs2,hx2⟩:∃ xs2,tkL (4*d) xs1=xs2:=⟨_,rfl⟩;obtain⟨s2,hs2⟩:∃ s2,tkS (4*d) xs1 s1=s2:=⟨_,rfl⟩;have hxl2:xs2.length≤16777216:=by rw[← hx2];exact Nat.le_trans (Zbn _ _) hxl1
 have hxv2:∀ x∈xs2,x<256:=by rw[← hx2];exact Zau hxv1
 have hel:es.length≤16777216:=by
  rw[← hes,Zan];unfold tk;split
  ·rw[List.length_take];omega
  ·simp
 rw[hes,hx2,hs2]at HO;have Xs:=hid (fun(w2:World) (h2:Zaq w0 w2 gr xs1 s1) (hg2:gr<w2.heap.size)=>Zo6 w0 w2 gr xs1 s1 d h2 hg2 hxv1 hxl1 (by omega));rw[hes,hx2,hs2]at Xs;have HU:=hid hU;have HC:=hid hc;have hgw:g<w.heap.size:=hc.lt;clear hU hc hr hd hx1 hs1 hes hx2 hs2 hv hl;obtain⟨B,hB⟩:∃ B,w.heap.size=B:=⟨_,rfl⟩;have HB:=hid hB;rw[hB];clear hB;have hm:=Zhm;have hgB:g<B:=by have:=HB.out;omega
 have hrB:gr<B:=by have:=HB.out;omega
 go_enter Tryz.func192,Tryz.ntmps192;go_upto_region 2 with (first | (go_at_call 81;refine HU.out.mono ?_;rintro e w1 ⟨rfl,ha1,hc1⟩;have JQ:=hid ha1;have QK:=hid (Chg.wide' (a:=g) hc1);have QM:=hid (hc1.row HC.out hne hne);clear ha1 hc1))
 have hgr1:gr<w1.heap.size:=Nat.lt_of_lt_of_le hgs QK.out.size;have hB1:B≤w1.heap.size:=by have:=HB.out;have:=QK.out.size;omega
 clear HU HC;go_wp2_with fail
 refine(Xs.out w1 JQ.out hgr1).mono ?_;rintro e w2 ⟨p,hp,rfl,hrow2,ha2,hc2⟩;have hpB:B≤p:=Nat.le_trans hB1 hp;have hpg:p≠g:=by omega
 have hpr:p≠gr:=by omega
 have Qp:=hid (hc2.row QM.out hne hne);have e6:w2.cell? ⟨g,0+6,none⟩=some nilS:=by rw[Qp.out.cell];rfl
 have f6:=Qp.out.frozen (0+6);have hch:=(Chg.refl g g w2).setCell g 6 (.slice (some ⟨p,0,none⟩) es.length es.length) (.inl rfl);have Qn:Hid (Row (w2.setCell ⟨g,6,none⟩ (.slice (some ⟨p,0,none⟩) es.length es.length)) g 198 (ck_S rows codec wd nulls k nilS (.slice (some ⟨p,0,none⟩) es.length es.length) base nilS Zbv bef)):=hid (Qp.out.set 6 _);have Qd:=hid (hch.row hrow2 hpg hpg);have Yx:=hid (ha2.chg hch (Ne.symm hne) (Ne.symm hne) hg0 hg0);have QT:=hid ((QK.out.trans (Chg.wide' (a:=g) hc2)).setCell g 6 (.slice (some ⟨p,0,none⟩) es.length es.length) (.inl rfl));have hgr3:gr<(w2.setCell ⟨g,6,none⟩ (.slice (some ⟨p,0,none⟩) es.length es.length)).heap.size:=Nat.lt_of_lt_of_le hgs QT.out.size;have hB3:B≤(w2.setCell ⟨g,6,none⟩ (.slice (some ⟨p,0,none⟩) es.length es.length)).heap.size:=Nat.le_trans hB1 (Nat.le_trans hc2.size hch.size);clear hrow2 ha2 hc2 JQ QK QM Qp hch hgr1 hB1 Xs hp;go_upto_region 3 with fail
 clear e6 f6;generalize w2.setCell ⟨g,6,none⟩ (.slice (some ⟨p,0,none⟩) es.length es.length)=w3 at *;have JR:=hid (Qd.out.owns (B:=B) (n:=es.length) hpB (by simp[i64s,nI]) (by unfold maxLen;omega));have Qc:Hid (∀ n,OutAt_S w0 w (w3.drewN n) B g gr rows codec wd k nulls Zbv bef base { b:=false,left:=xs2,short:=s2,list:=[],ends:=es,lanes:=[] }):=hid (fun n =>
  ⟨⟨_,_,_,Qn.out.drewN n,World.ownsRow_nil _ _ _ _,Zbs JR.out (Zaf (Zab w3) n),World.ownsRow_nil _ _ _ _⟩,Yx.out.mono (Zaf (Zab w3) n),QT.out.drewN n⟩)
 have e2:w3.cell? ⟨g,2,none⟩=some (.int .i64 wd):=by rw[Qn.out.cell];rfl
 have e4:w3.cell? ⟨g,4,none⟩=some (.int .i64 k):=by rw[Qn.out.cell];rfl
 have e6:w3.cell? ⟨g,6,none⟩=some (.slice (some ⟨p,0,none⟩) es.length es.length):=by rw[Qn.out.cell];rfl
 have Yr:=hid (fun nd:Nat=>Zie (.slice (some ⟨p,0,none⟩) es.length es.length) (nI es) k (w3.drewN nd) (by rw[Zas];exact((Qd.out.drewN nd).rd' (n:=es.length) (by simp[i64s,nI]) (by unfold maxLen;omega))) (by rw[Zas];unfold maxLen;omega));obtain⟨re,hre⟩:∃ re,Za1 (nI es) k=re:=⟨_,rfl⟩;rw[hre]at Yr HO;clear hre;by_cases hw:wd=0
 case neg =>
  have hO:O={ b:=false,left:=xs2,short:=s2,list:=[],ends:=es,lanes:=[] }:=by rw[← HO.out,if_pos (.inl hw)]
  subst hO;have hw1:(wd != 0)=true:=by rw[bne_iff_ne];exact hw
  go_wp2_with fail
  go_quiet (fail)
  go_wp2_with fail
  go_ret;exact⟨rfl,Qc.out _⟩
 case pos =>
  have hw1:(wd != 0)=false:=by rw[hw];rfl
  cases re
  case false =>
   have hO:O={ b:=false,left:=xs2,short:=s2,list:=[],ends:=es,lanes:=[] }:=by rw[← HO.out,if_pos (.inr rfl)]
   subst hO;clear hw;go_wp2_with fail
   go_quiet (first | (go_at_call 228;refine Calls.quiet_of_same (Yr.out _)))
   go_wp2_with fail
   go_ret;exact⟨rfl,Qc.out _⟩
  case true =>
   have hO2:=HO.out;rw[if_neg (fun h=>h.elim (fun h=>h hw) (fun h=>by cases h))]at hO2;obtain⟨vals,ok,xl,s4,hR⟩:∃ vals ok xl s4,rdS d xs2 s2=(vals,ok,xl,s4):=⟨_,_,_,_,rfl⟩;rw[hR]at hO2;simp only at hO2;have hvl:vals.length≤16777216:=by have:=Zjk d xs2 s2 hxl2;rw[hR]at this;exact this
   have Yk:=hid hO2;have Yc:=hid (fun(w2:World) (h:Zaq w0 w2 gr xs2 s2) (h2:gr<w2.heap.size)=>Zgq w0 w2 gr xs2 s2 d h h2 hxv2 hxl2 (by omega));rw[hR]at Yc;clear hO2 hR hw HO Qc;go_wp2_with fail
   go_quiet (first | (go_at_call 228;refine Calls.quiet_of_same (Yr.out _)))
   have Zd:=hid (Yx.out.mono (Zaf (Zab w3) nq));have Yn:=hid (QT.out.drewN nq);have Yy:=hid (Qn.out.drewN nq);have Uw:=hid (Zbs JR.out (Zaf (Zab w3) nq));have hgr4:gr<(w3.drewN nq).heap.size:=hgr3;have hB4:B≤(w3.drewN nq).heap.size:=hB3;clear Yx QT Qn JR Qd e2 e4 e6 Yr hgr3 hB3;generalize w3.drewN nq=w4 at *;have d9:w4.cell? ⟨g,0+9,none⟩=some (.iface 157 (.agg #[])):=by rw[Yy.out.cell];rfl
   go_wp2_with fail
   refine(Yc.out w4 Zd.out hgr4).mono ?_;rintro e w5 ⟨v3,rfl,ho3,ha3,hc3⟩;obtain⟨A3,c3,rfl,hcc3,_,_,_⟩:=Zao ho3;have YF:=hid (Zim ho3 hB4);have V0:=hid ha3;have JS:=hid (Yn.out.trans (Chg.wide' (a:=g) hc3));have YM:=hid (hc3.row Yy.out hne hne);have Ux:=hid (Zb5 Uw.out hc3 hrB hrB);have e5:w5.cell? ⟨g,0+5,none⟩=some nilS:=by rw[YM.out.cell];rfl
   have f5:=YM.out.frozen (0+5);have hch6:=(Chg.refl g g w5).setCell g 5 (.slice A3 vals.length c3) (.inl rfl);have Xt:Hid (Row (w5.setCell ⟨g,5,none⟩ (.slice A3 vals.length c3)) g 198 (ck_S rows codec wd nulls k (.slice A3 vals.length c3) (.slice (some ⟨p,0,none⟩) es.length es.length) base nilS Zbv bef)):=hid (YM.out.set 5 _);have ZN:=hid (Zb5 YF.out hch6 hgB hgB);have Xu:=hid (Zb5 Ux.out hch6 hgB hgB);have Uv:=hid (V0.out.chg hch6 (Ne.symm hne) (Ne.symm hne) hg0 hg0);have Vz:=hid (JS.out.setCell g 5 (.slice A3 vals.length c3) (.inl rfl));clear ho3 ha3 hc3 hcc3 Zd Yn Yy Uw d9 Yc YF V0 JS YM Ux hch6 hm hgr4 hB4;go_upto_region 7 with fail
   clear e5 f5;generalize w5.setCell ⟨g,5,none⟩ (.slice A3 vals.length c3)=w6 at *;have HDF:=hid (Zr6 _ vals w6 (Zba ZN.out) (by unfold maxLen;omega));have ZO:=hid (fun(n:Nat) (b:Bool)=>(⟨⟨_,_,_,Xt.out.drewN n,Zbs ZN.out (Zaf (Zab w6) n),Zbs Xu.out (Zaf (Zab w6) n),World.ownsRow_nil _ _ _ _⟩,Uv.out.mono (Zaf (Zab w6) n),Vz.out.drewN n⟩:OutAt_S w0 w (w6.drewN n) B g gr rows codec wd k nulls Zbv bef base { b:=b,left:=xl,short:=s4,list:=vals,ends:=es,lanes:=[] }));obtain⟨df,hdf⟩:∃ df,Zbd eqS vals=df:=⟨_,rfl⟩;rw[hdf]at HDF Yk;clear hdf;have hO:=Yk.out;subst hO;clear Yk;cases ok
   case' false =>
    go_wp2_with fail
    go_ret;exact⟨rfl,ZO.out 0 _⟩
   case' true =>
    go_wp2_with (go_at_call 229;refine HDF.out.mono ?_;rintro e w7 ⟨rfl,n7,rfl⟩)
    go_ret;exact⟨rfl,ZO.out _ _⟩
def Zbq (codec:Nat) (wd:Int) (k:Nat) (xs:List Nat) (s:Bool):Out_S :=
 if codec=1 then Zbk wd k xs s else if codec=2 then Zbp wd k xs s else Zbi wd k xs s
set_option maxHeartbeats 8000000 in
theorem Zoc (w0 w:World) (g gr:Nat) (xs:List Nat) (s:Bool) (rows wd:Int) (codec k:Nat) (nulls bef:Value) (hT:Tab w0)
  (hc:Row w g 198 (ck_S rows codec wd nulls k nilS nilS 0 nilS Zbv bef)) (hr:Zaq w0 w gr xs s) (hne:g≠gr) (hg0:w0.heap.size≤g) (hgs:gr<w.heap.size)
  (hv:∀ x∈xs,x<256) (hl:xs.length≤16777216) (hk:k≤65536) (hcd:1≤codec∧codec≤3) :
  Calls Tryz.prog 156 #[.pointer (some ⟨g,0,none⟩),.pointer (some ⟨gr,0,none⟩)] w fun e w' =>
   e=.returned (.bool (Zbq codec wd k xs s).b)∧OutAt_S w0 w w' w.heap.size g gr rows codec wd k nulls Zbv bef 0 (Zbq codec wd k xs s):=by
 have c1:w.cell? ⟨g,0+1,none⟩=some (.int .i64 codec):=by rw[hc.cell];rfl
 obtain⟨O,hO⟩:∃ O,Zbq codec wd k xs s=O:=⟨_,rfl⟩;rw[hO];have HO:=hid hO;have HC:=hid hc;clear hO;by_cases h1:codec=1
 ·subst h1;obtain rfl:Zbk wd k xs s=O:=by rw[← HO.out];rfl
  have HP:=hid (Ztr w0 w g gr xs s rows _ wd k nulls bef 0 hc hr hne hg0 hgs hv hl hk);generalize Zbk wd k xs s=O at *;clear hc hr hv hT;go_enter Tryz.func156,Tryz.ntmps156;go_wp2_with (go_at_call 190;refine HP.out.mono ?_;rintro e w1 ⟨rfl,h⟩;have H:=hid h;clear h)
  go_ret;exact⟨rfl,H.out⟩
 by_cases h2:codec=2
 ·subst h2;obtain rfl:Zbp wd k xs s=O:=by rw[← HO.out];rfl
  have HP:=hid (Zu5 w0 w g gr xs s rows _ wd k nulls bef 0 hT hc hr hne hg0 hgs hv hl hk);generalize Zbp wd k xs s=O at *;clear hc hr hv hT;go_enter Tryz.func156,Tryz.ntmps156;go_wp2_with (go_at_call 191;refine HP.out.mono ?_;rintro e w1 ⟨rfl,h⟩;have H:=hid h;clear h)
  go_ret;exact⟨rfl,H.out⟩
 ·obtain rfl:codec=3:=by omega
  obtain rfl:Zbi wd k xs s=O:=by rw[← HO.out];rfl
  have HP:=hid (Zu0 w0 w g gr xs s rows _ wd k nulls bef 0 hc hr hne hg0 hgs hv hl hk);generalize Zbi wd k xs s=O at *;clear hc hr hv hT;go_enter Tryz.func156,Tryz.ntmps156;go_wp2_with (go_at_call 192;refine HP.out.mono ?_;rintro e w1 ⟨rfl,h⟩;have H:=hid h;clear h)
  go_ret;exact⟨rfl,H.out⟩
end Go.Proofs.YtmcjknjlihgihaaGreatDoor
