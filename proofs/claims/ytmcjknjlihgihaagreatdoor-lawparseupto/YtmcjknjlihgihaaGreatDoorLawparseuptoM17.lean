/- The plain answer: Gather. -/
import Derived.Test.YtmcjknjlihgihaaGreatDoorLawparseuptoM15
import Derived.Test.YtmcjknjlihgihaaGreatDoorLawparseuptoM16
set_option linter.unusedVariables false
set_option linter.unusedSimpArgs false
set_option linter.unnecessarySimpa false
set_option maxRecDepth 100000
namespace Go.Proofs.YtmcjknjlihgihaaGreatDoor
open Go.RowKit
def Zaz:List Value:=[i64 0,i64 0,i64 0,nilS,i64 0,nilS,nilS,i64 0,nilS,.nilIface,nilS]
structure St_S (W w0 w:World) (a gr g:Nat) (cs:List Value) (xs:List Nat) (s:Bool):Prop where
 rowc:Row w g 198 cs
 rowa:Row w a 198 Zaz
 rdr:Zaq w0 w gr xs s
 bel:Below W.heap.size W w
 ha:W.heap.size≤a
 hr:W.heap.size≤gr
 hg:W.heap.size≤g
 h0:w0.heap.size≤g
 n1:g≠gr
 n2:a≠g
 n3:a≠gr
theorem St_S.store {W w0 w:World} {a gr g:Nat} {cs:List Value} {xs:List Nat} {s:Bool} (h:St_S W w0 w a gr g cs xs s) (f:Nat) (v:Value):St_S W w0 (w.setCell ⟨g,f,none⟩ v) a gr g (cs.set f v) xs s:=by
 have hch:=(Chg.refl g g w).setCell g f v (.inl rfl);exact⟨h.rowc.set f v,hch.row h.rowa h.n2 h.n2,h.rdr.chg hch (Ne.symm h.n1) (Ne.symm h.n1) h.h0 h.h0,Zad h.bel _ _ _ h.hg,h.ha,h.hr,h.hg,h.h0,h.n1,h.n2,h.n3⟩
theorem St_S.step {W w0 w w':World} {a gr g:Nat} {cs:List Value} {xs ys:List Nat} {s t:Bool} (h:St_S W w0 w a gr g cs xs s) (hc:Chg gr gr w w') (hr:Zaq w0 w' gr ys t):St_S W w0 w' a gr g cs ys t :=
 ⟨hc.row h.rowc h.n1 h.n1,hc.row h.rowa h.n3 h.n3,hr,hc.below h.bel h.bel.size h.hr h.hr,h.ha,h.hr,h.hg,h.h0,h.n1,h.n2,h.n3⟩
theorem St_S.mono {W w0 w w':World} {a gr g:Nat} {cs:List Value} {xs:List Nat} {s:Bool} (h:St_S W w0 w a gr g cs xs s) (hb:Below w.heap.size w w'):St_S W w0 w' a gr g cs xs s :=
 ⟨h.rowc.mono hb,h.rowa.mono hb,h.rdr.mono hb,h.bel.trans (hb.mono h.bel.size),h.ha,h.hr,h.hg,h.h0,h.n1,h.n2,h.n3⟩
theorem St_S.both {W w0 w w':World} {a gr g:Nat} {cs ds:List Value} {xs ys:List Nat} {s t:Bool} (h:St_S W w0 w a gr g cs xs s) (hc:Chg g gr w w') (hd:Row w' g 198 ds) (hr:Zaq w0 w' gr ys t):St_S W w0 w' a gr g ds ys t :=
 ⟨hd,hc.row h.rowa h.n2 h.n3,hr,hc.below h.bel h.bel.size h.hg h.hr,h.ha,h.hr,h.hg,h.h0,h.n1,h.n2,h.n3⟩
theorem Zps (cd:Nat) (wd:Int) (k:Nat) (xs:List Nat) (s:Bool):(Zbq cd wd k xs s).left.length≤xs.length:=by
 have h1:∀ n ys,(tkL n ys).length≤ys.length:=Zbn;have hP:(Zbk wd k xs s).left.length≤xs.length:=(Zem k xs s).1;have hD:(Zbp wd k xs s).left.length≤xs.length:=by
  unfold Zbp
  split
  ·exact h1 _ _
  ·have hr:=(Zem (L.wordOf 8 (tk 4 xs)) (tkL 4 xs) (tkS 4 xs s)).1;generalize rdS (L.wordOf 8 (tk 4 xs)) (tkL 4 xs) (tkS 4 xs s)=R at *;obtain⟨vals,ok,xl,s1⟩:=R;simp only at *
   split
   ·exact Nat.le_trans (h1 _ _) (Nat.le_trans hr (h1 _ _))
   ·exact Nat.le_trans hr (h1 _ _)
 have hR:(Zbi wd k xs s).left.length≤xs.length:=by
  unfold Zbi
  split
  ·exact Nat.le_trans (h1 _ _) (h1 _ _)
  ·have hr:=(Zem (L.wordOf 8 (tk 4 xs)) (tkL (4*L.wordOf 8 (tk 4 xs)) (tkL 4 xs)) (tkS (4*L.wordOf 8 (tk 4 xs)) (tkL 4 xs) (tkS 4 xs s))).1;generalize rdS (L.wordOf 8 (tk 4 xs)) (tkL (4*L.wordOf 8 (tk 4 xs)) (tkL 4 xs)) (tkS (4*L.wordOf 8 (tk 4 xs)) (tkL 4 xs) (tkS 4 xs s))=R at *;obtain⟨vals,ok,xl,s1⟩:=R;exact Nat.le_trans hr (Nat.le_trans (h1 _ _) (h1 _ _))
 unfold Zbq
 repeat' split
 all_goals first | exact hP | exact hD | exact hR | exact h1 _ _ | exact Nat.le_trans (h1 _ _) (h1 _ _)
theorem Zed {w:World} {a:Nat} {e:TypeId} {v0 v1 v2 v3 v4 v5 v6 v7 v8 v9 v10:Value} (h:Row w a e [v0,v1,v2,v3,v4,v5,v6,v7,v8,v9,v10]) :
  w.cell? ⟨a,0,none⟩=some v0∧w.cell? ⟨a,1,none⟩=some v1∧w.cell? ⟨a,2,none⟩=some v2∧w.cell? ⟨a,3,none⟩=some v3∧w.cell? ⟨a,4,none⟩=some v4∧w.cell? ⟨a,5,none⟩=some v5 ∧
  w.cell? ⟨a,6,none⟩=some v6∧w.cell? ⟨a,7,none⟩=some v7∧w.cell? ⟨a,8,none⟩=some v8∧w.cell? ⟨a,9,none⟩=some v9∧w.cell? ⟨a,10,none⟩=some v10:=by
 refine⟨?_,?_,?_,?_,?_,?_,?_,?_,?_,?_,?_⟩<;>(rw[h.cell];rfl)
theorem Zj5 {w:World} {a:Nat} {e:TypeId} {cs:List Value} (h:Row w a e cs) :
  w.frozen? ⟨a,0,none⟩=false∧w.frozen? ⟨a,1,none⟩=false∧w.frozen? ⟨a,2,none⟩=false∧w.frozen? ⟨a,3,none⟩=false∧w.frozen? ⟨a,4,none⟩=false∧w.frozen? ⟨a,5,none⟩=false ∧
  w.frozen? ⟨a,6,none⟩=false∧w.frozen? ⟨a,7,none⟩=false∧w.frozen? ⟨a,8,none⟩=false∧w.frozen? ⟨a,9,none⟩=false∧w.frozen? ⟨a,10,none⟩=false :=
 ⟨h.frozen 0,h.frozen 1,h.frozen 2,h.frozen 3,h.frozen 4,h.frozen 5,h.frozen 6,h.frozen 7,h.frozen 8,h.frozen 9,h.frozen 10⟩
def Zkw:Int:=2
def Z0f:Nat:=3
def Zcj (rows:Nat) (xs:List Nat):Int:=0
def Zaj (rows:Nat) (xs:List Nat):Out_S:=Zbq (Zaa rows xs).codec (Zaa rows xs).wd (Za8 rows (Zaa rows xs).nulls) (Zaa rows xs).left (Zaa rows xs).short
def Zcg (rows:Nat) (xs:List Nat):Bool:=Zgu Zkw rows (Zaa rows xs)&&((Zaj rows xs).b&&(!(Zaj rows xs).short&&decide ((Zaj rows xs).left=[])))
set_option maxHeartbeats 16000000 in
theorem Zz7 (w:World) (v:Value) (xs:List Nat) (rows:Nat) (hT:Tab w) (hv:Rd w v xs.length 1 (u8s xs)) (hb:∀ x∈xs,x<256) (hl:xs.length≤16777216) (hrr:rows≤65536) :
  Calls Tryz.prog 126 #[.iface 157 (.agg #[]),.int .i64 rows,v] w fun e w'=>Below w.heap.size w w' ∧
   ((Zcg rows xs=false∧e=.returned (.tuple #[.agg Zaz.toArray,.bool false])) ∨
   (Zcg rows xs=true∧∃ nu lv ev nv bef,e=.returned (.tuple #[.agg (ck_S rows (Zaa rows xs).codec (Zaa rows xs).wd nu (Za8 rows (Zaa rows xs).nulls) lv ev (Zcj rows xs) nv Zbv bef).toArray,.bool true]) ∧
     w'.ownsRow w.heap.size 73 1 nu (Zaa rows xs).nulls.length (u64s (Zaa rows xs).nulls)∧Rd w' lv (Zaj rows xs).list.length 1 (lstS (Zaj rows xs).list)∧Rd w' ev (Zaj rows xs).ends.length 1 (nIs (Zaj rows xs).ends) ∧
     Rd w' nv (Zaj rows xs).lanes.length 1 (u64s (Zaj rows xs).lanes)∧Rd w' bef (Zaa rows xs).nulls.length 1 (i64s (befL (Zaa rows xs).nulls)))):=by
 have HT:=hid hT;have Vy:=hid hT.lt;have HV:=hid hv;obtain⟨A0,c0,rfl,_,_,_⟩:=hv.form;clear hT hv;obtain⟨OK,hOK⟩:∃ OK,Zcg rows xs=OK:=⟨_,rfl⟩;rw[hOK];have Q3:=hid hOK;unfold Zcg Zgu Zaj at Q3;obtain⟨H,hH⟩:∃ H,Zaa rows xs=H:=⟨_,rfl⟩;have HH:=hid hH;rw[hH]at Q3 ⊢;obtain⟨O,hO⟩:∃ O,Zaj rows xs=O:=⟨_,rfl⟩;have HO:=hid hO;unfold Zaj at HO;rw[hH]at HO;rw[HO.out]at Q3;rw[hO];obtain⟨bs,hbs⟩:∃ bs,Zcj rows xs=bs:=⟨_,rfl⟩;have YA:=hid hbs;unfold Zcj at YA;rw[hbs];clear hOK hH hO hbs;obtain⟨cd,wd,nulls,x3,t3⟩:=H;simp only at *;have hcd:L.wordOf 8 (tk 1 xs)=cd:=by have:=HH.out;simp only[Zaa,Head.mk.injEq]at this;exact this.1
 have hwd:L.wordOf 8 (tk 1 (tkL 1 xs))=wd:=by have:=HH.out;simp only[Zaa,Head.mk.injEq]at this;exact this.2.1
 have hnu:numL 8 (tk (8*((rows+63)/64)) (tkL 1 (tkL 1 xs)))=nulls:=by have:=HH.out;simp only[Zaa,Head.mk.injEq]at this;exact this.2.2.1
 have hx3:tkL (8*((rows+63)/64)) (tkL 1 (tkL 1 xs))=x3:=by have:=HH.out;simp only[Zaa,Head.mk.injEq]at this;exact this.2.2.2.1
 have ht3:tkS (8*((rows+63)/64)) (tkL 1 (tkL 1 xs)) (tkS 1 (tkL 1 xs) (tkS 1 xs false))=t3:=by have:=HH.out;simp only[Zaa,Head.mk.injEq]at this;exact this.2.2.2.2
 obtain⟨x1,hx1⟩:∃ x1,tkL 1 xs=x1:=⟨_,rfl⟩;obtain⟨t1,ht1⟩:∃ t1,tkS 1 xs false=t1:=⟨_,rfl⟩;rw[hx1]at hwd hnu hx3 ht3;rw[ht1]at ht3;obtain⟨x2,hx2⟩:∃ x2,tkL 1 x1=x2:=⟨_,rfl⟩;obtain⟨t2,ht2⟩:∃ t2,tkS 1 x1 t1=t2:=⟨_,rfl⟩;rw[hx2]at hnu hx3 ht3;rw[ht2]at ht3;obtain⟨m,hm⟩:∃ m,(rows+63)/64=m:=⟨_,rfl⟩;rw[hm]at hnu hx3 ht3;have hm':((rows:Int)+63)/64=(m:Int):=by omega
 have hl1:x1.length≤16777216:=by rw[← hx1];exact Nat.le_trans (Zbn _ _) hl
 have hb1:∀ x∈x1,x<256:=by rw[← hx1];exact Zau hb
 have hl2:x2.length≤16777216:=by rw[← hx2];exact Nat.le_trans (Zbn _ _) hl1
 have hb2:∀ x∈x2,x<256:=by rw[← hx2];exact Zau hb1
 have hl3:x3.length≤16777216:=by rw[← hx3];exact Nat.le_trans (Zbn _ _) hl2
 have hb3:∀ x∈x3,x<256:=by rw[← hx3];exact Zau hb2
 have hnv:∀ x∈nulls,x<18446744073709551616:=by rw[← hnu];exact Zdz (Zdh hb2) (by omega)
 have hnl:nulls.length≤2097152:=by
  rw[← hnu,Zan];unfold tk;split
  ·rw[List.length_take];omega
  ·simp
 have Js:=hid (fun(w0 w:World) (g:Nat) (h:Zaq w0 w g xs false)=>Zgs w0 w g xs false h hb hl);rw[hcd,hx1,ht1]at Js;have Z1:=hid (fun(w0 w:World) (g:Nat) (h:Zaq w0 w g x1 t1)=>Zgs w0 w g x1 t1 h hb1 hl1);rw[hwd,hx2,ht2]at Z1;have HU:=hid (fun(w0 w:World) (g:Nat) (h:Zaq w0 w g x2 t2) (hg:g<w.heap.size)=>Zhw w0 w g x2 t2 m h hg hb2 hl2 (by omega));rw[hnu,hx3,ht3]at HU;have Jm:=hid (fun(w:World) (v:Value) (h:Rd w v nulls.length 1 (u64s nulls))=>Zll v nulls rows rows w h hnv (by unfold maxLen;omega));obtain⟨rk,hrk⟩:∃ rk,Zee rows rows nulls=rk:=⟨_,rfl⟩;rw[hrk]at Jm;have Jt:=hid hrk;obtain⟨k,hk⟩:∃ k,Za8 rows nulls=k:=⟨_,rfl⟩;rw[hk]at HO ⊢;have HK:=hid hk;clear hcd hwd hnu hx3 ht3 hx1 ht1 hx2 ht2 hm hrk HH hk;go_enter Tryz.func126,Tryz.ntmps126;go_wp2_with fail
 have hbA:Below w.heap.size w (w.alloc (.cells Zaz.toArray 198)):=(Zab w).alloc (Nat.le_refl _) _;have hrA:Row (w.alloc (.cells Zaz.toArray 198)) w.heap.size 198 Zaz:=by unfold Row;rw[heap_alloc_new]
 have hsA:(w.alloc (.cells Zaz.toArray 198)).heap.size=w.heap.size+1:=by simp
 change Calls _ _ _ (w.alloc (.cells Zaz.toArray 198)) _
 generalize w.alloc (.cells Zaz.toArray 198)=w1 at *;have Jf:=hid (HV.out.mono hbA);refine(Zeu w1 _ xs Jf.out).mono ?_;rintro e w2 ⟨rfl,hat,hb2,hsz2⟩;have Yd:=hid hat;have Zh:=hid hbA;have QH:=hid hrA;have Qb:=hid hb2;clear hat hbA hrA hb2;go_wp2_with fail
 have hbC:Below w2.heap.size w2 (w2.alloc (.cells (ck_S rows 0 0 nilS 0 nilS nilS 0 nilS Zbv nilS).toArray 198)):=(Zab w2).alloc (Nat.le_refl _) _;have hrC:Row (w2.alloc (.cells (ck_S rows 0 0 nilS 0 nilS nilS 0 nilS Zbv nilS).toArray 198)) w2.heap.size 198 (ck_S rows 0 0 nilS 0 nilS nilS 0 nilS Zbv nilS):=by unfold Row;rw[heap_alloc_new]
 change Calls _ _ _ (w2.alloc (.cells (ck_S rows 0 0 nilS 0 nilS nilS 0 nilS Zbv nilS).toArray 198)) _
 generalize w2.alloc (.cells (ck_S rows 0 0 nilS 0 nilS nilS 0 nilS Zbv nilS).toArray 198)=w3 at *;have JF:Hid (St_S w w1 w3 w.heap.size (w.heap.size+1) (w.heap.size+1+1) (ck_S rows 0 0 nilS 0 nilS nilS 0 nilS Zbv nilS) xs false):=by
  refine hid ⟨?_,(QH.out.mono Qb.out).mono hbC,?_,Zh.out.trans ((Zac Qb.out hbC).mono (by omega)),by omega,by omega,by omega,by omega,by omega,by omega,by omega⟩
  ·have:w2.heap.size=w.heap.size+1+1:=by omega
   rw[this]at hrC;exact hrC
  ·have h1:=Yd.out.mono hbC;rw[hsA]at h1;exact h1
 have HT1:=hid (HT.out.mono Zh.out Vy.out);clear hbC hrC Yd Zh QH Qb Jf HV HT;obtain⟨g,hg⟩:∃ g,w.heap.size+1+1=g:=⟨_,rfl⟩;rw[hg]at JF ⊢;obtain⟨gr,hgr⟩:∃ gr,w.heap.size+1=gr:=⟨_,rfl⟩;rw[hgr]at JF ⊢;obtain⟨a,ha⟩:∃ a,w.heap.size=a:=⟨_,rfl⟩;have HA:=hid ha;have Ju:Hid (St_S w w1 w3 a gr g (ck_S rows 0 0 nilS 0 nilS nilS 0 nilS Zbv nilS) xs false):=hid (by rw[← HA.out];exact JF.out);rw[ha];clear JF hg hgr ha hsz2 hsA;refine(Js.out w1 w3 gr Ju.out.rdr).mono ?_;rintro e w4 ⟨rfl,hr4,hc4⟩;have ZQ:=hid (Ju.out.step hc4 hr4);have e1:w4.cell? ⟨g,0+1,none⟩=some (.int .i64 0):=by rw[ZQ.out.rowc.cell];rfl
 have f1:=ZQ.out.rowc.frozen (0+1);clear hr4 hc4 Ju;have Jq:=hid (ZQ.out.store 1 (.int .i64 cd));go_wp2_with fail
 clear e1 f1 ZQ;generalize w4.setCell ⟨g,1,none⟩ (.int .i64 cd)=w5 at *;refine(Z1.out w1 w5 gr Jq.out.rdr).mono ?_;rintro e w6 ⟨rfl,hr6,hc6⟩;have V6:=hid (Jq.out.step hc6 hr6);have e1:w6.cell? ⟨g,0+2,none⟩=some (.int .i64 0):=by rw[V6.out.rowc.cell];rfl
 have f1:=V6.out.rowc.frozen (0+2);clear hr6 hc6 Jq;have ZG:=hid (V6.out.store 2 (.int .i64 wd));go_wp2_with fail
 clear e1 f1 V6;generalize w6.setCell ⟨g,2,none⟩ (.int .i64 wd)=w7 at *;have hgr7:=ZG.out.rdr.lt;have hg7:=ZG.out.rowc.lt;have ha7:=ZG.out.rowa.lt;refine(HU.out w1 w7 gr ZG.out.rdr hgr7).mono ?_;rintro e w8 ⟨p,hp,rfl,hrow8,hr8,hc8⟩;have V7:=hid (ZG.out.step hc8 hr8);have e1:w8.cell? ⟨g,0+3,none⟩=some nilS:=by rw[V7.out.rowc.cell];rfl
 have f1:=V7.out.rowc.frozen (0+3);have hpg:p≠g:=by omega
 have hpgr:p≠gr:=by omega
 have hpW:w.heap.size≤p:=by have:=ZG.out.ha;omega
 have hpa:p≠a:=by omega
 have Zv:=hid (((Chg.refl g g w8).setCell g 3 (.slice (some ⟨p,0,none⟩) nulls.length nulls.length) (.inl rfl)).row hrow8 hpg hpg);clear hrow8 hr8 hc8 ZG hp hg7 ha7 hgr7;have VA:Hid (St_S w w1 (w8.setCell ⟨g,3,none⟩ (.slice (some ⟨p,0,none⟩) nulls.length nulls.length)) a gr g (ck_S rows cd wd (.slice (some ⟨p,0,none⟩) nulls.length nulls.length) 0 nilS nilS 0 nilS Zbv nilS) x3 t3):=hid (V7.out.store 3 (.slice (some ⟨p,0,none⟩) nulls.length nulls.length));go_upto_region 6 with fail
 clear e1 f1 V7 HU Js Z1;generalize w8.setCell ⟨g,3,none⟩ (.slice (some ⟨p,0,none⟩) nulls.length nulls.length)=w9 at *;have e3:w9.cell? ⟨g,0+3,none⟩=some (.slice (some ⟨p,0,none⟩) nulls.length nulls.length):=by rw[VA.out.rowc.cell];rfl
 go_wp2_with fail
 refine(Jm.out w9 _ (Zv.out.rd' (n:=nulls.length) (by simp[u64s]) (by unfold maxLen;omega))).mono ?_;rintro e wA ⟨rfl,nA,rfl⟩;have U5:=hid (VA.out.mono (Zaf (Zab w9) nA));have QH:=hid (Zv.out.drewN nA);go_upto_region 7 with fail
 clear e3 VA Zv Jm;generalize w9.drewN nA=wA at *;have hAC:wA.cell? ⟨g,1,none⟩=some (.int .i64 cd):=by rw[U5.out.rowc.cell];rfl
 cases hok:Za9 1 rows nulls with
 | false =>
  obtain rfl:rk = -1:=by rw[← Jt.out,Zee,if_neg (by rw[hok];simp)]
  obtain rfl:OK=false:=by rw[← Q3.out,hok];rfl
  go_quiet (fail)
  have Z3:=hid (U5.out.mono (Zaf (Zab wA) nq));generalize wA.drewN nq=wB at *;obtain⟨z0,z1,z2,z3,z4,z5,z6,z7,z8,z9,z10⟩:=Zed Z3.out.rowa;obtain⟨f0,f1,f2,f3,f4,f5,f6,f7,f8,f9,f10⟩:=Zj5 Z3.out.rowa;go_wp2_with fail
  clear z0 z1 z2 z3 z4 z5 z6 z7 z8 z9 z10 f0 f1 f2 f3 f4 f5 f6 f7 f8 f9 f10;change bodyPost _ _ _ _ _ (setL wB a 0 Zaz)
  have Yg:=hid (Zc8 Z3.out.rowa Zaz rfl);have Y0:=hid (Zci a Z3.out.ha Zaz wB 0 Z3.out.bel);generalize setL wB a 0 Zaz=wF at *;obtain⟨z0,z1,z2,z3,z4,z5,z6,z7,z8,z9,z10⟩:=Zed Yg.out;refine bodyPost_ret (v:=.tuple #[.agg Zaz.toArray,.bool false]) ?_ rfl ⟨Y0.out,by first | exact .inl ⟨rfl,rfl⟩ | rfl⟩;simp[results,Tryz.results126,go_sem,z0,z1,z2,z3,z4,z5,z6,z7,z8,z9,z10];rfl
 | true =>
  have hrn:rk=((Zaw nulls rows:Nat):Int):=by rw[← Jt.out,Zee,if_pos ⟨hok,by omega,by omega⟩];simp
  have hnr:Zaw nulls rows≤rows:=by unfold Zaw;have:=List.length_filter_le (Zar nulls) (List.range rows);rwa [List.length_range]at this
  have hct:k=rows-Zaw nulls rows:=HK.out.symm;obtain⟨n,hn⟩:∃ n,Zaw nulls rows=n:=⟨_,rfl⟩;rw[hn]at hrn hnr hct;subst hrn;have hok2:=Q3.out;rw[hok,Bool.true_and]at hok2;have Jv:=hid hok2;have hneg:¬ ((n:Int)<0):=by omega
  have hkc:(rows:Int)-(n:Int)=(k:Int):=by omega
  have hkk:k≤65536:=by omega
  have hmn:=Zj8;have hnl2:nulls.length≤65536:=by rw[((Zbl (wd:=1) (n:=rows) nulls (by decide) hrr).1 hok).1];exact Nat.le_trans (L.nWords_le (by omega)) hrr
  have hgA:g<wA.heap.size:=U5.out.rowc.lt;clear hok2 hok Jt hn hct;generalize hic:Zbj Zkw cd=ic at *;have VB:=hid (fun w2:World=>Zls Zkw cd w2);rw[hic]at VB;have U6:=hid hic;clear hic;unfold Zkw at VB;go_region_held3 (fun w'=>w'.cell? ⟨g,1,none⟩=some (.int .i64 cd)) (go_keep)
   (first
    | (go_at_call 313;refine(Zib _).mono ?_;rintro e wN ⟨rfl,hbN⟩;have QJ:=hid (U5.out.mono ((Zaf (Zab wA) 1).trans hbN));have Q5:=hid (QH.out.mono ((Zaf (Zab wA) 1).trans hbN));have kN:=(hbN.cell (p:=⟨g,1,none⟩) hgA).trans hAC;clear hbN)
    | (go_at_call 103;refine(VB.out _).mono ?_;rintro e wM ⟨rfl,hw⟩;replace hw:=hw.symm;subst hw))
  clear hAC U5 QH hmn VB hneg;cases ic with
  | false =>
   obtain rfl:OK=false:=by rw[← Jv.out];rfl
   obtain⟨z0,z1,z2,z3,z4,z5,z6,z7,z8,z9,z10⟩:=Zed QJ.out.rowa;obtain⟨f0,f1,f2,f3,f4,f5,f6,f7,f8,f9,f10⟩:=Zj5 QJ.out.rowa;go_wp2_with fail
   clear z0 z1 z2 z3 z4 z5 z6 z7 z8 z9 z10 f0 f1 f2 f3 f4 f5 f6 f7 f8 f9 f10;change bodyPost _ _ _ _ _ (setL wN a 0 Zaz)
   have Yg:=hid (Zc8 QJ.out.rowa Zaz rfl);have Y0:=hid (Zci a QJ.out.ha Zaz wN 0 QJ.out.bel);generalize setL wN a 0 Zaz=wF at *;obtain⟨z0,z1,z2,z3,z4,z5,z6,z7,z8,z9,z10⟩:=Zed Yg.out;refine bodyPost_ret (v:=.tuple #[.agg Zaz.toArray,.bool false]) ?_ rfl ⟨Y0.out,by first | exact .inl ⟨rfl,rfl⟩ | rfl⟩;simp[results,Tryz.results126,go_sem,z0,z1,z2,z3,z4,z5,z6,z7,z8,z9,z10];rfl
  | true =>
   have hok3:=Jv.out;rw[Bool.true_and]at hok3;have Z4:=hid hok3;clear hok3 Jv;have hcdk:1≤cd∧cd≤Z0f:=by
    have h:=U6.out;unfold Zbj Zkw Z0f at *
    split at h
    ·omega
    ·simp only[decide_eq_true_eq]at h;omega
   have e4:wN.cell? ⟨g,0+4,none⟩=some (.int .i64 0):=by rw[QJ.out.rowc.cell];rfl
   have f4:=QJ.out.rowc.frozen (0+4);have Jw:=hid (QJ.out.store 4 (.int .i64 k));have X1:=hid (((Chg.refl g g wN).setCell g 4 (.int .i64 k) (.inl rfl)).row Q5.out hpg hpg);clear QJ Q5 kN U6;go_upto_region 10 with fail
   clear e4 f4;generalize wN.setCell ⟨g,4,none⟩ (.int .i64 k)=wP at *;have e3:wP.cell? ⟨g,0+3,none⟩=some (.slice (some ⟨p,0,none⟩) nulls.length nulls.length):=by rw[Jw.out.rowc.cell];rfl
   go_wp2_with fail
   refine(Zhb _ nulls wP (X1.out.rd' (n:=nulls.length) (by simp[u64s]) (by unfold maxLen;omega)) hnv hnl2).mono ?_;rintro e wQ ⟨rfl,hrowB,hbQ⟩;have hq1:g<wP.heap.size:=Jw.out.rowc.lt;have hq2:gr<wP.heap.size:=Jw.out.rdr.lt;have hq3:a<wP.heap.size:=Jw.out.rowa.lt;have hq4:w.heap.size≤wP.heap.size:=Jw.out.bel.size;have Jg:=hid (Jw.out.mono hbQ);have Uh:=hid (X1.out.mono hbQ);have YB:=hid hrowB;obtain⟨q,hq⟩:∃ q,wP.heap.size=q:=⟨_,rfl⟩;rw[hq]at YB hq1 hq2 hq3 hq4 ⊢;have hqg:q≠g:=by omega
   have hqr:q≠gr:=by omega
   have hqa:q≠a:=by omega
   have e10:wQ.cell? ⟨g,0+10,none⟩=some nilS:=by rw[Jg.out.rowc.cell];rfl
   have f10:=Jg.out.rowc.frozen (0+10);have Q6:Hid (St_S w w1 (wQ.setCell ⟨g,10,none⟩ (.slice (some ⟨q,0,none⟩) nulls.length nulls.length)) a gr g (ck_S rows cd wd (.slice (some ⟨p,0,none⟩) nulls.length nulls.length) k nilS nilS 0 nilS Zbv (.slice (some ⟨q,0,none⟩) nulls.length nulls.length)) x3 t3):=hid (Jg.out.store 10 (.slice (some ⟨q,0,none⟩) nulls.length nulls.length));have Qo:=hid (((Chg.refl g g wQ).setCell g 10 (.slice (some ⟨q,0,none⟩) nulls.length nulls.length) (.inl rfl)).row Uh.out hpg hpg);have QX:=hid (((Chg.refl g g wQ).setCell g 10 (.slice (some ⟨q,0,none⟩) nulls.length nulls.length) (.inl rfl)).row YB.out hqg hqg);clear hrowB hbQ Jw X1 Jg Uh YB hq e3;go_upto_region 11 with fail
   clear e10 f10;generalize wQ.setCell ⟨g,10,none⟩ (.slice (some ⟨q,0,none⟩) nulls.length nulls.length)=wR at *;have Jx:=hid (Zoc w1 wR g gr x3 t3 rows wd cd k _ _ HT1.out Q6.out.rowc Q6.out.rdr Q6.out.n1 Q6.out.h0 Q6.out.rdr.lt hb3 hl3 hkk hcdk);rw[HO.out]at Jx;have hr1:a<wR.heap.size:=Q6.out.rowa.lt;have hr2:g<wR.heap.size:=Q6.out.rowc.lt;go_wp2_with fail
   refine Jx.out.mono ?_;rintro e wS ⟨rfl,hOA⟩;obtain⟨⟨lv,ev,nv,hck,hol,hoe,hon⟩,hrS,hcS⟩:=hOA;rw[YA.out]at hck;have Qv:=hid (Q6.out.both hcS hck hrS);have JI:=hid (hcS.row Qo.out hpg hpgr);have X2:=hid (hcS.row QX.out hqg hqr);have HOL:=hid hol;have JR:=hid hoe;have U3:=hid hon;have hOl:O.left.length≤16777216:=by rw[← HO.out];exact Nat.le_trans (Zps cd wd k x3 t3) hl3
   clear hck hol hoe hon hrS hcS Q6 Qo QX Jx HO;obtain⟨ob,ol,os,oli,oen,ola⟩:=O;simp only at *;cases ob with
   | false =>
    obtain rfl:OK=false:=by rw[← Z4.out];rfl
    obtain⟨z0,z1,z2,z3,z4,z5,z6,z7,z8,z9,z10⟩:=Zed Qv.out.rowa;obtain⟨f0,f1,f2,f3,f4,f5,f6,f7,f8,f9,f10⟩:=Zj5 Qv.out.rowa;go_wp2_with fail
    clear z0 z1 z2 z3 z4 z5 z6 z7 z8 z9 z10 f0 f1 f2 f3 f4 f5 f6 f7 f8 f9 f10;change bodyPost _ _ _ _ _ (setL wS a 0 Zaz)
    have Yg:=hid (Zc8 Qv.out.rowa Zaz rfl);have Y0:=hid (Zci a Qv.out.ha Zaz wS 0 Qv.out.bel);generalize setL wS a 0 Zaz=wF at *;obtain⟨z0,z1,z2,z3,z4,z5,z6,z7,z8,z9,z10⟩:=Zed Yg.out;refine bodyPost_ret (v:=.tuple #[.agg Zaz.toArray,.bool false]) ?_ rfl ⟨Y0.out,by first | exact .inl ⟨rfl,rfl⟩ | rfl⟩;simp[results,Tryz.results126,go_sem,z0,z1,z2,z3,z4,z5,z6,z7,z8,z9,z10];rfl
   | true =>
    cases os with
    | true =>
     obtain rfl:OK=false:=by rw[← Z4.out];rfl
     obtain⟨z0,z1,z2,z3,z4,z5,z6,z7,z8,z9,z10⟩:=Zed Qv.out.rowa;obtain⟨f0,f1,f2,f3,f4,f5,f6,f7,f8,f9,f10⟩:=Zj5 Qv.out.rowa;go_wp2_with (go_at_call 157;refine(Zd3 w1 _ gr _ true Qv.out.rdr).mono ?_;rintro e wT ⟨rfl,hw⟩;replace hw:=hw.symm;subst hw)
     clear z0 z1 z2 z3 z4 z5 z6 z7 z8 z9 z10 f0 f1 f2 f3 f4 f5 f6 f7 f8 f9 f10;change bodyPost _ _ _ _ _ (setL wS a 0 Zaz)
     have Yg:=hid (Zc8 Qv.out.rowa Zaz rfl);have Y0:=hid (Zci a Qv.out.ha Zaz wS 0 Qv.out.bel);generalize setL wS a 0 Zaz=wF at *;obtain⟨z0,z1,z2,z3,z4,z5,z6,z7,z8,z9,z10⟩:=Zed Yg.out;refine bodyPost_ret (v:=.tuple #[.agg Zaz.toArray,.bool false]) ?_ rfl ⟨Y0.out,by first | exact .inl ⟨rfl,rfl⟩ | rfl⟩;simp[results,Tryz.results126,go_sem,z0,z1,z2,z3,z4,z5,z6,z7,z8,z9,z10];rfl
    | false =>
     by_cases hle:ol=[]
     case neg =>
      obtain rfl:OK=false:=by rw[← Z4.out];simp[hle]
      have hlp:0<ol.length:=List.length_pos_iff.2 hle;have hgt:(ol.length:Int) > 0:=by omega
      clear hle;obtain⟨z0,z1,z2,z3,z4,z5,z6,z7,z8,z9,z10⟩:=Zed Qv.out.rowa;obtain⟨f0,f1,f2,f3,f4,f5,f6,f7,f8,f9,f10⟩:=Zj5 Qv.out.rowa;go_wp2_with (first | (go_at_call 157;refine(Zd3 w1 _ gr _ false Qv.out.rdr).mono ?_;rintro e wT ⟨rfl,hw⟩;replace hw:=hw.symm;subst hw) | (go_at_call 158;refine(Zhz w1 _ gr ol false Qv.out.rdr hOl).mono ?_;rintro e wT ⟨rfl,hw⟩;replace hw:=hw.symm;subst hw))
      clear z0 z1 z2 z3 z4 z5 z6 z7 z8 z9 z10 f0 f1 f2 f3 f4 f5 f6 f7 f8 f9 f10;change bodyPost _ _ _ _ _ (setL wS a 0 Zaz)
      have Yg:=hid (Zc8 Qv.out.rowa Zaz rfl);have Y0:=hid (Zci a Qv.out.ha Zaz wS 0 Qv.out.bel);generalize setL wS a 0 Zaz=wF at *;obtain⟨z0,z1,z2,z3,z4,z5,z6,z7,z8,z9,z10⟩:=Zed Yg.out;refine bodyPost_ret (v:=.tuple #[.agg Zaz.toArray,.bool false]) ?_ rfl ⟨Y0.out,by first | exact .inl ⟨rfl,rfl⟩ | rfl⟩;simp[results,Tryz.results126,go_sem,z0,z1,z2,z3,z4,z5,z6,z7,z8,z9,z10];rfl
     case pos =>
      subst hle;obtain rfl:OK=true:=by rw[← Z4.out];rfl
      have hgt:¬ ((([]:List Nat).length:Int) > 0):=by simp
      obtain⟨z0,z1,z2,z3,z4,z5,z6,z7,z8,z9,z10⟩:=Zed Qv.out.rowa;obtain⟨f0,f1,f2,f3,f4,f5,f6,f7,f8,f9,f10⟩:=Zj5 Qv.out.rowa;obtain⟨Al,cl,rfl,_,_,_⟩:=Zao HOL.out;obtain⟨Ae,ce,rfl,_,_,_⟩:=Zao JR.out;obtain⟨An,cn,rfl,_,_,_⟩:=Zao U3.out;obtain⟨y0,y1,y2,y3,y4,y5,y6,y7,y8,y9,y10⟩:=Zed Qv.out.rowc;unfold i64 at y0 y1 y2 y4 y7;unfold Zbv at y9;go_wp2_with (first | (go_at_call 157;refine(Zd3 w1 _ gr _ false Qv.out.rdr).mono ?_;rintro e wT ⟨rfl,hw⟩;replace hw:=hw.symm;subst hw) | (go_at_call 158;refine(Zhz w1 _ gr [] false Qv.out.rdr hOl).mono ?_;rintro e wT ⟨rfl,hw⟩;replace hw:=hw.symm;subst hw))
      clear z0 z1 z2 z3 z4 z5 z6 z7 z8 z9 z10 f0 f1 f2 f3 f4 f5 f6 f7 f8 f9 f10 y0 y1 y2 y3 y4 y5 y6 y7 y8 y9 y10;change bodyPost _ _ _ _ _ (setL wS a 0 (ck_S rows cd wd (.slice (some ⟨p,0,none⟩) nulls.length nulls.length) k (.slice Al oli.length cl) (.slice Ae oen.length ce) bs (.slice An ola.length cn) Zbv (.slice (some ⟨q,0,none⟩) nulls.length nulls.length)))
      have Yg:=hid (Zc8 Qv.out.rowa (ck_S rows cd wd (.slice (some ⟨p,0,none⟩) nulls.length nulls.length) k (.slice Al oli.length cl) (.slice Ae oen.length ce) bs (.slice An ola.length cn) Zbv (.slice (some ⟨q,0,none⟩) nulls.length nulls.length)) rfl);have Y0:=hid (Zci a Qv.out.ha (ck_S rows cd wd (.slice (some ⟨p,0,none⟩) nulls.length nulls.length) k (.slice Al oli.length cl) (.slice Ae oen.length ce) bs (.slice An ola.length cn) Zbv (.slice (some ⟨q,0,none⟩) nulls.length nulls.length)) wS 0 Qv.out.bel);have hcf:=Zuz a (ck_S rows cd wd (.slice (some ⟨p,0,none⟩) nulls.length nulls.length) k (.slice Al oli.length cl) (.slice Ae oen.length ce) bs (.slice An ola.length cn) Zbv (.slice (some ⟨q,0,none⟩) nulls.length nulls.length)) wS 0;have G1:=hid ((hcf.row JI.out hpa hpa).owns (B:=w.heap.size) (n:=nulls.length) hpW (by simp[u64s]) (by unfold maxLen;omega));have G2:=hid ((hcf.row X2.out hqa hqa).rd' (n:=nulls.length) (by simp[i64s,befL]) (by unfold maxLen;omega));have G3:=hid (Zba (Zb5 HOL.out hcf hr1 hr1));have G4:=hid (Zba (Zb5 JR.out hcf hr1 hr1));have G5:=hid (Zba (Zb5 U3.out hcf hr1 hr1));clear hcf;generalize setL wS a 0 (ck_S rows cd wd (.slice (some ⟨p,0,none⟩) nulls.length nulls.length) k (.slice Al oli.length cl) (.slice Ae oen.length ce) bs (.slice An ola.length cn) Zbv (.slice (some ⟨q,0,none⟩) nulls.length nulls.length))=wF at *;obtain⟨z0,z1,z2,z3,z4,z5,z6,z7,z8,z9,z10⟩:=Zed Yg.out;refine bodyPost_ret (v:=.tuple #[.agg (ck_S rows cd wd (.slice (some ⟨p,0,none⟩) nulls.length nulls.length) k (.slice Al oli.length cl) (.slice Ae oen.length ce) bs (.slice An ola.length cn) Zbv (.slice (some ⟨q,0,none⟩) nulls.length nulls.length)).toArray,.bool true]) ?_ rfl ⟨Y0.out,?_⟩
      ·simp[results,Tryz.results126,go_sem,z0,z1,z2,z3,z4,z5,z6,z7,z8,z9,z10];rfl
      ·first | exact .inr ⟨rfl,_,_,_,_,_,rfl,G1.out,G3.out,G4.out,G5.out,G2.out⟩ | exact⟨_,_,_,_,_,rfl,G1.out,G3.out,G4.out,G5.out,G2.out⟩
def Zm7 (rows:Nat) (xs:List Nat) (j:Nat):ByteArray:=vl_S (Zaa rows xs).codec (Zaa rows xs).wd (Zaj rows xs).list (Zaj rows xs).ends (Zcj rows xs) (Zaj rows xs).lanes j
def Zhi (rows:Nat) (xs:List Nat) (r:Nat):Bool:=Zar (Zaa rows xs).nulls r
def Zg0 (rows:Nat) (xs:List Nat) (r:Nat):Int:=if Zar (Zaa rows xs).nulls r=true then 0 else cB_S (Zm7 rows xs (r-Zaw (Zaa rows xs).nulls (r+1)))
def Zhj (rows:Nat) (xs:List Nat) (r:Nat):ByteArray:=if Zar (Zaa rows xs).nulls r=true then ByteArray.empty else cC_S (Zm7 rows xs (r-Zaw (Zaa rows xs).nulls (r+1)))
structure Valid_S (rows:Nat) (xs:List Nat):Prop where
 nl:(Zaa rows xs).nulls.length=(rows+63)/64
 nv:∀ x∈(Zaa rows xs).nulls,x<18446744073709551616
 ll:(Zaj rows xs).list.length≤16777216
 el:(Zaj rows xs).ends.length≤16777216
 lv:∀ x∈(Zaj rows xs).lanes,x<18446744073709551616
 ok:∀ j,j<Za8 rows (Zaa rows xs).nulls→Zla (Zaa rows xs).codec (Zaa rows xs).wd (Zaj rows xs).list (Zaj rows xs).ends (Zaj rows xs).lanes j
set_option maxHeartbeats 2000000 in
theorem Z1r (w:World) (g:Nat) (xs:List Nat) (rows:Nat) (hrr:rows≤65536) (hval:Valid_S rows xs) (r:Nat) (hr:r<rows)
  (h:Ck_S w g rows (Zaa rows xs).codec (Zaa rows xs).wd (Zaa rows xs).nulls (Za8 rows (Zaa rows xs).nulls) (Zaj rows xs).list (Zaj rows xs).ends (Zcj rows xs) (Zaj rows xs).lanes) :
  Calls Tryz.prog 168 #[.pointer (some ⟨g,0,none⟩),.int .i64 r] w fun e w'=>e=.returned (.agg #[.bool (Zhi rows xs r),.int .i64 (Zg0 rows xs r),.string (Zhj rows xs r)])∧Below w.heap.size w w':=by
 have hc:=Z1s w g rows _ _ _ _ _ _ _ _ r (Zm7 rows xs (r-Zaw (Zaa rows xs).nulls (r+1))) h hval.nl hval.nv hrr hr (fun hb w2 hb2=>by
  have hlt:=Zya (rows:=rows) _ r hr hb;exact Zn3 w2 g rows _ _ _ _ _ _ _ _ _ (h.mono hb2) hval.el hval.ll hval.lv (by omega) (hval.ok _ hlt))
 refine hc.mono ?_;rintro e w' ⟨rfl,hb⟩;refine⟨?_,hb⟩;unfold Zhi Zg0 Zhj;cases hbt:Zar (Zaa rows xs).nulls r<;>rfl
theorem Zrn {w:World} {rows:Nat} {xs:List Nat} {nu lv ev nv bef:Value} (h1:Rd w nu (Zaa rows xs).nulls.length 1 (u64s (Zaa rows xs).nulls)) (h2:Rd w lv (Zaj rows xs).list.length 1 (lstS (Zaj rows xs).list))
  (h3:Rd w ev (Zaj rows xs).ends.length 1 (nIs (Zaj rows xs).ends)) (h4:Rd w nv (Zaj rows xs).lanes.length 1 (u64s (Zaj rows xs).lanes)) (h5:Rd w bef (Zaa rows xs).nulls.length 1 (i64s (befL (Zaa rows xs).nulls))) :
  Ck_S (w.alloc (.cells (ck_S rows (Zaa rows xs).codec (Zaa rows xs).wd nu (Za8 rows (Zaa rows xs).nulls) lv ev (Zcj rows xs) nv Zbv bef).toArray 198)) w.heap.size rows (Zaa rows xs).codec (Zaa rows xs).wd (Zaa rows xs).nulls
   (Za8 rows (Zaa rows xs).nulls) (Zaj rows xs).list (Zaj rows xs).ends (Zcj rows xs) (Zaj rows xs).lanes:=by
 have hb:Below w.heap.size w (w.alloc (.cells (ck_S rows (Zaa rows xs).codec (Zaa rows xs).wd nu (Za8 rows (Zaa rows xs).nulls) lv ev (Zcj rows xs) nv Zbv bef).toArray 198)):=(Zab w).alloc (Nat.le_refl _) _;exact⟨⟨nu,lv,ev,nv,bef,by unfold Row;rw[heap_alloc_new];rfl,h1.mono hb,h2.mono hb,h3.mono hb,h4.mono hb,h5.mono hb⟩⟩
def Zma (rows:Nat) (xs:List Nat):List Value:=Za2 (Zhi rows xs) (Zg0 rows xs) (Zhj rows xs) rows
set_option maxHeartbeats 8000000 in
theorem Zzn (w:World) (v:Value) (xs:List Nat) (rows:Nat) (hT:Tab w) (hv:Rd w v xs.length 1 (u8s xs)) (hb:∀ x∈xs,x<256) (hl:xs.length≤16777216) (hrr:rows≤65536) (hval:Zcg rows xs=true→Valid_S rows xs) :
  Calls Tryz.prog 98 #[.iface 157 (.agg #[]),.int .i64 rows,v] w fun e w'=>Below w.heap.size w w' ∧
   ((Zcg rows xs=false∧e=.returned (.tuple #[.slice none 0 0,.int .i64 1])) ∨
   (Zcg rows xs=true∧∃ p,w.heap.size≤p∧e=.returned (.tuple #[.slice (some ⟨p,0,none⟩) rows rows,.int .i64 0])∧Row w' p 36 (Zma rows xs))):=by
 have Z5:=hid (Zz7 w v xs rows hT hv hb hl hrr);have X3:=hid hval;have YP:=hid (fun(w2:World) (g:Nat) (hh:Zcg rows xs=true) (h:Ck_S w2 g rows (Zaa rows xs).codec (Zaa rows xs).wd (Zaa rows xs).nulls (Za8 rows (Zaa rows xs).nulls) (Zaj rows xs).list (Zaj rows xs).ends (Zcj rows xs) (Zaj rows xs).lanes) =>
  Z08 w2 g rows (Zhi rows xs) (Zg0 rows xs) (Zhj rows xs) (by obtain⟨nu,lv,ev,nv,bef,h1,_⟩:=h.ex;rw[h1.cell];rfl) hrr (fun r hr w3 hb3=>Z1r w3 g xs rows hrr (hval hh) r hr (h.mono hb3)))
 obtain⟨A0,c0,rfl,_,_,_⟩:=hv.form;have Y1:=hid (fun(w2:World) (nu lv ev nv bef:Value)=>@Zrn w2 rows xs nu lv ev nv bef);unfold Zma;generalize Zcg rows xs=OK at *;generalize Zhi rows xs=fA at *;generalize Zg0 rows xs=fB at *;generalize Zhj rows xs=fC at *;generalize Zaj rows xs=O at *;generalize Zcj rows xs=bs at *;generalize Zaa rows xs=H at *;clear hT hv hval;go_enter Tryz.func98,Tryz.ntmps98;go_wp2_with fail
 refine Z5.out.mono ?_;rintro e w1 ⟨hb1,⟨rfl,rfl⟩ | ⟨rfl,nu,lv,ev,nv,bef,rfl,h1,h2,h3,h4,h5⟩⟩
 ·have Qa:=hid hb1;clear hb1;unfold Zaz i64 nilS;go_wp2_with fail
  go_ret2
  exact⟨Qa.out.alloc Qa.out.size _,by first | exact .inl ⟨rfl,rfl⟩ | rfl⟩
 ·have Qa:=hid hb1;have Yj:=hid (Y1.out w1 nu lv ev nv bef (Zba h1) h2 h3 h4 h5);obtain⟨A1,c1,rfl,_,_,_⟩:=(Zba h1).form;obtain⟨A2,c2,rfl,_,_,_⟩:=h2.form;obtain⟨A3,c3,rfl,_,_,_⟩:=h3.form;obtain⟨A4,c4,rfl,_,_,_⟩:=h4.form;obtain⟨A5,c5,rfl,_,_,_⟩:=h5.form;have Zq:=hid (YP.out _ _ rfl Yj.out);have Qb:Hid (Below w.heap.size w (w1.alloc (.cells (ck_S rows H.codec H.wd (.slice A1 H.nulls.length c1) (Za8 rows H.nulls) (.slice A2 O.list.length c2) (.slice A3 O.ends.length c3) bs (.slice A4 O.lanes.length c4) Zbv (.slice A5 H.nulls.length c5)).toArray 198))):=hid (Qa.out.alloc Qa.out.size _);clear h1 h2 h3 h4 h5 hb1 Z5 Y1 YP X3 Yj;generalize Za8 rows H.nulls=kk at *;unfold ck_S i64 Zbv at *;go_wp2_with fail
  refine Zq.out.mono ?_;rintro e w3 ⟨p,hp,rfl,hrow,hb3⟩;have Qq:=hid hrow;have hsz:w.heap.size≤(w1.alloc (.cells [.int .i64 rows,.int .i64 H.codec,.int .i64 H.wd,.slice A1 H.nulls.length c1,.int .i64 kk,.slice A2 O.list.length c2,.slice A3 O.ends.length c3,.int .i64 bs,.slice A4 O.lanes.length c4,.iface 157 (.agg #[]),.slice A5 H.nulls.length c5].toArray 198)).heap.size:=Qb.out.size;have Qe:=hid (Qb.out.trans (hb3.mono hsz));have HP:=hid (Nat.le_trans hsz hp);clear hrow hb3 Zq hp hsz;go_wp2_with fail
  go_ret2
  exact⟨Qe.out,by first | exact .inr ⟨rfl,p,HP.out,rfl,Qq.out⟩ | exact⟨p,HP.out,rfl,Qq.out⟩⟩
def Zfg (k rows:Int) (xs:List Nat):Int :=
 if (Zax k&&Zen rows)=true then (if k=2 then (if Zcg rows.toNat xs=true then 0 else 1)else (if Zce rows.toNat xs=true then 0 else 1))else 5
def Zh0 (k rows:Int) (xs:List Nat):List Value:=if Zfg k rows xs=0 then (if k=2 then Zma rows.toNat xs else Zmj rows.toNat xs)else []
def Z0e (k rows:Int) (xs:List Nat):Nat:=if Zfg k rows xs=0 then rows.toNat else 0
def rG (kd rows:Nat) (xs:List Nat) (ps:List Int):List Value :=
 Za2 (fun i=>cA (rWs rows xs) (ps.getD i 0).toNat) (fun i=>cB (rWs rows xs) (rPay kd rows xs).2 (ps.getD i 0).toNat) (fun i=>cC (rWs rows xs) (rPay kd rows xs).2 (ps.getD i 0).toNat) ps.length
theorem Rd.atC {w:World} {D:Option Addr} {n m cd:Nat} {A:Nat→Bool} {B:Nat→Int} {C:Nat→ByteArray} (h:Rd w (.slice D n cd) m 3 (Za2 A B C m)) (h0:0<m):∃ b o,D=some ⟨b,o,none⟩ ∧
  ∀ k,k<m→w.cell? ⟨b,o+k*3,none⟩=some (.bool (A k))∧w.cell? ⟨b,o+k*3+1,none⟩=some (.int .i64 (B k))∧w.cell? ⟨b,o+k*3+2,none⟩=some (.string (C k)):=by
 rcases h.2 with ⟨_,rfl⟩ | ⟨b,o,cap',he,_,_,hs⟩
 ·exact absurd h0 (Nat.lt_irrefl 0)
 ·injection he with e1 e2 e3
  refine⟨b,o,e1,fun k hk=>?_⟩;obtain⟨g0,g1,g2⟩:=Zfh A B C m k hk;exact⟨hs _ _ g0,hs _ _ g1,hs _ _ g2⟩
end Go.Proofs.YtmcjknjlihgihaaGreatDoor
