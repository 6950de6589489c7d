/- Package codec: decode and gather of one kind. -/
import Derived.Test.YtmcjknjlihgihaaGreatDoorLawparseuptoM14
set_option linter.unusedVariables false
set_option linter.unusedSimpArgs false
set_option linter.unnecessarySimpa false
set_option maxRecDepth 100000
namespace Go.Proofs.YtmcjknjlihgihaaGreatDoor
open Go.RowKit
def Za0:List Value:=[i64 0,i64 0,i64 0,nilS,i64 0,nilS,nilS,i64 0,nilS,.nilIface,nilS]
structure St_I (W w0 w:World) (a gr g:Nat) (cs:List Value) (xs:List Nat) (s:Bool):Prop where
 rowc:Row w g 207 cs
 rowa:Row w a 207 Za0
 rdr:Zaq w0 w gr xs s
 bel:Below W.heap.size W w
 ha:W.heap.size≤a
 hr:W.heap.size≤gr
 hg:W.heap.size≤g
 h0:w0.heap.size≤g
 n1:g≠gr
 n2:a≠g
 n3:a≠gr
theorem St_I.store {W w0 w:World} {a gr g:Nat} {cs:List Value} {xs:List Nat} {s:Bool} (h:St_I W w0 w a gr g cs xs s) (f:Nat) (v:Value):St_I W w0 (w.setCell ⟨g,f,none⟩ v) a gr g (cs.set f v) xs s:=by
 have hch:=(Chg.refl g g w).setCell g f v (.inl rfl);exact⟨h.rowc.set f v,hch.row h.rowa h.n2 h.n2,h.rdr.chg hch (Ne.symm h.n1) (Ne.symm h.n1) h.h0 h.h0,Zad h.bel _ _ _ h.hg,h.ha,h.hr,h.hg,h.h0,h.n1,h.n2,h.n3⟩
theorem St_I.step {W w0 w w':World} {a gr g:Nat} {cs:List Value} {xs ys:List Nat} {s t:Bool} (h:St_I W w0 w a gr g cs xs s) (hc:Chg gr gr w w') (hr:Zaq w0 w' gr ys t):St_I W w0 w' a gr g cs ys t :=
 ⟨hc.row h.rowc h.n1 h.n1,hc.row h.rowa h.n3 h.n3,hr,hc.below h.bel h.bel.size h.hr h.hr,h.ha,h.hr,h.hg,h.h0,h.n1,h.n2,h.n3⟩
theorem St_I.mono {W w0 w w':World} {a gr g:Nat} {cs:List Value} {xs:List Nat} {s:Bool} (h:St_I W w0 w a gr g cs xs s) (hb:Below w.heap.size w w'):St_I W w0 w' a gr g cs xs s :=
 ⟨h.rowc.mono hb,h.rowa.mono hb,h.rdr.mono hb,h.bel.trans (hb.mono h.bel.size),h.ha,h.hr,h.hg,h.h0,h.n1,h.n2,h.n3⟩
theorem St_I.both {W w0 w w':World} {a gr g:Nat} {cs ds:List Value} {xs ys:List Nat} {s t:Bool} (h:St_I W w0 w a gr g cs xs s) (hc:Chg g gr w w') (hd:Row w' g 207 ds) (hr:Zaq w0 w' gr ys t):St_I W w0 w' a gr g ds ys t :=
 ⟨hd,hc.row h.rowa h.n2 h.n3,hr,hc.below h.bel h.bel.size h.hg h.hr,h.ha,h.hr,h.hg,h.h0,h.n1,h.n2,h.n3⟩
theorem Zpy (cd:Nat) (wd:Int) (k:Nat) (xs:List Nat) (s:Bool):(Zbf cd wd k xs s).left.length≤xs.length:=by
 have h1:∀ n ys,(tkL n ys).length≤ys.length:=Zbn;have hP:(Zbt wd k xs s).left.length≤xs.length:=(Zeq k xs s).1;have hD:(Zbu wd k xs s).left.length≤xs.length:=by
  unfold Zbu
  split
  ·exact h1 _ _
  ·have hr:=(Zeq (L.wordOf 8 (tk 4 xs)) (tkL 4 xs) (tkS 4 xs s)).1;generalize rdI (L.wordOf 8 (tk 4 xs)) (tkL 4 xs) (tkS 4 xs s)=R at *;obtain⟨vals,ok,xl,s1⟩:=R;simp only at *
   split
   ·exact Nat.le_trans (h1 _ _) (Nat.le_trans hr (h1 _ _))
   ·exact Nat.le_trans hr (h1 _ _)
 have hR:(Zbo wd k xs s).left.length≤xs.length:=by
  unfold Zbo
  split
  ·exact Nat.le_trans (h1 _ _) (h1 _ _)
  ·have hr:=(Zeq (L.wordOf 8 (tk 4 xs)) (tkL (4*L.wordOf 8 (tk 4 xs)) (tkL 4 xs)) (tkS (4*L.wordOf 8 (tk 4 xs)) (tkL 4 xs) (tkS 4 xs s))).1;generalize rdI (L.wordOf 8 (tk 4 xs)) (tkL (4*L.wordOf 8 (tk 4 xs)) (tkL 4 xs)) (tkS (4*L.wordOf 8 (tk 4 xs)) (tkL 4 xs) (tkS 4 xs s))=R at *;obtain⟨vals,ok,xl,s1⟩:=R;exact Nat.le_trans hr (Nat.le_trans (h1 _ _) (h1 _ _))
 unfold Zbf
 repeat' split
 all_goals first | exact hP | exact hD | exact hR | exact h1 _ _ | exact Nat.le_trans (h1 _ _) (h1 _ _)
theorem Zeh {w:World} {a:Nat} {e:TypeId} {v0 v1 v2 v3 v4 v5 v6 v7 v8 v9 v10:Value} (h:Row w a e [v0,v1,v2,v3,v4,v5,v6,v7,v8,v9,v10]) :
  w.cell? ⟨a,0,none⟩=some v0∧w.cell? ⟨a,1,none⟩=some v1∧w.cell? ⟨a,2,none⟩=some v2∧w.cell? ⟨a,3,none⟩=some v3∧w.cell? ⟨a,4,none⟩=some v4∧w.cell? ⟨a,5,none⟩=some v5 ∧
  w.cell? ⟨a,6,none⟩=some v6∧w.cell? ⟨a,7,none⟩=some v7∧w.cell? ⟨a,8,none⟩=some v8∧w.cell? ⟨a,9,none⟩=some v9∧w.cell? ⟨a,10,none⟩=some v10:=by
 refine⟨?_,?_,?_,?_,?_,?_,?_,?_,?_,?_,?_⟩<;>(rw[h.cell];rfl)
theorem Zj4 {w:World} {a:Nat} {e:TypeId} {cs:List Value} (h:Row w a e cs) :
  w.frozen? ⟨a,0,none⟩=false∧w.frozen? ⟨a,1,none⟩=false∧w.frozen? ⟨a,2,none⟩=false∧w.frozen? ⟨a,3,none⟩=false∧w.frozen? ⟨a,4,none⟩=false∧w.frozen? ⟨a,5,none⟩=false ∧
  w.frozen? ⟨a,6,none⟩=false∧w.frozen? ⟨a,7,none⟩=false∧w.frozen? ⟨a,8,none⟩=false∧w.frozen? ⟨a,9,none⟩=false∧w.frozen? ⟨a,10,none⟩=false :=
 ⟨h.frozen 0,h.frozen 1,h.frozen 2,h.frozen 3,h.frozen 4,h.frozen 5,h.frozen 6,h.frozen 7,h.frozen 8,h.frozen 9,h.frozen 10⟩
def Zrp:Int:=1
def Zz4:Nat:=5
def Zco (rows:Nat) (xs:List Nat):Int:=Zde (Zaa rows xs).codec (Zaa rows xs).left
def Zal (rows:Nat) (xs:List Nat):Out_I:=Zbf (Zaa rows xs).codec (Zaa rows xs).wd (Za8 rows (Zaa rows xs).nulls) (Zaa rows xs).left (Zaa rows xs).short
def Zce (rows:Nat) (xs:List Nat):Bool:=Zgu Zrp rows (Zaa rows xs)&&((Zal rows xs).b&&(!(Zal rows xs).short&&decide ((Zal rows xs).left=[])))
set_option maxHeartbeats 16000000 in
theorem Zz8 (w:World) (v:Value) (xs:List Nat) (rows:Nat) (hT:Tab w) (hv:Rd w v xs.length 1 (u8s xs)) (hb:∀ x∈xs,x<256) (hl:xs.length≤16777216) (hrr:rows≤65536) :
  Calls Tryz.prog 128 #[.iface 159 (.agg #[]),.int .i64 rows,v] w fun e w'=>Below w.heap.size w w' ∧
   ((Zce rows xs=false∧e=.returned (.tuple #[.agg Za0.toArray,.bool false])) ∨
   (Zce rows xs=true∧∃ nu lv ev nv bef,e=.returned (.tuple #[.agg (ck_I rows (Zaa rows xs).codec (Zaa rows xs).wd nu (Za8 rows (Zaa rows xs).nulls) lv ev (Zco rows xs) nv Zbg bef).toArray,.bool true]) ∧
     w'.ownsRow w.heap.size 73 1 nu (Zaa rows xs).nulls.length (u64s (Zaa rows xs).nulls)∧Rd w' lv (Zal rows xs).list.length 1 (lstI (Zal rows xs).list)∧Rd w' ev (Zal rows xs).ends.length 1 (nIs (Zal rows xs).ends) ∧
     Rd w' nv (Zal rows xs).lanes.length 1 (u64s (Zal rows xs).lanes)∧Rd w' bef (Zaa rows xs).nulls.length 1 (i64s (befL (Zaa rows xs).nulls)))):=by
 have HT:=hid hT;have Vy:=hid hT.lt;have HV:=hid hv;obtain⟨A0,c0,rfl,_,_,_⟩:=hv.form;clear hT hv;obtain⟨OK,hOK⟩:∃ OK,Zce rows xs=OK:=⟨_,rfl⟩;rw[hOK];have Q3:=hid hOK;unfold Zce Zgu Zal at Q3;obtain⟨H,hH⟩:∃ H,Zaa rows xs=H:=⟨_,rfl⟩;have HH:=hid hH;rw[hH]at Q3 ⊢;obtain⟨O,hO⟩:∃ O,Zal rows xs=O:=⟨_,rfl⟩;have HO:=hid hO;unfold Zal at HO;rw[hH]at HO;rw[HO.out]at Q3;rw[hO];obtain⟨bs,hbs⟩:∃ bs,Zco rows xs=bs:=⟨_,rfl⟩;have YA:=hid hbs;unfold Zco at YA;rw[hH]at YA;rw[hbs];clear hOK hH hO hbs;obtain⟨cd,wd,nulls,x3,t3⟩:=H;simp only at *;have hcd:L.wordOf 8 (tk 1 xs)=cd:=by have:=HH.out;simp only[Zaa,Head.mk.injEq]at this;exact this.1
 have hwd:L.wordOf 8 (tk 1 (tkL 1 xs))=wd:=by have:=HH.out;simp only[Zaa,Head.mk.injEq]at this;exact this.2.1
 have hnu:numL 8 (tk (8*((rows+63)/64)) (tkL 1 (tkL 1 xs)))=nulls:=by have:=HH.out;simp only[Zaa,Head.mk.injEq]at this;exact this.2.2.1
 have hx3:tkL (8*((rows+63)/64)) (tkL 1 (tkL 1 xs))=x3:=by have:=HH.out;simp only[Zaa,Head.mk.injEq]at this;exact this.2.2.2.1
 have ht3:tkS (8*((rows+63)/64)) (tkL 1 (tkL 1 xs)) (tkS 1 (tkL 1 xs) (tkS 1 xs false))=t3:=by have:=HH.out;simp only[Zaa,Head.mk.injEq]at this;exact this.2.2.2.2
 obtain⟨x1,hx1⟩:∃ x1,tkL 1 xs=x1:=⟨_,rfl⟩;obtain⟨t1,ht1⟩:∃ t1,tkS 1 xs false=t1:=⟨_,rfl⟩;rw[hx1]at hwd hnu hx3 ht3;rw[ht1]at ht3;obtain⟨x2,hx2⟩:∃ x2,tkL 1 x1=x2:=⟨_,rfl⟩;obtain⟨t2,ht2⟩:∃ t2,tkS 1 x1 t1=t2:=⟨_,rfl⟩;rw[hx2]at hnu hx3 ht3;rw[ht2]at ht3;obtain⟨m,hm⟩:∃ m,(rows+63)/64=m:=⟨_,rfl⟩;rw[hm]at hnu hx3 ht3;have hm':((rows:Int)+63)/64=(m:Int):=by omega
 have hl1:x1.length≤16777216:=by rw[← hx1];exact Nat.le_trans (Zbn _ _) hl
 have hb1:∀ x∈x1,x<256:=by rw[← hx1];exact Zau hb
 have hl2:x2.length≤16777216:=by rw[← hx2];exact Nat.le_trans (Zbn _ _) hl1
 have hb2:∀ x∈x2,x<256:=by rw[← hx2];exact Zau hb1
 have hl3:x3.length≤16777216:=by rw[← hx3];exact Nat.le_trans (Zbn _ _) hl2
 have hb3:∀ x∈x3,x<256:=by rw[← hx3];exact Zau hb2
 have hnv:∀ x∈nulls,x<18446744073709551616:=by rw[← hnu];exact Zdz (Zdh hb2) (by omega)
 have hnl:nulls.length≤2097152:=by
  rw[← hnu,Zan];unfold tk;split
  ·rw[List.length_take];omega
  ·simp
 have Js:=hid (fun(w0 w:World) (g:Nat) (h:Zaq w0 w g xs false)=>Zgs w0 w g xs false h hb hl);rw[hcd,hx1,ht1]at Js;have Z1:=hid (fun(w0 w:World) (g:Nat) (h:Zaq w0 w g x1 t1)=>Zgs w0 w g x1 t1 h hb1 hl1);rw[hwd,hx2,ht2]at Z1;have HU:=hid (fun(w0 w:World) (g:Nat) (h:Zaq w0 w g x2 t2) (hg:g<w.heap.size)=>Zhw w0 w g x2 t2 m h hg hb2 hl2 (by omega));rw[hnu,hx3,ht3]at HU;have Jm:=hid (fun(w:World) (v:Value) (h:Rd w v nulls.length 1 (u64s nulls))=>Zll v nulls rows rows w h hnv (by unfold maxLen;omega));obtain⟨rk,hrk⟩:∃ rk,Zee rows rows nulls=rk:=⟨_,rfl⟩;rw[hrk]at Jm;have Jt:=hid hrk;obtain⟨k,hk⟩:∃ k,Za8 rows nulls=k:=⟨_,rfl⟩;rw[hk]at HO ⊢;have HK:=hid hk;clear hcd hwd hnu hx3 ht3 hx1 ht1 hx2 ht2 hm hrk HH hk;go_enter Tryz.func128,Tryz.ntmps128;go_wp2_with fail
 have hbA:Below w.heap.size w (w.alloc (.cells Za0.toArray 207)):=(Zab w).alloc (Nat.le_refl _) _;have hrA:Row (w.alloc (.cells Za0.toArray 207)) w.heap.size 207 Za0:=by unfold Row;rw[heap_alloc_new]
 have hsA:(w.alloc (.cells Za0.toArray 207)).heap.size=w.heap.size+1:=by simp
 change Calls _ _ _ (w.alloc (.cells Za0.toArray 207)) _
 generalize w.alloc (.cells Za0.toArray 207)=w1 at *;have Jf:=hid (HV.out.mono hbA);refine(Zeu w1 _ xs Jf.out).mono ?_;rintro e w2 ⟨rfl,hat,hb2,hsz2⟩;have Yd:=hid hat;have Zh:=hid hbA;have QH:=hid hrA;have Qb:=hid hb2;clear hat hbA hrA hb2;go_wp2_with fail
 have hbC:Below w2.heap.size w2 (w2.alloc (.cells (ck_I rows 0 0 nilS 0 nilS nilS 0 nilS Zbg nilS).toArray 207)):=(Zab w2).alloc (Nat.le_refl _) _;have hrC:Row (w2.alloc (.cells (ck_I rows 0 0 nilS 0 nilS nilS 0 nilS Zbg nilS).toArray 207)) w2.heap.size 207 (ck_I rows 0 0 nilS 0 nilS nilS 0 nilS Zbg nilS):=by unfold Row;rw[heap_alloc_new]
 change Calls _ _ _ (w2.alloc (.cells (ck_I rows 0 0 nilS 0 nilS nilS 0 nilS Zbg nilS).toArray 207)) _
 generalize w2.alloc (.cells (ck_I rows 0 0 nilS 0 nilS nilS 0 nilS Zbg nilS).toArray 207)=w3 at *;have JF:Hid (St_I w w1 w3 w.heap.size (w.heap.size+1) (w.heap.size+1+1) (ck_I rows 0 0 nilS 0 nilS nilS 0 nilS Zbg nilS) xs false):=by
  refine hid ⟨?_,(QH.out.mono Qb.out).mono hbC,?_,Zh.out.trans ((Zac Qb.out hbC).mono (by omega)),by omega,by omega,by omega,by omega,by omega,by omega,by omega⟩
  ·have:w2.heap.size=w.heap.size+1+1:=by omega
   rw[this]at hrC;exact hrC
  ·have h1:=Yd.out.mono hbC;rw[hsA]at h1;exact h1
 have HT1:=hid (HT.out.mono Zh.out Vy.out);clear hbC hrC Yd Zh QH Qb Jf HV HT;obtain⟨g,hg⟩:∃ g,w.heap.size+1+1=g:=⟨_,rfl⟩;rw[hg]at JF ⊢;obtain⟨gr,hgr⟩:∃ gr,w.heap.size+1=gr:=⟨_,rfl⟩;rw[hgr]at JF ⊢;obtain⟨a,ha⟩:∃ a,w.heap.size=a:=⟨_,rfl⟩;have HA:=hid ha;have Ju:Hid (St_I w w1 w3 a gr g (ck_I rows 0 0 nilS 0 nilS nilS 0 nilS Zbg nilS) xs false):=hid (by rw[← HA.out];exact JF.out);rw[ha];clear JF hg hgr ha hsz2 hsA;refine(Js.out w1 w3 gr Ju.out.rdr).mono ?_;rintro e w4 ⟨rfl,hr4,hc4⟩;have ZQ:=hid (Ju.out.step hc4 hr4);have e1:w4.cell? ⟨g,0+1,none⟩=some (.int .i64 0):=by rw[ZQ.out.rowc.cell];rfl
 have f1:=ZQ.out.rowc.frozen (0+1);clear hr4 hc4 Ju;have Jq:=hid (ZQ.out.store 1 (.int .i64 cd));go_wp2_with fail
 clear e1 f1 ZQ;generalize w4.setCell ⟨g,1,none⟩ (.int .i64 cd)=w5 at *;refine(Z1.out w1 w5 gr Jq.out.rdr).mono ?_;rintro e w6 ⟨rfl,hr6,hc6⟩;have V6:=hid (Jq.out.step hc6 hr6);have e1:w6.cell? ⟨g,0+2,none⟩=some (.int .i64 0):=by rw[V6.out.rowc.cell];rfl
 have f1:=V6.out.rowc.frozen (0+2);clear hr6 hc6 Jq;have ZG:=hid (V6.out.store 2 (.int .i64 wd));go_wp2_with fail
 clear e1 f1 V6;generalize w6.setCell ⟨g,2,none⟩ (.int .i64 wd)=w7 at *;have hgr7:=ZG.out.rdr.lt;have hg7:=ZG.out.rowc.lt;have ha7:=ZG.out.rowa.lt;refine(HU.out w1 w7 gr ZG.out.rdr hgr7).mono ?_;rintro e w8 ⟨p,hp,rfl,hrow8,hr8,hc8⟩;have V7:=hid (ZG.out.step hc8 hr8);have e1:w8.cell? ⟨g,0+3,none⟩=some nilS:=by rw[V7.out.rowc.cell];rfl
 have f1:=V7.out.rowc.frozen (0+3);have hpg:p≠g:=by omega
 have hpgr:p≠gr:=by omega
 have hpW:w.heap.size≤p:=by have:=ZG.out.ha;omega
 have hpa:p≠a:=by omega
 have Zv:=hid (((Chg.refl g g w8).setCell g 3 (.slice (some ⟨p,0,none⟩) nulls.length nulls.length) (.inl rfl)).row hrow8 hpg hpg);clear hrow8 hr8 hc8 ZG hp hg7 ha7 hgr7;have VA:Hid (St_I w w1 (w8.setCell ⟨g,3,none⟩ (.slice (some ⟨p,0,none⟩) nulls.length nulls.length)) a gr g (ck_I rows cd wd (.slice (some ⟨p,0,none⟩) nulls.length nulls.length) 0 nilS nilS 0 nilS Zbg nilS) x3 t3):=hid (V7.out.store 3 (.slice (some ⟨p,0,none⟩) nulls.length nulls.length));go_upto_region 6 with fail
 clear e1 f1 V7 HU Js Z1;generalize w8.setCell ⟨g,3,none⟩ (.slice (some ⟨p,0,none⟩) nulls.length nulls.length)=w9 at *;have e3:w9.cell? ⟨g,0+3,none⟩=some (.slice (some ⟨p,0,none⟩) nulls.length nulls.length):=by rw[VA.out.rowc.cell];rfl
 go_wp2_with fail
 refine(Jm.out w9 _ (Zv.out.rd' (n:=nulls.length) (by simp[u64s]) (by unfold maxLen;omega))).mono ?_;rintro e wA ⟨rfl,nA,rfl⟩;have U5:=hid (VA.out.mono (Zaf (Zab w9) nA));have QH:=hid (Zv.out.drewN nA);go_upto_region 7 with fail
 clear e3 VA Zv Jm;generalize w9.drewN nA=wA at *;have hAC:wA.cell? ⟨g,1,none⟩=some (.int .i64 cd):=by rw[U5.out.rowc.cell];rfl
 cases hok:Za9 1 rows nulls with
 | false =>
  obtain rfl:rk = -1:=by rw[← Jt.out,Zee,if_neg (by rw[hok];simp)]
  obtain rfl:OK=false:=by rw[← Q3.out,hok];rfl
  go_quiet (fail)
  have Z3:=hid (U5.out.mono (Zaf (Zab wA) nq));generalize wA.drewN nq=wB at *;obtain⟨z0,z1,z2,z3,z4,z5,z6,z7,z8,z9,z10⟩:=Zeh Z3.out.rowa;obtain⟨f0,f1,f2,f3,f4,f5,f6,f7,f8,f9,f10⟩:=Zj4 Z3.out.rowa;go_wp2_with fail
  clear z0 z1 z2 z3 z4 z5 z6 z7 z8 z9 z10 f0 f1 f2 f3 f4 f5 f6 f7 f8 f9 f10;change bodyPost _ _ _ _ _ (setL wB a 0 Za0)
  have Yg:=hid (Zc8 Z3.out.rowa Za0 rfl);have Y0:=hid (Zci a Z3.out.ha Za0 wB 0 Z3.out.bel);generalize setL wB a 0 Za0=wF at *;obtain⟨z0,z1,z2,z3,z4,z5,z6,z7,z8,z9,z10⟩:=Zeh Yg.out;refine bodyPost_ret (v:=.tuple #[.agg Za0.toArray,.bool false]) ?_ rfl ⟨Y0.out,by first | exact .inl ⟨rfl,rfl⟩ | rfl⟩;simp[results,Tryz.results128,go_sem,z0,z1,z2,z3,z4,z5,z6,z7,z8,z9,z10];rfl
 | true =>
  have hrn:rk=((Zaw nulls rows:Nat):Int):=by rw[← Jt.out,Zee,if_pos ⟨hok,by omega,by omega⟩];simp
  have hnr:Zaw nulls rows≤rows:=by unfold Zaw;have:=List.length_filter_le (Zar nulls) (List.range rows);rwa [List.length_range]at this
  have hct:k=rows-Zaw nulls rows:=HK.out.symm;obtain⟨n,hn⟩:∃ n,Zaw nulls rows=n:=⟨_,rfl⟩;rw[hn]at hrn hnr hct;subst hrn;have hok2:=Q3.out;rw[hok,Bool.true_and]at hok2;have Jv:=hid hok2;have hneg:¬ ((n:Int)<0):=by omega
  have hkc:(rows:Int)-(n:Int)=(k:Int):=by omega
  have hkk:k≤65536:=by omega
  have hmn:=Zkc;have hnl2:nulls.length≤65536:=by rw[((Zbl (wd:=1) (n:=rows) nulls (by decide) hrr).1 hok).1];exact Nat.le_trans (L.nWords_le (by omega)) hrr
  have hgA:g<wA.heap.size:=U5.out.rowc.lt;clear hok2 hok Jt hn hct;generalize hic:Zbj Zrp cd=ic at *;have VB:=hid (fun w2:World=>Zls Zrp cd w2);rw[hic]at VB;have U6:=hid hic;clear hic;unfold Zrp at VB;go_region_held3 (fun w'=>w'.cell? ⟨g,1,none⟩=some (.int .i64 cd)) (go_keep)
   (first
    | (go_at_call 319;refine(Zif _).mono ?_;rintro e wN ⟨rfl,hbN⟩;have QJ:=hid (U5.out.mono ((Zaf (Zab wA) 1).trans hbN));have Q5:=hid (QH.out.mono ((Zaf (Zab wA) 1).trans hbN));have kN:=(hbN.cell (p:=⟨g,1,none⟩) hgA).trans hAC;clear hbN)
    | (go_at_call 103;refine(VB.out _).mono ?_;rintro e wM ⟨rfl,hw⟩;replace hw:=hw.symm;subst hw))
  clear hAC U5 QH hmn VB hneg;cases ic with
  | false =>
   obtain rfl:OK=false:=by rw[← Jv.out];rfl
   obtain⟨z0,z1,z2,z3,z4,z5,z6,z7,z8,z9,z10⟩:=Zeh QJ.out.rowa;obtain⟨f0,f1,f2,f3,f4,f5,f6,f7,f8,f9,f10⟩:=Zj4 QJ.out.rowa;go_wp2_with fail
   clear z0 z1 z2 z3 z4 z5 z6 z7 z8 z9 z10 f0 f1 f2 f3 f4 f5 f6 f7 f8 f9 f10;change bodyPost _ _ _ _ _ (setL wN a 0 Za0)
   have Yg:=hid (Zc8 QJ.out.rowa Za0 rfl);have Y0:=hid (Zci a QJ.out.ha Za0 wN 0 QJ.out.bel);generalize setL wN a 0 Za0=wF at *;obtain⟨z0,z1,z2,z3,z4,z5,z6,z7,z8,z9,z10⟩:=Zeh Yg.out;refine bodyPost_ret (v:=.tuple #[.agg Za0.toArray,.bool false]) ?_ rfl ⟨Y0.out,by first | exact .inl ⟨rfl,rfl⟩ | rfl⟩;simp[results,Tryz.results128,go_sem,z0,z1,z2,z3,z4,z5,z6,z7,z8,z9,z10];rfl
  | true =>
   have hok3:=Jv.out;rw[Bool.true_and]at hok3;have Z4:=hid hok3;clear hok3 Jv;have hcdk:1≤cd∧cd≤Zz4:=by
    have h:=U6.out;unfold Zbj Zrp Zz4 at *
    split at h
    ·omega
    ·simp only[decide_eq_true_eq]at h;omega
   have e4:wN.cell? ⟨g,0+4,none⟩=some (.int .i64 0):=by rw[QJ.out.rowc.cell];rfl
   have f4:=QJ.out.rowc.frozen (0+4);have Jw:=hid (QJ.out.store 4 (.int .i64 k));have X1:=hid (((Chg.refl g g wN).setCell g 4 (.int .i64 k) (.inl rfl)).row Q5.out hpg hpg);clear QJ Q5 kN U6;go_upto_region 10 with fail
   clear e4 f4;generalize wN.setCell ⟨g,4,none⟩ (.int .i64 k)=wP at *;have e3:wP.cell? ⟨g,0+3,none⟩=some (.slice (some ⟨p,0,none⟩) nulls.length nulls.length):=by rw[Jw.out.rowc.cell];rfl
   go_wp2_with fail
   refine(Zhb _ nulls wP (X1.out.rd' (n:=nulls.length) (by simp[u64s]) (by unfold maxLen;omega)) hnv hnl2).mono ?_;rintro e wQ ⟨rfl,hrowB,hbQ⟩;have hq1:g<wP.heap.size:=Jw.out.rowc.lt;have hq2:gr<wP.heap.size:=Jw.out.rdr.lt;have hq3:a<wP.heap.size:=Jw.out.rowa.lt;have hq4:w.heap.size≤wP.heap.size:=Jw.out.bel.size;have Jg:=hid (Jw.out.mono hbQ);have Uh:=hid (X1.out.mono hbQ);have YB:=hid hrowB;obtain⟨q,hq⟩:∃ q,wP.heap.size=q:=⟨_,rfl⟩;rw[hq]at YB hq1 hq2 hq3 hq4 ⊢;have hqg:q≠g:=by omega
   have hqr:q≠gr:=by omega
   have hqa:q≠a:=by omega
   have e10:wQ.cell? ⟨g,0+10,none⟩=some nilS:=by rw[Jg.out.rowc.cell];rfl
   have f10:=Jg.out.rowc.frozen (0+10);have Q6:Hid (St_I w w1 (wQ.setCell ⟨g,10,none⟩ (.slice (some ⟨q,0,none⟩) nulls.length nulls.length)) a gr g (ck_I rows cd wd (.slice (some ⟨p,0,none⟩) nulls.length nulls.length) k nilS nilS 0 nilS Zbg (.slice (some ⟨q,0,none⟩) nulls.length nulls.length)) x3 t3):=hid (Jg.out.store 10 (.slice (some ⟨q,0,none⟩) nulls.length nulls.length));have Qo:=hid (((Chg.refl g g wQ).setCell g 10 (.slice (some ⟨q,0,none⟩) nulls.length nulls.length) (.inl rfl)).row Uh.out hpg hpg);have QX:=hid (((Chg.refl g g wQ).setCell g 10 (.slice (some ⟨q,0,none⟩) nulls.length nulls.length) (.inl rfl)).row YB.out hqg hqg);clear hrowB hbQ Jw X1 Jg Uh YB hq e3;go_upto_region 11 with fail
   clear e10 f10;generalize wQ.setCell ⟨g,10,none⟩ (.slice (some ⟨q,0,none⟩) nulls.length nulls.length)=wR at *;have Jx:=hid (Zpt w1 wR g gr x3 t3 rows wd cd k _ _ HT1.out Q6.out.rowc Q6.out.rdr Q6.out.n1 Q6.out.h0 Q6.out.rdr.lt hb3 hl3 hkk hcdk);rw[HO.out]at Jx;have hr1:a<wR.heap.size:=Q6.out.rowa.lt;have hr2:g<wR.heap.size:=Q6.out.rowc.lt;go_wp2_with fail
   refine Jx.out.mono ?_;rintro e wS ⟨rfl,hOA⟩;obtain⟨⟨lv,ev,nv,hck,hol,hoe,hon⟩,hrS,hcS⟩:=hOA;rw[YA.out]at hck;have Qv:=hid (Q6.out.both hcS hck hrS);have JI:=hid (hcS.row Qo.out hpg hpgr);have X2:=hid (hcS.row QX.out hqg hqr);have HOL:=hid hol;have JR:=hid hoe;have U3:=hid hon;have hOl:O.left.length≤16777216:=by rw[← HO.out];exact Nat.le_trans (Zpy cd wd k x3 t3) hl3
   clear hck hol hoe hon hrS hcS Q6 Qo QX Jx HO;obtain⟨ob,ol,os,oli,oen,ola⟩:=O;simp only at *;cases ob with
   | false =>
    obtain rfl:OK=false:=by rw[← Z4.out];rfl
    obtain⟨z0,z1,z2,z3,z4,z5,z6,z7,z8,z9,z10⟩:=Zeh Qv.out.rowa;obtain⟨f0,f1,f2,f3,f4,f5,f6,f7,f8,f9,f10⟩:=Zj4 Qv.out.rowa;go_wp2_with fail
    clear z0 z1 z2 z3 z4 z5 z6 z7 z8 z9 z10 f0 f1 f2 f3 f4 f5 f6 f7 f8 f9 f10;change bodyPost _ _ _ _ _ (setL wS a 0 Za0)
    have Yg:=hid (Zc8 Qv.out.rowa Za0 rfl);have Y0:=hid (Zci a Qv.out.ha Za0 wS 0 Qv.out.bel);generalize setL wS a 0 Za0=wF at *;obtain⟨z0,z1,z2,z3,z4,z5,z6,z7,z8,z9,z10⟩:=Zeh Yg.out;refine bodyPost_ret (v:=.tuple #[.agg Za0.toArray,.bool false]) ?_ rfl ⟨Y0.out,by first | exact .inl ⟨rfl,rfl⟩ | rfl⟩;simp[results,Tryz.results128,go_sem,z0,z1,z2,z3,z4,z5,z6,z7,z8,z9,z10];rfl
   | true =>
    cases os with
    | true =>
     obtain rfl:OK=false:=by rw[← Z4.out];rfl
     obtain⟨z0,z1,z2,z3,z4,z5,z6,z7,z8,z9,z10⟩:=Zeh Qv.out.rowa;obtain⟨f0,f1,f2,f3,f4,f5,f6,f7,f8,f9,f10⟩:=Zj4 Qv.out.rowa;go_wp2_with (go_at_call 157;refine(Zd3 w1 _ gr _ true Qv.out.rdr).mono ?_;rintro e wT ⟨rfl,hw⟩;replace hw:=hw.symm;subst hw)
     clear z0 z1 z2 z3 z4 z5 z6 z7 z8 z9 z10 f0 f1 f2 f3 f4 f5 f6 f7 f8 f9 f10;change bodyPost _ _ _ _ _ (setL wS a 0 Za0)
     have Yg:=hid (Zc8 Qv.out.rowa Za0 rfl);have Y0:=hid (Zci a Qv.out.ha Za0 wS 0 Qv.out.bel);generalize setL wS a 0 Za0=wF at *;obtain⟨z0,z1,z2,z3,z4,z5,z6,z7,z8,z9,z10⟩:=Zeh Yg.out;refine bodyPost_ret (v:=.tuple #[.agg Za0.toArray,.bool false]) ?_ rfl ⟨Y0.out,by first | exact .inl ⟨rfl,rfl⟩ | rfl⟩;simp[results,Tryz.results128,go_sem,z0,z1,z2,z3,z4,z5,z6,z7,z8,z9,z10];rfl
    | false =>
     by_cases hle:ol=[]
     case neg =>
      obtain rfl:OK=false:=by rw[← Z4.out];simp[hle]
      have hlp:0<ol.length:=List.length_pos_iff.2 hle;have hgt:(ol.length:Int) > 0:=by omega
      clear hle;obtain⟨z0,z1,z2,z3,z4,z5,z6,z7,z8,z9,z10⟩:=Zeh Qv.out.rowa;obtain⟨f0,f1,f2,f3,f4,f5,f6,f7,f8,f9,f10⟩:=Zj4 Qv.out.rowa;go_wp2_with (first | (go_at_call 157;refine(Zd3 w1 _ gr _ false Qv.out.rdr).mono ?_;rintro e wT ⟨rfl,hw⟩;replace hw:=hw.symm;subst hw) | (go_at_call 158;refine(Zhz w1 _ gr ol false Qv.out.rdr hOl).mono ?_;rintro e wT ⟨rfl,hw⟩;replace hw:=hw.symm;subst hw))
      clear z0 z1 z2 z3 z4 z5 z6 z7 z8 z9 z10 f0 f1 f2 f3 f4 f5 f6 f7 f8 f9 f10;change bodyPost _ _ _ _ _ (setL wS a 0 Za0)
      have Yg:=hid (Zc8 Qv.out.rowa Za0 rfl);have Y0:=hid (Zci a Qv.out.ha Za0 wS 0 Qv.out.bel);generalize setL wS a 0 Za0=wF at *;obtain⟨z0,z1,z2,z3,z4,z5,z6,z7,z8,z9,z10⟩:=Zeh Yg.out;refine bodyPost_ret (v:=.tuple #[.agg Za0.toArray,.bool false]) ?_ rfl ⟨Y0.out,by first | exact .inl ⟨rfl,rfl⟩ | rfl⟩;simp[results,Tryz.results128,go_sem,z0,z1,z2,z3,z4,z5,z6,z7,z8,z9,z10];rfl
     case pos =>
      subst hle;obtain rfl:OK=true:=by rw[← Z4.out];rfl
      have hgt:¬ ((([]:List Nat).length:Int) > 0):=by simp
      obtain⟨z0,z1,z2,z3,z4,z5,z6,z7,z8,z9,z10⟩:=Zeh Qv.out.rowa;obtain⟨f0,f1,f2,f3,f4,f5,f6,f7,f8,f9,f10⟩:=Zj4 Qv.out.rowa;obtain⟨Al,cl,rfl,_,_,_⟩:=Zao HOL.out;obtain⟨Ae,ce,rfl,_,_,_⟩:=Zao JR.out;obtain⟨An,cn,rfl,_,_,_⟩:=Zao U3.out;obtain⟨y0,y1,y2,y3,y4,y5,y6,y7,y8,y9,y10⟩:=Zeh Qv.out.rowc;unfold i64 at y0 y1 y2 y4 y7;unfold Zbg at y9;go_wp2_with (first | (go_at_call 157;refine(Zd3 w1 _ gr _ false Qv.out.rdr).mono ?_;rintro e wT ⟨rfl,hw⟩;replace hw:=hw.symm;subst hw) | (go_at_call 158;refine(Zhz w1 _ gr [] false Qv.out.rdr hOl).mono ?_;rintro e wT ⟨rfl,hw⟩;replace hw:=hw.symm;subst hw))
      clear z0 z1 z2 z3 z4 z5 z6 z7 z8 z9 z10 f0 f1 f2 f3 f4 f5 f6 f7 f8 f9 f10 y0 y1 y2 y3 y4 y5 y6 y7 y8 y9 y10;change bodyPost _ _ _ _ _ (setL wS a 0 (ck_I rows cd wd (.slice (some ⟨p,0,none⟩) nulls.length nulls.length) k (.slice Al oli.length cl) (.slice Ae oen.length ce) bs (.slice An ola.length cn) Zbg (.slice (some ⟨q,0,none⟩) nulls.length nulls.length)))
      have Yg:=hid (Zc8 Qv.out.rowa (ck_I rows cd wd (.slice (some ⟨p,0,none⟩) nulls.length nulls.length) k (.slice Al oli.length cl) (.slice Ae oen.length ce) bs (.slice An ola.length cn) Zbg (.slice (some ⟨q,0,none⟩) nulls.length nulls.length)) rfl);have Y0:=hid (Zci a Qv.out.ha (ck_I rows cd wd (.slice (some ⟨p,0,none⟩) nulls.length nulls.length) k (.slice Al oli.length cl) (.slice Ae oen.length ce) bs (.slice An ola.length cn) Zbg (.slice (some ⟨q,0,none⟩) nulls.length nulls.length)) wS 0 Qv.out.bel);have hcf:=Zuz a (ck_I rows cd wd (.slice (some ⟨p,0,none⟩) nulls.length nulls.length) k (.slice Al oli.length cl) (.slice Ae oen.length ce) bs (.slice An ola.length cn) Zbg (.slice (some ⟨q,0,none⟩) nulls.length nulls.length)) wS 0;have G1:=hid ((hcf.row JI.out hpa hpa).owns (B:=w.heap.size) (n:=nulls.length) hpW (by simp[u64s]) (by unfold maxLen;omega));have G2:=hid ((hcf.row X2.out hqa hqa).rd' (n:=nulls.length) (by simp[i64s,befL]) (by unfold maxLen;omega));have G3:=hid (Zba (Zb5 HOL.out hcf hr1 hr1));have G4:=hid (Zba (Zb5 JR.out hcf hr1 hr1));have G5:=hid (Zba (Zb5 U3.out hcf hr1 hr1));clear hcf;generalize setL wS a 0 (ck_I rows cd wd (.slice (some ⟨p,0,none⟩) nulls.length nulls.length) k (.slice Al oli.length cl) (.slice Ae oen.length ce) bs (.slice An ola.length cn) Zbg (.slice (some ⟨q,0,none⟩) nulls.length nulls.length))=wF at *;obtain⟨z0,z1,z2,z3,z4,z5,z6,z7,z8,z9,z10⟩:=Zeh Yg.out;refine bodyPost_ret (v:=.tuple #[.agg (ck_I rows cd wd (.slice (some ⟨p,0,none⟩) nulls.length nulls.length) k (.slice Al oli.length cl) (.slice Ae oen.length ce) bs (.slice An ola.length cn) Zbg (.slice (some ⟨q,0,none⟩) nulls.length nulls.length)).toArray,.bool true]) ?_ rfl ⟨Y0.out,?_⟩
      ·simp[results,Tryz.results128,go_sem,z0,z1,z2,z3,z4,z5,z6,z7,z8,z9,z10];rfl
      ·first | exact .inr ⟨rfl,_,_,_,_,_,rfl,G1.out,G3.out,G4.out,G5.out,G2.out⟩ | exact⟨_,_,_,_,_,rfl,G1.out,G3.out,G4.out,G5.out,G2.out⟩
def Zno (rows:Nat) (xs:List Nat) (j:Nat):Int:=vl_I (Zaa rows xs).codec (Zaa rows xs).wd (Zal rows xs).list (Zal rows xs).ends (Zco rows xs) (Zal rows xs).lanes j
def Zhc (rows:Nat) (xs:List Nat) (r:Nat):Bool:=Zar (Zaa rows xs).nulls r
def Zha (rows:Nat) (xs:List Nat) (r:Nat):Int:=if Zar (Zaa rows xs).nulls r=true then 0 else cB_I (Zno rows xs (r-Zaw (Zaa rows xs).nulls (r+1)))
def Zhg (rows:Nat) (xs:List Nat) (r:Nat):ByteArray:=if Zar (Zaa rows xs).nulls r=true then ByteArray.empty else cC_I (Zno rows xs (r-Zaw (Zaa rows xs).nulls (r+1)))
structure Valid_I (rows:Nat) (xs:List Nat):Prop where
 nl:(Zaa rows xs).nulls.length=(rows+63)/64
 nv:∀ x∈(Zaa rows xs).nulls,x<18446744073709551616
 ll:(Zal rows xs).list.length≤16777216
 el:(Zal rows xs).ends.length≤16777216
 lv:∀ x∈(Zal rows xs).lanes,x<18446744073709551616
 ok:∀ j,j<Za8 rows (Zaa rows xs).nulls→Zoh (Zaa rows xs).codec (Zaa rows xs).wd (Zal rows xs).list (Zal rows xs).ends (Zal rows xs).lanes j
set_option maxHeartbeats 2000000 in
theorem Z18 (w:World) (g:Nat) (xs:List Nat) (rows:Nat) (hrr:rows≤65536) (hval:Valid_I rows xs) (r:Nat) (hr:r<rows)
  (h:Ck_I w g rows (Zaa rows xs).codec (Zaa rows xs).wd (Zaa rows xs).nulls (Za8 rows (Zaa rows xs).nulls) (Zal rows xs).list (Zal rows xs).ends (Zco rows xs) (Zal rows xs).lanes) :
  Calls Tryz.prog 169 #[.pointer (some ⟨g,0,none⟩),.int .i64 r] w fun e w'=>e=.returned (.agg #[.bool (Zhc rows xs r),.int .i64 (Zha rows xs r),.string (Zhg rows xs r)])∧Below w.heap.size w w':=by
 have hc:=Z1q w g rows _ _ _ _ _ _ _ _ r (Zno rows xs (r-Zaw (Zaa rows xs).nulls (r+1))) h hval.nl hval.nv hrr hr (fun hb w2 hb2=>by
  have hlt:=Zya (rows:=rows) _ r hr hb;exact Znz w2 g rows _ _ _ _ _ _ _ _ _ (h.mono hb2) hval.el hval.ll hval.lv (by omega) (hval.ok _ hlt))
 refine hc.mono ?_;rintro e w' ⟨rfl,hb⟩;refine⟨?_,hb⟩;unfold Zhc Zha Zhg;cases hbt:Zar (Zaa rows xs).nulls r<;>rfl
theorem Zqe {w:World} {rows:Nat} {xs:List Nat} {nu lv ev nv bef:Value} (h1:Rd w nu (Zaa rows xs).nulls.length 1 (u64s (Zaa rows xs).nulls)) (h2:Rd w lv (Zal rows xs).list.length 1 (lstI (Zal rows xs).list))
  (h3:Rd w ev (Zal rows xs).ends.length 1 (nIs (Zal rows xs).ends)) (h4:Rd w nv (Zal rows xs).lanes.length 1 (u64s (Zal rows xs).lanes)) (h5:Rd w bef (Zaa rows xs).nulls.length 1 (i64s (befL (Zaa rows xs).nulls))) :
  Ck_I (w.alloc (.cells (ck_I rows (Zaa rows xs).codec (Zaa rows xs).wd nu (Za8 rows (Zaa rows xs).nulls) lv ev (Zco rows xs) nv Zbg bef).toArray 207)) w.heap.size rows (Zaa rows xs).codec (Zaa rows xs).wd (Zaa rows xs).nulls
   (Za8 rows (Zaa rows xs).nulls) (Zal rows xs).list (Zal rows xs).ends (Zco rows xs) (Zal rows xs).lanes:=by
 have hb:Below w.heap.size w (w.alloc (.cells (ck_I rows (Zaa rows xs).codec (Zaa rows xs).wd nu (Za8 rows (Zaa rows xs).nulls) lv ev (Zco rows xs) nv Zbg bef).toArray 207)):=(Zab w).alloc (Nat.le_refl _) _;exact⟨⟨nu,lv,ev,nv,bef,by unfold Row;rw[heap_alloc_new];rfl,h1.mono hb,h2.mono hb,h3.mono hb,h4.mono hb,h5.mono hb⟩⟩
def Zmj (rows:Nat) (xs:List Nat):List Value:=Za2 (Zhc rows xs) (Zha rows xs) (Zhg rows xs) rows
set_option maxHeartbeats 8000000 in
theorem Zy2 (w:World) (v:Value) (xs:List Nat) (rows:Nat) (hT:Tab w) (hv:Rd w v xs.length 1 (u8s xs)) (hb:∀ x∈xs,x<256) (hl:xs.length≤16777216) (hrr:rows≤65536) (hval:Zce rows xs=true→Valid_I rows xs) :
  Calls Tryz.prog 99 #[.iface 159 (.agg #[]),.int .i64 rows,v] w fun e w'=>Below w.heap.size w w' ∧
   ((Zce rows xs=false∧e=.returned (.tuple #[.slice none 0 0,.int .i64 1])) ∨
   (Zce rows xs=true∧∃ p,w.heap.size≤p∧e=.returned (.tuple #[.slice (some ⟨p,0,none⟩) rows rows,.int .i64 0])∧Row w' p 36 (Zmj rows xs))):=by
 have Z5:=hid (Zz8 w v xs rows hT hv hb hl hrr);have X3:=hid hval;have YP:=hid (fun(w2:World) (g:Nat) (hh:Zce rows xs=true) (h:Ck_I w2 g rows (Zaa rows xs).codec (Zaa rows xs).wd (Zaa rows xs).nulls (Za8 rows (Zaa rows xs).nulls) (Zal rows xs).list (Zal rows xs).ends (Zco rows xs) (Zal rows xs).lanes) =>
  Z0g w2 g rows (Zhc rows xs) (Zha rows xs) (Zhg rows xs) (by obtain⟨nu,lv,ev,nv,bef,h1,_⟩:=h.ex;rw[h1.cell];rfl) hrr (fun r hr w3 hb3=>Z18 w3 g xs rows hrr (hval hh) r hr (h.mono hb3)))
 obtain⟨A0,c0,rfl,_,_,_⟩:=hv.form;have Y1:=hid (fun(w2:World) (nu lv ev nv bef:Value)=>@Zqe w2 rows xs nu lv ev nv bef);unfold Zmj;generalize Zce rows xs=OK at *;generalize Zhc rows xs=fA at *;generalize Zha rows xs=fB at *;generalize Zhg rows xs=fC at *;generalize Zal rows xs=O at *;generalize Zco rows xs=bs at *;generalize Zaa rows xs=H at *;clear hT hv hval;go_enter Tryz.func99,Tryz.ntmps99;go_wp2_with fail
 refine Z5.out.mono ?_;rintro e w1 ⟨hb1,⟨rfl,rfl⟩ | ⟨rfl,nu,lv,ev,nv,bef,rfl,h1,h2,h3,h4,h5⟩⟩
 ·have Qa:=hid hb1;clear hb1;unfold Za0 i64 nilS;go_wp2_with fail
  go_ret2
  exact⟨Qa.out.alloc Qa.out.size _,by first | exact .inl ⟨rfl,rfl⟩ | rfl⟩
 ·have Qa:=hid hb1;have Yj:=hid (Y1.out w1 nu lv ev nv bef (Zba h1) h2 h3 h4 h5);obtain⟨A1,c1,rfl,_,_,_⟩:=(Zba h1).form;obtain⟨A2,c2,rfl,_,_,_⟩:=h2.form;obtain⟨A3,c3,rfl,_,_,_⟩:=h3.form;obtain⟨A4,c4,rfl,_,_,_⟩:=h4.form;obtain⟨A5,c5,rfl,_,_,_⟩:=h5.form;have Zq:=hid (YP.out _ _ rfl Yj.out);have Qb:Hid (Below w.heap.size w (w1.alloc (.cells (ck_I rows H.codec H.wd (.slice A1 H.nulls.length c1) (Za8 rows H.nulls) (.slice A2 O.list.length c2) (.slice A3 O.ends.length c3) bs (.slice A4 O.lanes.length c4) Zbg (.slice A5 H.nulls.length c5)).toArray 207))):=hid (Qa.out.alloc Qa.out.size _);clear h1 h2 h3 h4 h5 hb1 Z5 Y1 YP X3 Yj;generalize Za8 rows H.nulls=kk at *;unfold ck_I i64 Zbg at *;go_wp2_with fail
  refine Zq.out.mono ?_;rintro e w3 ⟨p,hp,rfl,hrow,hb3⟩;have Qq:=hid hrow;have hsz:w.heap.size≤(w1.alloc (.cells [.int .i64 rows,.int .i64 H.codec,.int .i64 H.wd,.slice A1 H.nulls.length c1,.int .i64 kk,.slice A2 O.list.length c2,.slice A3 O.ends.length c3,.int .i64 bs,.slice A4 O.lanes.length c4,.iface 159 (.agg #[]),.slice A5 H.nulls.length c5].toArray 207)).heap.size:=Qb.out.size;have Qe:=hid (Qb.out.trans (hb3.mono hsz));have HP:=hid (Nat.le_trans hsz hp);clear hrow hb3 Zq hp hsz;go_wp2_with fail
  go_ret2
  exact⟨Qe.out,by first | exact .inr ⟨rfl,p,HP.out,rfl,Qq.out⟩ | exact⟨p,HP.out,rfl,Qq.out⟩⟩
end Go.Proofs.YtmcjknjlihgihaaGreatDoor
