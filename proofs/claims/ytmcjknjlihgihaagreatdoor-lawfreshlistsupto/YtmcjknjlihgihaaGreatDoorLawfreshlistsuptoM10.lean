/- Package chunk: the parts of a payload off the reader. -/
import Derived.Test.YtmcjknjlihgihaaGreatDoorLawfreshlistsuptoM9
set_option linter.unusedVariables false
set_option linter.unusedSimpArgs false
set_option linter.unnecessarySimpa false
set_option maxRecDepth 100000
namespace Go.Proofs.YtmcjknjlihgihaaGreatDoor
open Go.RowKit
def Zay:List Value:=[i64 0,i64 0,i64 0,nilS,i64 0,nilS,nilS,i64 0,nilS,.nilIface,nilS]
structure St_I (W w0 w:World) (a gr g:Nat) (cs:List Value) (xs:List Nat) (s:Bool):Prop where
 rowc:Row w g 207 cs
 rowa:Row w a 207 Zay
 rdr:Zap w0 w gr xs s
 bel:Below W.heap.size W w
 ha:W.heap.size≤a
 hr:W.heap.size≤gr
 hg:W.heap.size≤g
 h0:w0.heap.size≤g
 n1:g≠gr
 n2:a≠g
 n3:a≠gr
theorem St_I.store {W w0 w:World} {a gr g:Nat} {cs:List Value} {xs:List Nat} {s:Bool} (h:St_I W w0 w a gr g cs xs s) (f:Nat) (v:Value):St_I W w0 (w.setCell ⟨g,f,none⟩ v) a gr g (cs.set f v) xs s:=by
 have hch:=(Chg.refl g g w).setCell g f v (.inl rfl);exact⟨h.rowc.set f v,hch.row h.rowa h.n2 h.n2,h.rdr.chg hch (Ne.symm h.n1) (Ne.symm h.n1) h.h0 h.h0,Zac h.bel _ _ _ h.hg,h.ha,h.hr,h.hg,h.h0,h.n1,h.n2,h.n3⟩
theorem St_I.step {W w0 w w':World} {a gr g:Nat} {cs:List Value} {xs ys:List Nat} {s t:Bool} (h:St_I W w0 w a gr g cs xs s) (hc:Chg gr gr w w') (hr:Zap w0 w' gr ys t):St_I W w0 w' a gr g cs ys t :=
 ⟨hc.row h.rowc h.n1 h.n1,hc.row h.rowa h.n3 h.n3,hr,hc.below h.bel h.bel.size h.hr h.hr,h.ha,h.hr,h.hg,h.h0,h.n1,h.n2,h.n3⟩
theorem St_I.mono {W w0 w w':World} {a gr g:Nat} {cs:List Value} {xs:List Nat} {s:Bool} (h:St_I W w0 w a gr g cs xs s) (hb:Below w.heap.size w w'):St_I W w0 w' a gr g cs xs s :=
 ⟨h.rowc.mono hb,h.rowa.mono hb,h.rdr.mono hb,h.bel.trans (hb.mono h.bel.size),h.ha,h.hr,h.hg,h.h0,h.n1,h.n2,h.n3⟩
theorem St_I.both {W w0 w w':World} {a gr g:Nat} {cs ds:List Value} {xs ys:List Nat} {s t:Bool} (h:St_I W w0 w a gr g cs xs s) (hc:Chg g gr w w') (hd:Row w' g 207 ds) (hr:Zap w0 w' gr ys t):St_I W w0 w' a gr g ds ys t :=
 ⟨hd,hc.row h.rowa h.n2 h.n3,hr,hc.below h.bel h.bel.size h.hg h.hr,h.ha,h.hr,h.hg,h.h0,h.n1,h.n2,h.n3⟩
theorem Zn3 (cd:Nat) (wd:Int) (k:Nat) (xs:List Nat) (s:Bool):(Zbc cd wd k xs s).left.length≤xs.length:=by
 have h1:∀ n ys,(tkL n ys).length≤ys.length:=Zbn;have hP:(Zbu wd k xs s).left.length≤xs.length:=(Zel k xs s).1;have hD:(Zbv wd k xs s).left.length≤xs.length:=by
  unfold Zbv
  split
  ·exact h1 _ _
  ·have hr:=(Zel (L.wordOf 8 (tk 4 xs)) (tkL 4 xs) (tkS 4 xs s)).1;generalize rdI (L.wordOf 8 (tk 4 xs)) (tkL 4 xs) (tkS 4 xs s)=R at *;obtain⟨vals,ok,xl,s1⟩:=R;simp only at *
   split
   ·exact Nat.le_trans (h1 _ _) (Nat.le_trans hr (h1 _ _))
   ·exact Nat.le_trans hr (h1 _ _)
 have hR:(Zbp wd k xs s).left.length≤xs.length:=by
  unfold Zbp
  split
  ·exact Nat.le_trans (h1 _ _) (h1 _ _)
  ·have hr:=(Zel (L.wordOf 8 (tk 4 xs)) (tkL (4*L.wordOf 8 (tk 4 xs)) (tkL 4 xs)) (tkS (4*L.wordOf 8 (tk 4 xs)) (tkL 4 xs) (tkS 4 xs s))).1;generalize rdI (L.wordOf 8 (tk 4 xs)) (tkL (4*L.wordOf 8 (tk 4 xs)) (tkL 4 xs)) (tkS (4*L.wordOf 8 (tk 4 xs)) (tkL 4 xs) (tkS 4 xs s))=R at *;obtain⟨vals,ok,xl,s1⟩:=R;exact Nat.le_trans hr (Nat.le_trans (h1 _ _) (h1 _ _))
 unfold Zbc
 repeat' split
 all_goals first | exact hP | exact hD | exact hR | exact h1 _ _ | exact Nat.le_trans (h1 _ _) (h1 _ _)
theorem Zea {w:World} {a:Nat} {e:TypeId} {v0 v1 v2 v3 v4 v5 v6 v7 v8 v9 v10:Value} (h:Row w a e [v0,v1,v2,v3,v4,v5,v6,v7,v8,v9,v10]) :
  w.cell? ⟨a,0,none⟩=some v0∧w.cell? ⟨a,1,none⟩=some v1∧w.cell? ⟨a,2,none⟩=some v2∧w.cell? ⟨a,3,none⟩=some v3∧w.cell? ⟨a,4,none⟩=some v4∧w.cell? ⟨a,5,none⟩=some v5 ∧
  w.cell? ⟨a,6,none⟩=some v6∧w.cell? ⟨a,7,none⟩=some v7∧w.cell? ⟨a,8,none⟩=some v8∧w.cell? ⟨a,9,none⟩=some v9∧w.cell? ⟨a,10,none⟩=some v10:=by
 refine⟨?_,?_,?_,?_,?_,?_,?_,?_,?_,?_,?_⟩<;>(rw[h.cell];rfl)
theorem Zjv {w:World} {a:Nat} {e:TypeId} {cs:List Value} (h:Row w a e cs) :
  w.frozen? ⟨a,0,none⟩=false∧w.frozen? ⟨a,1,none⟩=false∧w.frozen? ⟨a,2,none⟩=false∧w.frozen? ⟨a,3,none⟩=false∧w.frozen? ⟨a,4,none⟩=false∧w.frozen? ⟨a,5,none⟩=false ∧
  w.frozen? ⟨a,6,none⟩=false∧w.frozen? ⟨a,7,none⟩=false∧w.frozen? ⟨a,8,none⟩=false∧w.frozen? ⟨a,9,none⟩=false∧w.frozen? ⟨a,10,none⟩=false :=
 ⟨h.frozen 0,h.frozen 1,h.frozen 2,h.frozen 3,h.frozen 4,h.frozen 5,h.frozen 6,h.frozen 7,h.frozen 8,h.frozen 9,h.frozen 10⟩
def Zpz:Int:=1
def Zzi:Nat:=5
def Zc2 (rows:Nat) (xs:List Nat):Int:=Zc6 (Zaa rows xs).codec (Zaa rows xs).left
def Zao (rows:Nat) (xs:List Nat):Out_I:=Zbc (Zaa rows xs).codec (Zaa rows xs).wd (Zbd rows (Zaa rows xs).nulls) (Zaa rows xs).left (Zaa rows xs).short
def Zc1 (rows:Nat) (xs:List Nat):Bool:=Zgk Zpz rows (Zaa rows xs)&&((Zao rows xs).b&&(!(Zao rows xs).short&&decide ((Zao rows xs).left=[])))
set_option maxHeartbeats 16000000 in
theorem Z03 (w:World) (v:Value) (xs:List Nat) (rows:Nat) (hT:Tab w) (hv:Rd w v xs.length 1 (u8s xs)) (hb:∀ x∈xs,x<256) (hl:xs.length≤16777216) (hrr:rows≤65536) :
  Calls Tryz.prog 128 #[.iface 159 (.agg #[]),.int .i64 rows,v] w fun e w'=>Below w.heap.size w w' ∧
   ((Zc1 rows xs=false∧e=.returned (.tuple #[.agg Zay.toArray,.bool false])) ∨
   (Zc1 rows xs=true∧∃ nu lv ev nv bef,e=.returned (.tuple #[.agg (ck_I rows (Zaa rows xs).codec (Zaa rows xs).wd nu (Zbd rows (Zaa rows xs).nulls) lv ev (Zc2 rows xs) nv Zbj bef).toArray,.bool true]) ∧
     w'.ownsRow w.heap.size 73 1 nu (Zaa rows xs).nulls.length (u64s (Zaa rows xs).nulls)∧Rd w' lv (Zao rows xs).list.length 1 (lstI (Zao rows xs).list)∧Rd w' ev (Zao rows xs).ends.length 1 (nIs (Zao rows xs).ends) ∧
     Rd w' nv (Zao rows xs).lanes.length 1 (u64s (Zao rows xs).lanes)∧Rd w' bef (Zaa rows xs).nulls.length 1 (i64s (befL (Zaa rows xs).nulls)))):=by
 have HT:=hid hT;have Vl:=hid hT.lt;have HV:=hid hv;obtain⟨A0,c0,rfl,_,_,_⟩:=hv.form;clear hT hv;obtain⟨OK,hOK⟩:∃ OK,Zc1 rows xs=OK:=⟨_,rfl⟩;rw[hOK];have Q7:=hid hOK;unfold Zc1 Zgk Zao at Q7;obtain⟨H,hH⟩:∃ H,Zaa rows xs=H:=⟨_,rfl⟩;have HH:=hid hH;rw[hH]at Q7 ⊢;obtain⟨O,hO⟩:∃ O,Zao rows xs=O:=⟨_,rfl⟩;have HO:=hid hO;unfold Zao at HO;rw[hH]at HO;rw[HO.out]at Q7;rw[hO];obtain⟨bs,hbs⟩:∃ bs,Zc2 rows xs=bs:=⟨_,rfl⟩;have Yi:=hid hbs;unfold Zc2 at Yi;rw[hH]at Yi;rw[hbs];clear hOK hH hO hbs;obtain⟨cd,wd,nulls,x3,t3⟩:=H;simp only at *;have hcd:L.wordOf 8 (tk 1 xs)=cd:=by have:=HH.out;simp only[Zaa,Head.mk.injEq]at this;exact this.1
 have hwd:L.wordOf 8 (tk 1 (tkL 1 xs))=wd:=by have:=HH.out;simp only[Zaa,Head.mk.injEq]at this;exact this.2.1
 have hnu:numL 8 (tk (8*((rows+63)/64)) (tkL 1 (tkL 1 xs)))=nulls:=by have:=HH.out;simp only[Zaa,Head.mk.injEq]at this;exact this.2.2.1
 have hx3:tkL (8*((rows+63)/64)) (tkL 1 (tkL 1 xs))=x3:=by have:=HH.out;simp only[Zaa,Head.mk.injEq]at this;exact this.2.2.2.1
 have ht3:tkS (8*((rows+63)/64)) (tkL 1 (tkL 1 xs)) (tkS 1 (tkL 1 xs) (tkS 1 xs false))=t3:=by have:=HH.out;simp only[Zaa,Head.mk.injEq]at this;exact this.2.2.2.2
 obtain⟨x1,hx1⟩:∃ x1,tkL 1 xs=x1:=⟨_,rfl⟩;obtain⟨t1,ht1⟩:∃ t1,tkS 1 xs false=t1:=⟨_,rfl⟩;rw[hx1]at hwd hnu hx3 ht3;rw[ht1]at ht3;obtain⟨x2,hx2⟩:∃ x2,tkL 1 x1=x2:=⟨_,rfl⟩;obtain⟨t2,ht2⟩:∃ t2,tkS 1 x1 t1=t2:=⟨_,rfl⟩;rw[hx2]at hnu hx3 ht3;rw[ht2]at ht3;obtain⟨m,hm⟩:∃ m,(rows+63)/64=m:=⟨_,rfl⟩;rw[hm]at hnu hx3 ht3;have hm':((rows:Int)+63)/64=(m:Int):=by omega
 have hl1:x1.length≤16777216:=by rw[← hx1];exact Nat.le_trans (Zbn _ _) hl
 have hb1:∀ x∈x1,x<256:=by rw[← hx1];exact Zas hb
 have hl2:x2.length≤16777216:=by rw[← hx2];exact Nat.le_trans (Zbn _ _) hl1
 have hb2:∀ x∈x2,x<256:=by rw[← hx2];exact Zas hb1
 have hl3:x3.length≤16777216:=by rw[← hx3];exact Nat.le_trans (Zbn _ _) hl2
 have hb3:∀ x∈x3,x<256:=by rw[← hx3];exact Zas hb2
 have hnv:∀ x∈nulls,x<18446744073709551616:=by rw[← hnu];exact Zdu (Zc8 hb2) (by omega)
 have hnl:nulls.length≤2097152:=by
  rw[← hnu,Zal];unfold tk;split
  ·rw[List.length_take];omega
  ·simp
 have Je:=hid (fun(w0 w:World) (g:Nat) (h:Zap w0 w g xs false)=>Zgd w0 w g xs false h hb hl);rw[hcd,hx1,ht1]at Je;have Zj:=hid (fun(w0 w:World) (g:Nat) (h:Zap w0 w g x1 t1)=>Zgd w0 w g x1 t1 h hb1 hl1);rw[hwd,hx2,ht2]at Zj;have HU:=hid (fun(w0 w:World) (g:Nat) (h:Zap w0 w g x2 t2) (hg:g<w.heap.size)=>Zhh w0 w g x2 t2 m h hg hb2 hl2 (by omega));rw[hnu,hx3,ht3]at HU;have ZZ:=hid (fun(w:World) (v:Value) (h:Rd w v nulls.length 1 (u64s nulls))=>Zk7 v nulls rows rows w h hnv (by unfold maxLen;omega));obtain⟨rk,hrk⟩:∃ rk,Zeg rows rows nulls=rk:=⟨_,rfl⟩;rw[hrk]at ZZ;have Jf:=hid hrk;obtain⟨k,hk⟩:∃ k,Zbd rows nulls=k:=⟨_,rfl⟩;rw[hk]at HO ⊢;have HK:=hid hk;clear hcd hwd hnu hx3 ht3 hx1 ht1 hx2 ht2 hm hrk HH hk;go_enter Tryz.func128,Tryz.ntmps128;go_wp2_with fail
 have hbA:Below w.heap.size w (w.alloc (.cells Zay.toArray 207)):=(Zab w).alloc (Nat.le_refl _) _;have hrA:Row (w.alloc (.cells Zay.toArray 207)) w.heap.size 207 Zay:=by unfold Row;rw[heap_alloc_new]
 have hsA:(w.alloc (.cells Zay.toArray 207)).heap.size=w.heap.size+1:=by simp
 change Calls _ _ _ (w.alloc (.cells Zay.toArray 207)) _
 generalize w.alloc (.cells Zay.toArray 207)=w1 at *;have ZN:=hid (HV.out.mono hbA);refine(Zew w1 _ xs ZN.out).mono ?_;rintro e w2 ⟨rfl,hat,hb2,hsz2⟩;have QX:=hid hat;have YS:=hid hbA;have QK:=hid hrA;have Qc:=hid hb2;clear hat hbA hrA hb2;go_wp2_with fail
 have hbC:Below w2.heap.size w2 (w2.alloc (.cells (ck_I rows 0 0 nilS 0 nilS nilS 0 nilS Zbj nilS).toArray 207)):=(Zab w2).alloc (Nat.le_refl _) _;have hrC:Row (w2.alloc (.cells (ck_I rows 0 0 nilS 0 nilS nilS 0 nilS Zbj nilS).toArray 207)) w2.heap.size 207 (ck_I rows 0 0 nilS 0 nilS nilS 0 nilS Zbj nilS):=by unfold Row;rw[heap_alloc_new]
 change Calls _ _ _ (w2.alloc (.cells (ck_I rows 0 0 nilS 0 nilS nilS 0 nilS Zbj nilS).toArray 207)) _
 generalize w2.alloc (.cells (ck_I rows 0 0 nilS 0 nilS nilS 0 nilS Zbj nilS).toArray 207)=w3 at *;have J2:Hid (St_I w w1 w3 w.heap.size (w.heap.size+1) (w.heap.size+1+1) (ck_I rows 0 0 nilS 0 nilS nilS 0 nilS Zbj nilS) xs false):=by
  refine hid ⟨?_,(QK.out.mono Qc.out).mono hbC,?_,YS.out.trans ((Zad Qc.out hbC).mono (by omega)),by omega,by omega,by omega,by omega,by omega,by omega,by omega⟩
  ·have:w2.heap.size=w.heap.size+1+1:=by omega
   rw[this]at hrC;exact hrC
  ·have h1:=QX.out.mono hbC;rw[hsA]at h1;exact h1
 have HT1:=hid (HT.out.mono YS.out Vl.out);clear hbC hrC QX YS QK Qc ZN HV HT;obtain⟨g,hg⟩:∃ g,w.heap.size+1+1=g:=⟨_,rfl⟩;rw[hg]at J2 ⊢;obtain⟨gr,hgr⟩:∃ gr,w.heap.size+1=gr:=⟨_,rfl⟩;rw[hgr]at J2 ⊢;obtain⟨a,ha⟩:∃ a,w.heap.size=a:=⟨_,rfl⟩;have HA:=hid ha;have Jg:Hid (St_I w w1 w3 a gr g (ck_I rows 0 0 nilS 0 nilS nilS 0 nilS Zbj nilS) xs false):=hid (by rw[← HA.out];exact J2.out);rw[ha];clear J2 hg hgr ha hsz2 hsA;refine(Je.out w1 w3 gr Jg.out.rdr).mono ?_;rintro e w4 ⟨rfl,hr4,hc4⟩;have Z6:=hid (Jg.out.step hc4 hr4);have e1:w4.cell? ⟨g,0+1,none⟩=some (.int .i64 0):=by rw[Z6.out.rowc.cell];rfl
 have f1:=Z6.out.rowc.frozen (0+1);clear hr4 hc4 Jg;have Jd:=hid (Z6.out.store 1 (.int .i64 cd));go_wp2_with fail
 clear e1 f1 Z6;generalize w4.setCell ⟨g,1,none⟩ (.int .i64 cd)=w5 at *;refine(Zj.out w1 w5 gr Jd.out.rdr).mono ?_;rintro e w6 ⟨rfl,hr6,hc6⟩;have Vs:=hid (Jd.out.step hc6 hr6);have e1:w6.cell? ⟨g,0+2,none⟩=some (.int .i64 0):=by rw[Vs.out.rowc.cell];rfl
 have f1:=Vs.out.rowc.frozen (0+2);clear hr6 hc6 Jd;have Zv:=hid (Vs.out.store 2 (.int .i64 wd));go_wp2_with fail
 clear e1 f1 Vs;generalize w6.setCell ⟨g,2,none⟩ (.int .i64 wd)=w7 at *;have hgr7:=Zv.out.rdr.lt;have hg7:=Zv.out.rowc.lt;have ha7:=Zv.out.rowa.lt;refine(HU.out w1 w7 gr Zv.out.rdr hgr7).mono ?_;rintro e w8 ⟨p,hp,rfl,hrow8,hr8,hc8⟩;have Vt:=hid (Zv.out.step hc8 hr8);have e1:w8.cell? ⟨g,0+3,none⟩=some nilS:=by rw[Vt.out.rowc.cell];rfl
 have f1:=Vt.out.rowc.frozen (0+3);have hpg:p≠g:=by omega
 have hpgr:p≠gr:=by omega
 have hpW:w.heap.size≤p:=by have:=Zv.out.ha;omega
 have hpa:p≠a:=by omega
 have Zb:=hid (((Chg.refl g g w8).setCell g 3 (.slice (some ⟨p,0,none⟩) nulls.length nulls.length) (.inl rfl)).row hrow8 hpg hpg);clear hrow8 hr8 hc8 Zv hp hg7 ha7 hgr7;have Vu:Hid (St_I w w1 (w8.setCell ⟨g,3,none⟩ (.slice (some ⟨p,0,none⟩) nulls.length nulls.length)) a gr g (ck_I rows cd wd (.slice (some ⟨p,0,none⟩) nulls.length nulls.length) 0 nilS nilS 0 nilS Zbj nilS) x3 t3):=hid (Vt.out.store 3 (.slice (some ⟨p,0,none⟩) nulls.length nulls.length));go_upto_region 6 with fail
 clear e1 f1 Vt HU Je Zj;generalize w8.setCell ⟨g,3,none⟩ (.slice (some ⟨p,0,none⟩) nulls.length nulls.length)=w9 at *;have e3:w9.cell? ⟨g,0+3,none⟩=some (.slice (some ⟨p,0,none⟩) nulls.length nulls.length):=by rw[Vu.out.rowc.cell];rfl
 go_wp2_with fail
 refine(ZZ.out w9 _ (Zb.out.rd' (n:=nulls.length) (by simp[u64s]) (by unfold maxLen;omega))).mono ?_;rintro e wA ⟨rfl,nA,rfl⟩;have Ut:=hid (Vu.out.mono (Zag (Zab w9) nA));have QK:=hid (Zb.out.drewN nA);go_upto_region 7 with fail
 clear e3 Vu Zb ZZ;generalize w9.drewN nA=wA at *;have hAC:wA.cell? ⟨g,1,none⟩=some (.int .i64 cd):=by rw[Ut.out.rowc.cell];rfl
 cases hok:Za8 1 rows nulls with
 | false =>
  obtain rfl:rk = -1:=by rw[← Jf.out,Zeg,if_neg (by rw[hok];simp)]
  obtain rfl:OK=false:=by rw[← Q7.out,hok];rfl
  go_quiet (fail)
  have J6:=hid (Ut.out.mono (Zag (Zab wA) nq));generalize wA.drewN nq=wB at *;obtain⟨z0,z1,z2,z3,z4,z5,z6,z7,z8,z9,z10⟩:=Zea J6.out.rowa;obtain⟨f0,f1,f2,f3,f4,f5,f6,f7,f8,f9,f10⟩:=Zjv J6.out.rowa;go_wp2_with fail
  clear z0 z1 z2 z3 z4 z5 z6 z7 z8 z9 z10 f0 f1 f2 f3 f4 f5 f6 f7 f8 f9 f10;change bodyPost _ _ _ _ _ (setL wB a 0 Zay)
  have Y4:=hid (Zcx J6.out.rowa Zay rfl);have YD:=hid (Zcg a J6.out.ha Zay wB 0 J6.out.bel);generalize setL wB a 0 Zay=wF at *;obtain⟨z0,z1,z2,z3,z4,z5,z6,z7,z8,z9,z10⟩:=Zea Y4.out;refine bodyPost_ret (v:=.tuple #[.agg Zay.toArray,.bool false]) ?_ rfl ⟨YD.out,by first | exact .inl ⟨rfl,rfl⟩ | rfl⟩;simp[results,Tryz.results128,go_sem,z0,z1,z2,z3,z4,z5,z6,z7,z8,z9,z10];rfl
 | true =>
  have hrn:rk=((Zbe nulls rows:Nat):Int):=by rw[← Jf.out,Zeg,if_pos ⟨hok,by omega,by omega⟩];simp
  have hnr:Zbe nulls rows≤rows:=by unfold Zbe;have:=List.length_filter_le (Za0 nulls) (List.range rows);rwa [List.length_range]at this
  have hct:k=rows-Zbe nulls rows:=HK.out.symm;obtain⟨n,hn⟩:∃ n,Zbe nulls rows=n:=⟨_,rfl⟩;rw[hn]at hrn hnr hct;subst hrn;have hok2:=Q7.out;rw[hok,Bool.true_and]at hok2;have Jh:=hid hok2;have hneg:¬ ((n:Int)<0):=by omega
  have hkc:(rows:Int)-(n:Int)=(k:Int):=by omega
  have hkk:k≤65536:=by omega
  have hmn:=Zju;have hnl2:nulls.length≤65536:=by rw[((Zbl (wd:=1) (n:=rows) nulls (by decide) hrr).1 hok).1];exact Nat.le_trans (L.nWords_le (by omega)) hrr
  have hgA:g<wA.heap.size:=Ut.out.rowc.lt;clear hok2 hok Jf hn hct;generalize hic:Zbi Zpz cd=ic at *;have Vv:=hid (fun w2:World=>Zlp Zpz cd w2);rw[hic]at Vv;have Uu:=hid hic;clear hic;unfold Zpz at Vv;go_region_held3 (fun w'=>w'.cell? ⟨g,1,none⟩=some (.int .i64 cd)) (go_keep)
   (first
    | (go_at_call 319;refine(Zht _).mono ?_;rintro e wN ⟨rfl,hbN⟩;have QJ:=hid (Ut.out.mono ((Zag (Zab wA) 1).trans hbN));have Q1:=hid (QK.out.mono ((Zag (Zab wA) 1).trans hbN));have kN:=(hbN.cell (p:=⟨g,1,none⟩) hgA).trans hAC;clear hbN)
    | (go_at_call 103;refine(Vv.out _).mono ?_;rintro e wM ⟨rfl,hw⟩;replace hw:=hw.symm;subst hw))
  clear hAC Ut QK hmn Vv hneg;cases ic with
  | false =>
   obtain rfl:OK=false:=by rw[← Jh.out];rfl
   obtain⟨z0,z1,z2,z3,z4,z5,z6,z7,z8,z9,z10⟩:=Zea QJ.out.rowa;obtain⟨f0,f1,f2,f3,f4,f5,f6,f7,f8,f9,f10⟩:=Zjv QJ.out.rowa;go_wp2_with fail
   clear z0 z1 z2 z3 z4 z5 z6 z7 z8 z9 z10 f0 f1 f2 f3 f4 f5 f6 f7 f8 f9 f10;change bodyPost _ _ _ _ _ (setL wN a 0 Zay)
   have Y4:=hid (Zcx QJ.out.rowa Zay rfl);have YD:=hid (Zcg a QJ.out.ha Zay wN 0 QJ.out.bel);generalize setL wN a 0 Zay=wF at *;obtain⟨z0,z1,z2,z3,z4,z5,z6,z7,z8,z9,z10⟩:=Zea Y4.out;refine bodyPost_ret (v:=.tuple #[.agg Zay.toArray,.bool false]) ?_ rfl ⟨YD.out,by first | exact .inl ⟨rfl,rfl⟩ | rfl⟩;simp[results,Tryz.results128,go_sem,z0,z1,z2,z3,z4,z5,z6,z7,z8,z9,z10];rfl
  | true =>
   have hok3:=Jh.out;rw[Bool.true_and]at hok3;have Zk:=hid hok3;clear hok3 Jh;have hcdk:1≤cd∧cd≤Zzi:=by
    have h:=Uu.out;unfold Zbi Zpz Zzi at *
    split at h
    ·omega
    ·simp only[decide_eq_true_eq]at h;omega
   have e4:wN.cell? ⟨g,0+4,none⟩=some (.int .i64 0):=by rw[QJ.out.rowc.cell];rfl
   have f4:=QJ.out.rowc.frozen (0+4);have Ji:=hid (QJ.out.store 4 (.int .i64 k));have Xm:=hid (((Chg.refl g g wN).setCell g 4 (.int .i64 k) (.inl rfl)).row Q1.out hpg hpg);clear QJ Q1 kN Uu;go_upto_region 10 with fail
   clear e4 f4;generalize wN.setCell ⟨g,4,none⟩ (.int .i64 k)=wP at *;have e3:wP.cell? ⟨g,0+3,none⟩=some (.slice (some ⟨p,0,none⟩) nulls.length nulls.length):=by rw[Ji.out.rowc.cell];rfl
   go_wp2_with fail
   refine(Zg7 _ nulls wP (Xm.out.rd' (n:=nulls.length) (by simp[u64s]) (by unfold maxLen;omega)) hnv hnl2).mono ?_;rintro e wQ ⟨rfl,hrowB,hbQ⟩;have hq1:g<wP.heap.size:=Ji.out.rowc.lt;have hq2:gr<wP.heap.size:=Ji.out.rdr.lt;have hq3:a<wP.heap.size:=Ji.out.rowa.lt;have hq4:w.heap.size≤wP.heap.size:=Ji.out.bel.size;have ZO:=hid (Ji.out.mono hbQ);have JW:=hid (Xm.out.mono hbQ);have Y5:=hid hrowB;obtain⟨q,hq⟩:∃ q,wP.heap.size=q:=⟨_,rfl⟩;rw[hq]at Y5 hq1 hq2 hq3 hq4 ⊢;have hqg:q≠g:=by omega
   have hqr:q≠gr:=by omega
   have hqa:q≠a:=by omega
   have e10:wQ.cell? ⟨g,0+10,none⟩=some nilS:=by rw[ZO.out.rowc.cell];rfl
   have f10:=ZO.out.rowc.frozen (0+10);have Q8:Hid (St_I w w1 (wQ.setCell ⟨g,10,none⟩ (.slice (some ⟨q,0,none⟩) nulls.length nulls.length)) a gr g (ck_I rows cd wd (.slice (some ⟨p,0,none⟩) nulls.length nulls.length) k nilS nilS 0 nilS Zbj (.slice (some ⟨q,0,none⟩) nulls.length nulls.length)) x3 t3):=hid (ZO.out.store 10 (.slice (some ⟨q,0,none⟩) nulls.length nulls.length));have Qs:=hid (((Chg.refl g g wQ).setCell g 10 (.slice (some ⟨q,0,none⟩) nulls.length nulls.length) (.inl rfl)).row JW.out hpg hpg);have Zw:=hid (((Chg.refl g g wQ).setCell g 10 (.slice (some ⟨q,0,none⟩) nulls.length nulls.length) (.inl rfl)).row Y5.out hqg hqg);clear hrowB hbQ Ji Xm ZO JW Y5 hq e3;go_upto_region 11 with fail
   clear e10 f10;generalize wQ.setCell ⟨g,10,none⟩ (.slice (some ⟨q,0,none⟩) nulls.length nulls.length)=wR at *;have Jj:=hid (Zoe w1 wR g gr x3 t3 rows wd cd k _ _ HT1.out Q8.out.rowc Q8.out.rdr Q8.out.n1 Q8.out.h0 Q8.out.rdr.lt hb3 hl3 hkk hcdk);rw[HO.out]at Jj;have hr1:a<wR.heap.size:=Q8.out.rowa.lt;have hr2:g<wR.heap.size:=Q8.out.rowc.lt;go_wp2_with fail
   refine Jj.out.mono ?_;rintro e wS ⟨rfl,hOA⟩;obtain⟨⟨lv,ev,nv,hck,hol,hoe,hon⟩,hrS,hcS⟩:=hOA;rw[Yi.out]at hck;have Qw:=hid (Q8.out.both hcS hck hrS);have Uv:=hid (hcS.row Qs.out hpg hpgr);have Xn:=hid (hcS.row Zw.out hqg hqr);have HOL:=hid hol;have JH:=hid hoe;have HON:=hid hon;have hOl:O.left.length≤16777216:=by rw[← HO.out];exact Nat.le_trans (Zn3 cd wd k x3 t3) hl3
   clear hck hol hoe hon hrS hcS Q8 Qs Zw Jj HO;obtain⟨ob,ol,os,oli,oen,ola⟩:=O;simp only at *;cases ob with
   | false =>
    obtain rfl:OK=false:=by rw[← Zk.out];rfl
    obtain⟨z0,z1,z2,z3,z4,z5,z6,z7,z8,z9,z10⟩:=Zea Qw.out.rowa;obtain⟨f0,f1,f2,f3,f4,f5,f6,f7,f8,f9,f10⟩:=Zjv Qw.out.rowa;go_wp2_with fail
    clear z0 z1 z2 z3 z4 z5 z6 z7 z8 z9 z10 f0 f1 f2 f3 f4 f5 f6 f7 f8 f9 f10;change bodyPost _ _ _ _ _ (setL wS a 0 Zay)
    have Y4:=hid (Zcx Qw.out.rowa Zay rfl);have YD:=hid (Zcg a Qw.out.ha Zay wS 0 Qw.out.bel);generalize setL wS a 0 Zay=wF at *;obtain⟨z0,z1,z2,z3,z4,z5,z6,z7,z8,z9,z10⟩:=Zea Y4.out;refine bodyPost_ret (v:=.tuple #[.agg Zay.toArray,.bool false]) ?_ rfl ⟨YD.out,by first | exact .inl ⟨rfl,rfl⟩ | rfl⟩;simp[results,Tryz.results128,go_sem,z0,z1,z2,z3,z4,z5,z6,z7,z8,z9,z10];rfl
   | true =>
    cases os with
    | true =>
     obtain rfl:OK=false:=by rw[← Zk.out];rfl
     obtain⟨z0,z1,z2,z3,z4,z5,z6,z7,z8,z9,z10⟩:=Zea Qw.out.rowa;obtain⟨f0,f1,f2,f3,f4,f5,f6,f7,f8,f9,f10⟩:=Zjv Qw.out.rowa;go_wp2_with (go_at_call 157;refine(Zd3 w1 _ gr _ true Qw.out.rdr).mono ?_;rintro e wT ⟨rfl,hw⟩;replace hw:=hw.symm;subst hw)
     clear z0 z1 z2 z3 z4 z5 z6 z7 z8 z9 z10 f0 f1 f2 f3 f4 f5 f6 f7 f8 f9 f10;change bodyPost _ _ _ _ _ (setL wS a 0 Zay)
     have Y4:=hid (Zcx Qw.out.rowa Zay rfl);have YD:=hid (Zcg a Qw.out.ha Zay wS 0 Qw.out.bel);generalize setL wS a 0 Zay=wF at *;obtain⟨z0,z1,z2,z3,z4,z5,z6,z7,z8,z9,z10⟩:=Zea Y4.out;refine bodyPost_ret (v:=.tuple #[.agg Zay.toArray,.bool false]) ?_ rfl ⟨YD.out,by first | exact .inl ⟨rfl,rfl⟩ | rfl⟩;simp[results,Tryz.results128,go_sem,z0,z1,z2,z3,z4,z5,z6,z7,z8,z9,z10];rfl
    | false =>
     by_cases hle:ol=[]
     case neg =>
      obtain rfl:OK=false:=by rw[← Zk.out];simp[hle]
      have hlp:0<ol.length:=List.length_pos_iff.2 hle;have hgt:(ol.length:Int) > 0:=by omega
      clear hle;obtain⟨z0,z1,z2,z3,z4,z5,z6,z7,z8,z9,z10⟩:=Zea Qw.out.rowa;obtain⟨f0,f1,f2,f3,f4,f5,f6,f7,f8,f9,f10⟩:=Zjv Qw.out.rowa;go_wp2_with (first | (go_at_call 157;refine(Zd3 w1 _ gr _ false Qw.out.rdr).mono ?_;rintro e wT ⟨rfl,hw⟩;replace hw:=hw.symm;subst hw) | (go_at_call 158;refine(Zhc w1 _ gr ol false Qw.out.rdr hOl).mono ?_;rintro e wT ⟨rfl,hw⟩;replace hw:=hw.symm;subst hw))
      clear z0 z1 z2 z3 z4 z5 z6 z7 z8 z9 z10 f0 f1 f2 f3 f4 f5 f6 f7 f8 f9 f10;change bodyPost _ _ _ _ _ (setL wS a 0 Zay)
      have Y4:=hid (Zcx Qw.out.rowa Zay rfl);have YD:=hid (Zcg a Qw.out.ha Zay wS 0 Qw.out.bel);generalize setL wS a 0 Zay=wF at *;obtain⟨z0,z1,z2,z3,z4,z5,z6,z7,z8,z9,z10⟩:=Zea Y4.out;refine bodyPost_ret (v:=.tuple #[.agg Zay.toArray,.bool false]) ?_ rfl ⟨YD.out,by first | exact .inl ⟨rfl,rfl⟩ | rfl⟩;simp[results,Tryz.results128,go_sem,z0,z1,z2,z3,z4,z5,z6,z7,z8,z9,z10];rfl
     case pos =>
      subst hle;obtain rfl:OK=true:=by rw[← Zk.out];rfl
      have hgt:¬ ((([]:List Nat).length:Int) > 0):=by simp
      obtain⟨z0,z1,z2,z3,z4,z5,z6,z7,z8,z9,z10⟩:=Zea Qw.out.rowa;obtain⟨f0,f1,f2,f3,f4,f5,f6,f7,f8,f9,f10⟩:=Zjv Qw.out.rowa;obtain⟨Al,cl,rfl,_,_,_⟩:=Zaj HOL.out;obtain⟨Ae,ce,rfl,_,_,_⟩:=Zaj JH.out;obtain⟨An,cn,rfl,_,_,_⟩:=Zaj HON.out;obtain⟨y0,y1,y2,y3,y4,y5,y6,y7,y8,y9,y10⟩:=Zea Qw.out.rowc;unfold i64 at y0 y1 y2 y4 y7;unfold Zbj at y9;go_wp2_with (first | (go_at_call 157;refine(Zd3 w1 _ gr _ false Qw.out.rdr).mono ?_;rintro e wT ⟨rfl,hw⟩;replace hw:=hw.symm;subst hw) | (go_at_call 158;refine(Zhc w1 _ gr [] false Qw.out.rdr hOl).mono ?_;rintro e wT ⟨rfl,hw⟩;replace hw:=hw.symm;subst hw))
      clear z0 z1 z2 z3 z4 z5 z6 z7 z8 z9 z10 f0 f1 f2 f3 f4 f5 f6 f7 f8 f9 f10 y0 y1 y2 y3 y4 y5 y6 y7 y8 y9 y10;change bodyPost _ _ _ _ _ (setL wS a 0 (ck_I rows cd wd (.slice (some ⟨p,0,none⟩) nulls.length nulls.length) k (.slice Al oli.length cl) (.slice Ae oen.length ce) bs (.slice An ola.length cn) Zbj (.slice (some ⟨q,0,none⟩) nulls.length nulls.length)))
      have Y4:=hid (Zcx Qw.out.rowa (ck_I rows cd wd (.slice (some ⟨p,0,none⟩) nulls.length nulls.length) k (.slice Al oli.length cl) (.slice Ae oen.length ce) bs (.slice An ola.length cn) Zbj (.slice (some ⟨q,0,none⟩) nulls.length nulls.length)) rfl);have YD:=hid (Zcg a Qw.out.ha (ck_I rows cd wd (.slice (some ⟨p,0,none⟩) nulls.length nulls.length) k (.slice Al oli.length cl) (.slice Ae oen.length ce) bs (.slice An ola.length cn) Zbj (.slice (some ⟨q,0,none⟩) nulls.length nulls.length)) wS 0 Qw.out.bel);have hcf:=Ztx a (ck_I rows cd wd (.slice (some ⟨p,0,none⟩) nulls.length nulls.length) k (.slice Al oli.length cl) (.slice Ae oen.length ce) bs (.slice An ola.length cn) Zbj (.slice (some ⟨q,0,none⟩) nulls.length nulls.length)) wS 0;have G1:=hid ((hcf.row Uv.out hpa hpa).owns (B:=w.heap.size) (n:=nulls.length) hpW (by simp[u64s]) (by unfold maxLen;omega));have G2:=hid ((hcf.row Xn.out hqa hqa).rd' (n:=nulls.length) (by simp[i64s,befL]) (by unfold maxLen;omega));have G3:=hid (Zba (Zb4 HOL.out hcf hr1 hr1));have G4:=hid (Zba (Zb4 JH.out hcf hr1 hr1));have G5:=hid (Zba (Zb4 HON.out hcf hr1 hr1));clear hcf;generalize setL wS a 0 (ck_I rows cd wd (.slice (some ⟨p,0,none⟩) nulls.length nulls.length) k (.slice Al oli.length cl) (.slice Ae oen.length ce) bs (.slice An ola.length cn) Zbj (.slice (some ⟨q,0,none⟩) nulls.length nulls.length))=wF at *;obtain⟨z0,z1,z2,z3,z4,z5,z6,z7,z8,z9,z10⟩:=Zea Y4.out;refine bodyPost_ret (v:=.tuple #[.agg (ck_I rows cd wd (.slice (some ⟨p,0,none⟩) nulls.length nulls.length) k (.slice Al oli.length cl) (.slice Ae oen.length ce) bs (.slice An ola.length cn) Zbj (.slice (some ⟨q,0,none⟩) nulls.length nulls.length)).toArray,.bool true]) ?_ rfl ⟨YD.out,?_⟩
      ·simp[results,Tryz.results128,go_sem,z0,z1,z2,z3,z4,z5,z6,z7,z8,z9,z10];rfl
      ·first | exact .inr ⟨rfl,_,_,_,_,_,rfl,G1.out,G3.out,G4.out,G5.out,G2.out⟩ | exact⟨_,_,_,_,_,rfl,G1.out,G3.out,G4.out,G5.out,G2.out⟩
def Zom (rows:Nat) (xs:List Nat) (j:Nat):Int:=vl_I (Zaa rows xs).codec (Zaa rows xs).wd (Zao rows xs).list (Zao rows xs).ends (Zc2 rows xs) (Zao rows xs).lanes j
def Zsl (rows:Nat) (xs:List Nat) (r:Nat):Bool:=Za0 (Zaa rows xs).nulls r
def Zr6 (rows:Nat) (xs:List Nat) (r:Nat):Int:=if Za0 (Zaa rows xs).nulls r=true then 0 else cB_I (Zom rows xs (r-Zbe (Zaa rows xs).nulls (r+1)))
def Zrm (rows:Nat) (xs:List Nat) (r:Nat):ByteArray:=if Za0 (Zaa rows xs).nulls r=true then ByteArray.empty else cC_I (Zom rows xs (r-Zbe (Zaa rows xs).nulls (r+1)))
structure Valid_I (rows:Nat) (xs:List Nat):Prop where
 nl:(Zaa rows xs).nulls.length=(rows+63)/64
 nv:∀ x∈(Zaa rows xs).nulls,x<18446744073709551616
 ll:(Zao rows xs).list.length≤16777216
 el:(Zao rows xs).ends.length≤16777216
 lv:∀ x∈(Zao rows xs).lanes,x<18446744073709551616
 ok:∀ j,j<Zbd rows (Zaa rows xs).nulls→Zox (Zaa rows xs).codec (Zaa rows xs).wd (Zao rows xs).list (Zao rows xs).ends (Zao rows xs).lanes j
theorem Zv9 {w:World} {rows:Nat} {xs:List Nat} {nu lv ev nv bef:Value} (h1:Rd w nu (Zaa rows xs).nulls.length 1 (u64s (Zaa rows xs).nulls)) (h2:Rd w lv (Zao rows xs).list.length 1 (lstI (Zao rows xs).list))
  (h3:Rd w ev (Zao rows xs).ends.length 1 (nIs (Zao rows xs).ends)) (h4:Rd w nv (Zao rows xs).lanes.length 1 (u64s (Zao rows xs).lanes)) (h5:Rd w bef (Zaa rows xs).nulls.length 1 (i64s (befL (Zaa rows xs).nulls))) :
  Ck_I (w.alloc (.cells (ck_I rows (Zaa rows xs).codec (Zaa rows xs).wd nu (Zbd rows (Zaa rows xs).nulls) lv ev (Zc2 rows xs) nv Zbj bef).toArray 207)) w.heap.size rows (Zaa rows xs).codec (Zaa rows xs).wd (Zaa rows xs).nulls
   (Zbd rows (Zaa rows xs).nulls) (Zao rows xs).list (Zao rows xs).ends (Zc2 rows xs) (Zao rows xs).lanes:=by
 have hb:Below w.heap.size w (w.alloc (.cells (ck_I rows (Zaa rows xs).codec (Zaa rows xs).wd nu (Zbd rows (Zaa rows xs).nulls) lv ev (Zc2 rows xs) nv Zbj bef).toArray 207)):=(Zab w).alloc (Nat.le_refl _) _;exact⟨⟨nu,lv,ev,nv,bef,by unfold Row;rw[heap_alloc_new];rfl,h1.mono hb,h2.mono hb,h3.mono hb,h4.mono hb,h5.mono hb⟩⟩
set_option maxHeartbeats 4000000 in
theorem Zr5 (w0 w:World) (g gr:Nat) (xs:List Nat) (s:Bool) (rows codec wd k:Int) (nulls list ends lanes kind bef:Value) (base op:Int) (lim:Nat)
  (hT:Tab w0) (hc:Row w g 198 (ck_S rows codec wd nulls k list ends base lanes kind bef)) (hr:Zap w0 w gr xs s) (hne:g≠gr) (hg0:w0.heap.size≤g) (hgs:gr<w.heap.size)
  (hv:∀ x∈xs,x<256) (hl:xs.length≤16777216) (hlim:lim<18446744073709551616) :
  Calls Tryz.prog 226 #[.pointer (some ⟨g,0,none⟩),.pointer (some ⟨gr,0,none⟩),.int .i64 op,.int .u64 lim] w fun e w' =>
   e=.returned (.bool (Zcj wd k op (Za6 xs) lim))∧∃ v,Row w' g 198 (ck_S rows codec wd nulls k list ends base v kind bef) ∧
    w'.ownsRow w.heap.size 73 1 v (Za6 xs).length (u64s (Za6 xs))∧Zap w0 w' gr (tkL (8*(xs.length/8)) xs) (tkS (8*(xs.length/8)) xs s)∧Chg g gr w w':=by
 obtain⟨ws,hws⟩:∃ ws,Za6 xs=ws:=⟨_,rfl⟩;have hwv:∀ x∈ws,x<18446744073709551616:=by rw[← hws];exact Zdu (Zc8 hv) (by omega)
 have hwl:ws.length≤2097152:=by rw[← hws,Zfb];omega
 obtain⟨c,hcc⟩:∃ c,xs.length/8=c:=⟨_,rfl⟩;obtain⟨xl,hxl⟩:∃ xl,tkL (8*c) xs=xl:=⟨_,rfl⟩;obtain⟨s1,hs1⟩:∃ s1,tkS (8*c) xs s=s1:=⟨_,rfl⟩;have hU:=Zhh w0 w gr xs s c hr hgs hv hl (by omega);have hwc:numL 8 (tk (8*c) xs)=ws:=by rw[← hws,← hcc];rfl
 rw[hwc,hxl,hs1]at hU;rw[hws,hcc,hxl,hs1];have HU:=hid hU;have Z3:=hid (Zhc w0 w gr xs s hr hl);have hce:(xs.length:Int)/8=(c:Int):=by omega
 have HC:=hid hc;have HR:=hid hr;have HT:=hid hT;have Vl:=hid hT.lt;have hgw:g<w.heap.size:=hc.lt;obtain⟨B,hB⟩:∃ B,w.heap.size=B:=⟨_,rfl⟩;have HB:=hid hB;rw[hB];obtain⟨wr,hwr⟩:∃ wr,cmpR wd k op ws lim=wr:=⟨_,rfl⟩;obtain⟨ok,hok⟩:∃ ok,Zho wd k op ws=ok:=⟨_,rfl⟩;have hwrl:wr.length≤maxLen:=by rw[← hwr];have:=Zua wd k op ws lim;unfold maxLen;omega
 have hwrv:∀ x∈wr,x<18446744073709551616:=by rw[← hwr];exact Zw7 wd k op ws lim
 have eB:Zcj wd k op ws lim=(ok&&(Zeg k k wr==0)):=by rw[Zcj,hwr,hok]
 rw[eB];have ZY:=hid (fun(w2:World) (v:Value) (h1:Tab w2) (h2:Rd w2 v ws.length 1 (u64s ws))=>Zlq v ws wd k op lim w2 h1 h2 hwv hlim (by unfold maxLen;omega));rw[hwr,hok]at ZY;obtain⟨rk,hrk⟩:∃ rk,Zeg k k wr=rk:=⟨_,rfl⟩;have YB:=hid (fun(w2:World) (v:Value) (h2:Rd w2 v wr.length 1 (u64s wr))=>Zk7 v wr k k w2 h2 hwrv hwrl);rw[hrk]at YB ⊢;clear hws hwc hxl hs1 hcc hU hc hr hT hB hwr hok eB hrk hv hwv;go_enter Tryz.func226,Tryz.ntmps226;go_upto_region 2 with (first
  | (go_at_call 158;refine Z3.out.mono ?_;rintro e w1 ⟨rfl,hw⟩;replace hw:=hw.symm;subst hw)
  | (go_at_call 123;refine HU.out.mono ?_;rintro e w1 ⟨p,hp,rfl,hrow,hat,hch⟩;have HP:=hid hp;have Q3:=hid hrow;have QX:=hid hat;have QQ:=hid hch;have Y2:=hid (hch.row HC.out hne hne);have c8:w1.cell? ⟨g,0+8,none⟩=some lanes:=(by rw[Y2.out.cell];rfl);have f8:=Y2.out.frozen (0+8);clear hp hrow hat hch))
 have Qp:Hid (Row (w1.setCell ⟨g,8,none⟩ (.slice (some ⟨p,0,none⟩) ws.length ws.length)) g 198 (ck_S rows codec wd nulls k list ends base (.slice (some ⟨p,0,none⟩) ws.length ws.length) kind bef)):=hid (Y2.out.set 8 _);have HS:=hid ((Chg.refl g gr w1).setCell g 8 (.slice (some ⟨p,0,none⟩) ws.length ws.length) (.inl rfl));have hpB:B≤p:=by have:=HP.out;have:=HB.out;omega
 have hpg:p≠g:=by have:=HB.out;omega
 have hpgr:p≠gr:=by have:=HB.out;omega
 have Qv:=hid (QX.out.chg ((Chg.refl g g w1).setCell g 8 (.slice (some ⟨p,0,none⟩) ws.length ws.length) (.inl rfl)) (Ne.symm hne) (Ne.symm hne) hg0 hg0);have QL:=hid (HS.out.row Q3.out hpg hpgr);have QC:=hid ((Chg.wide' (a:=g) QQ.out).trans HS.out);clear Y2 Q3 QX HS HC HR Z3 HU;generalize w1.setCell ⟨g,8,none⟩ (.slice (some ⟨p,0,none⟩) ws.length ws.length)=w2 at *;have hT2:Hid (Tab w2):=hid (HT.out.mono Qv.out.2.1 Vl.out);have Yh:=hid (QL.out.rd' (n:=ws.length) (by simp[u64s]) (by unfold maxLen;omega));have d8:w2.cell? ⟨g,0+8,none⟩=some (.slice (some ⟨p,0,none⟩) ws.length ws.length):=by rw[Qp.out.cell];rfl
 have d2:w2.cell? ⟨g,0+2,none⟩=some (.int .i64 wd):=by rw[Qp.out.cell];rfl
 have d4:w2.cell? ⟨g,0+4,none⟩=some (.int .i64 k):=by rw[Qp.out.cell];rfl
 have QN:=hid (fun nd:Nat=>ZY.out (w2.drewN nd) _ (hT2.out.mono (Zag (Zab w2) nd) hT2.out.lt) (Yh.out.mono (Zag (Zab w2) nd)));clear c8 f8 ZY;have d8':w2.cell? ⟨g,8,none⟩=some (.slice (some ⟨p,0,none⟩) ws.length ws.length):=by rw[Qp.out.cell];rfl
 have d2':w2.cell? ⟨g,2,none⟩=some (.int .i64 wd):=by rw[Qp.out.cell];rfl
 have d4':w2.cell? ⟨g,4,none⟩=some (.int .i64 k):=by rw[Qp.out.cell];rfl
 clear d8 d2 d4;have hgw2:g<w2.heap.size:=Qp.out.lt;go_cut [9,10]from 11 (fun s9 s10 wc=>s10=.bool ok∧Hid (Rd wc s9 wr.length 1 (u64s wr))∧Hid (Below w2.heap.size w2 wc))
 case first =>
  go_region_held3 (fun w'=>w'.cell? ⟨g,8,none⟩=some (.slice (some ⟨p,0,none⟩) ws.length ws.length)∧w'.cell? ⟨g,2,none⟩=some (.int .i64 wd)∧w'.cell? ⟨g,4,none⟩=some (.int .i64 k)) (go_keep)
   (first | (go_at_call 252;refine(QN.out 1).mono ?_;rintro e w3 ⟨r3,rfl,ho3,hb3⟩;have Y0:=hid ho3;have Qk:=hid hb3;obtain⟨A3,c3,rfl,hc3,_,_,_⟩:=Zaj ho3;have k8:=(hb3.cell (p:=⟨g,8,none⟩) hgw2).trans d8';have k2:=(hb3.cell (p:=⟨g,2,none⟩) hgw2).trans d2';have k4:=(hb3.cell (p:=⟨g,4,none⟩) hgw2).trans d4';clear ho3 hb3 hc3))
  all_goals (go_wp2_with fail;go_meet)
  all_goals exact⟨rfl,hid (Zba Y0.out),hid ((Zag (Zab w2) _).trans Qk.out)⟩
 case rest =>
  obtain⟨rfl,HW9,Ys⟩:=hcut;have Qo:Hid (Row wc g 198 (ck_S rows codec wd nulls k list ends base (.slice (some ⟨p,0,none⟩) ws.length ws.length) kind bef)):=hid (Qp.out.mono Ys.out);have e4:wc.cell? ⟨g,4,none⟩=some (.int .i64 k):=by rw[Qo.out.cell];rfl
  have ZZ:=hid (fun nd:Nat=>YB.out (wc.drewN nd) _ (HW9.out.mono (Zag (Zab wc) nd)));have Uj:=hid (QL.out.mono Ys.out);have Ja:=hid (Qv.out.mono Ys.out);have Y3:=hid (QC.out.then_below Ys.out QC.out.size);clear Qp QL Qv QC Ys d8' d2' d4' QN YB HW9 Yh hT2;cases ok
  case' false =>
   go_wp2_with fail
   go_quiet (fail)
  case' true =>
   go_wp2_with fail
   go_quiet (first | (go_at_call 154;refine Calls.quiet_of (ZZ.out _)))
  all_goals go_wp2_with fail
  all_goals go_ret
  all_goals exact⟨rfl,_,Qo.out.drewN nq,(Uj.out.drewN nq).owns hpB (by simp[u64s]) (by unfold maxLen;omega),Ja.out.mono (Zag (Zab wc) nq),Y3.out.drewN nq⟩
theorem Zg1:∀ w:World,(method 457 157 (.agg #[]) "colscan/chunk.readList").run Tryz.prog w=.ok (315,.agg #[]) w:=fun _=>by kernel_rfl
structure Out_S where
 b:Bool
 left:List Nat
 short:Bool
 list:List ByteArray
 ends:List Nat
 lanes:List Nat
structure OutAt_S (w0 w w':World) (B g gr:Nat) (rows codec wd k:Int) (nulls kind bef:Value) (base:Int) (o:Out_S):Prop where
 ck:∃ lv ev nv,Row w' g 198 (ck_S rows codec wd nulls k lv ev base nv kind bef)∧w'.ownsRow B 9 1 lv o.list.length (strs o.list) ∧
  w'.ownsRow B 3 1 ev o.ends.length (nIs o.ends)∧w'.ownsRow B 73 1 nv o.lanes.length (u64s o.lanes)
 rdr:Zap w0 w' gr o.left o.short
 chg:Chg g gr w w'
def Zbz:Value:=.iface 157 (.agg #[])
def Zbk (wd:Int) (k:Nat) (xs:List Nat) (s:Bool):Out_S :=
 { b:=(rdS k xs s).2.1&&decide (wd=0),left:=(rdS k xs s).2.2.1,short:=(rdS k xs s).2.2.2,list:=(rdS k xs s).1,ends:=[],lanes:=[] }
set_option maxHeartbeats 4000000 in
theorem Zso (w0 w:World) (g gr:Nat) (xs:List Nat) (s:Bool) (rows codec wd:Int) (k:Nat) (nulls bef:Value) (base:Int)
  (hc:Row w g 198 (ck_S rows codec wd nulls k nilS nilS base nilS Zbz bef)) (hr:Zap w0 w gr xs s) (hne:g≠gr) (hg0:w0.heap.size≤g) (hgs:gr<w.heap.size)
  (hv:∀ x∈xs,x<256) (hl:xs.length≤16777216) (hk:k≤65536) :
  Calls Tryz.prog 190 #[.pointer (some ⟨g,0,none⟩),.pointer (some ⟨gr,0,none⟩)] w fun e w' =>
   e=.returned (.bool (Zbk wd k xs s).b)∧OutAt_S w0 w w' w.heap.size g gr rows codec wd k nulls Zbz bef base (Zbk wd k xs s):=by
 have HC:=hid hc;have HR:=hid hr;have QW:=hid (fun nd:Nat=>Zgc w0 (w.drewN nd) gr xs s k (hr.mono (Zag (Zab w) nd)) hgs hv hl (by omega));have d9:w.cell? ⟨g,9,none⟩=some (.iface 157 (.agg #[])):=by rw[hc.cell];rfl
 have d4:w.cell? ⟨g,4,none⟩=some (.int .i64 k):=by rw[hc.cell];rfl
 have hgw:g<w.heap.size:=hc.lt;obtain⟨vals,b,xl,s1,hR⟩:∃ vals b xl s1,rdS k xs s=(vals,b,xl,s1):=⟨_,_,_,_,rfl⟩;have eO:Zbk wd k xs s={ b:=b&&decide (wd=0),left:=xl,short:=s1,list:=vals,ends:=[],lanes:=[] }:=by unfold Zbk;rw[hR]
 rw[eO];rw[hR]at QW;clear hc hr hv eO hR;obtain⟨B,hB⟩:∃ B,w.heap.size=B:=⟨_,rfl⟩;have HB:=hid hB;rw[hB];clear hB;have hm:=Zg1;go_enter Tryz.func190,Tryz.ntmps190;go_upto_region 1 with fail
 go_cut [5,6]from 7 (fun s5 s6 wc=>∃ A c,s5=.slice A vals.length c∧s6=.bool b∧Hid (wc.ownsRow B 9 1 (.slice A vals.length c) vals.length (strs vals))∧Hid (Zap w0 wc gr xl s1)∧Hid (Chg g gr w wc)∧Hid (Row wc g 198 (ck_S rows codec wd nulls k nilS nilS base nilS Zbz bef)))
 case first =>
  go_region_held3 (fun w'=>w'.cell? ⟨g,9,none⟩=some (.iface 157 (.agg #[]))∧w'.cell? ⟨g,4,none⟩=some (.int .i64 k)) (go_keep)
   (first | (go_at_call 315;refine(QW.out 1).mono ?_;rintro e w3 ⟨v3,rfl,ho3,ha3,hc3⟩;have k9:=(hc3.cell g 9 hgw hne hne).trans d9;have k4:=(hc3.cell g 4 hgw hne hne).trans d4;have Y0:=hid ho3;have Yt:=hid ha3;have QN:=hid (Chg.wide' (a:=g) hc3);have Qo:=hid (hc3.row (HC.out.drewN 1) hne hne);obtain⟨A3,c3,rfl,hcc3,_,_,_⟩:=Zaj ho3;clear ho3 ha3 hc3 hcc3))
  all_goals (go_wp2_with fail;go_meet)
  all_goals exact⟨_,_,rfl,rfl,hid (by rw[← HB.out];exact Y0.out),Yt,hid (((Chg.refl g gr w).drewN 1).trans QN.out),Qo⟩
 case rest =>
  obtain⟨A3,c3,rfl,rfl,Y0,Yt,QN,Qo⟩:=hcut;have e5:wc.cell? ⟨g,0+5,none⟩=some nilS:=by rw[Qo.out.cell];rfl
  have e2:wc.cell? ⟨g,0+2,none⟩=some (.int .i64 wd):=by rw[Qo.out.cell];rfl
  have f5:=Qo.out.frozen (0+5);have hFIN:∀ bb:Bool,OutAt_S w0 w (wc.setCell ⟨g,5,none⟩ (.slice A3 vals.length c3)) B g gr rows codec wd k nulls Zbz bef base { b:=bb,left:=xl,short:=s1,list:=vals,ends:=[],lanes:=[] }:=by
   intro bb;have hch:=(Chg.refl g g wc).setCell g 5 (.slice A3 vals.length c3) (.inl rfl);have hgB:g<B:=by have:=HB.out;omega
   exact⟨⟨_,_,_,Qo.out.set 5 _,Zb4 Y0.out hch hgB hgB,World.ownsRow_nil _ _ _ _,World.ownsRow_nil _ _ _ _⟩,Yt.out.chg hch (Ne.symm hne) (Ne.symm hne) hg0 hg0,QN.out.setCell g 5 _ (.inl rfl)⟩
  have Qy:=hid hFIN;clear hFIN HC HR QW d9 d4 hm;cases b
  case' false=>go_wp2
  case' true=>go_wp2
  all_goals go_ret
  all_goals exact⟨by by_cases h:wd=0<;>simp[h],Qy.out _⟩
end Go.Proofs.YtmcjknjlihgihaaGreatDoor
