/- A body that a look finds valid is valid. -/
import Derived.Laws.StructEq
import Derived.Test.YtmcjknjlihgihaaGreatDoorLawfreshlistsuptoM11
set_option linter.unusedVariables false
set_option linter.unusedSimpArgs false
set_option linter.unnecessarySimpa false
set_option maxRecDepth 100000
namespace Go.Proofs.YtmcjknjlihgihaaGreatDoor
open Go.RowKit
def Zaz:List Value:=[i64 0,i64 0,i64 0,nilS,i64 0,nilS,nilS,i64 0,nilS,.nilIface,nilS]
structure St_S (W w0 w:World) (a gr g:Nat) (cs:List Value) (xs:List Nat) (s:Bool):Prop where
 rowc:Row w g 198 cs
 rowa:Row w a 198 Zaz
 rdr:Zap w0 w gr xs s
 bel:Below W.heap.size W w
 ha:W.heap.size≤a
 hr:W.heap.size≤gr
 hg:W.heap.size≤g
 h0:w0.heap.size≤g
 n1:g≠gr
 n2:a≠g
 n3:a≠gr
theorem St_S.store {W w0 w:World} {a gr g:Nat} {cs:List Value} {xs:List Nat} {s:Bool} (h:St_S W w0 w a gr g cs xs s) (f:Nat) (v:Value):St_S W w0 (w.setCell ⟨g,f,none⟩ v) a gr g (cs.set f v) xs s:=by
 have hch:=(Chg.refl g g w).setCell g f v (.inl rfl);exact⟨h.rowc.set f v,hch.row h.rowa h.n2 h.n2,h.rdr.chg hch (Ne.symm h.n1) (Ne.symm h.n1) h.h0 h.h0,Zac h.bel _ _ _ h.hg,h.ha,h.hr,h.hg,h.h0,h.n1,h.n2,h.n3⟩
theorem St_S.step {W w0 w w':World} {a gr g:Nat} {cs:List Value} {xs ys:List Nat} {s t:Bool} (h:St_S W w0 w a gr g cs xs s) (hc:Chg gr gr w w') (hr:Zap w0 w' gr ys t):St_S W w0 w' a gr g cs ys t :=
 ⟨hc.row h.rowc h.n1 h.n1,hc.row h.rowa h.n3 h.n3,hr,hc.below h.bel h.bel.size h.hr h.hr,h.ha,h.hr,h.hg,h.h0,h.n1,h.n2,h.n3⟩
theorem St_S.mono {W w0 w w':World} {a gr g:Nat} {cs:List Value} {xs:List Nat} {s:Bool} (h:St_S W w0 w a gr g cs xs s) (hb:Below w.heap.size w w'):St_S W w0 w' a gr g cs xs s :=
 ⟨h.rowc.mono hb,h.rowa.mono hb,h.rdr.mono hb,h.bel.trans (hb.mono h.bel.size),h.ha,h.hr,h.hg,h.h0,h.n1,h.n2,h.n3⟩
theorem St_S.both {W w0 w w':World} {a gr g:Nat} {cs ds:List Value} {xs ys:List Nat} {s t:Bool} (h:St_S W w0 w a gr g cs xs s) (hc:Chg g gr w w') (hd:Row w' g 198 ds) (hr:Zap w0 w' gr ys t):St_S W w0 w' a gr g ds ys t :=
 ⟨hd,hc.row h.rowa h.n2 h.n3,hr,hc.below h.bel h.bel.size h.hg h.hr,h.ha,h.hr,h.hg,h.h0,h.n1,h.n2,h.n3⟩
theorem Znv (cd:Nat) (wd:Int) (k:Nat) (xs:List Nat) (s:Bool):(Zbq cd wd k xs s).left.length≤xs.length:=by
 have h1:∀ n ys,(tkL n ys).length≤ys.length:=Zbn;have hP:(Zbk wd k xs s).left.length≤xs.length:=(Zep k xs s).1;have hD:(Zbm wd k xs s).left.length≤xs.length:=by
  unfold Zbm
  split
  ·exact h1 _ _
  ·have hr:=(Zep (L.wordOf 8 (tk 4 xs)) (tkL 4 xs) (tkS 4 xs s)).1;generalize rdS (L.wordOf 8 (tk 4 xs)) (tkL 4 xs) (tkS 4 xs s)=R at *;obtain⟨vals,ok,xl,s1⟩:=R;simp only at *
   split
   ·exact Nat.le_trans (h1 _ _) (Nat.le_trans hr (h1 _ _))
   ·exact Nat.le_trans hr (h1 _ _)
 have hR:(Zbh wd k xs s).left.length≤xs.length:=by
  unfold Zbh
  split
  ·exact Nat.le_trans (h1 _ _) (h1 _ _)
  ·have hr:=(Zep (L.wordOf 8 (tk 4 xs)) (tkL (4*L.wordOf 8 (tk 4 xs)) (tkL 4 xs)) (tkS (4*L.wordOf 8 (tk 4 xs)) (tkL 4 xs) (tkS 4 xs s))).1;generalize rdS (L.wordOf 8 (tk 4 xs)) (tkL (4*L.wordOf 8 (tk 4 xs)) (tkL 4 xs)) (tkS (4*L.wordOf 8 (tk 4 xs)) (tkL 4 xs) (tkS 4 xs s))=R at *;obtain⟨vals,ok,xl,s1⟩:=R;exact Nat.le_trans hr (Nat.le_trans (h1 _ _) (h1 _ _))
 unfold Zbq
 repeat' split
 all_goals first | exact hP | exact hD | exact hR | exact h1 _ _ | exact Nat.le_trans (h1 _ _) (h1 _ _)
theorem Zee {w:World} {a:Nat} {e:TypeId} {v0 v1 v2 v3 v4 v5 v6 v7 v8 v9 v10:Value} (h:Row w a e [v0,v1,v2,v3,v4,v5,v6,v7,v8,v9,v10]) :
  w.cell? ⟨a,0,none⟩=some v0∧w.cell? ⟨a,1,none⟩=some v1∧w.cell? ⟨a,2,none⟩=some v2∧w.cell? ⟨a,3,none⟩=some v3∧w.cell? ⟨a,4,none⟩=some v4∧w.cell? ⟨a,5,none⟩=some v5 ∧
  w.cell? ⟨a,6,none⟩=some v6∧w.cell? ⟨a,7,none⟩=some v7∧w.cell? ⟨a,8,none⟩=some v8∧w.cell? ⟨a,9,none⟩=some v9∧w.cell? ⟨a,10,none⟩=some v10:=by
 refine⟨?_,?_,?_,?_,?_,?_,?_,?_,?_,?_,?_⟩<;>(rw[h.cell];rfl)
theorem Zj9 {w:World} {a:Nat} {e:TypeId} {cs:List Value} (h:Row w a e cs) :
  w.frozen? ⟨a,0,none⟩=false∧w.frozen? ⟨a,1,none⟩=false∧w.frozen? ⟨a,2,none⟩=false∧w.frozen? ⟨a,3,none⟩=false∧w.frozen? ⟨a,4,none⟩=false∧w.frozen? ⟨a,5,none⟩=false ∧
  w.frozen? ⟨a,6,none⟩=false∧w.frozen? ⟨a,7,none⟩=false∧w.frozen? ⟨a,8,none⟩=false∧w.frozen? ⟨a,9,none⟩=false∧w.frozen? ⟨a,10,none⟩=false :=
 ⟨h.frozen 0,h.frozen 1,h.frozen 2,h.frozen 3,h.frozen 4,h.frozen 5,h.frozen 6,h.frozen 7,h.frozen 8,h.frozen 9,h.frozen 10⟩
def Zko:Int:=2
def Zzj:Nat:=3
def Zcv (rows:Nat) (xs:List Nat):Int:=0
def Zan (rows:Nat) (xs:List Nat):Out_S:=Zbq (Zaa rows xs).codec (Zaa rows xs).wd (Zbd rows (Zaa rows xs).nulls) (Zaa rows xs).left (Zaa rows xs).short
def Zc3 (rows:Nat) (xs:List Nat):Bool:=Zgk Zko rows (Zaa rows xs)&&((Zan rows xs).b&&(!(Zan rows xs).short&&decide ((Zan rows xs).left=[])))
set_option maxHeartbeats 16000000 in
theorem Z1e (w:World) (v:Value) (xs:List Nat) (rows:Nat) (hT:Tab w) (hv:Rd w v xs.length 1 (u8s xs)) (hb:∀ x∈xs,x<256) (hl:xs.length≤16777216) (hrr:rows≤65536) :
  Calls Tryz.prog 126 #[.iface 157 (.agg #[]),.int .i64 rows,v] w fun e w'=>Below w.heap.size w w' ∧
   ((Zc3 rows xs=false∧e=.returned (.tuple #[.agg Zaz.toArray,.bool false])) ∨
   (Zc3 rows xs=true∧∃ nu lv ev nv bef,e=.returned (.tuple #[.agg (ck_S rows (Zaa rows xs).codec (Zaa rows xs).wd nu (Zbd rows (Zaa rows xs).nulls) lv ev (Zcv rows xs) nv Zbz bef).toArray,.bool true]) ∧
     w'.ownsRow w.heap.size 73 1 nu (Zaa rows xs).nulls.length (u64s (Zaa rows xs).nulls)∧Rd w' lv (Zan rows xs).list.length 1 (lstS (Zan rows xs).list)∧Rd w' ev (Zan rows xs).ends.length 1 (nIs (Zan rows xs).ends) ∧
     Rd w' nv (Zan rows xs).lanes.length 1 (u64s (Zan rows xs).lanes)∧Rd w' bef (Zaa rows xs).nulls.length 1 (i64s (befL (Zaa rows xs).nulls)))):=by
 have HT:=hid hT;have Vl:=hid hT.lt;have HV:=hid hv;obtain⟨A0,c0,rfl,_,_,_⟩:=hv.form;clear hT hv;obtain⟨OK,hOK⟩:∃ OK,Zc3 rows xs=OK:=⟨_,rfl⟩;rw[hOK];have Q7:=hid hOK;unfold Zc3 Zgk Zan at Q7;obtain⟨H,hH⟩:∃ H,Zaa rows xs=H:=⟨_,rfl⟩;have HH:=hid hH;rw[hH]at Q7 ⊢;obtain⟨O,hO⟩:∃ O,Zan rows xs=O:=⟨_,rfl⟩;have HO:=hid hO;unfold Zan at HO;rw[hH]at HO;rw[HO.out]at Q7;rw[hO];obtain⟨bs,hbs⟩:∃ bs,Zcv rows xs=bs:=⟨_,rfl⟩;have Yi:=hid hbs;unfold Zcv at Yi;rw[hbs];clear hOK hH hO hbs;obtain⟨cd,wd,nulls,x3,t3⟩:=H;simp only at *;have hcd:L.wordOf 8 (tk 1 xs)=cd:=by have:=HH.out;simp only[Zaa,Head.mk.injEq]at this;exact this.1
 have hwd:L.wordOf 8 (tk 1 (tkL 1 xs))=wd:=by have:=HH.out;simp only[Zaa,Head.mk.injEq]at this;exact this.2.1
 have hnu:numL 8 (tk (8*((rows+63)/64)) (tkL 1 (tkL 1 xs)))=nulls:=by have:=HH.out;simp only[Zaa,Head.mk.injEq]at this;exact this.2.2.1
 have hx3:tkL (8*((rows+63)/64)) (tkL 1 (tkL 1 xs))=x3:=by have:=HH.out;simp only[Zaa,Head.mk.injEq]at this;exact this.2.2.2.1
 have ht3:tkS (8*((rows+63)/64)) (tkL 1 (tkL 1 xs)) (tkS 1 (tkL 1 xs) (tkS 1 xs false))=t3:=by have:=HH.out;simp only[Zaa,Head.mk.injEq]at this;exact this.2.2.2.2
 obtain⟨x1,hx1⟩:∃ x1,tkL 1 xs=x1:=⟨_,rfl⟩;obtain⟨t1,ht1⟩:∃ t1,tkS 1 xs false=t1:=⟨_,rfl⟩;rw[hx1]at hwd hnu hx3 ht3;rw[ht1]at ht3;obtain⟨x2,hx2⟩:∃ x2,tkL 1 x1=x2:=⟨_,rfl⟩;obtain⟨t2,ht2⟩:∃ t2,tkS 1 x1 t1=t2:=⟨_,rfl⟩;rw[hx2]at hnu hx3 ht3;rw[ht2]at ht3;obtain⟨m,hm⟩:∃ m,(rows+63)/64=m:=⟨_,rfl⟩;rw[hm]at hnu hx3 ht3;have hm':((rows:Int)+63)/64=(m:Int):=by omega
 have hl1:x1.length≤16777216:=by rw[← hx1];exact Nat.le_trans (Zbn _ _) hl
 have hb1:∀ x∈x1,x<256:=by rw[← hx1];exact Zas hb
 have hl2:x2.length≤16777216:=by rw[← hx2];exact Nat.le_trans (Zbn _ _) hl1
 have hb2:∀ x∈x2,x<256:=by rw[← hx2];exact Zas hb1
 have hl3:x3.length≤16777216:=by rw[← hx3];exact Nat.le_trans (Zbn _ _) hl2
 have hb3:∀ x∈x3,x<256:=by rw[← hx3];exact Zas hb2
 have hnv:∀ x∈nulls,x<18446744073709551616:=by rw[← hnu];exact Zdu (Zc8 hb2) (by omega)
 have hnl:nulls.length≤2097152:=by
  rw[← hnu,Zal];unfold tk;split
  ·rw[List.length_take];omega
  ·simp
 have Je:=hid (fun(w0 w:World) (g:Nat) (h:Zap w0 w g xs false)=>Zgd w0 w g xs false h hb hl);rw[hcd,hx1,ht1]at Je;have Zj:=hid (fun(w0 w:World) (g:Nat) (h:Zap w0 w g x1 t1)=>Zgd w0 w g x1 t1 h hb1 hl1);rw[hwd,hx2,ht2]at Zj;have HU:=hid (fun(w0 w:World) (g:Nat) (h:Zap w0 w g x2 t2) (hg:g<w.heap.size)=>Zhh w0 w g x2 t2 m h hg hb2 hl2 (by omega));rw[hnu,hx3,ht3]at HU;have ZZ:=hid (fun(w:World) (v:Value) (h:Rd w v nulls.length 1 (u64s nulls))=>Zk7 v nulls rows rows w h hnv (by unfold maxLen;omega));obtain⟨rk,hrk⟩:∃ rk,Zeg rows rows nulls=rk:=⟨_,rfl⟩;rw[hrk]at ZZ;have Jf:=hid hrk;obtain⟨k,hk⟩:∃ k,Zbd rows nulls=k:=⟨_,rfl⟩;rw[hk]at HO ⊢;have HK:=hid hk;clear hcd hwd hnu hx3 ht3 hx1 ht1 hx2 ht2 hm hrk HH hk;go_enter Tryz.func126,Tryz.ntmps126;go_wp2_with fail
 have hbA:Below w.heap.size w (w.alloc (.cells Zaz.toArray 198)):=(Zab w).alloc (Nat.le_refl _) _;have hrA:Row (w.alloc (.cells Zaz.toArray 198)) w.heap.size 198 Zaz:=by unfold Row;rw[heap_alloc_new]
 have hsA:(w.alloc (.cells Zaz.toArray 198)).heap.size=w.heap.size+1:=by simp
 change Calls _ _ _ (w.alloc (.cells Zaz.toArray 198)) _
 generalize w.alloc (.cells Zaz.toArray 198)=w1 at *;have ZN:=hid (HV.out.mono hbA);refine(Zew w1 _ xs ZN.out).mono ?_;rintro e w2 ⟨rfl,hat,hb2,hsz2⟩;have QX:=hid hat;have YS:=hid hbA;have QK:=hid hrA;have Qc:=hid hb2;clear hat hbA hrA hb2;go_wp2_with fail
 have hbC:Below w2.heap.size w2 (w2.alloc (.cells (ck_S rows 0 0 nilS 0 nilS nilS 0 nilS Zbz nilS).toArray 198)):=(Zab w2).alloc (Nat.le_refl _) _;have hrC:Row (w2.alloc (.cells (ck_S rows 0 0 nilS 0 nilS nilS 0 nilS Zbz nilS).toArray 198)) w2.heap.size 198 (ck_S rows 0 0 nilS 0 nilS nilS 0 nilS Zbz nilS):=by unfold Row;rw[heap_alloc_new]
 change Calls _ _ _ (w2.alloc (.cells (ck_S rows 0 0 nilS 0 nilS nilS 0 nilS Zbz nilS).toArray 198)) _
 generalize w2.alloc (.cells (ck_S rows 0 0 nilS 0 nilS nilS 0 nilS Zbz nilS).toArray 198)=w3 at *;have J2:Hid (St_S w w1 w3 w.heap.size (w.heap.size+1) (w.heap.size+1+1) (ck_S rows 0 0 nilS 0 nilS nilS 0 nilS Zbz nilS) xs false):=by
  refine hid ⟨?_,(QK.out.mono Qc.out).mono hbC,?_,YS.out.trans ((Zad Qc.out hbC).mono (by omega)),by omega,by omega,by omega,by omega,by omega,by omega,by omega⟩
  ·have:w2.heap.size=w.heap.size+1+1:=by omega
   rw[this]at hrC;exact hrC
  ·have h1:=QX.out.mono hbC;rw[hsA]at h1;exact h1
 have HT1:=hid (HT.out.mono YS.out Vl.out);clear hbC hrC QX YS QK Qc ZN HV HT;obtain⟨g,hg⟩:∃ g,w.heap.size+1+1=g:=⟨_,rfl⟩;rw[hg]at J2 ⊢;obtain⟨gr,hgr⟩:∃ gr,w.heap.size+1=gr:=⟨_,rfl⟩;rw[hgr]at J2 ⊢;obtain⟨a,ha⟩:∃ a,w.heap.size=a:=⟨_,rfl⟩;have HA:=hid ha;have Jg:Hid (St_S w w1 w3 a gr g (ck_S rows 0 0 nilS 0 nilS nilS 0 nilS Zbz nilS) xs false):=hid (by rw[← HA.out];exact J2.out);rw[ha];clear J2 hg hgr ha hsz2 hsA;refine(Je.out w1 w3 gr Jg.out.rdr).mono ?_;rintro e w4 ⟨rfl,hr4,hc4⟩;have Z6:=hid (Jg.out.step hc4 hr4);have e1:w4.cell? ⟨g,0+1,none⟩=some (.int .i64 0):=by rw[Z6.out.rowc.cell];rfl
 have f1:=Z6.out.rowc.frozen (0+1);clear hr4 hc4 Jg;have Jd:=hid (Z6.out.store 1 (.int .i64 cd));go_wp2_with fail
 clear e1 f1 Z6;generalize w4.setCell ⟨g,1,none⟩ (.int .i64 cd)=w5 at *;refine(Zj.out w1 w5 gr Jd.out.rdr).mono ?_;rintro e w6 ⟨rfl,hr6,hc6⟩;have Vs:=hid (Jd.out.step hc6 hr6);have e1:w6.cell? ⟨g,0+2,none⟩=some (.int .i64 0):=by rw[Vs.out.rowc.cell];rfl
 have f1:=Vs.out.rowc.frozen (0+2);clear hr6 hc6 Jd;have Zv:=hid (Vs.out.store 2 (.int .i64 wd));go_wp2_with fail
 clear e1 f1 Vs;generalize w6.setCell ⟨g,2,none⟩ (.int .i64 wd)=w7 at *;have hgr7:=Zv.out.rdr.lt;have hg7:=Zv.out.rowc.lt;have ha7:=Zv.out.rowa.lt;refine(HU.out w1 w7 gr Zv.out.rdr hgr7).mono ?_;rintro e w8 ⟨p,hp,rfl,hrow8,hr8,hc8⟩;have Vt:=hid (Zv.out.step hc8 hr8);have e1:w8.cell? ⟨g,0+3,none⟩=some nilS:=by rw[Vt.out.rowc.cell];rfl
 have f1:=Vt.out.rowc.frozen (0+3);have hpg:p≠g:=by omega
 have hpgr:p≠gr:=by omega
 have hpW:w.heap.size≤p:=by have:=Zv.out.ha;omega
 have hpa:p≠a:=by omega
 have Zb:=hid (((Chg.refl g g w8).setCell g 3 (.slice (some ⟨p,0,none⟩) nulls.length nulls.length) (.inl rfl)).row hrow8 hpg hpg);clear hrow8 hr8 hc8 Zv hp hg7 ha7 hgr7;have Vu:Hid (St_S w w1 (w8.setCell ⟨g,3,none⟩ (.slice (some ⟨p,0,none⟩) nulls.length nulls.length)) a gr g (ck_S rows cd wd (.slice (some ⟨p,0,none⟩) nulls.length nulls.length) 0 nilS nilS 0 nilS Zbz nilS) x3 t3):=hid (Vt.out.store 3 (.slice (some ⟨p,0,none⟩) nulls.length nulls.length));go_upto_region 6 with fail
 clear e1 f1 Vt HU Je Zj;generalize w8.setCell ⟨g,3,none⟩ (.slice (some ⟨p,0,none⟩) nulls.length nulls.length)=w9 at *;have e3:w9.cell? ⟨g,0+3,none⟩=some (.slice (some ⟨p,0,none⟩) nulls.length nulls.length):=by rw[Vu.out.rowc.cell];rfl
 go_wp2_with fail
 refine(ZZ.out w9 _ (Zb.out.rd' (n:=nulls.length) (by simp[u64s]) (by unfold maxLen;omega))).mono ?_;rintro e wA ⟨rfl,nA,rfl⟩;have Ut:=hid (Vu.out.mono (Zag (Zab w9) nA));have QK:=hid (Zb.out.drewN nA);go_upto_region 7 with fail
 clear e3 Vu Zb ZZ;generalize w9.drewN nA=wA at *;have hAC:wA.cell? ⟨g,1,none⟩=some (.int .i64 cd):=by rw[Ut.out.rowc.cell];rfl
 cases hok:Za8 1 rows nulls with
 | false =>
  obtain rfl:rk = -1:=by rw[← Jf.out,Zeg,if_neg (by rw[hok];simp)]
  obtain rfl:OK=false:=by rw[← Q7.out,hok];rfl
  go_quiet (fail)
  have J6:=hid (Ut.out.mono (Zag (Zab wA) nq));generalize wA.drewN nq=wB at *;obtain⟨z0,z1,z2,z3,z4,z5,z6,z7,z8,z9,z10⟩:=Zee J6.out.rowa;obtain⟨f0,f1,f2,f3,f4,f5,f6,f7,f8,f9,f10⟩:=Zj9 J6.out.rowa;go_wp2_with fail
  clear z0 z1 z2 z3 z4 z5 z6 z7 z8 z9 z10 f0 f1 f2 f3 f4 f5 f6 f7 f8 f9 f10;change bodyPost _ _ _ _ _ (setL wB a 0 Zaz)
  have Y4:=hid (Zcx J6.out.rowa Zaz rfl);have YD:=hid (Zcg a J6.out.ha Zaz wB 0 J6.out.bel);generalize setL wB a 0 Zaz=wF at *;obtain⟨z0,z1,z2,z3,z4,z5,z6,z7,z8,z9,z10⟩:=Zee Y4.out;refine bodyPost_ret (v:=.tuple #[.agg Zaz.toArray,.bool false]) ?_ rfl ⟨YD.out,by first | exact .inl ⟨rfl,rfl⟩ | rfl⟩;simp[results,Tryz.results126,go_sem,z0,z1,z2,z3,z4,z5,z6,z7,z8,z9,z10];rfl
 | true =>
  have hrn:rk=((Zbe nulls rows:Nat):Int):=by rw[← Jf.out,Zeg,if_pos ⟨hok,by omega,by omega⟩];simp
  have hnr:Zbe nulls rows≤rows:=by unfold Zbe;have:=List.length_filter_le (Za0 nulls) (List.range rows);rwa [List.length_range]at this
  have hct:k=rows-Zbe nulls rows:=HK.out.symm;obtain⟨n,hn⟩:∃ n,Zbe nulls rows=n:=⟨_,rfl⟩;rw[hn]at hrn hnr hct;subst hrn;have hok2:=Q7.out;rw[hok,Bool.true_and]at hok2;have Jh:=hid hok2;have hneg:¬ ((n:Int)<0):=by omega
  have hkc:(rows:Int)-(n:Int)=(k:Int):=by omega
  have hkk:k≤65536:=by omega
  have hmn:=Zjz;have hnl2:nulls.length≤65536:=by rw[((Zbl (wd:=1) (n:=rows) nulls (by decide) hrr).1 hok).1];exact Nat.le_trans (L.nWords_le (by omega)) hrr
  have hgA:g<wA.heap.size:=Ut.out.rowc.lt;clear hok2 hok Jf hn hct;generalize hic:Zbi Zko cd=ic at *;have Vv:=hid (fun w2:World=>Zlp Zko cd w2);rw[hic]at Vv;have Uu:=hid hic;clear hic;unfold Zko at Vv;go_region_held3 (fun w'=>w'.cell? ⟨g,1,none⟩=some (.int .i64 cd)) (go_keep)
   (first
    | (go_at_call 313;refine(Zhz _).mono ?_;rintro e wN ⟨rfl,hbN⟩;have QJ:=hid (Ut.out.mono ((Zag (Zab wA) 1).trans hbN));have Q1:=hid (QK.out.mono ((Zag (Zab wA) 1).trans hbN));have kN:=(hbN.cell (p:=⟨g,1,none⟩) hgA).trans hAC;clear hbN)
    | (go_at_call 103;refine(Vv.out _).mono ?_;rintro e wM ⟨rfl,hw⟩;replace hw:=hw.symm;subst hw))
  clear hAC Ut QK hmn Vv hneg;cases ic with
  | false =>
   obtain rfl:OK=false:=by rw[← Jh.out];rfl
   obtain⟨z0,z1,z2,z3,z4,z5,z6,z7,z8,z9,z10⟩:=Zee QJ.out.rowa;obtain⟨f0,f1,f2,f3,f4,f5,f6,f7,f8,f9,f10⟩:=Zj9 QJ.out.rowa;go_wp2_with fail
   clear z0 z1 z2 z3 z4 z5 z6 z7 z8 z9 z10 f0 f1 f2 f3 f4 f5 f6 f7 f8 f9 f10;change bodyPost _ _ _ _ _ (setL wN a 0 Zaz)
   have Y4:=hid (Zcx QJ.out.rowa Zaz rfl);have YD:=hid (Zcg a QJ.out.ha Zaz wN 0 QJ.out.bel);generalize setL wN a 0 Zaz=wF at *;obtain⟨z0,z1,z2,z3,z4,z5,z6,z7,z8,z9,z10⟩:=Zee Y4.out;refine bodyPost_ret (v:=.tuple #[.agg Zaz.toArray,.bool false]) ?_ rfl ⟨YD.out,by first | exact .inl ⟨rfl,rfl⟩ | rfl⟩;simp[results,Tryz.results126,go_sem,z0,z1,z2,z3,z4,z5,z6,z7,z8,z9,z10];rfl
  | true =>
   have hok3:=Jh.out;rw[Bool.true_and]at hok3;have Zk:=hid hok3;clear hok3 Jh;have hcdk:1≤cd∧cd≤Zzj:=by
    have h:=Uu.out;unfold Zbi Zko Zzj at *
    split at h
    ·omega
    ·simp only[decide_eq_true_eq]at h;omega
   have e4:wN.cell? ⟨g,0+4,none⟩=some (.int .i64 0):=by rw[QJ.out.rowc.cell];rfl
   have f4:=QJ.out.rowc.frozen (0+4);have Ji:=hid (QJ.out.store 4 (.int .i64 k));have Xm:=hid (((Chg.refl g g wN).setCell g 4 (.int .i64 k) (.inl rfl)).row Q1.out hpg hpg);clear QJ Q1 kN Uu;go_upto_region 10 with fail
   clear e4 f4;generalize wN.setCell ⟨g,4,none⟩ (.int .i64 k)=wP at *;have e3:wP.cell? ⟨g,0+3,none⟩=some (.slice (some ⟨p,0,none⟩) nulls.length nulls.length):=by rw[Ji.out.rowc.cell];rfl
   go_wp2_with fail
   refine(Zg7 _ nulls wP (Xm.out.rd' (n:=nulls.length) (by simp[u64s]) (by unfold maxLen;omega)) hnv hnl2).mono ?_;rintro e wQ ⟨rfl,hrowB,hbQ⟩;have hq1:g<wP.heap.size:=Ji.out.rowc.lt;have hq2:gr<wP.heap.size:=Ji.out.rdr.lt;have hq3:a<wP.heap.size:=Ji.out.rowa.lt;have hq4:w.heap.size≤wP.heap.size:=Ji.out.bel.size;have ZO:=hid (Ji.out.mono hbQ);have JW:=hid (Xm.out.mono hbQ);have Y5:=hid hrowB;obtain⟨q,hq⟩:∃ q,wP.heap.size=q:=⟨_,rfl⟩;rw[hq]at Y5 hq1 hq2 hq3 hq4 ⊢;have hqg:q≠g:=by omega
   have hqr:q≠gr:=by omega
   have hqa:q≠a:=by omega
   have e10:wQ.cell? ⟨g,0+10,none⟩=some nilS:=by rw[ZO.out.rowc.cell];rfl
   have f10:=ZO.out.rowc.frozen (0+10);have Q8:Hid (St_S w w1 (wQ.setCell ⟨g,10,none⟩ (.slice (some ⟨q,0,none⟩) nulls.length nulls.length)) a gr g (ck_S rows cd wd (.slice (some ⟨p,0,none⟩) nulls.length nulls.length) k nilS nilS 0 nilS Zbz (.slice (some ⟨q,0,none⟩) nulls.length nulls.length)) x3 t3):=hid (ZO.out.store 10 (.slice (some ⟨q,0,none⟩) nulls.length nulls.length));have Qs:=hid (((Chg.refl g g wQ).setCell g 10 (.slice (some ⟨q,0,none⟩) nulls.length nulls.length) (.inl rfl)).row JW.out hpg hpg);have Zw:=hid (((Chg.refl g g wQ).setCell g 10 (.slice (some ⟨q,0,none⟩) nulls.length nulls.length) (.inl rfl)).row Y5.out hqg hqg);clear hrowB hbQ Ji Xm ZO JW Y5 hq e3;go_upto_region 11 with fail
   clear e10 f10;generalize wQ.setCell ⟨g,10,none⟩ (.slice (some ⟨q,0,none⟩) nulls.length nulls.length)=wR at *;have Jj:=hid (Zou w1 wR g gr x3 t3 rows wd cd k _ _ HT1.out Q8.out.rowc Q8.out.rdr Q8.out.n1 Q8.out.h0 Q8.out.rdr.lt hb3 hl3 hkk hcdk);rw[HO.out]at Jj;have hr1:a<wR.heap.size:=Q8.out.rowa.lt;have hr2:g<wR.heap.size:=Q8.out.rowc.lt;go_wp2_with fail
   refine Jj.out.mono ?_;rintro e wS ⟨rfl,hOA⟩;obtain⟨⟨lv,ev,nv,hck,hol,hoe,hon⟩,hrS,hcS⟩:=hOA;rw[Yi.out]at hck;have Qw:=hid (Q8.out.both hcS hck hrS);have Uv:=hid (hcS.row Qs.out hpg hpgr);have Xn:=hid (hcS.row Zw.out hqg hqr);have HOL:=hid hol;have JH:=hid hoe;have HON:=hid hon;have hOl:O.left.length≤16777216:=by rw[← HO.out];exact Nat.le_trans (Znv cd wd k x3 t3) hl3
   clear hck hol hoe hon hrS hcS Q8 Qs Zw Jj HO;obtain⟨ob,ol,os,oli,oen,ola⟩:=O;simp only at *;cases ob with
   | false =>
    obtain rfl:OK=false:=by rw[← Zk.out];rfl
    obtain⟨z0,z1,z2,z3,z4,z5,z6,z7,z8,z9,z10⟩:=Zee Qw.out.rowa;obtain⟨f0,f1,f2,f3,f4,f5,f6,f7,f8,f9,f10⟩:=Zj9 Qw.out.rowa;go_wp2_with fail
    clear z0 z1 z2 z3 z4 z5 z6 z7 z8 z9 z10 f0 f1 f2 f3 f4 f5 f6 f7 f8 f9 f10;change bodyPost _ _ _ _ _ (setL wS a 0 Zaz)
    have Y4:=hid (Zcx Qw.out.rowa Zaz rfl);have YD:=hid (Zcg a Qw.out.ha Zaz wS 0 Qw.out.bel);generalize setL wS a 0 Zaz=wF at *;obtain⟨z0,z1,z2,z3,z4,z5,z6,z7,z8,z9,z10⟩:=Zee Y4.out;refine bodyPost_ret (v:=.tuple #[.agg Zaz.toArray,.bool false]) ?_ rfl ⟨YD.out,by first | exact .inl ⟨rfl,rfl⟩ | rfl⟩;simp[results,Tryz.results126,go_sem,z0,z1,z2,z3,z4,z5,z6,z7,z8,z9,z10];rfl
   | true =>
    cases os with
    | true =>
     obtain rfl:OK=false:=by rw[← Zk.out];rfl
     obtain⟨z0,z1,z2,z3,z4,z5,z6,z7,z8,z9,z10⟩:=Zee Qw.out.rowa;obtain⟨f0,f1,f2,f3,f4,f5,f6,f7,f8,f9,f10⟩:=Zj9 Qw.out.rowa;go_wp2_with (go_at_call 157;refine(Zd3 w1 _ gr _ true Qw.out.rdr).mono ?_;rintro e wT ⟨rfl,hw⟩;replace hw:=hw.symm;subst hw)
     clear z0 z1 z2 z3 z4 z5 z6 z7 z8 z9 z10 f0 f1 f2 f3 f4 f5 f6 f7 f8 f9 f10;change bodyPost _ _ _ _ _ (setL wS a 0 Zaz)
     have Y4:=hid (Zcx Qw.out.rowa Zaz rfl);have YD:=hid (Zcg a Qw.out.ha Zaz wS 0 Qw.out.bel);generalize setL wS a 0 Zaz=wF at *;obtain⟨z0,z1,z2,z3,z4,z5,z6,z7,z8,z9,z10⟩:=Zee Y4.out;refine bodyPost_ret (v:=.tuple #[.agg Zaz.toArray,.bool false]) ?_ rfl ⟨YD.out,by first | exact .inl ⟨rfl,rfl⟩ | rfl⟩;simp[results,Tryz.results126,go_sem,z0,z1,z2,z3,z4,z5,z6,z7,z8,z9,z10];rfl
    | false =>
     by_cases hle:ol=[]
     case neg =>
      obtain rfl:OK=false:=by rw[← Zk.out];simp[hle]
      have hlp:0<ol.length:=List.length_pos_iff.2 hle;have hgt:(ol.length:Int) > 0:=by omega
      clear hle;obtain⟨z0,z1,z2,z3,z4,z5,z6,z7,z8,z9,z10⟩:=Zee Qw.out.rowa;obtain⟨f0,f1,f2,f3,f4,f5,f6,f7,f8,f9,f10⟩:=Zj9 Qw.out.rowa;go_wp2_with (first | (go_at_call 157;refine(Zd3 w1 _ gr _ false Qw.out.rdr).mono ?_;rintro e wT ⟨rfl,hw⟩;replace hw:=hw.symm;subst hw) | (go_at_call 158;refine(Zhc w1 _ gr ol false Qw.out.rdr hOl).mono ?_;rintro e wT ⟨rfl,hw⟩;replace hw:=hw.symm;subst hw))
      clear z0 z1 z2 z3 z4 z5 z6 z7 z8 z9 z10 f0 f1 f2 f3 f4 f5 f6 f7 f8 f9 f10;change bodyPost _ _ _ _ _ (setL wS a 0 Zaz)
      have Y4:=hid (Zcx Qw.out.rowa Zaz rfl);have YD:=hid (Zcg a Qw.out.ha Zaz wS 0 Qw.out.bel);generalize setL wS a 0 Zaz=wF at *;obtain⟨z0,z1,z2,z3,z4,z5,z6,z7,z8,z9,z10⟩:=Zee Y4.out;refine bodyPost_ret (v:=.tuple #[.agg Zaz.toArray,.bool false]) ?_ rfl ⟨YD.out,by first | exact .inl ⟨rfl,rfl⟩ | rfl⟩;simp[results,Tryz.results126,go_sem,z0,z1,z2,z3,z4,z5,z6,z7,z8,z9,z10];rfl
     case pos =>
      subst hle;obtain rfl:OK=true:=by rw[← Zk.out];rfl
      have hgt:¬ ((([]:List Nat).length:Int) > 0):=by simp
      obtain⟨z0,z1,z2,z3,z4,z5,z6,z7,z8,z9,z10⟩:=Zee Qw.out.rowa;obtain⟨f0,f1,f2,f3,f4,f5,f6,f7,f8,f9,f10⟩:=Zj9 Qw.out.rowa;obtain⟨Al,cl,rfl,_,_,_⟩:=Zaj HOL.out;obtain⟨Ae,ce,rfl,_,_,_⟩:=Zaj JH.out;obtain⟨An,cn,rfl,_,_,_⟩:=Zaj HON.out;obtain⟨y0,y1,y2,y3,y4,y5,y6,y7,y8,y9,y10⟩:=Zee Qw.out.rowc;unfold i64 at y0 y1 y2 y4 y7;unfold Zbz at y9;go_wp2_with (first | (go_at_call 157;refine(Zd3 w1 _ gr _ false Qw.out.rdr).mono ?_;rintro e wT ⟨rfl,hw⟩;replace hw:=hw.symm;subst hw) | (go_at_call 158;refine(Zhc w1 _ gr [] false Qw.out.rdr hOl).mono ?_;rintro e wT ⟨rfl,hw⟩;replace hw:=hw.symm;subst hw))
      clear z0 z1 z2 z3 z4 z5 z6 z7 z8 z9 z10 f0 f1 f2 f3 f4 f5 f6 f7 f8 f9 f10 y0 y1 y2 y3 y4 y5 y6 y7 y8 y9 y10;change bodyPost _ _ _ _ _ (setL wS a 0 (ck_S rows cd wd (.slice (some ⟨p,0,none⟩) nulls.length nulls.length) k (.slice Al oli.length cl) (.slice Ae oen.length ce) bs (.slice An ola.length cn) Zbz (.slice (some ⟨q,0,none⟩) nulls.length nulls.length)))
      have Y4:=hid (Zcx Qw.out.rowa (ck_S rows cd wd (.slice (some ⟨p,0,none⟩) nulls.length nulls.length) k (.slice Al oli.length cl) (.slice Ae oen.length ce) bs (.slice An ola.length cn) Zbz (.slice (some ⟨q,0,none⟩) nulls.length nulls.length)) rfl);have YD:=hid (Zcg a Qw.out.ha (ck_S rows cd wd (.slice (some ⟨p,0,none⟩) nulls.length nulls.length) k (.slice Al oli.length cl) (.slice Ae oen.length ce) bs (.slice An ola.length cn) Zbz (.slice (some ⟨q,0,none⟩) nulls.length nulls.length)) wS 0 Qw.out.bel);have hcf:=Ztx a (ck_S rows cd wd (.slice (some ⟨p,0,none⟩) nulls.length nulls.length) k (.slice Al oli.length cl) (.slice Ae oen.length ce) bs (.slice An ola.length cn) Zbz (.slice (some ⟨q,0,none⟩) nulls.length nulls.length)) wS 0;have G1:=hid ((hcf.row Uv.out hpa hpa).owns (B:=w.heap.size) (n:=nulls.length) hpW (by simp[u64s]) (by unfold maxLen;omega));have G2:=hid ((hcf.row Xn.out hqa hqa).rd' (n:=nulls.length) (by simp[i64s,befL]) (by unfold maxLen;omega));have G3:=hid (Zba (Zb4 HOL.out hcf hr1 hr1));have G4:=hid (Zba (Zb4 JH.out hcf hr1 hr1));have G5:=hid (Zba (Zb4 HON.out hcf hr1 hr1));clear hcf;generalize setL wS a 0 (ck_S rows cd wd (.slice (some ⟨p,0,none⟩) nulls.length nulls.length) k (.slice Al oli.length cl) (.slice Ae oen.length ce) bs (.slice An ola.length cn) Zbz (.slice (some ⟨q,0,none⟩) nulls.length nulls.length))=wF at *;obtain⟨z0,z1,z2,z3,z4,z5,z6,z7,z8,z9,z10⟩:=Zee Y4.out;refine bodyPost_ret (v:=.tuple #[.agg (ck_S rows cd wd (.slice (some ⟨p,0,none⟩) nulls.length nulls.length) k (.slice Al oli.length cl) (.slice Ae oen.length ce) bs (.slice An ola.length cn) Zbz (.slice (some ⟨q,0,none⟩) nulls.length nulls.length)).toArray,.bool true]) ?_ rfl ⟨YD.out,?_⟩
      ·simp[results,Tryz.results126,go_sem,z0,z1,z2,z3,z4,z5,z6,z7,z8,z9,z10];rfl
      ·first | exact .inr ⟨rfl,_,_,_,_,_,rfl,G1.out,G3.out,G4.out,G5.out,G2.out⟩ | exact⟨_,_,_,_,_,rfl,G1.out,G3.out,G4.out,G5.out,G2.out⟩
def Zoq (rows:Nat) (xs:List Nat) (j:Nat):ByteArray:=vl_S (Zaa rows xs).codec (Zaa rows xs).wd (Zan rows xs).list (Zan rows xs).ends (Zcv rows xs) (Zan rows xs).lanes j
def Zrt (rows:Nat) (xs:List Nat) (r:Nat):Bool:=Za0 (Zaa rows xs).nulls r
def Zrj (rows:Nat) (xs:List Nat) (r:Nat):Int:=if Za0 (Zaa rows xs).nulls r=true then 0 else cB_S (Zoq rows xs (r-Zbe (Zaa rows xs).nulls (r+1)))
def Zsn (rows:Nat) (xs:List Nat) (r:Nat):ByteArray:=if Za0 (Zaa rows xs).nulls r=true then ByteArray.empty else cC_S (Zoq rows xs (r-Zbe (Zaa rows xs).nulls (r+1)))
structure Valid_S (rows:Nat) (xs:List Nat):Prop where
 nl:(Zaa rows xs).nulls.length=(rows+63)/64
 nv:∀ x∈(Zaa rows xs).nulls,x<18446744073709551616
 ll:(Zan rows xs).list.length≤16777216
 el:(Zan rows xs).ends.length≤16777216
 lv:∀ x∈(Zan rows xs).lanes,x<18446744073709551616
 ok:∀ j,j<Zbd rows (Zaa rows xs).nulls→Zkz (Zaa rows xs).codec (Zaa rows xs).wd (Zan rows xs).list (Zan rows xs).ends (Zan rows xs).lanes j
theorem Zxv {w:World} {rows:Nat} {xs:List Nat} {nu lv ev nv bef:Value} (h1:Rd w nu (Zaa rows xs).nulls.length 1 (u64s (Zaa rows xs).nulls)) (h2:Rd w lv (Zan rows xs).list.length 1 (lstS (Zan rows xs).list))
  (h3:Rd w ev (Zan rows xs).ends.length 1 (nIs (Zan rows xs).ends)) (h4:Rd w nv (Zan rows xs).lanes.length 1 (u64s (Zan rows xs).lanes)) (h5:Rd w bef (Zaa rows xs).nulls.length 1 (i64s (befL (Zaa rows xs).nulls))) :
  Ck_S (w.alloc (.cells (ck_S rows (Zaa rows xs).codec (Zaa rows xs).wd nu (Zbd rows (Zaa rows xs).nulls) lv ev (Zcv rows xs) nv Zbz bef).toArray 198)) w.heap.size rows (Zaa rows xs).codec (Zaa rows xs).wd (Zaa rows xs).nulls
   (Zbd rows (Zaa rows xs).nulls) (Zan rows xs).list (Zan rows xs).ends (Zcv rows xs) (Zan rows xs).lanes:=by
 have hb:Below w.heap.size w (w.alloc (.cells (ck_S rows (Zaa rows xs).codec (Zaa rows xs).wd nu (Zbd rows (Zaa rows xs).nulls) lv ev (Zcv rows xs) nv Zbz bef).toArray 198)):=(Zab w).alloc (Nat.le_refl _) _;exact⟨⟨nu,lv,ev,nv,bef,by unfold Row;rw[heap_alloc_new];rfl,h1.mono hb,h2.mono hb,h3.mono hb,h4.mono hb,h5.mono hb⟩⟩
theorem Tryz.infoU8:(Tryz.prog.info? 5).map (fun i=>(i.zero,i.size,i.bytes))=some (some (.int .u8 0),1,1):=by kernel_rfl
theorem Zq5 (A:Nat→Bool) (B:Nat→Int) (C:Nat→ByteArray) (n:Nat):∀ k,k<n→(Zdb A B C n)[k*3]? = some (.bool (A k))∧(Zdb A B C n)[k*3+1]? = some (.int .i64 (B k))∧(Zdb A B C n)[k*3+2]? = some (.string (C k)):=by
 induction n with
 | zero=>intro k hk;omega
 | succ n ih =>
  intro k hk;have hl:=Zmk A B C n;by_cases hkn:k<n
  ·have:=ih k hkn;rw[Zdb];rw[List.getElem?_append_left (by omega),List.getElem?_append_left (by omega),List.getElem?_append_left (by omega)];exact this
  ·obtain rfl:k=n:=by omega
   rw[Zdb];rw[List.getElem?_append_right (by omega),List.getElem?_append_right (by omega),List.getElem?_append_right (by omega),hl];simp
def rG (kd rows:Nat) (xs:List Nat) (ps:List Int):List Value :=
 Zdb (fun i=>cA (rWs rows xs) (ps.getD i 0).toNat) (fun i=>cB (rWs rows xs) (rPay kd rows xs).2 (ps.getD i 0).toNat) (fun i=>cC (rWs rows xs) (rPay kd rows xs).2 (ps.getD i 0).toNat) ps.length
theorem Rd.atC {w:World} {D:Option Addr} {n m cd:Nat} {A:Nat→Bool} {B:Nat→Int} {C:Nat→ByteArray} (h:Rd w (.slice D n cd) m 3 (Zdb A B C m)) (h0:0<m):∃ b o,D=some ⟨b,o,none⟩ ∧
  ∀ k,k<m→w.cell? ⟨b,o+k*3,none⟩=some (.bool (A k))∧w.cell? ⟨b,o+k*3+1,none⟩=some (.int .i64 (B k))∧w.cell? ⟨b,o+k*3+2,none⟩=some (.string (C k)):=by
 rcases h.2 with ⟨_,rfl⟩ | ⟨b,o,cap',he,_,_,hs⟩
 ·exact absurd h0 (Nat.lt_irrefl 0)
 ·injection he with e1 e2 e3
  refine⟨b,o,e1,fun k hk=>?_⟩;obtain⟨g0,g1,g2⟩:=Zq5 A B C m k hk;exact⟨hs _ _ g0,hs _ _ g1,hs _ _ g2⟩
set_option maxRecDepth 20000
theorem Zb7 {n:Nat} {xs:List Nat} {s:Bool} (h:tkS n xs s=false):n≤xs.length∧s=false:=by
 unfold tkS at h;split at h
 ·rename_i hn;exact⟨hn,h⟩
 ·cases h
theorem Zke {n:Nat} {xs:List Nat} (h:n≤xs.length):(tk n xs).length=n:=by unfold tk;rw[if_pos h,List.length_take];omega
theorem Zen {c:Nat} {xs:List Nat} {s:Bool} (h:(rdI c xs s).2.1=true) (h2:(rdI c xs s).2.2.2=false):(rdI c xs s).1.length=c:=by
 unfold rdI at h2 ⊢;obtain⟨h3,_⟩:=Zb7 h2;simp only[List.length_map,Zal,Zke h3];omega
theorem Zem {c:Nat} {xs:List Nat} {s:Bool} (h:(rdS c xs s).2.1=true) (h2:(rdS c xs s).2.2.2=false):(rdS c xs s).1.length=c:=by
 unfold rdS at h ⊢;simp only at h ⊢
 split at h
 ·cases h
 ·split at h
  ·cases h
  ·rename_i sz hsz hs
   have hs2:tkS sz.toNat (tkL (4*c) xs) (tkS (4*c) xs s)=false:=by simpa using hs
   obtain⟨h3,_⟩:=Zb7 (Zb7 hs2).2;rw[if_neg hs];rw[Zds,Zaq,Zal,Zke h3];omega
theorem Zjy (c:Nat) (xs:List Nat) (s:Bool) (h:(rdI c xs s).2.2.2=false):s=false:=(Zb7 h).2
theorem Zjw (c:Nat) (xs:List Nat) (s:Bool) (h:(rdS c xs s).2.2.2=false):s=false:=by
 unfold rdS at h;simp only at h
 split at h
 ·exact(Zb7 h).2
 ·split at h
  ·cases h
  ·rename_i sz hsz hs
   exact(Zb7 (Zb7 (by simpa using hs)).2).2
theorem Zx6 {fl:List Bool} (h:Zbe (bmL fl) fl.length=0) (j:Nat) (hj:j<fl.length):fl.getD j false=false:=by
 unfold Zbe at h;have h1:Za0 (bmL fl) j=false:=by
  have h2:=List.filter_eq_nil_iff.1 (List.eq_nil_of_length_eq_zero h) j (List.mem_range.2 hj);simpa using h2
 have hb:=(Zgh fl).2.2 j (by rw[(Zgh fl).1];have:=Zj1 fl.length;omega);rw[h1]at hb;simpa [hj]using hb.symm
theorem Zce {wd k:Nat} {op:Int} {ws:List Nat} {lim:Nat} (h:Zcj wd k op ws lim=true):wd≤64∧k≤65536∧L.IsPack wd k ws∧∀ j,j<k→Zcc op (L.laneOf wd ws j) lim=false:=by
 unfold Zcj at h;rw[Bool.and_eq_true]at h;obtain⟨h1,h2⟩:=h;have h3:Za8 wd k ws=true:=by unfold Zho at h1;rw[Bool.and_eq_true]at h1;exact h1.2
 have h4:wd≤64∧k≤65536:=by
  unfold Za8 Zjt at h3;simp only[Bool.and_eq_true,decide_eq_true_eq]at h3;omega
 have h5:=(Zbl ws h4.1 h4.2).1 h3;refine⟨h4.1,h4.2,h5,fun j hj=>?_⟩;rw[cmpR,if_pos h1]at h2;have hfl:((List.range (k:Int).toNat).map (cmpF (wd:Int).toNat op ws lim)).length=k:=by simp
 have h6:Za8 1 k (bmL ((List.range (k:Int).toNat).map (cmpF (wd:Int).toNat op ws lim)))=true:=by
  refine(Zbl _ (by decide) h4.2).2 ?_;have:=L.pack_isPack (w:=1) (by omega) (((List.range (k:Int).toNat).map (cmpF (wd:Int).toNat op ws lim)).map Bool.toNat) (toNat_lt _)
  rwa [List.length_map,hfl]at this
 rw[Zeg,if_pos ⟨h6,by omega,by omega⟩]at h2;have h7:Zbe (bmL ((List.range (k:Int).toNat).map (cmpF (wd:Int).toNat op ws lim))) k=0:=by simpa using h2
 have h8:=Zx6 (fl:=(List.range (k:Int).toNat).map (cmpF (wd:Int).toNat op ws lim)) (by rw[hfl];exact h7) j (by rw[hfl];exact hj);simpa [List.getD,List.getElem?_map,List.getElem?_range hj,cmpF]using h8
theorem Zhe {wd k:Nat} {ws:List Nat} (hw:wd≤64) (h:L.IsPack wd k ws) (j:Nat) (hj:j<k) (h0:0<wd):j/(64/wd)<ws.length:=by
 rw[h.1,L.lt_nWords h0 hw];exact Nat.lt_of_le_of_lt (Nat.div_mul_le_self _ _) hj
theorem Zi6 (es:List Int):∀ l k,Za2 l es=some k→∀ i,i<es.length→l<es.getD i 0:=by
 induction es with
 | nil=>intro l k h i hi;simp at hi
 | cons e r ih =>
  intro l k h i hi;simp only[Za2]at h
  split at h
  ·cases h
  ·rename_i hc
   cases i with
   | zero=>simp;omega
   | succ i=>have:=ih e k h i (by simpa using hi);simp only[List.getD_cons_succ];omega
theorem Zuw (es:List Int):∀ l k,Za2 l es=some k→∀ a b,a<b→b<es.length→es.getD a 0<es.getD b 0:=by
 induction es with
 | nil=>intro l k h a b hab hb;simp at hb
 | cons e r ih =>
  intro l k h a b hab hb;simp only[Za2]at h
  split at h
  ·cases h
  ·cases b with
   | zero=>omega
   | succ b =>
    cases a with
    | zero=>have:=Zi6 r e k h b (by simpa using hb);simpa using this
    | succ a=>have:=ih e k h a b (by omega) (by simpa using hb);simpa using this
theorem Zs8 (es:List Int):∀ l k,Za2 l es=some k→(es=[]∧k=l)∨k∈es:=by
 induction es with
 | nil=>intro l k h;simp[Za2]at h;exact .inl ⟨rfl,h.symm⟩
 | cons e r ih =>
  intro l k h;simp only[Za2]at h
  split at h
  ·cases h
  ·rcases ih e k h with ⟨h1,h2⟩ | h1
   ·subst h2;exact .inr (by simp)
   ·exact .inr (by simp[h1])
theorem Ze2 {es:List Int} {k:Int} (h:Zax es k=true) (t:Int) (h0:0<t) (ht:t≤k):Zb8 es t<es.length:=by
 have h1:Za2 0 es=some k:=by simpa [Zax]using h
 unfold Zb8;rw[List.findIdx_lt_length];rcases Zs8 es 0 k h1 with ⟨h2,h3⟩ | h2
 ·omega
 ·exact⟨k,h2,by simpa using ht⟩
theorem Ze9 {es:List Int} {k:Int} (h:Zax es k=true):∀ a b,a<b→b<es.length→es.getD a 0<es.getD b 0:=by
 have h1:Za2 0 es=some k:=by simpa [Zax]using h
 exact Zuw es 0 k h1
theorem Zfm {xs:List Nat} (h:∀ x∈xs,x<256):∀ x∈Za6 xs,x<18446744073709551616:=by unfold Za6;exact Zdu (Zc8 h) (by omega)
theorem Zpy (c:Nat) (xs:List Nat) (hl:xs.length≤16777216):(numL 4 (tk c xs)).length≤16777216:=by
 rw[Zal];unfold tk;split
 ·rw[List.length_take];omega
 ·simp
theorem Zs9 (rows:Nat) (xs:List Nat) (hb:∀ x∈xs,x<256) (hl:xs.length≤16777216) (hrr:rows≤65536) (h:Zc1 rows xs=true):Valid_I rows xs:=by
 unfold Zc1 Zgk at h;simp only[Bool.and_eq_true,Bool.not_eq_true',decide_eq_true_eq]at h;obtain⟨⟨hpk,hcd⟩,hOb,hOs,hOl⟩:=h;have hnl:=((Zbl (wd:=1) (n:=rows) _ (by decide) hrr).1 hpk).1;rw[Zjp]at hnl;have hx3:(Zaa rows xs).left.length≤16777216:=Nat.le_trans (Zbn _ _) (Nat.le_trans (Zbn _ _) (Nat.le_trans (Zbn _ _) hl));have hb3:∀ x∈(Zaa rows xs).left,x<256:=Zas (Zas (Zas hb));have hnv:∀ x∈(Zaa rows xs).nulls,x<18446744073709551616:=Zdu (Zc8 (Zas (Zas hb))) (by omega);have key:(Zao rows xs).list.length≤16777216∧(Zao rows xs).ends.length≤16777216∧(∀ x∈(Zao rows xs).lanes,x<18446744073709551616) ∧
   ∀ j,j<Zbd rows (Zaa rows xs).nulls→Zox (Zaa rows xs).codec (Zaa rows xs).wd (Zao rows xs).list (Zao rows xs).ends (Zao rows xs).lanes j:=by
  unfold Zao at *;generalize Zbd rows (Zaa rows xs).nulls=k at *;generalize (Zaa rows xs).left=x3 at *;generalize (Zaa rows xs).short=t3 at *;generalize (Zaa rows xs).codec=cd at *;generalize (Zaa rows xs).wd=wd at *;have hcdk:1≤cd∧cd≤5:=by
   unfold Zbi at hcd
   split at hcd
   ·omega
   ·simp only[decide_eq_true_eq]at hcd;omega
  unfold Zbc at *;by_cases h1:cd=1
  ·subst h1;rw[if_pos rfl]at *;unfold Zbu at *;simp only[Bool.and_eq_true,decide_eq_true_eq]at *;have hf:=Zen hOb.1 hOs;exact⟨Ziq _ _ _ hx3,by simp,by simp,fun j hj=>.inr (.inl ⟨rfl,by rw[hf];exact hj⟩)⟩
  by_cases h2:cd=2
  ·subst h2;rw[if_neg (by decide),if_pos rfl]at *;unfold Zbv at *
   split at hOb
   ·cases hOb
   ·rename_i hc
    rw[if_neg hc]at *;have hxl1:(tkL 4 x3).length≤16777216:=Nat.le_trans (Zbn _ _) hx3;have hxb1:∀ x∈tkL 4 x3,x<256:=Zas hb3;have hrl:=Ziq (L.wordOf 8 (tk 4 x3)) (tkL 4 x3) (tkS 4 x3 t3) hxl1;have hrb:=(Zel (L.wordOf 8 (tk 4 x3)) (tkL 4 x3) (tkS 4 x3 t3)).2 256 hxb1;have hfl:=@Zen (L.wordOf 8 (tk 4 x3)) (tkL 4 x3) (tkS 4 x3 t3);generalize rdI (L.wordOf 8 (tk 4 x3)) (tkL 4 x3) (tkS 4 x3 t3)=R at *;generalize L.wordOf 8 (tk 4 x3)=d at *;obtain⟨vals,ok,xl,s1⟩:=R;simp only at *
    split at hOb
    ·rename_i hoa
     rw[if_pos hoa]at *;simp only at *;obtain⟨l1,l2,l3,l4⟩:=Zce hOb;have hs1:=(Zb7 hOs).2;have hvl:=hfl (by simp only[Bool.and_eq_true]at hoa;exact hoa.1) hs1;refine⟨hrl,by simp,Zfm hrb,fun j hj=>.inr (.inr (.inl ⟨rfl,?_,l1,fun h0=>Zhe l1 l3 j hj h0⟩))⟩;have:=l4 j hj;unfold Zcc at this;simp at this;omega
    ·cases hOb
  by_cases h3:cd=3
  ·subst h3;rw[if_neg (by decide),if_neg (by decide),if_pos rfl]at *;unfold Zbp at *
   split at hOb
   ·cases hOb
   ·rename_i hc
    rw[if_neg hc]at *;have hxl1:(tkL 4 x3).length≤16777216:=Nat.le_trans (Zbn _ _) hx3;have hxl2:(tkL (4*L.wordOf 8 (tk 4 x3)) (tkL 4 x3)).length≤16777216:=Nat.le_trans (Zbn _ _) hxl1;have hrl:=Ziq (L.wordOf 8 (tk 4 x3)) (tkL (4*L.wordOf 8 (tk 4 x3)) (tkL 4 x3)) (tkS (4*L.wordOf 8 (tk 4 x3)) (tkL 4 x3) (tkS 4 x3 t3)) hxl2;have hfl:=@Zen (L.wordOf 8 (tk 4 x3)) (tkL (4*L.wordOf 8 (tk 4 x3)) (tkL 4 x3)) (tkS (4*L.wordOf 8 (tk 4 x3)) (tkL 4 x3) (tkS 4 x3 t3));have hsh:=Zjy (L.wordOf 8 (tk 4 x3)) (tkL (4*L.wordOf 8 (tk 4 x3)) (tkL 4 x3)) (tkS (4*L.wordOf 8 (tk 4 x3)) (tkL 4 x3) (tkS 4 x3 t3));have hen:=Zpy (4*L.wordOf 8 (tk 4 x3)) (tkL 4 x3) hxl1;have hel:tkS (4*L.wordOf 8 (tk 4 x3)) (tkL 4 x3) (tkS 4 x3 t3)=false→(numL 4 (tk (4*L.wordOf 8 (tk 4 x3)) (tkL 4 x3))).length=L.wordOf 8 (tk 4 x3):=fun h=>by
     rw[Zal,Zke (Zb7 h).1];omega
    generalize rdI (L.wordOf 8 (tk 4 x3)) (tkL (4*L.wordOf 8 (tk 4 x3)) (tkL 4 x3)) (tkS (4*L.wordOf 8 (tk 4 x3)) (tkL 4 x3) (tkS 4 x3 t3))=R at *;generalize numL 4 (tk (4*L.wordOf 8 (tk 4 x3)) (tkL 4 x3))=es at *;generalize tkS (4*L.wordOf 8 (tk 4 x3)) (tkL 4 x3) (tkS 4 x3 t3)=s2 at *;generalize L.wordOf 8 (tk 4 x3)=d at *;obtain⟨vals,ok,xl,s1⟩:=R;simp only[Bool.and_eq_true]at *;have hvl:=hfl hOb.1 hOs;have hed:=hel (hsh hOs);have hre:Zax (nI es) k=true:=by
     cases hx:Zax (nI es) k with
     | true=>rfl
     | false=>exact absurd (.inr hx) hc
    refine⟨hrl,hen,by simp,fun j hj=>.inr (.inr (.inr ⟨rfl,?_,Ze9 hre⟩))⟩;have:=Ze2 hre ((j:Int)+1) (by omega) (by omega);rw[Zaq,hed]at this;rw[hvl];exact this
  ·rw[if_neg h1,if_neg h2,if_neg h3]at *;have h45:cd=4∨cd=5:=by omega
   rcases h45 with rfl | rfl
   ·rw[if_pos rfl]at *;unfold Zdm at *;simp only at *;obtain⟨l1,l2,l3,l4⟩:=Zce hOb;exact⟨by simp,by simp,Zfm (Zas hb3),fun j hj=>.inl ⟨.inl rfl,l1,fun h0=>Zhe l1 l3 j hj h0⟩⟩
   ·rw[if_neg (by decide)]at *;unfold Zdm at *;simp only at *;obtain⟨l1,l2,l3,l4⟩:=Zce hOb;exact⟨by simp,by simp,Zfm hb3,fun j hj=>.inl ⟨.inr rfl,l1,fun h0=>Zhe l1 l3 j hj h0⟩⟩
 exact⟨hnl,hnv,key.1,key.2.1,key.2.2.1,key.2.2.2⟩
end Go.Proofs.YtmcjknjlihgihaaGreatDoor
