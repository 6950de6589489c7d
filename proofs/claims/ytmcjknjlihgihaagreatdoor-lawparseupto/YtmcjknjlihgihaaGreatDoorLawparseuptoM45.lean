/- The directory, read by the code. -/
import Derived.Test.YtmcjknjlihgihaaGreatDoorLawparseuptoM41
set_option linter.unusedVariables false
set_option linter.unusedSimpArgs false
set_option linter.unnecessarySimpa false
set_option maxRecDepth 20000
namespace Go.Proofs.YtmcjknjlihgihaaGreatDoor
open Go.RowKit
def Zr2:ByteArray:={ data:=#[67,83,73,49] }
theorem Z1o:Zr2.toList=[67,83,73,49]:=by decide +kernel
theorem Zyh {xs:List Nat} (h:16≤xs.length) (hb:∀ x∈xs,x<256):(Zat (tk 4 xs)).toList=Zr2.toList↔nAt 4 0 xs=826889027:=by
 obtain⟨a,b,c,d,r,rfl⟩:∃ a b c d r,xs=a :: b :: c :: d :: r:=by
  match xs,h with
  | a :: b :: c :: d :: r,_=>exact⟨a,b,c,d,r,rfl⟩
 have ha:=hb a (by simp);have hb':=hb b (by simp);have hc:=hb c (by simp);have hd:=hb d (by simp);have e1:tk 4 (a :: b :: c :: d :: r)=[a,b,c,d]:=by unfold tk;rw[if_pos (by simp)];rfl
 have e2:nAt 4 0 (a :: b :: c :: d :: r)=a+256*b+65536*c+16777216*d:=by
  unfold nAt Zb8;rw[if_pos (decide_eq_true ⟨by omega,by simp⟩)]
  show L.wordOf 8 [a,b,c,d]=_
  simp[L.wordOf];omega
 have e3:Zr2.toList=(Zat [67,83,73,49]).toList:=by decide +kernel
 rw[e1,e2,e3];constructor
 ·intro h;have:=Zip (by simp;omega) (by simp) h;simp at this;omega
 ·intro h;have:a=67∧b=83∧c=73∧d=49:=by omega
  obtain⟨rfl,rfl,rfl,rfl⟩:=this;rfl
def kC (xs:List Nat):Nat:=L.wordOf 8 (tk 4 (tkL 4 xs))
def kG (xs:List Nat):Nat:=L.wordOf 8 (tk 4 (tkL 4 (tkL 4 xs)))
def kR (xs:List Nat):Nat:=L.wordOf 8 (tk 4 (tkL 4 (tkL 4 (tkL 4 xs))))
def kIn (xs:List Nat):Bool:=((Zat (tk 4 xs)).toList==Zr2.toList)&&(decide (1≤kC xs)&&(decide (kC xs≤16)&&(decide (kG xs≤256)&&decide (kR xs≤65536))))
theorem Ztl {xs:List Nat} {p:Nat} (h:p+4≤xs.length):L.wordOf 8 (tk 4 (xs.drop p))=nAt 4 p xs:=(Zes h).1
theorem Znt {xs:List Nat} (h:16≤xs.length):kC xs=iC xs∧kG xs=iG xs∧kR xs=iR xs:=by
 have e0:tkL 4 xs=xs.drop 4:=by
  have:=(Zes (xs:=xs) (p:=0) (size:=4) (by omega)).2
  rwa [List.drop_zero,Nat.zero_add]at this
 have e1:tkL 4 (xs.drop 4)=xs.drop 8:=(Zes (by omega)).2;have e2:tkL 4 (xs.drop 8)=xs.drop 12:=(Zes (by omega)).2;unfold kC kG kR iC iG iR;rw[e0,e1,e2];exact⟨Ztl (by omega),Ztl (by omega),Ztl (by omega)⟩
theorem Zze {xs:List Nat} (hb:∀ x∈xs,x<256):Zf3 xs=(kIn xs&&decide (iD (kC xs) (kG xs)≤xs.length)):=by
 by_cases h:16≤xs.length
 ·obtain⟨h1,h2,h3⟩:=Znt h;unfold Zf3 kIn;rw[h1,h2,h3];have hm:=Zyh h hb;rw[Bool.eq_iff_iff];simp only[Bool.and_eq_true,decide_eq_true_eq,beq_iff_eq];constructor
  ·rintro⟨_,a,⟨b1,b2⟩,c,d,e⟩;exact⟨⟨hm.2 a,b1,b2,c,d⟩,e⟩
  ·rintro⟨⟨a,b1,b2,c,d⟩,e⟩;exact⟨h,hm.1 a,⟨b1,b2⟩,c,d,e⟩
 ·have e1:Zf3 xs=false:=by unfold Zf3;rw[decide_eq_false h,Bool.false_and]
  have e2:¬ iD (kC xs) (kG xs)≤xs.length:=by unfold iD;omega
  rw[e1,decide_eq_false e2,Bool.and_false]
theorem k_lt {xs:List Nat} (hb:∀ x∈xs,x<256):kC xs<4294967296∧kG xs<4294967296∧kR xs<4294967296 :=
 ⟨Zb0 _ (Zdh (Zau hb)) (Zit 4 _),Zb0 _ (Zdh (Zau (Zau hb))) (Zit 4 _),Zb0 _ (Zdh (Zau (Zau (Zau hb)))) (Zit 4 _)⟩
theorem Zwm {xs:List Nat} (h:16≤xs.length):tkL 4 (tkL 4 (tkL 4 (tkL 4 xs)))=xs.drop 16∧tkS 4 (tkL 4 (tkL 4 (tkL 4 xs))) (tkS 4 (tkL 4 (tkL 4 xs)) (tkS 4 (tkL 4 xs) (tkS 4 xs false)))=false:=by
 have e0:tkL 4 xs=xs.drop 4:=by
  have:=(Zes (xs:=xs) (p:=0) (size:=4) (by omega)).2
  rwa [List.drop_zero,Nat.zero_add]at this
 have e1:tkL 4 (xs.drop 4)=xs.drop 8:=(Zes (by omega)).2;have e2:tkL 4 (xs.drop 8)=xs.drop 12:=(Zes (by omega)).2;have e3:tkL 4 (xs.drop 12)=xs.drop 16:=(Zes (by omega)).2;have s0:tkS 4 xs false=false:=by unfold tkS;rw[if_pos (by omega)]
 rw[e0,e1,e2,e3,s0,Zrv (by omega),Zrv (by omega),Zrv (by omega)];exact⟨rfl,rfl⟩
def Zyd (xs:List Nat) (w:World) (e:Ending) (w':World):Prop:=Below w.heap.size w w' ∧
 ((Zf6 xs=true∧∃ kv gv,e=.returned (.tuple #[.agg #[kv,gv],.bool true])∧w'.ownsRow w.heap.size 3 1 kv (iC xs) (i64s (nI (iKs (iC xs) xs)))∧GsIn w' gv (iC xs) (iG xs) xs) ∨
 (Zf6 xs=false∧∃ A n c A2 n2 c2,e=.returned (.tuple #[.agg #[.slice A n c,.slice A2 n2 c2],.bool false])))
structure D1 (w wa:World) (r0 g s:Nat) (C:Nat) (xs:List Nat) (p:Nat) (k:Nat) (kv gv:Value) (es:List Ent) (wr:World):Prop where
 rd:Zaq wa wr g (xs.drop p) false
 r:Row wr r0 101 [.slice none 0 0,.slice none 0 0]
 d:Row wr s 101 [kv,gv]
 own:wr.ownsRow (s+1) 3 1 kv k (i64s (nI ((xs.drop 16).take k)))
 gs:Nest wr (s+1) 106 2 gv es 108 4 (fun _=>C) (fun i=>ensV xs (gP C i+4) C)
 hd:∀ i,i<es.length→(es.getD i Ent.df).1=[.int .i64 (Zap C xs i:Nat)]
 bel:Below r0 w wr
 h1:r0<g
 h2:g<s
 h3:s<wr.heap.size
theorem D1.mono {w wa:World} {r0 g s C:Nat} {xs:List Nat} {p k:Nat} {kv gv:Value} {es:List Ent} {wr wr':World} (h:D1 w wa r0 g s C xs p k kv gv es wr) (hb:Below wr.heap.size wr wr'):D1 w wa r0 g s C xs p k kv gv es wr' :=
 ⟨h.rd.mono hb,h.r.mono hb,h.d.mono hb,Zah h.own hb,h.gs.mono hb,h.hd,h.bel.trans (hb.mono (by have:=h.h1;have:=h.h2;have:=h.h3;omega)),h.h1,h.h2,Nat.lt_of_lt_of_le h.h3 hb.size⟩
theorem D1.read {w wa:World} {r0 g s C:Nat} {xs:List Nat} {p q k:Nat} {kv gv:Value} {es:List Ent} {wr wr':World} (h:D1 w wa r0 g s C xs p k kv gv es wr) (hr:Zaq wa wr' g (xs.drop q) false) (hc:Chg g g wr wr'):D1 w wa r0 g s C xs q k kv gv es wr':=by
 have h1:=h.h1;have h2:=h.h2;have h3:=h.h3;exact⟨hr,hc.row h.r (by omega) (by omega),hc.row h.d (by omega) (by omega),Zcp h.own hc (fun k hk=>by have:=(h.own.lt k hk).1;omega),h.gs.low hc (by omega) (by omega),h.hd,hc.below h.bel (by omega) (by omega) (by omega),h1,h2,Nat.lt_of_lt_of_le h3 hc.size⟩
theorem D1.kind {w wa wq w9:World} {r0 g s C:Nat} {xs:List Nat} {q k kd:Nat} {kv v9:Value} (h:D1 w wa r0 g s C xs q k kv (.slice none 0 0) [] wq) (hb:Below (s+1) wq w9)
  (ho:w9.ownsRow (s+1) 3 1 v9 (k+1) (i64s (nI ((xs.drop 16).take k))++[.int .i64 (kd:Nat)])) (hk:(xs.drop 16).take (k+1)=(xs.drop 16).take k++[kd]):D1 w wa r0 g s C xs q (k+1) v9 (.slice none 0 0) [] (w9.setCell ⟨s,0,none⟩ v9):=by
 have h1:=h.h1;have h2:=h.h2;have h3:=h.h3;have hc:=(Chg.refl s s w9).setCell s 0 v9 (.inl rfl);have hd:=(h.d.below hb (by omega)).set 0 v9;refine⟨(h.rd.low hb (by omega)).chg hc (by omega) (by omega) (by have:=h.rd.1;omega) (by have:=h.rd.1;omega),hc.row (h.r.below hb (by omega)) (by omega) (by omega),hd,?_,Nest.nil _ _ _ _ _ _ _ _,h.hd,?_,h1,h2,hd.lt⟩
 ·rw[hk,Zek,Ze5];exact Zcp ho hc (fun k hk=>by have:=(ho.lt k hk).1;omega)
 ·exact Zad (h.bel.trans (hb.mono (by omega))) s 0 v9 (by omega)
theorem D1.group {w wa wr wq w9:World} {r0 g s C:Nat} {xs:List Nat} {p q k:Nat} {kv gv ev v9:Value} {es:List Ent} (h:D1 w wa r0 g s C xs p k kv gv es wr) (hr:Zaq wa wq g (xs.drop q) false) (hc:Chg g g wr wq)
  (he:wq.ownsRow wr.heap.size 108 4 ev C (ensV xs (gP C es.length+4) C)) (hb:Below (s+1) wq w9) (hk:Kp gv wq w9 v9)
  (ho:w9.ownsRow (s+1) 106 2 v9 (es.length+1) (entV es++[.int .i64 (Zap C xs es.length:Nat),ev])):D1 w wa r0 g s C xs q k kv v9 (es++[([.int .i64 (Zap C xs es.length:Nat)],ev)]) (w9.setCell ⟨s,1,none⟩ v9):=by
 have h1:=h.h1;have h2:=h.h2;have h3:=h.h3;have hq:=h.read hr hc;have hcs:=(Chg.refl s s w9).setCell s 1 v9 (.inl rfl);have hd:=(hq.d.below hb (by omega)).set 1 v9;have hn:Nest w9 (s+1) 106 2 v9 (es++[([.int .i64 (Zap C xs es.length:Nat)],ev)]) 108 4 (fun _=>C) (fun i=>ensV xs (gP C i+4) C) :=
  hq.gs.push (w0:=wr) (by decide) hc.size (fun i hi k hk=>((h.gs.inn i hi).lt k hk).2) (by omega) he rfl rfl ho hk
 refine⟨(hq.rd.low hb (by omega)).chg hcs (by omega) (by omega) (by have:=hq.rd.1;omega) (by have:=hq.rd.1;omega),hcs.row (hq.r.below hb (by omega)) (by omega) (by omega),hd,?_,hn.low hcs (by omega) (by omega),?_,?_,h1,h2,hd.lt⟩
 ·have h5:w9.ownsRow (s+1) 3 1 kv k (i64s (nI ((xs.drop 16).take k))):=Za5 hq.own fun k hv=>hk.1 k (hq.own.lt k hv).2 fun he2=>Zcr hq.own hq.gs.own (by decide) k hv he2.symm
  exact Zcp h5 hcs (fun k hk=>by have:=(h5.lt k hk).1;omega)
 ·intro i hi;rw[Zeb];by_cases h6:i<es.length
  ·rw[if_pos h6];exact hq.hd i h6
  ·rw[if_neg h6];have h7:i=es.length:=by simp at hi;omega
   rw[if_pos h7,h7]
 ·exact Zad (hq.bel.trans (hb.mono (by omega))) s 1 v9 (by omega)
theorem Zbb (w:World) (p q i:Nat) (a b:Value) (h:p≠q):((w.setCell ⟨p,0,none⟩ a).setCell ⟨p,1,none⟩ b).cell? ⟨q,i,none⟩=w.cell? ⟨q,i,none⟩ :=
 World.cell?_of_block (by rw[heap_setCell_other _ _ _ _ (by simpa using h.symm),heap_setCell_other _ _ _ _ (by simpa using h.symm)])
theorem Za3 (w:World) (p q i:Nat) (a b:Value) (h:p≠q):((w.setCell ⟨p,0,none⟩ a).setCell ⟨p,1,none⟩ b).drew.cell? ⟨q,i,none⟩=w.cell? ⟨q,i,none⟩:=Zbb w p q i a b h
theorem Zxh {wr:World} {B C:Nat} {xs:List Nat} {gv:Value} {es:List Ent} (hn:Nest wr B 106 2 gv es 108 4 (fun _=>C) (fun i=>ensV xs (gP C i+4) C)) (hd:∀ i,i<es.length→(es.getD i Ent.df).1=[.int .i64 (Zap C xs i:Nat)]):GsIn wr gv C es.length xs:=by
 have hr:=Zby hn.own;have hsz:∀ q∈es,q.1.length+1=2:=by
  intro q hq;obtain⟨i,hi,rfl⟩:=List.getElem_of_mem hq;have:=hd i hi;have e2:es.getD i Ent.df=es[i]:=by simp[List.getD,hi]
  rw[e2]at this;rw[this];rfl
 obtain⟨A,cap,rfl,h1,h2,h3⟩:=hr.form;refine⟨A,cap,rfl,h1,h2,fun i hi=>?_⟩;obtain⟨b,o,hA,hs⟩:=h3 (by omega);have g0:=Zln es hsz i hi 0 (by omega);have g1:=Zln es hsz i hi 1 (by omega);rw[hd i hi]at g0 g1;refine⟨b,o,(es.getD i Ent.df).2,hA,hs _ _ g0,hs _ _ g1,Zby (hn.inn i hi)⟩
set_option maxHeartbeats 4000000 in
theorem Zka (v:Value) (xs:List Nat) (w:World) (hv:Rd w v xs.length 1 (u8s xs)) (hb:∀ x∈xs,x<256) (hl:xs.length≤16777216) :
  Calls Tryz.prog 46 #[v] w (Zyd xs w):=by
 obtain⟨ANS,hANS⟩:∃ ANS,Zyd xs w=ANS:=⟨_,rfl⟩;have Qj:=hid hANS;rw[hANS];clear hANS;have ZH:=hid (Zze hb);have hk:=k_lt hb;have X9:=hid (fun(w2:World) (h:Below w.heap.size w w2)=>Zeu w2 v xs (hv.mono h));have JC:=hid (fun(w0 w2:World) (g:Nat) (h:Zaq w0 w2 g xs false)=>Zfs w0 w2 g xs false 4 h hl (by omega));have HU1:=hid (fun(w0 w2:World) (g:Nat) (h:Zaq w0 w2 g (tkL 4 xs) (tkS 4 xs false))=>Zff w0 w2 g _ _ h (Zau hb) (Zef hl));have HU2:=hid (fun(w0 w2:World) (g:Nat) (h:Zaq w0 w2 g (tkL 4 (tkL 4 xs)) (tkS 4 (tkL 4 xs) (tkS 4 xs false)))=>Zff w0 w2 g _ _ h (Zau (Zau hb)) (Zef (Zef hl)));have HU3:=hid (fun(w0 w2:World) (g:Nat) (h:Zaq w0 w2 g (tkL 4 (tkL 4 (tkL 4 xs))) (tkS 4 (tkL 4 (tkL 4 xs)) (tkS 4 (tkL 4 xs) (tkS 4 xs false))))=>Zff w0 w2 g _ _ h (Zau (Zau (Zau hb))) (Zef (Zef (Zef hl))));have HV:=hid hv;have HB:=hid hb;obtain⟨A0,c0,rfl,hlc0,hcm0,_⟩:=hv.form;clear hv hb;go_enter Tryz.func46,Tryz.ntmps46;go_upto_region 1 with fail
 have hf:=Zbe (w:=w) (C:=#[.slice none 0 0,.slice none 0 0]) (e:=101);have Qg:=hid hf.1;have Qh:=hid hf.2;clear hf;generalize w.alloc (.cells #[.slice none 0 0,.slice none 0 0] 101)=wa at *;go_upto_region 2 with (go_at_call 79;refine(X9.out wa Qh.out).mono ?_;rintro e w1 ⟨rfl,hrd,hb1,hz1⟩;have UU:=hid hrd;have Qa:=hid hb1;have Qy:=hid hz1;clear hrd hb1 hz1)
 go_upto_region 3 with (go_at_call 80;refine(JC.out wa w1 wa.heap.size UU.out).mono ?_;rintro e w2 ⟨t,rfl,hrt,hrd,hch⟩;have HRT:=hid (Zd9 (hrt.mono hrd.2.1));have Ye:=hid hrd;have QF:=hid hch;have hcv:=HRT.out;clear hrt hrd hch)
 clear hcv;go_upto_region 4 with (first
  | (go_at_call 81;refine(HU1.out wa w2 wa.heap.size Ye.out).mono ?_;rintro e w3 ⟨rfl,hrd,hch⟩;have HRD3:=hid hrd;have Y9:=hid (QF.out.trans hch);clear hrd hch)
  | (go_at_call 81;refine(HU2.out wa w3 wa.heap.size HRD3.out).mono ?_;rintro e w4 ⟨rfl,hrd,hch⟩;have HRD4:=hid hrd;have HCH4:=hid (Y9.out.trans hch);clear hrd hch)
  | (go_at_call 81;refine(HU3.out wa w4 wa.heap.size HRD4.out).mono ?_;rintro e w5 ⟨rfl,hrd,hch⟩;have J9:=hid hrd;have VV:=hid (HCH4.out.trans hch);clear hrd hch))
 have JM:Hid (L.wordOf 8 (tk 4 (tkL 4 xs))=kC xs):=hid rfl;have XS:Hid (L.wordOf 8 (tk 4 (tkL 4 (tkL 4 xs)))=kG xs):=hid rfl;have Qk:Hid (L.wordOf 8 (tk 4 (tkL 4 (tkL 4 (tkL 4 xs))))=kR xs):=hid rfl;rw[JM.out,XS.out,Qk.out];have JA:Hid (kIn xs=(((Zat (tk 4 xs)).toList==Zr2.toList)&&(decide (1≤kC xs)&&(decide (kC xs≤16)&&(decide (kG xs≤256)&&decide (kR xs≤65536)))))):=hid rfl;obtain⟨hk1,hk2,hk3⟩:=hk;clear JM XS Qk HU1 HU2 HU3 JC X9 Ye HRD3 HRD4 QF Y9 HCH4 HRT UU;have HC16:=hid (fun h:16≤xs.length=>Znt h);have Jy:=hid (fun h:16≤xs.length=>Zwm h);generalize kC xs=kc at *;generalize kG xs=kg at *;generalize kR xs=kr at *;generalize kIn xs=kin at *;generalize Zat (tk 4 xs)=mg at *;go_cut [38]from 21 to 38 (fun s38 wc=>s38=.bool (!kin)∧wc=w5)
 case first =>
  have hkin:=JA.out;rw[Z1o]at hkin;subst hkin;clear JA;have hml:mg.toList=[67,83,73,49]∨(mg.toList==[67,83,73,49])=false:=by
   cases h:(mg.toList==[67,83,73,49])
   ·exact .inr rfl
   ·exact .inl (beq_iff_eq.1 h)
  have h1:1≤kc∨kc<1:=by omega
  have h2:kc≤16∨16<kc:=by omega
  have h3:kg≤256∨256<kg:=by omega
  have h4:kr≤65536∨65536<kr:=by omega
  go_wp2_with fail
  all_goals go_meet
  all_goals refine⟨?_,rfl⟩
  all_goals (congr 1)
  all_goals first
   | (simp[*];done)
   | (simp only[*,Bool.false_and,Bool.not_false,Bool.true_and,beq_self_eq_true];rw[Bool.eq_iff_iff];simp;omega)
 case rest =>
 obtain⟨rfl,hw⟩:=hcut;replace hw:=hw.symm;subst hw;have VM:Hid (kin=true→1≤kc∧kc≤16∧kg≤256∧kr≤65536):=hid (fun h=>by
  have h2:=JA.out;rw[h]at h2;have h3:=h2.symm;simp only[Bool.and_eq_true,decide_eq_true_eq]at h3;exact⟨h3.2.1,h3.2.2.1,h3.2.2.2.1,h3.2.2.2.2⟩)
 clear JA;obtain⟨g,hg⟩:∃ g,wa.heap.size=g:=⟨_,rfl⟩;obtain⟨r0,hr0⟩:∃ r0,w.heap.size=r0:=⟨_,rfl⟩;have hrg:r0<g:=by rw[← hg,← hr0];exact Qg.out.lt
 have HG:Hid (w.heap.size=r0∧wa.heap.size=g):=hid ⟨hr0,hg⟩;have Jd:Hid (Row w5 r0 101 [.slice none 0 0,.slice none 0 0]):=hid (by
  have h1:=Qg.out.mono Qa.out;have:=VV.out.row h1 (by omega) (by omega);rw[← hr0];exact this)
 have Q1:Hid (Below r0 w w5):=hid (by
  have h1:Below r0 w w1:=by
   have h2:Below w.heap.size w w1:=Qh.out.trans (Qa.out.mono Qh.out.size);rw[← hr0];exact h2
  exact VV.out.below h1 (by have:=h1.size;omega) (by omega) (by omega))
 rw[hg]at J9 VV;rw[hg,hr0];clear Qg hg hr0 Qa;have FAIL:Hid (Zf6 xs=false→∀(A:Option Addr) (n c:Nat) (A2:Option Addr) (n2 c2:Nat) (w9:World),Below r0 w w9→ANS (.returned (.tuple #[.agg #[.slice A n c,.slice A2 n2 c2],.bool false])) w9):=hid (fun h A n c A2 n2 c2 w9 hb9=>by
  rw[← Qj.out];exact⟨by rw[HG.out.1];exact hb9,.inr ⟨h,A,n,c,A2,n2,c2,rfl⟩⟩)
 have z0:=Jd.out.cell 0;have z1:=Jd.out.cell 1;have f0:=Jd.out.frozen 0;have f1:=Jd.out.frozen 1;cases kin
 ·have Q8:Hid (Zf6 xs=false):=hid (by unfold Zf6;rw[ZH.out];rfl);go_wp2_with fail
  have Q0:=hid ((Jd.out.set 0 (.slice none 0 0)).set 1 (.slice none 0 0));have QQ:Hid (Below r0 w ((w5.setCell ⟨r0,0,none⟩ (.slice none 0 0)).setCell ⟨r0,1,none⟩ (.slice none 0 0))):=hid (Zad (Zad Q1.out _ _ _ (Nat.le_refl _)) _ _ _ (Nat.le_refl _));clear z0 z1 f0 f1;generalize (w5.setCell ⟨r0,0,none⟩ (.slice none 0 0)).setCell ⟨r0,1,none⟩ (.slice none 0 0)=wz at *;have y0:=Q0.out.cell 0;have y1:=Q0.out.cell 1;simp at y0 y1;refine bodyPost_ret (v:=.tuple #[.agg #[.slice none 0 0,.slice none 0 0],.bool false]) ?_ rfl (FAIL.out Q8.out _ _ _ _ _ _ _ QQ.out);simp[results,Tryz.results46,go_sem,y0,y1]
 obtain⟨hc1,hc2,hc3,hc4⟩:=VM.out rfl;clear VM;have HDS:=hid (Zjy kc kg w5 hc2 hc3);by_cases hlen:iD kc kg≤xs.length
 rotate_left
 ·have Q8:Hid (Zf6 xs=false):=hid (by unfold Zf6;rw[ZH.out,decide_eq_false hlen];rfl);have hlt:(xs.length:Int)<(iD kc kg:Nat):=by omega
  go_wp2_with (go_at_call 66;refine HDS.out.mono ?_;rintro e w6 ⟨rfl,hw⟩;replace hw:=hw.symm;subst hw)
  have Q0:=hid ((Jd.out.set 0 (.slice none 0 0)).set 1 (.slice none 0 0));have QQ:Hid (Below r0 w ((w5.setCell ⟨r0,0,none⟩ (.slice none 0 0)).setCell ⟨r0,1,none⟩ (.slice none 0 0))):=hid (Zad (Zad Q1.out _ _ _ (Nat.le_refl _)) _ _ _ (Nat.le_refl _));clear z0 z1 f0 f1;generalize (w5.setCell ⟨r0,0,none⟩ (.slice none 0 0)).setCell ⟨r0,1,none⟩ (.slice none 0 0)=wz at *;have y0:=Q0.out.cell 0;have y1:=Q0.out.cell 1;simp at y0 y1;refine bodyPost_ret (v:=.tuple #[.agg #[.slice none 0 0,.slice none 0 0],.bool false]) ?_ rfl (FAIL.out Q8.out _ _ _ _ _ _ _ QQ.out);simp[results,Tryz.results46,go_sem,y0,y1]
 have h16:16≤xs.length:=by unfold iD at hlen;omega
 obtain⟨rfl,rfl,rfl⟩:=HC16.out h16;have HHD2:Hid (Zf6 xs=(Zg1 (iC xs) xs&&Zc1 (iC xs) (iG xs) (iR xs) xs)):=hid (by unfold Zf6;rw[ZH.out,decide_eq_true hlen];rfl);rw[(Jy.out h16).1,(Jy.out h16).2]at J9;have Yw:=hid hlen;have hnlt:¬ (xs.length:Int)<(iD (iC xs) (iG xs):Nat):=by omega
 clear Jy HC16 ZH hlen;obtain⟨C,hC⟩:∃ C,iC xs=C:=⟨_,rfl⟩;obtain⟨G,hG⟩:∃ G,iG xs=G:=⟨_,rfl⟩;obtain⟨R,hR⟩:∃ R,iR xs=R:=⟨_,rfl⟩;have HCGR:=hid (And.intro hC (And.intro hG hR));rw[hC,hG]at hnlt HDS Yw;rw[hC,hG,hR]at HHD2;rw[hC]at hc1 hc2 hk1;rw[hG]at hc3 hk2;rw[hR]at hc4 hk3;rw[hC,hG,hR];clear hC hG hR;go_upto_region 9 with (go_at_call 66;refine HDS.out.mono ?_;rintro e w6 ⟨rfl,hw⟩;replace hw:=hw.symm;subst hw)
 generalize decide (xs.length<iD C G)=dq at *;have hf:=Zbe (w:=w5) (C:=#[.slice none 0 0,.slice none 0 0]) (e:=101);have QZ:Hid (D1 w wa r0 g w5.heap.size C xs 16 0 (.slice none 0 0) (.slice none 0 0) [] (w5.alloc (.cells #[.slice none 0 0,.slice none 0 0] 101))):=hid
  ⟨J9.out.mono hf.2,Jd.out.mono hf.2,hf.1,by simpa [i64s,nI]using World.ownsRow_nil _ _ _ _,Nest.nil _ _ _ _ _ _ _ _,fun i h=>(by cases h),Q1.out.trans (hf.2.mono (by have:=J9.out.lt;omega)),hrg,J9.out.lt,by simp⟩
 have hgl:=J9.out.lt;clear hf J9 Jd Q1 HDS z0 z1 f0 f1 VV;obtain⟨s,hs⟩:∃ s,w5.heap.size=s:=⟨_,rfl⟩;rw[hs]at QZ ⊢;generalize w5.alloc (.cells #[.slice none 0 0,.slice none 0 0] 101)=w6 at *;clear hs hgl;have hxl16:16+C≤xs.length:=by have:=Yw.out;unfold iD at this;omega
 have YT:=hid (fun(k:Nat) (hk:k<C) (w2:World) (h:Zaq wa w2 g (xs.drop (16+k)) false)=>Z0q wa w2 g (16+k) xs h (by omega) HB.out hl);have YE:=hid (fun(k:Nat) (hk:k<C)=>show (xs.drop 16).take (k+1)=(xs.drop 16).take k++[xs.getD (16+k) 0] by
  rw[List.take_succ_eq_append_getElem (by rw[List.length_drop];omega)];simp[List.getD,List.getElem?_eq_getElem (show 16+k<xs.length by omega)])
 go_upto_region 10 with fail
 go_loopw [48] (fun i wr=>∃(k:Nat) (kv:Value),k≤C∧i=.int .i64 k∧Hid (D1 w wa r0 g s C xs (16+k) k kv (.slice none 0 0) [] wr)) (fun i _=>C-(intOf i).toNat)
 case atStart=>exact⟨0,_,by omega,rfl,QZ⟩
 case round =>
  obtain⟨k,kv,hk,rfl,hst⟩:=hrel;by_cases hlt:k<C
  ·have Z1:=hid (YT.out k hlt);have HKS2:=hid (YE.out k hlt);generalize xs.getD (16+k) 0=kd at *;obtain⟨A9,c9,rfl⟩:=Zag hst.out.own;have x0:wr.cell? ⟨s,0,none⟩=some (.slice A9 k c9):=by rw[hst.out.d.cell];rfl
   have HSTB:=hid (fun(w2:World) (h:Below wr.heap.size wr w2)=>hst.out.mono h);have hsw:s<wr.heap.size:=hst.out.h3;have hgs:g≠s:=by have:=hst.out.h2;omega
   go_upto_region 11 with fail
   have hdw:Below wr.heap.size wr wr.drew:=Zaf (Zab wr) 1;have HBY3:=hid (Z1.out wr.drew (HSTB.out _ hdw).rd);have Yu:=hid (HSTB.out _ hdw);go_region_law
    (first
     | (refine Zmf 82 #[.tmp 52] #[148] rfl rfl (enters_of Tryz.func82 (by kernel_rfl) rfl) #[.pointer (some ⟨g,0,none⟩)] rfl HBY3.out (by rintro e w' ⟨rfl,_⟩;exact⟨_,rfl⟩) ?_;rintro v9 wq ⟨hve,hrd,hch⟩;cases hve;have Jg:=hid (Yu.out.read hrd hch);have xq:wq.cell? ⟨s,0,none⟩=some (.slice A9 k c9):=(by rw[Jg.out.d.cell];rfl);have JN:=hid Jg.out.own;have hBq:=Jg.out.h3;clear hrd hch)
     | (refine Zho (v:=.slice A9 k c9) [.int .i64 (kd:Nat)] 1 rfl (.tmp 51) (.tmp 54) rfl 3 (.int .i64 0) 8 Tryz.underlying23 Tryz.infoI64 rfl (by decide) rfl rfl rfl JN.out (by omega) (by simp[Value.oneCell']) (by unfold maxLen;omega) (by omega) ?_;intro v9 w9 g1 g2 g3 g4;obtain⟨A8,c8,rfl⟩:=Zag g1;have QO:=hid g1;have QY:=hid g2;have Zi:=hid g3;have Zg:=hid g4;have Q6:=hid (Jg.out.d.below g2 (by omega));have fs:=Q6.out.frozen 0;have xs9:=Q6.out.cell 0;clear g1 g2 g3 g4))
   all_goals
    have Qw:=hid (D1.kind Jg.out QY.out QO.out HKS2.out);clear Q6 fs xs9 QO QY Zi Zg Jg xq JN hBq;generalize w9.setCell ⟨s,0,none⟩ (.slice A8 (k+1) c8)=wz at *;go_wp2_with fail
    go_roundw
    case rel=>exact⟨k+1,_,by omega,by go_num,Qw⟩
    case measure=>simp[intOf];omega
  ·obtain rfl:k=C:=by omega
   have Zl:Hid (D1 w wa r0 g s k xs (gP k 0) k kv (.slice none 0 0) [] wr):=hid (by rw[Z0l];exact hst.out);have Uj:=hid (fun(j:Nat) (hj:j<G) (w2:World) (h:Zaq wa w2 g (xs.drop (gP k j)) false) (hg:g<w2.heap.size)=>Zj0 wa w2 g (gP k j) k xs h hg (by have:=Z1n (C:=k) hj;have:=Yw.out;omega) HB.out hl);clear hst YT YE QZ;go_upto_region 14 with fail
   go_loopw [59] (fun i wr=>∃(es:List Ent) (gv:Value),es.length≤G∧i=.int .i64 es.length∧Hid (D1 w wa r0 g s k xs (gP k es.length) k kv gv es wr)) (fun i _=>G-(intOf i).toNat)
   case atStart=>exact⟨[],_,by simp,rfl,Zl⟩
   case round =>
    obtain⟨es,gv,he,rfl,hst⟩:=hrel;obtain⟨j,hj⟩:∃ j,es.length=j:=⟨_,rfl⟩;have HJ:=hid hj;rw[hj]at he hst;obtain⟨A9,c9,rfl⟩:=hst.out.gs.form;simp only[hj];clear hj;by_cases hlt:j<G
    ·have HRG2:=hid (Uj.out j hlt);have HGS:Hid (gP k (j+1)=gP k j+4+16*k):=hid (Z0w k j);have ZY:Hid (Zap k xs j=nAt 4 (gP k j) xs):=hid rfl;rw[← ZY.out,← HGS.out]at HRG2;have HDG:=hid (fun(wq w9:World) (ev v9:Value) (w1:World) (hst:D1 w wa r0 g s k xs (gP k j) k kv (.slice A9 j c9) es w1) (h1:Zaq wa wq g (xs.drop (gP k (j+1))) false) (h2:Chg g g w1 wq) (h3:wq.ownsRow w1.heap.size 108 4 ev k (ensV xs (gP k j+4) k))
       (h4:Below (s+1) wq w9) (h5:Kp (.slice A9 j c9) wq w9 v9) (h6:w9.ownsRow (s+1) 106 2 v9 (j+1) (entV es++[.int .i64 (Zap k xs j:Nat),ev])) =>
      (show ∃ es2:List Ent,es2.length=j+1∧D1 w wa r0 g s k xs (gP k (j+1)) k kv v9 es2 (w9.setCell ⟨s,1,none⟩ v9)from by
       have hj:=HJ.out;subst hj;exact⟨_,by simp,hst.group h1 h2 h3 h4 h5 h6⟩))
     have HOWG:=hid hst.out.gs.own;simp only[HJ.out]at HOWG hst;have x1:wr.cell? ⟨s,1,none⟩=some (.slice A9 j c9):=by rw[hst.out.d.cell];rfl
     have hgs:=hst.out.h2;have hsw:=hst.out.h3;have hrg2:=hst.out.h1;have hdw:Below wr.heap.size wr wr.drew:=Zaf (Zab wr) 1;have Yu:=hid (hst.out.mono hdw);have HRG3:=hid (HRG2.out wr.drew Yu.out.rd (by show g<wr.heap.size;omega));have hlj:j+1≤257:=by omega
     clear HRG2;generalize Zap k xs j=gr at *;go_upto_region 15 with fail
     go_region_law
      (first
       | (refine Zmf 83 #[.tmp 63,.tmp 64] #[148,3] rfl rfl (enters_of Tryz.func83 (by kernel_rfl) rfl) #[.pointer (some ⟨g,0,none⟩),.int .i64 k] rfl HRG3.out (by rintro e w' ⟨v,rfl,_⟩;exact⟨_,rfl⟩) ?_;rintro v9 wq ⟨ev,hve,hev,hrd,hch⟩;cases hve;obtain⟨E9,e9,rfl⟩:=Zag hev;have HEV:=hid hev;have Uh:=hid hrd;have HCQ:=hid hch;have HDQ:=hid (hch.row Yu.out.d (by omega) (by omega));have xq:wq.cell? ⟨s,1,none⟩=some (.slice A9 j c9):=(by rw[HDQ.out.cell];rfl);have JN:=hid (Zcp (Zah HOWG.out hdw) hch (fun k hk=>by have:=(HOWG.out.lt k hk).1;omega));have hBq:=HDQ.out.lt;clear hrd hch hev)
       | (refine Zho (v:=.slice A9 j c9) [.int .i64 (gr:Nat),.slice E9 k e9] 2 rfl (.tmp 62) (.tmp 66) rfl 106 (.agg [.int .i64 0,.slice none 0 0].toArray) 32 Tryz.underlying99 Tryz.infoGE rfl (by decide) rfl rfl rfl JN.out (by omega) (by simp[Value.oneCell']) (by unfold maxLen;omega) (by omega) ?_;intro v9 w9 g1 g2 g3 g4;obtain⟨A8,c8,rfl⟩:=Zag g1;have QO:=hid g1;have QY:=hid g2;have Zi:=hid g3;have Zg:=hid g4;have Q6:=hid (HDQ.out.below g2 (by omega));have fs:=Q6.out.frozen 1;have xs9:=Q6.out.cell 1;clear g1 g2 g3 g4))
     all_goals
      obtain⟨es2,hl2,hd2⟩:=HDG.out wq w9 _ _ wr.drew Yu.out Uh.out HCQ.out HEV.out QY.out Zg.out QO.out;have Qw:=hid hd2;have ZK:=hid hl2;clear hl2 hd2 Q6 fs xs9 QO QY Zi Zg HDQ xq JN hBq Uh HCQ HEV HRG3 Yu;generalize w9.setCell ⟨s,1,none⟩ (.slice A8 (j+1) c8)=wz at *;go_wp2_with fail
      go_roundw
      case rel=>exact⟨es2,_,by rw[ZK.out];omega,by rw[ZK.out];go_num,by rw[ZK.out];exact Qw⟩
      case measure=>simp[intOf];omega
    ·obtain rfl:j=G:=by omega
     have VW:=hid (Zxh hst.out.gs hst.out.hd);simp only[HJ.out]at VW hst;have hKL:(iKs k xs).length=k:=by unfold iKs;rw[List.length_take,List.length_drop];omega
     have Jm:Hid (Rd wr kv (iKs k xs).length 1 (i64s (nI (iKs k xs)))):=hid (by rw[hKL];exact Zby hst.out.own);obtain⟨K9,k9,rfl⟩:=Zag hst.out.own;have HAK:=hid (fun(w2:World) (h:Below wr.heap.size wr w2)=>Zpp (.slice K9 k k9) (iKs k xs) w2 (Jm.out.mono h));have Yb:=hid (fun(w2:World) (h:Below wr.heap.size wr w2)=>Zsz (.slice K9 k k9) (.slice A9 j c9) k j xs w2 (VW.out.mono h) hc3 HB.out);have HFI:=hid (fun(w2:World) (h:Below wr.heap.size wr w2)=>Zqc (.slice K9 k k9) (.slice A9 j c9) k j xs (iKs k xs) w2 (by have:=Jm.out.mono h;rw[hKL]at this;exact this) (VW.out.mono h) ⟨hc1,hc2⟩ hc3 HB.out hl);have HDO:Hid (Zf6 xs=(((iKs k xs).all fun k=>Zax (k:Int))&&(decide (sumR k xs j=R)&&(laid k (iD k j) xs (j*k)&&decide (eAt k (iD k j) xs (j*k)=xs.length))))):=hid (by
      rw[HHD2.out];unfold Zg1 Zc1;rw[Bool.eq_iff_iff];simp only[Bool.and_eq_true,decide_eq_true_eq];constructor
      ·rintro⟨a,b,c,d⟩;exact⟨a,c,b,d⟩
      ·rintro⟨a,c,b,d⟩;exact⟨a,b,c,d⟩)
     have Qw:=hid (fun(w9:World) (b:Bool) (hb:Below wr.heap.size wr w9) (hd:b=Zf6 xs)=>(show ANS (.returned (.tuple #[.agg #[.slice K9 k k9,.slice A9 j c9],.bool b])) ((w9.setCell ⟨r0,0,none⟩ (.slice K9 k k9)).setCell ⟨r0,1,none⟩ (.slice A9 j c9))from by
      have h1:=hst.out.h1;have h2:=hst.out.h2;have h3:=hst.out.h3;have hm:=hst.out.mono hb;have hbel:Below r0 w ((w9.setCell ⟨r0,0,none⟩ (.slice K9 k k9)).setCell ⟨r0,1,none⟩ (.slice A9 j c9)):=Zad (Zad hm.bel r0 0 _ (Nat.le_refl _)) r0 1 _ (Nat.le_refl _);have hch:=((Chg.refl r0 r0 w9).setCell r0 0 (.slice K9 k k9) (.inl rfl)).setCell r0 1 (.slice A9 j c9) (.inl rfl);cases b
      ·exact FAIL.out hd.symm _ _ _ _ _ _ _ hbel
      ·rw[← Qj.out];refine⟨by rw[HG.out.1];exact hbel,.inl ⟨hd.symm,_,_,rfl,?_,?_⟩⟩
       ·rw[HCGR.out.1,HG.out.1];exact Zbc (Zcp hm.own hch (fun k hk=>by have:=(hm.own.lt k hk).1;omega)) (by omega)
       ·rw[HCGR.out.1,HCGR.out.2.1];have hg2:=hm.gs.low hch (by omega) (by omega);have h7:=Zxh hg2 hm.hd;rw[HJ.out]at h7;exact h7))
     have hdw:Below wr.heap.size wr wr.drew:=Zaf (Zab wr) 1;have JY:=hid (fun(w2:World) (h:Below wr.heap.size wr w2)=>(show (w2.cell? ⟨s,0,none⟩=some (.slice K9 k k9)∧w2.cell? ⟨s,1,none⟩=some (.slice A9 j c9))∧(w2.cell? ⟨r0,0,none⟩=some (.slice none 0 0)∧w2.cell? ⟨r0,1,none⟩=some (.slice none 0 0))∧(w2.frozen? ⟨r0,0,none⟩=false∧w2.frozen? ⟨r0,1,none⟩=false)from by
      have h1:=hst.out.d.mono h;have h2:=hst.out.r.mono h;exact⟨⟨by rw[h1.cell];rfl,by rw[h1.cell];rfl⟩,⟨by rw[h2.cell];rfl,by rw[h2.cell];rfl⟩,⟨h2.frozen 0,h2.frozen 1⟩⟩))
     have HRET:=hid (fun(w9:World)=>(show Row w9 r0 101 [.slice none 0 0,.slice none 0 0]→(((w9.setCell ⟨r0,0,none⟩ (.slice K9 k k9)).setCell ⟨r0,1,none⟩ (.slice A9 j c9)).cell? ⟨r0,0,none⟩=some (.slice K9 k k9)∧((w9.setCell ⟨r0,0,none⟩ (.slice K9 k k9)).setCell ⟨r0,1,none⟩ (.slice A9 j c9)).cell? ⟨r0,1,none⟩=some (.slice A9 j c9))from fun h=>by
      have h2:=(h.set 0 (.slice K9 k k9)).set 1 (.slice A9 j c9);exact⟨by rw[h2.cell];rfl,by rw[h2.cell];rfl⟩))
     have Qo:=hid (fun(w2:World) (h:Below wr.heap.size wr w2)=>hst.out.r.mono h);generalize ((iKs k xs).all fun k=>Zax (k:Int))=ak at *;generalize sumR k xs j=sr at *;generalize (laid k (iD k j) xs (j*k)&&decide (eAt k (iD k j) xs (j*k)=xs.length))=fi at *;obtain⟨⟨x0,x1⟩,⟨y0,y1⟩,f0,f1⟩:=JY.out wr (Zab wr);have JI:Hid (r0≠s):=hid (by have:=hst.out.h1;have:=hst.out.h2;omega);clear Jm VW hst HJ Uj Zl;obtain⟨⟨z0,z1⟩,⟨t0,t1⟩,g0,g1⟩:=JY.out wr.drew hdw;have hrs:r0≠s:=JI.out;cases ak
     ·go_upto_region 17 with fail
      refine wp_region_held_drew (S:=fun w'=>w'.cell? ⟨s,0,none⟩=some (.slice K9 k k9)∧w'.cell? ⟨s,1,none⟩=some (.slice A9 j c9)) (by kernel_rfl) (by(try dsimp only);first | assumption | exact⟨by first | assumption | (rw[Zbb _ _ _ _ _ _ hrs];assumption) | (rw[Za3 _ _ _ _ _ _ hrs];assumption),by first | assumption | (rw[Zbb _ _ _ _ _ _ hrs];assumption) | (rw[Za3 _ _ _ _ _ _ hrs];assumption)⟩) (fun hHeld=>?_);refine tkA (v:=?_) 0 ?_ ?_;rotate_left
      ·(intro wS hSw;(try dsimp only at hSw);go_simp;try with_reducible rfl)
      try simp only[Act.put,tk1,tk2,tk3]
      refine tkA (v:=?_) 1 ?_ ?_;rotate_left
      ·(intro wS hSw;(try dsimp only at hSw);go_simp;try with_reducible rfl)
      try simp only[Act.put,tk1,tk2,tk3]
      refine tkA (v:=?_) 2 ?_ ?_;rotate_left
      ·(intro wS hSw;(try dsimp only at hSw);go_simp;try with_reducible rfl)
      try simp only[Act.put,tk1,tk2,tk3]
      refine wpAnyH_ready (rs:=[3]) (by kernel_rfl) (by simp) ?_;refine AllReadyH.cons (Zc6 rfl) (fun K hK=>?_) AllReadyH.nil;go_simp;go_at_call 57
      refine(HAK.out wr.drew hdw).mono ?_;rintro e wq ⟨rfl,hw⟩;replace hw:=hw.symm;subst hw
      (try go_wp2_with fail)
      refine hK.out _ _ ?_ (fun hHeld2=>?_)
      ·(try dsimp only)
       first | with_reducible assumption | (exact⟨by first | assumption | (rw[Zbb _ _ _ _ _ _ hrs];assumption) | (rw[Za3 _ _ _ _ _ _ hrs];assumption),by first | assumption | (rw[Zbb _ _ _ _ _ _ hrs];assumption) | (rw[Za3 _ _ _ _ _ _ hrs];assumption)⟩)
      clear hK hHeld;clear K;have hHeld:=hHeld2;clear hHeld2
      try simp only[Act.put,tk1,tk2,tk3]
      refine tkA (v:=?_) 4 ?_ ?_;rotate_left
      ·(intro wS hSw;(try dsimp only at hSw);go_simp;try with_reducible rfl)
      try simp only[Act.put,tk1,tk2,tk3]
      refine tkB 5 ?_
      try simp only[Act.put,tk1,tk2,tk3]
      refine tkB 6 ?_
      try simp only[Act.put,tk1,tk2,tk3]
      refine tkB 7 ?_
      try simp only[Act.put,tk1,tk2,tk3]
      refine tkB 8 ?_
      try simp only[Act.put,tk1,tk2,tk3]
      refine tkA (v:=?_) 9 ?_ ?_;rotate_left
      ·(intro wS hSw;(try dsimp only at hSw);go_simp;try with_reducible rfl)
      try simp only[Act.put,tk1,tk2,tk3]
      refine tkA (v:=?_) 10 ?_ ?_;rotate_left
      ·(intro wS hSw;(try dsimp only at hSw);go_simp;try with_reducible rfl)
      try simp only[Act.put,tk1,tk2,tk3]
      refine tkB 11 ?_
      try simp only[Act.put,tk1,tk2,tk3]
      refine tkB 12 ?_
      try simp only[Act.put,tk1,tk2,tk3]
      refine tkB 13 ?_
      try simp only[Act.put,tk1,tk2,tk3]
      refine tkB 14 ?_
      try simp only[Act.put,tk1,tk2,tk3]
      refine tkA (v:=?_) 15 ?_ ?_;rotate_left
      ·(intro wS hSw;(try dsimp only at hSw);go_simp;try with_reducible rfl)
      try simp only[Act.put,tk1,tk2,tk3]
      refine wpAnyH_ready (rs:=[16]) (by kernel_rfl) (by simp) ?_;refine AllReadyH.cons (Zc6 rfl) (fun K hK=>?_) AllReadyH.nil;go_simp;refine hK.out _ _ ?_ (fun hHeld2=>?_)
      ·(try dsimp only)
       first | with_reducible assumption | (exact⟨by first | assumption | (rw[Zbb _ _ _ _ _ _ hrs];assumption) | (rw[Za3 _ _ _ _ _ _ hrs];assumption),by first | assumption | (rw[Zbb _ _ _ _ _ _ hrs];assumption) | (rw[Za3 _ _ _ _ _ _ hrs];assumption)⟩)
      clear hK hHeld;clear K;have hHeld:=hHeld2;clear hHeld2
      try simp only[Act.put,tk1,tk2,tk3]
      refine tkA (v:=?_) 17 ?_ ?_;rotate_left
      ·(intro wS hSw;(try dsimp only at hSw);go_simp;try with_reducible rfl)
      try simp only[Act.put,tk1,tk2,tk3]
      refine wpAnyH_done (by kernel_rfl) ?_ _;clear hHeld;rw[show ((wr.setCell ⟨r0,0,none⟩ (.slice K9 k k9)).setCell ⟨r0,1,none⟩ (.slice A9 j c9)).drew=(wr.drew.setCell ⟨r0,0,none⟩ (.slice K9 k k9)).setCell ⟨r0,1,none⟩ (.slice A9 j c9)from rfl];have Q0:=hid (Qo.out wr.drew (hdw));have Ve:=hid (Qw.out wr.drew false (hdw) (by rw[HDO.out];first | rfl | (simp[hsr];done)));obtain⟨p0,p1⟩:=HRET.out wr.drew Q0.out;clear x0 x1 y0 y1 f0 f1;generalize (wr.drew.setCell ⟨r0,0,none⟩ (.slice K9 k k9)).setCell ⟨r0,1,none⟩ (.slice A9 j c9)=wz at *;go_wp2_with fail
      refine bodyPost_ret (v:=.tuple #[.agg #[.slice K9 k k9,.slice A9 j c9],.bool false]) ?_ rfl Ve.out;simp[results,Tryz.results46,go_sem,p0,p1]
     ·by_cases hsr:sr=R
      ·have hsri:((sr:Int)==(R:Int))=true:=by simp[hsr]
       go_upto_region 17 with fail
       refine wp_region_held_drew (S:=fun w'=>w'.cell? ⟨s,0,none⟩=some (.slice K9 k k9)∧w'.cell? ⟨s,1,none⟩=some (.slice A9 j c9)) (by kernel_rfl) (by(try dsimp only);first | assumption | exact⟨by first | assumption | (rw[Zbb _ _ _ _ _ _ hrs];assumption) | (rw[Za3 _ _ _ _ _ _ hrs];assumption),by first | assumption | (rw[Zbb _ _ _ _ _ _ hrs];assumption) | (rw[Za3 _ _ _ _ _ _ hrs];assumption)⟩) (fun hHeld=>?_);refine tkA (v:=?_) 0 ?_ ?_;rotate_left
       ·(intro wS hSw;(try dsimp only at hSw);go_simp;try with_reducible rfl)
       try simp only[Act.put,tk1,tk2,tk3]
       refine tkA (v:=?_) 1 ?_ ?_;rotate_left
       ·(intro wS hSw;(try dsimp only at hSw);go_simp;try with_reducible rfl)
       try simp only[Act.put,tk1,tk2,tk3]
       refine tkA (v:=?_) 2 ?_ ?_;rotate_left
       ·(intro wS hSw;(try dsimp only at hSw);go_simp;try with_reducible rfl)
       try simp only[Act.put,tk1,tk2,tk3]
       refine wpAnyH_ready (rs:=[3]) (by kernel_rfl) (by simp) ?_;refine AllReadyH.cons (Zc6 rfl) (fun K hK=>?_) AllReadyH.nil;go_simp;go_at_call 57
       refine(HAK.out wr.drew hdw).mono ?_;rintro e wq ⟨rfl,hw⟩;replace hw:=hw.symm;subst hw
       (try go_wp2_with fail)
       refine hK.out _ _ ?_ (fun hHeld2=>?_)
       ·(try dsimp only)
        first | with_reducible assumption | (exact⟨by first | assumption | (rw[Zbb _ _ _ _ _ _ hrs];assumption) | (rw[Za3 _ _ _ _ _ _ hrs];assumption),by first | assumption | (rw[Zbb _ _ _ _ _ _ hrs];assumption) | (rw[Za3 _ _ _ _ _ _ hrs];assumption)⟩)
       clear hK hHeld;clear K;have hHeld:=hHeld2;clear hHeld2
       try simp only[Act.put,tk1,tk2,tk3]
       refine tkA (v:=?_) 4 ?_ ?_;rotate_left
       ·(intro wS hSw;(try dsimp only at hSw);go_simp;try with_reducible rfl)
       try simp only[Act.put,tk1,tk2,tk3]
       refine tkA (v:=?_) 5 ?_ ?_;rotate_left
       ·(intro wS hSw;(try dsimp only at hSw);go_simp;try with_reducible rfl)
       try simp only[Act.put,tk1,tk2,tk3]
       refine tkA (v:=?_) 7 ?_ ?_;rotate_left
       ·(intro wS hSw;(try dsimp only at hSw);go_simp;try with_reducible rfl)
       try simp only[Act.put,tk1,tk2,tk3]
       refine wpAnyH_ready (rs:=[6]) (by kernel_rfl) (by simp) ?_;refine AllReadyH.cons (Zc6 rfl) (fun K hK=>?_) AllReadyH.nil;go_simp;go_at_call 84
       refine(Yb.out wr.drew hdw).mono ?_;rintro e wq ⟨rfl,hbq⟩;have YB:=hid (Zac hdw hbq);obtain⟨⟨xq0,xq1⟩,⟨yq0,yq1⟩,fq0,fq1⟩:=JY.out wq YB.out;clear hbq
       (try go_wp2_with fail)
       refine hK.out _ _ ?_ (fun hHeld2=>?_)
       ·(try dsimp only)
        first | with_reducible assumption | (exact⟨by first | assumption | (rw[Zbb _ _ _ _ _ _ hrs];assumption) | (rw[Za3 _ _ _ _ _ _ hrs];assumption),by first | assumption | (rw[Zbb _ _ _ _ _ _ hrs];assumption) | (rw[Za3 _ _ _ _ _ _ hrs];assumption)⟩)
       clear hK hHeld;clear K;have hHeld:=hHeld2;clear hHeld2
       try simp only[Act.put,tk1,tk2,tk3]
       refine tkA (v:=?_) 8 ?_ ?_;rotate_left
       ·(intro wS hSw;(try dsimp only at hSw);go_simp;try with_reducible rfl)
       try simp only[Act.put,tk1,tk2,tk3]
       refine tkA (v:=?_) 9 ?_ ?_;rotate_left
       ·(intro wS hSw;(try dsimp only at hSw);go_simp;try with_reducible rfl)
       try simp only[Act.put,tk1,tk2,tk3]
       refine tkA (v:=?_) 10 ?_ ?_;rotate_left
       ·(intro wS hSw;(try dsimp only at hSw);go_simp;try with_reducible rfl)
       try simp only[Act.put,tk1,tk2,tk3]
       refine tkA (v:=?_) 11 ?_ ?_;rotate_left
       ·(intro wS hSw;(try dsimp only at hSw);go_simp;try with_reducible rfl)
       try simp only[Act.put,tk1,tk2,tk3]
       refine tkA (v:=?_) 12 ?_ ?_;rotate_left
       ·(intro wS hSw;(try dsimp only at hSw);go_simp;try with_reducible rfl)
       try simp only[Act.put,tk1,tk2,tk3]
       refine tkA (v:=?_) 13 ?_ ?_;rotate_left
       ·(intro wS hSw;(try dsimp only at hSw);go_simp;try with_reducible rfl)
       try simp only[Act.put,tk1,tk2,tk3]
       refine wpAnyH_ready (rs:=[14]) (by kernel_rfl) (by simp) ?_;refine AllReadyH.cons (Zc6 rfl) (fun K hK=>?_) AllReadyH.nil;go_simp;go_at_call 85
       refine(HFI.out wq YB.out).mono ?_;rintro e wt ⟨rfl,hbt⟩;have YI:=hid (Zac YB.out hbt);obtain⟨⟨xt0,xt1⟩,⟨yt0,yt1⟩,ft0,ft1⟩:=JY.out wt YI.out;clear hbt
       (try go_wp2_with fail)
       refine hK.out _ _ ?_ (fun hHeld2=>?_)
       ·(try dsimp only)
        first | with_reducible assumption | (exact⟨by first | assumption | (rw[Zbb _ _ _ _ _ _ hrs];assumption) | (rw[Za3 _ _ _ _ _ _ hrs];assumption),by first | assumption | (rw[Zbb _ _ _ _ _ _ hrs];assumption) | (rw[Za3 _ _ _ _ _ _ hrs];assumption)⟩)
       clear hK hHeld;clear K;have hHeld:=hHeld2;clear hHeld2
       try simp only[Act.put,tk1,tk2,tk3]
       refine tkA (v:=?_) 15 ?_ ?_;rotate_left
       ·(intro wS hSw;(try dsimp only at hSw);go_simp;try with_reducible rfl)
       try simp only[Act.put,tk1,tk2,tk3]
       refine wpAnyH_ready (rs:=[16]) (by kernel_rfl) (by simp) ?_;refine AllReadyH.cons (Zc6 rfl) (fun K hK=>?_) AllReadyH.nil;go_simp;refine hK.out _ _ ?_ (fun hHeld2=>?_)
       ·(try dsimp only)
        first | with_reducible assumption | (exact⟨by first | assumption | (rw[Zbb _ _ _ _ _ _ hrs];assumption) | (rw[Za3 _ _ _ _ _ _ hrs];assumption),by first | assumption | (rw[Zbb _ _ _ _ _ _ hrs];assumption) | (rw[Za3 _ _ _ _ _ _ hrs];assumption)⟩)
       clear hK hHeld;clear K;have hHeld:=hHeld2;clear hHeld2
       try simp only[Act.put,tk1,tk2,tk3]
       refine tkA (v:=?_) 17 ?_ ?_;rotate_left
       ·(intro wS hSw;(try dsimp only at hSw);go_simp;try with_reducible rfl)
       try simp only[Act.put,tk1,tk2,tk3]
       refine wpAnyH_done (by kernel_rfl) ?_ _;clear hHeld;have Q0:=hid (Qo.out wt (YI.out));have Ve:=hid (Qw.out wt fi (YI.out) (by rw[HDO.out];first | rfl | (simp[hsr];done)));obtain⟨p0,p1⟩:=HRET.out wt Q0.out;clear x0 x1 y0 y1 f0 f1;generalize (wt.setCell ⟨r0,0,none⟩ (.slice K9 k k9)).setCell ⟨r0,1,none⟩ (.slice A9 j c9)=wz at *;go_wp2_with fail
       refine bodyPost_ret (v:=.tuple #[.agg #[.slice K9 k k9,.slice A9 j c9],.bool fi]) ?_ rfl Ve.out;simp[results,Tryz.results46,go_sem,p0,p1]
      ·have hsri:((sr:Int)==(R:Int))=false:=by simp;omega
       go_upto_region 17 with fail
       refine wp_region_held_drew (S:=fun w'=>w'.cell? ⟨s,0,none⟩=some (.slice K9 k k9)∧w'.cell? ⟨s,1,none⟩=some (.slice A9 j c9)) (by kernel_rfl) (by(try dsimp only);first | assumption | exact⟨by first | assumption | (rw[Zbb _ _ _ _ _ _ hrs];assumption) | (rw[Za3 _ _ _ _ _ _ hrs];assumption),by first | assumption | (rw[Zbb _ _ _ _ _ _ hrs];assumption) | (rw[Za3 _ _ _ _ _ _ hrs];assumption)⟩) (fun hHeld=>?_);refine tkA (v:=?_) 0 ?_ ?_;rotate_left
       ·(intro wS hSw;(try dsimp only at hSw);go_simp;try with_reducible rfl)
       try simp only[Act.put,tk1,tk2,tk3]
       refine tkA (v:=?_) 1 ?_ ?_;rotate_left
       ·(intro wS hSw;(try dsimp only at hSw);go_simp;try with_reducible rfl)
       try simp only[Act.put,tk1,tk2,tk3]
       refine tkA (v:=?_) 2 ?_ ?_;rotate_left
       ·(intro wS hSw;(try dsimp only at hSw);go_simp;try with_reducible rfl)
       try simp only[Act.put,tk1,tk2,tk3]
       refine wpAnyH_ready (rs:=[3]) (by kernel_rfl) (by simp) ?_;refine AllReadyH.cons (Zc6 rfl) (fun K hK=>?_) AllReadyH.nil;go_simp;go_at_call 57
       refine(HAK.out wr.drew hdw).mono ?_;rintro e wq ⟨rfl,hw⟩;replace hw:=hw.symm;subst hw
       (try go_wp2_with fail)
       refine hK.out _ _ ?_ (fun hHeld2=>?_)
       ·(try dsimp only)
        first | with_reducible assumption | (exact⟨by first | assumption | (rw[Zbb _ _ _ _ _ _ hrs];assumption) | (rw[Za3 _ _ _ _ _ _ hrs];assumption),by first | assumption | (rw[Zbb _ _ _ _ _ _ hrs];assumption) | (rw[Za3 _ _ _ _ _ _ hrs];assumption)⟩)
       clear hK hHeld;clear K;have hHeld:=hHeld2;clear hHeld2
       try simp only[Act.put,tk1,tk2,tk3]
       refine tkA (v:=?_) 4 ?_ ?_;rotate_left
       ·(intro wS hSw;(try dsimp only at hSw);go_simp;try with_reducible rfl)
       try simp only[Act.put,tk1,tk2,tk3]
       refine tkA (v:=?_) 5 ?_ ?_;rotate_left
       ·(intro wS hSw;(try dsimp only at hSw);go_simp;try with_reducible rfl)
       try simp only[Act.put,tk1,tk2,tk3]
       refine tkA (v:=?_) 7 ?_ ?_;rotate_left
       ·(intro wS hSw;(try dsimp only at hSw);go_simp;try with_reducible rfl)
       try simp only[Act.put,tk1,tk2,tk3]
       refine wpAnyH_ready (rs:=[6]) (by kernel_rfl) (by simp) ?_;refine AllReadyH.cons (Zc6 rfl) (fun K hK=>?_) AllReadyH.nil;go_simp;go_at_call 84
       refine(Yb.out wr.drew hdw).mono ?_;rintro e wq ⟨rfl,hbq⟩;have YB:=hid (Zac hdw hbq);obtain⟨⟨xq0,xq1⟩,⟨yq0,yq1⟩,fq0,fq1⟩:=JY.out wq YB.out;clear hbq
       (try go_wp2_with fail)
       refine hK.out _ _ ?_ (fun hHeld2=>?_)
       ·(try dsimp only)
        first | with_reducible assumption | (exact⟨by first | assumption | (rw[Zbb _ _ _ _ _ _ hrs];assumption) | (rw[Za3 _ _ _ _ _ _ hrs];assumption),by first | assumption | (rw[Zbb _ _ _ _ _ _ hrs];assumption) | (rw[Za3 _ _ _ _ _ _ hrs];assumption)⟩)
       clear hK hHeld;clear K;have hHeld:=hHeld2;clear hHeld2
       try simp only[Act.put,tk1,tk2,tk3]
       refine tkA (v:=?_) 8 ?_ ?_;rotate_left
       ·(intro wS hSw;(try dsimp only at hSw);go_simp;try with_reducible rfl)
       try simp only[Act.put,tk1,tk2,tk3]
       refine tkA (v:=?_) 9 ?_ ?_;rotate_left
       ·(intro wS hSw;(try dsimp only at hSw);go_simp;try with_reducible rfl)
       try simp only[Act.put,tk1,tk2,tk3]
       refine tkA (v:=?_) 10 ?_ ?_;rotate_left
       ·(intro wS hSw;(try dsimp only at hSw);go_simp;try with_reducible rfl)
       try simp only[Act.put,tk1,tk2,tk3]
       refine tkB 11 ?_
       try simp only[Act.put,tk1,tk2,tk3]
       refine tkB 12 ?_
       try simp only[Act.put,tk1,tk2,tk3]
       refine tkB 13 ?_
       try simp only[Act.put,tk1,tk2,tk3]
       refine tkB 14 ?_
       try simp only[Act.put,tk1,tk2,tk3]
       refine tkA (v:=?_) 15 ?_ ?_;rotate_left
       ·(intro wS hSw;(try dsimp only at hSw);go_simp;try with_reducible rfl)
       try simp only[Act.put,tk1,tk2,tk3]
       refine wpAnyH_ready (rs:=[16]) (by kernel_rfl) (by simp) ?_;refine AllReadyH.cons (Zc6 rfl) (fun K hK=>?_) AllReadyH.nil;go_simp;refine hK.out _ _ ?_ (fun hHeld2=>?_)
       ·(try dsimp only)
        first | with_reducible assumption | (exact⟨by first | assumption | (rw[Zbb _ _ _ _ _ _ hrs];assumption) | (rw[Za3 _ _ _ _ _ _ hrs];assumption),by first | assumption | (rw[Zbb _ _ _ _ _ _ hrs];assumption) | (rw[Za3 _ _ _ _ _ _ hrs];assumption)⟩)
       clear hK hHeld;clear K;have hHeld:=hHeld2;clear hHeld2
       try simp only[Act.put,tk1,tk2,tk3]
       refine tkA (v:=?_) 17 ?_ ?_;rotate_left
       ·(intro wS hSw;(try dsimp only at hSw);go_simp;try with_reducible rfl)
       try simp only[Act.put,tk1,tk2,tk3]
       refine wpAnyH_done (by kernel_rfl) ?_ _;clear hHeld;have Q0:=hid (Qo.out wq (YB.out));have Ve:=hid (Qw.out wq false (YB.out) (by rw[HDO.out];first | rfl | (simp[hsr];done)));obtain⟨p0,p1⟩:=HRET.out wq Q0.out;clear x0 x1 y0 y1 f0 f1;generalize (wq.setCell ⟨r0,0,none⟩ (.slice K9 k k9)).setCell ⟨r0,1,none⟩ (.slice A9 j c9)=wz at *;go_wp2_with fail
       refine bodyPost_ret (v:=.tuple #[.agg #[.slice K9 k k9,.slice A9 j c9],.bool false]) ?_ rfl Ve.out;simp[results,Tryz.results46,go_sem,p0,p1]
end Go.Proofs.YtmcjknjlihgihaaGreatDoor
