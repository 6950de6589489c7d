/- From the row's hypotheses to lists of bytes. -/
import Derived.Test.YtmcjknjlihgihaaGreatDoorLawparseuptoM50
set_option linter.unusedVariables false
set_option linter.unusedSimpArgs false
set_option linter.unnecessarySimpa false
set_option maxRecDepth 100000
namespace Go.Proofs.YtmcjknjlihgihaaGreatDoor
open Go.RowKit
set_option maxHeartbeats 4000000 in
theorem Zq2 (x y:Value) (C:Nat) (xs:List Nat) (L M:List Value) (P:List (Nat×Nat)) (w:World) (hx:Rd w x L.length 1 L) (hy:Rd w y M.length 1 M) (h1:RwIn w C xs L P) (h2:RwIn w C xs M P) (hC:C≤16) :
  Calls Tryz.prog 31 #[x,y] w fun e w'=>e=.returned (.bool true)∧∃ m,w'=w.drewN m:=by
 have hlm:M.length=L.length:=by rw[h1.len,h2.len]
 obtain⟨A1,ca,rfl,hlc,hcm,hA⟩:=hx.form;obtain⟨B1,cb,rfl,hlc2,hcm2,hB⟩:=hy.form;have QD:=hid h1;have Qm:=hid h2;obtain⟨n,hn⟩:∃ n,L.length=n:=⟨_,rfl⟩;have HN:=hid hn;have HM:=hid (hlm.trans hn);rw[HM.out]at hlc2 hB ⊢;rw[hn]at hlc hA ⊢;clear hx hy h1 h2 hlm hn;unfold maxLen at hcm hcm2;have e1:((n:Int) != (n:Int))=false:=by simp
 go_enter Tryz.func31,Tryz.ntmps31;go_wp2_with fail
 go_loopw [13] (fun i wr=>(∃ k:Nat,k≤n∧i=.int .i64 k)∧Hid (∃ m,wr=w.drewN m)) (fun i _=>n-(intOf i).toNat)
 case atStart=>exact⟨⟨0,by omega,rfl⟩,hid ⟨0,rfl⟩⟩
 case round =>
  obtain⟨⟨k,hk,rfl⟩,hm⟩:=hrel;have V3:Hid (Below w.heap.size w wr):=hid (by obtain⟨m,h⟩:=hm.out;rw[h];exact Zaf (Zab w) m);by_cases hlt:k<n
  ·obtain⟨b,o,rfl,hs⟩:=hA (by omega);obtain⟨b',o',rfl,hs'⟩:=hB (by omega);have hr1:=QD.out.rd k (by rw[HN.out];exact hlt);have hr2:=Qm.out.rd k (by rw[HM.out];exact hlt);have c0:wr.cell? ⟨b,o+k,none⟩=some (L.getD k undef):=(hs.mono V3.out) k _ (by rw[List.getElem?_eq_getElem (by rw[HN.out];exact hlt)];simp[List.getD,List.getElem?_eq_getElem (show k<L.length by rw[HN.out];exact hlt)]);have d0:wr.cell? ⟨b',o'+k,none⟩=some (M.getD k undef):=(hs'.mono V3.out) k _ (by rw[List.getElem?_eq_getElem (by rw[HM.out];exact hlt)];simp[List.getD,List.getElem?_eq_getElem (show k<M.length by rw[HM.out];exact hlt)]);have HSC:=hid (fun(q:Nat)=>Zna (L.getD k undef) (M.getD k undef) C _ _ _ (wr.drewN q) (hr1.mono (Zaf V3.out q)) (hr2.mono (Zaf V3.out q)) (by omega));obtain⟨E1,f1,hE1,_,_,_⟩:=hr1.form;obtain⟨E2,f2,hE2,_,_,_⟩:=hr2.form;rw[hE1,hE2]at HSC;rw[hE1]at c0;rw[hE2]at d0;clear hA hB hs hs' hr1 hr2 hE1 hE2;go_upto_region 6 with fail
   go_quiet (first | (go_at_call 56;exact Calls.quiet_of (HSC.out _)))
   go_wp2_with fail
   go_roundw
   case rel=>exact⟨⟨k+1,by omega,by go_num⟩,hid (by obtain⟨m,h⟩:=hm.out;subst h;exact⟨_,by simp;rfl⟩)⟩
   case measure=>simp[intOf];omega
  ·obtain rfl:k=n:=by omega
   go_wp2_with fail
   go_ret;obtain⟨m,h⟩:=hm.out;exact⟨rfl,m,h⟩
set_option maxHeartbeats 4000000 in
theorem Zj1 (kv rv kv' rv':Value) (ks:List Int) (C:Nat) (xs:List Nat) (L M:List Value) (P:List (Nat×Nat)) (w:World) (h1:Rd w kv ks.length 1 (i64s ks)) (h2:Rd w kv' ks.length 1 (i64s ks)) (hx:Rd w rv L.length 1 L) (hy:Rd w rv' M.length 1 M) (hr1:RwIn w C xs L P) (hr2:RwIn w C xs M P) (hC:C≤16) (hl:ks.length≤maxLen) :
  Calls Tryz.prog 15 #[.agg #[kv,rv],.agg #[kv',rv']] w fun e w'=>e=.returned (.bool true)∧Below w.heap.size w w':=by
 have YJ:=hid (fun(w2:World) (hb:Below w.heap.size w w2)=>Zgf kv kv' ks w2 (h1.mono hb) (h2.mono hb) hl);have YK:=hid (fun(w2:World) (hb:Below w.heap.size w w2)=>Zq2 rv rv' C xs L M P w2 (hx.mono hb) (hy.mono hb) (hr1.mono hb) (hr2.mono hb) hC);obtain⟨A1,c1,rfl,_,_,_⟩:=h1.form;obtain⟨A2,c2,rfl,_,_,_⟩:=hx.form;obtain⟨A3,c3,rfl,_,_,_⟩:=h2.form;obtain⟨A4,c4,rfl,_,_,_⟩:=hy.form;clear h1 h2 hx hy hr1 hr2;obtain⟨n1,hn1⟩:∃ n,ks.length=n:=⟨_,rfl⟩;obtain⟨n2,hn2⟩:∃ n,L.length=n:=⟨_,rfl⟩;obtain⟨n3,hn3⟩:∃ n,M.length=n:=⟨_,rfl⟩;rw[hn1]at YJ;rw[hn2,hn3]at YK;rw[hn1,hn2,hn3];clear hn1 hn2 hn3 hl;go_enter Tryz.func15,Tryz.ntmps15;go_upto_region 1 with fail
 obtain⟨ra,rz,hbw⟩:=Zij (u:=w) (X:=#[.slice A1 n1 c1,.slice A2 n2 c2]) (Y:=#[.slice A3 n1 c3,.slice A4 n3 c4]) (eX:=49) (eY:=49);have QH:=hid ra;have Zk:=hid rz;have Ql:=hid hbw;clear ra rz hbw;generalize (w.alloc (.cells #[.slice A1 n1 c1,.slice A2 n2 c2] 49)).alloc (.cells #[.slice A3 n1 c3,.slice A4 n3 c4] 49)=w0 at *;obtain⟨a0,a1⟩:=Zb9 QH.out;obtain⟨b0,b1⟩:=Zb9 Zk.out;have nd:∀ k,(∀(b:Nat) (e:TypeId) (cs:List Value),Row w0 b e cs→Row (w0.drewN k) b e cs):=fun k b e cs h=>h
 go_wp2_with (first
  | (go_at_call 24;refine(YJ.out _ Ql.out).mono ?_;rintro e w1 ⟨rfl,k1,rfl⟩;have J4:=hid (nd k1 _ _ _ QH.out);have Y3:=hid (nd k1 _ _ _ Zk.out);obtain⟨p0,p1⟩:=Zb9 J4.out;obtain⟨q0,q1⟩:=Zb9 Y3.out)
  | (go_at_call 31;refine(YK.out _ (Zaf Ql.out k1)).mono ?_;rintro e w1 ⟨rfl,k2,rfl⟩))
 go_ret;exact⟨rfl,Zaf Ql.out (k1+k2)⟩
theorem Zpg (kv rv kv' rv':Value) (xs:List Nat) (w:World) (h:TbIn w kv rv xs) (h':TbIn w kv' rv' xs) (hC:iC xs≤16) :
  Calls Tryz.prog 15 #[.agg #[kv,rv],.agg #[kv',rv']] w fun e w'=>e=.returned (.bool true)∧Below w.heap.size w w':=by
 obtain⟨h1,L,h2,h3⟩:=h;obtain⟨k1,M,k2,k3⟩:=h';have hkl:(nI (iKs (iC xs) xs)).length=iC xs:=by have:=h1.1;simpa [i64s]using this
 exact Zj1 kv rv kv' rv' (nI (iKs (iC xs) xs)) (iC xs) xs L M _ w (by rw[hkl];exact h1) (by rw[hkl];exact k1) h2 k2 h3 k3 hC (by rw[hkl];unfold maxLen;omega)
theorem Zog (w:World):Calls Tryz.prog 15 #[.agg #[.slice none 0 0,.slice none 0 0],.agg #[.slice none 0 0,.slice none 0 0]] w fun e w'=>e=.returned (.bool true)∧Below w.heap.size w w' :=
 Zj1 _ _ _ _ [] 0 [] [] [] [] w ⟨rfl,.inl ⟨⟨_,rfl⟩,rfl⟩⟩ ⟨rfl,.inl ⟨⟨_,rfl⟩,rfl⟩⟩ ⟨rfl,.inl ⟨⟨_,rfl⟩,rfl⟩⟩ ⟨rfl,.inl ⟨⟨_,rfl⟩,rfl⟩⟩ (RwIn.nil _ _ _) (RwIn.nil _ _ _) (by omega) (by simp)
set_option maxHeartbeats 8000000 in
theorem Zw9 (v:Value) (xs:List Nat) (w:World) (hT:Tab w) (hTF:TabF w) (hv:Rd w v xs.length 1 (u8s xs)) (hb:∀ x∈xs,x<256) (hl:xs.length≤16777216) :
  Calls Tryz.prog 6 #[v] w (Znb xs w):=by
 obtain⟨ANS,hANS⟩:∃ ANS,Znb xs w=ANS:=⟨_,rfl⟩;have Qj:=hid hANS;rw[hANS];clear hANS;have HWH:=hid (fun(w2:World) (h:Below w.heap.size w w2)=>Zux v xs w2 (hT.mono h hT.lt) (hTF.mono h hTF.lt) (hv.mono h) hb hl);unfold Zv9 at HWH;have Qc:=hid (fun(h:Zcu xs=false) (w9:World) (hb9:Below w.heap.size w w9)=>(show Znb xs w (.returned (.tuple #[.agg #[.slice none 0 0,.slice none 0 0],.int .i64 1])) w9 from ⟨hb9,.inr ⟨h,rfl⟩⟩));have Qf:=hid (fun(h:Zcu xs=true) (kv gv:Value) (w9:World) (hb9:Below w.heap.size w w9) (hi:Zgh w9 w.heap.size kv gv xs)=>(show Znb xs w (.returned (.tuple #[.agg #[kv,gv],.int .i64 0])) w9 from ⟨hb9,.inl ⟨h,kv,gv,rfl,hi⟩⟩));rw[Qj.out]at Qc Qf;obtain⟨A,ca,rfl,_,_,_⟩:=hv.form;clear hv hb hT hTF;go_enter Tryz.func6,Tryz.ntmps6;go_upto_region 1 with fail
 have hf:=Zbe (w:=w) (C:=#[.slice none 0 0,.slice none 0 0]) (e:=26);have Qg:=hid hf.1;have Qh:=hid hf.2;have hs1:(w.alloc (.cells #[.slice none 0 0,.slice none 0 0] 26)).heap.size=w.heap.size+1:=by simp
 clear hf;generalize w.alloc (.cells #[.slice none 0 0,.slice none 0 0] 26)=w1 at *;obtain⟨p0,hp0⟩:∃ p0,w.heap.size=p0:=⟨_,rfl⟩;have Yo:=hid hp0;have YJ:Hid (w1.heap.size=p0+1):=hid (by rw[hs1,hp0]);rw[hp0]at Qg ⊢;clear hp0 hs1;have Q4:Hid (w.heap.size≤p0):=hid (by rw[Yo.out];exact Nat.le_refl _);have JB:=hid (HWH.out w1 Qh.out);obtain⟨ok,hok⟩:∃ ok,Zcu xs=ok:=⟨_,rfl⟩;have Q3:=hid hok;rw[hok]at JB;clear hok HWH;cases ok
 ·go_upto_region 2 with (go_at_call 25;refine JB.out.mono ?_;rintro e w2 ⟨hb2,hor⟩;obtain rfl:=(hor.resolve_left (fun h=>by cases h.1)).2;have Qb:=hid (Zac Qh.out hb2);have Qm:=hid (Qg.out.mono hb2);clear hb2 hor)
  have hf:=Zbe (w:=w2) (C:=#[.slice none 0 0,.slice none 0 0]) (e:=26);have Qd:=hid (Qm.out.mono hf.2);have Qe:=hid (Zac Qb.out hf.2);clear hf;generalize w2.alloc (.cells #[.slice none 0 0,.slice none 0 0] 26)=w3 at *;have z0:=Qd.out.cell 0;have z1:=Qd.out.cell 1;have f0:=Qd.out.frozen 0;have f1:=Qd.out.frozen 1;go_wp2_with fail
  have Q0:=hid ((Qd.out.set 0 (.slice none 0 0)).set 1 (.slice none 0 0));have QQ:Hid (Below w.heap.size w ((w3.setCell ⟨p0,0,none⟩ (.slice none 0 0)).setCell ⟨p0,1,none⟩ (.slice none 0 0))):=hid (Zad (Zad Qe.out _ _ _ Q4.out) _ _ _ Q4.out);clear z0 z1 f0 f1;generalize (w3.setCell ⟨p0,0,none⟩ (.slice none 0 0)).setCell ⟨p0,1,none⟩ (.slice none 0 0)=wz at *;have y0:=Q0.out.cell 0;have y1:=Q0.out.cell 1;simp at y0 y1;refine bodyPost_ret (v:=.tuple #[.agg #[.slice none 0 0,.slice none 0 0],.int .i64 1]) ?_ rfl (Qc.out Q3.out _ QQ.out);simp[results,Tryz.results6,go_sem,y0,y1]
 ·go_upto_region 2 with (go_at_call 25;refine JB.out.mono ?_;rintro e w2 ⟨hb2,hor⟩;obtain⟨_,kv,gv,rfl,him⟩:=hor.resolve_right (fun h=>by cases h.1);obtain⟨⟨K9,k9,rfl⟩,G9,g9,rfl⟩:=him.forms;have Zm:=hid him;have Qb:=hid (Zac Qh.out hb2);have Qm:=hid (Qg.out.mono hb2);clear hb2 hor him)
  have hf:=Zbe (w:=w2) (C:=#[.slice K9 (iC xs) k9,.slice G9 (iG xs) g9]) (e:=26);have Qd:=hid (Qm.out.mono hf.2);have Qe:=hid (Zac Qb.out hf.2);have HI3:=hid (Zm.out.under (B:=w1.heap.size) (fun k _ hk=>hf.2.block k hk) hf.2.size (Nat.le_refl _));have HRV:=hid hf.1;clear hf;obtain⟨pv,hpv⟩:∃ pv,w2.heap.size=pv:=⟨_,rfl⟩;rw[hpv]at HRV ⊢;clear hpv;generalize w2.alloc (.cells #[.slice K9 (iC xs) k9,.slice G9 (iG xs) g9] 26)=w3 at *;have z0:=Qd.out.cell 0;have z1:=Qd.out.cell 1;have f0:=Qd.out.frozen 0;have f1:=Qd.out.frozen 1;have v0:=HRV.out.cell 0;have v1:=HRV.out.cell 1;simp only[List.toList_toArray,List.getElem?_cons_zero,List.getElem?_cons_succ]at v0 v1;go_wp2_with fail
  have Q0:=hid ((Qd.out.set 0 (.slice K9 (iC xs) k9)).set 1 (.slice G9 (iG xs) g9));have QQ:Hid (Below w.heap.size w ((w3.setCell ⟨p0,0,none⟩ (.slice K9 (iC xs) k9)).setCell ⟨p0,1,none⟩ (.slice G9 (iG xs) g9))):=hid (Zad (Zad Qe.out _ _ _ Q4.out) _ _ _ Q4.out);have Z8:Hid (Zgh ((w3.setCell ⟨p0,0,none⟩ (.slice K9 (iC xs) k9)).setCell ⟨p0,1,none⟩ (.slice G9 (iG xs) g9)) w.heap.size (.slice K9 (iC xs) k9) (.slice G9 (iG xs) g9) xs):=hid (HI3.out.under (fun k hk _=>by
   have:=YJ.out;rw[heap_setCell_other _ _ _ _ (by simp;omega),heap_setCell_other _ _ _ _ (by simp;omega)]) (by simp) Qh.out.size)
  clear z0 z1 f0 f1 v0 v1;generalize (w3.setCell ⟨p0,0,none⟩ (.slice K9 (iC xs) k9)).setCell ⟨p0,1,none⟩ (.slice G9 (iG xs) g9)=wz at *;have y0:=Q0.out.cell 0;have y1:=Q0.out.cell 1;simp at y0 y1;refine bodyPost_ret (v:=.tuple #[.agg #[.slice K9 (iC xs) k9,.slice G9 (iG xs) g9],.int .i64 0]) ?_ rfl (Qf.out Q3.out _ _ _ QQ.out Z8.out);simp[results,Tryz.results6,go_sem,y0,y1]
theorem Zp1 {w:World} {g m:Nat} {xs:List Nat} (h:Row w g 5 (u8s (xs++Zgi m))) (hl:xs.length+m≤maxLen) :
  Rd w (.slice (some ⟨g,0,none⟩) (xs.length+m) (xs.length+m)) (xs++Zgi m).length 1 (u8s (xs++Zgi m)):=by
 have e:(xs++Zgi m).length=xs.length+m:=by simp[Zq9]
 rw[e];exact h.rd' (by rw[Zcm,e]) hl
theorem Zvy {w:World} {g m:Nat} {xs:List Nat} (h:Row w g 5 (u8s (xs++Zgi m))) (hl:xs.length+m≤maxLen) :
  Rd w (.slice (some ⟨g,0,none⟩) xs.length (xs.length+m)) xs.length 1 (u8s xs):=by
 have:=h.rd 0 xs.length (xs.length+m) (by simp[u8s]) (by omega) hl;rw[List.drop_zero,Zh6,← Zcm xs,List.take_left]at this
 rwa [Zcm]at this
def Zsa (xs:List Nat):Int:=if Zcu xs=true then 0 else 1
def ImOr (w:World) (B:Nat) (kv gv:Value) (xs:List Nat):Prop:=(Zcu xs=true∧Zgh w B kv gv xs)∨(Zcu xs=false∧kv=.slice none 0 0∧gv=.slice none 0 0)
theorem ImOr.mono {w w':World} {B:Nat} {kv gv:Value} {xs:List Nat} (h:ImOr w B kv gv xs) (hb:Below w.heap.size w w'):ImOr w' B kv gv xs :=
 h.imp (fun h=>⟨h.1,h.2.under (fun k _ hk=>hb.block k hk) hb.size (Nat.le_refl _)⟩) id
theorem Znb.or {xs:List Nat} {w w':World} {e:Ending} (h:Znb xs w e w'):Below w.heap.size w w'∧∃ K a k G b g,e=.returned (.tuple #[.agg #[.slice K a k,.slice G b g],.int .i64 (Zsa xs)])∧ImOr w' w.heap.size (.slice K a k) (.slice G b g) xs:=by
 obtain⟨hb,⟨h1,kv,gv,rfl,h2⟩ | ⟨h1,rfl⟩⟩:=h
 ·obtain⟨⟨K,k,rfl⟩,G,g,rfl⟩:=h2.forms;exact⟨hb,_,_,_,_,_,_,by unfold Zsa;rw[if_pos h1],.inl ⟨h1,h2⟩⟩
 ·exact⟨hb,_,_,_,_,_,_,by unfold Zsa;rw[if_neg (by rw[h1];simp)],.inr ⟨h1,rfl,rfl⟩⟩
theorem Zry {kv gv kv' gv':Value} {B B':Nat} {xs:List Nat} {w:World} (h:ImOr w B kv gv xs) (h':ImOr w B' kv' gv' xs) :
  Calls Tryz.prog 8 #[.agg #[kv,gv],.agg #[kv',gv']] w fun e w'=>e=.returned (.bool true)∧Below w.heap.size w w':=by
 rcases h with ⟨h1,h2⟩ | ⟨h1,rfl,rfl⟩
 ·rcases h' with ⟨_,h4⟩ | ⟨h3,_⟩
  ·exact Zoz _ _ _ _ _ _ xs w h2 h4
  ·rw[h1]at h3;cases h3
 ·rcases h' with ⟨h3,_⟩ | ⟨_,rfl,rfl⟩
  ·rw[h1]at h3;cases h3
  ·exact Zoq w
def TbOr (w:World) (kv rv:Value) (xs:List Nat):Prop:=(Zcu xs=true∧TbIn w kv rv xs)∨(Zcu xs=false∧kv=.slice none 0 0∧rv=.slice none 0 0)
theorem TbOr.mono {w w':World} {kv rv:Value} {xs:List Nat} (h:TbOr w kv rv xs) (hb:Below w.heap.size w w'):TbOr w' kv rv xs :=
 h.imp (fun⟨h1,h2,L,h3,h4⟩=>⟨h1,h2.mono hb,L,h3.mono hb,h4.mono hb⟩) id
theorem Zm9.or {xs:List Nat} {w w':World} {e:Ending} (h:Zm9 xs w e w'):Below w.heap.size w w'∧∃ K a k G b g,e=.returned (.tuple #[.agg #[.slice K a k,.slice G b g],.int .i64 (Zsa xs)])∧TbOr w' (.slice K a k) (.slice G b g) xs:=by
 obtain⟨hb,⟨h1,kv,gv,rfl,h2⟩ | ⟨h1,rfl⟩⟩:=h
 ·have h3:=h2;obtain⟨hk,L,hr,_⟩:=h3;obtain⟨K,k,rfl,_⟩:=hk.form;obtain⟨G,g,rfl,_⟩:=hr.form;exact⟨hb,_,_,_,_,_,_,by unfold Zsa;rw[if_pos h1],.inl ⟨h1,h2⟩⟩
 ·exact⟨hb,_,_,_,_,_,_,by unfold Zsa;rw[if_neg (by rw[h1];simp)],.inr ⟨h1,rfl,rfl⟩⟩
theorem Zqn {kv gv kv' gv':Value} {xs:List Nat} {w:World} (h:TbOr w kv gv xs) (h':TbOr w kv' gv' xs) :
  Calls Tryz.prog 15 #[.agg #[kv,gv],.agg #[kv',gv']] w fun e w'=>e=.returned (.bool true)∧Below w.heap.size w w':=by
 rcases h with ⟨h1,h2⟩ | ⟨h1,rfl,rfl⟩
 ·rcases h' with ⟨_,h4⟩ | ⟨h3,_⟩
  ·have hd:=(Zji h1).1;rw[Zgd,Bool.and_eq_true]at hd;exact Zpg _ _ _ _ xs w h2 h4 (Zdd hd.1).1.2
  ·rw[h1]at h3;cases h3
 ·rcases h' with ⟨h3,_⟩ | ⟨_,rfl,rfl⟩
  ·rw[h1]at h3;cases h3
  ·exact Zog w
set_option maxHeartbeats 16000000 in
theorem Zpi (v:Value) (xs:List Nat) (r:Int) (w:World) (hT:Tab w) (hTF:TabF w) (hv:Rd w v xs.length 1 (u8s xs)) (hb:∀ x∈xs,x<256) (hl:xs.length≤16777216) :
  Calls Tryz.prog 4 #[v,.int .i64 r] w fun e w'=>e=.returned (.bool true)∧Below w.heap.size w w':=by
 have HLY:=hid (fun(w2:World) (h:Below w.heap.size w w2)=>Zrd v xs r w2 (hv.mono h) (by omega));have Yf:=hid (fun(w2:World) (h:Below w.heap.size w w2)=>(Zrf v xs w2 (hv.mono h) hb hl).mono fun e w' h=>h.or);have Qo:=hid (fun(w2:World) (h:Below w.heap.size w w2)=>(Zto v xs w2 (hv.mono h) hb hl).mono fun e w' h=>h.or);have HCR:=hid (fun(w2:World) (h:Below w.heap.size w w2)=>Zhs v xs w2 (hv.mono h) hb);have X4:=hid (fun(u:Value) (w2:World) (h:Below w.heap.size w w2) (hu:Rd w2 u xs.length 1 (u8s xs))=>(Zw9 u xs w2 (hT.mono h hT.lt) (hTF.mono h hTF.lt) hu hb hl).mono fun e w' h=>h.or);have Zx:=hid (fun(u:Value) (w2:World) (h:Below w.heap.size w w2) (hu:Rd w2 u xs.length 1 (u8s xs))=>(Zzj u xs w2 (hT.mono h hT.lt) (hTF.mono h hTF.lt) hu hb hl).mono fun e w' h=>h.or);have Zu:=hid (fun(u:Value) (w2:World) (h:Below w.heap.size w w2) (hu:Rd w2 u xs.length 1 (u8s xs))=>Zhl u xs w2 (hTF.mono h hTF.lt) hu hb);have hcl:=Zuo r;obtain⟨m,hm⟩:∃ m,Zoy r=m:=⟨_,rfl⟩;rw[hm]at HLY hcl;have Z3:=hid (fun(p q:Nat) (w2:World) (h1:Row w2 p 5 (u8s (xs++Zgi m))) (h2:Row w2 q 5 (u8s (xs++Zgi m)))=>(show Calls Tryz.prog 12 #[.slice (some ⟨p,0,none⟩) (xs.length+m) (xs.length+m),.slice (some ⟨q,0,none⟩) (xs.length+m) (xs.length+m)] w2 fun e w'=>e=.returned (.bool true)∧w'=w2 from Znk _ _ (xs++Zgi m) w2 (Zp1 h1 (by unfold maxLen;omega)) (Zp1 h2 (by unfold maxLen;omega))));have JU:=hid (fun(p:Nat) (w2:World) (h1:Row w2 p 5 (u8s (xs++Zgi m)))=>Zvy h1 (by unfold maxLen;omega));obtain⟨A,ca,rfl,_,_,_⟩:=hv.form;clear hv hb hT hTF hm;obtain⟨n,hn⟩:∃ n,xs.length=n:=⟨_,rfl⟩;rw[hn]at hl HLY Yf Qo HCR X4 Zx Zu Z3 JU ⊢;clear hn;obtain⟨cr,hcr⟩:∃ cr,crc xs=cr:=⟨_,rfl⟩;rw[hcr]at HCR Zu;clear hcr;generalize Zsa xs=pc at *;have e0:(pc != pc)=false:=by simp
 have e1:((cr:Int)==(cr:Int))=true:=by simp
 go_enter Tryz.func4,Tryz.ntmps4;go_upto_region 2 with (go_at_call 11;refine(HLY.out w (Zab w)).mono ?_;rintro e w1 ⟨rfl,hrow,hb1,hsz⟩;have Zm:=hid hrow;have Qa:=hid hb1;clear hrow hb1 hsz)
 obtain⟨p,hp⟩:∃ p,w.heap.size=p:=⟨_,rfl⟩;have HP:=hid hp;rw[hp]at Zm ⊢;clear hp;go_upto_region 3 with (go_at_call 6;refine(X4.out _ w1 Qa.out (JU.out p w1 Zm.out)).mono ?_;rintro e w2 ⟨hb2,K1,a1,k1,G1,b1,g1,rfl,him⟩;have HI1:=hid him;have Qb:=hid hb2;clear hb2 him)
 have hf:=Zbe (w:=w2) (C:=#[.slice K1 a1 k1,.slice G1 b1 g1]) (e:=26);have HV3:=hid hf.1;have Qe:=hid (Zac Qb.out hf.2);have HI3:=hid (HI1.out.mono hf.2);clear hf HI1 Qb;obtain⟨q1,hq1⟩:∃ q1,w2.heap.size=q1:=⟨_,rfl⟩;rw[hq1]at HV3 ⊢;clear hq1;generalize w2.alloc (.cells #[.slice K1 a1 k1,.slice G1 b1 g1] 26)=w3 at *;go_upto_region 4 with (go_at_call 7;refine(Yf.out w3 (Zac Qa.out Qe.out)).mono ?_;rintro e w4 ⟨hb4,K2,a2,k2,G2,b2,g2,rfl,him⟩;have HI4:=hid him;have HJ4:=hid (HI3.out.mono hb4);have HV4:=hid (HV3.out.mono hb4);have Qz:=hid (Zac Qe.out hb4);clear hb4 him)
 have hf:=Zbe (w:=w4) (C:=#[.slice K2 a2 k2,.slice G2 b2 g2]) (e:=26);have HU5:=hid hf.1;have XM:=hid (HV4.out.mono hf.2);have Q1:=hid (Zac Qz.out hf.2);have HI5:=hid (HI4.out.mono hf.2);have Vq:=hid (HJ4.out.mono hf.2);clear hf HI3 HI4 HJ4 HV3 HV4 Qe Qz;obtain⟨q2,hq2⟩:∃ q2,w4.heap.size=q2:=⟨_,rfl⟩;rw[hq2]at HU5 ⊢;clear hq2;generalize w4.alloc (.cells #[.slice K2 a2 k2,.slice G2 b2 g2] 26)=w5 at *;obtain⟨x0,x1⟩:=Zb9 XM.out;obtain⟨y0,y1⟩:=Zb9 HU5.out;go_upto_region 6 with (first
  | (go_at_call 8;refine(Zry Vq.out HI5.out).mono ?_;rintro e w6 ⟨rfl,hb6⟩;have QS:=hid (Zac Q1.out hb6);clear hb6)
  | (go_at_call 11;refine(HLY.out w6 (Zac Qa.out QS.out)).mono ?_;rintro e w7 ⟨rfl,hrow,hb7,hsz⟩;have UD:=hid hrow;have QN:=hid (Zac QS.out hb7);clear hrow hb7 hsz)
  | (go_at_call 12;refine(Z3.out p _ w7 (Zm.out.mono QN.out) UD.out).mono ?_;rintro e w8 ⟨rfl,hw⟩;replace hw:=hw.symm;subst hw))
 clear x0 x1 y0 y1 UD QS Q1 XM HU5 HI5 Vq;go_upto_region 7 with (go_at_call 13;refine(Zx.out _ _ (Zac Qa.out QN.out) (JU.out p _ (Zm.out.mono QN.out))).mono ?_;rintro e w9 ⟨hb9,K3,a3,k3,G3,b3,g3,rfl,him⟩;have HI9:=hid him;have Ym:=hid (Zac QN.out hb9);clear hb9 him)
 have hf:=Zbe (w:=w9) (C:=#[.slice K3 a3 k3,.slice G3 b3 g3]) (e:=49);have HV10:=hid hf.1;have HB10:=hid (Zac Ym.out hf.2);have HI10:=hid (HI9.out.mono hf.2);clear hf HI9 Ym;obtain⟨q3,hq3⟩:∃ q3,w9.heap.size=q3:=⟨_,rfl⟩;rw[hq3]at HV10 ⊢;clear hq3;generalize w9.alloc (.cells #[.slice K3 a3 k3,.slice G3 b3 g3] 49)=w10 at *;go_upto_region 8 with (go_at_call 14;refine(Qo.out w10 (Zac Qa.out HB10.out)).mono ?_;rintro e w11 ⟨hb11,K4,a4,k4,G4,b4,g4,rfl,him⟩;have HI11:=hid him;have HJ11:=hid (HI10.out.mono hb11);have HV11:=hid (HV10.out.mono hb11);have HB11:=hid (Zac HB10.out hb11);clear hb11 him)
 have hf:=Zbe (w:=w11) (C:=#[.slice K4 a4 k4,.slice G4 b4 g4]) (e:=49);have HU12:=hid hf.1;have HV12:=hid (HV11.out.mono hf.2);have HB12:=hid (Zac HB11.out hf.2);have HI12:=hid (HI11.out.mono hf.2);have HJ12:=hid (HJ11.out.mono hf.2);clear hf HI10 HI11 HJ11 HV10 HV11 HB10 HB11;obtain⟨q4,hq4⟩:∃ q4,w11.heap.size=q4:=⟨_,rfl⟩;rw[hq4]at HU12 ⊢;clear hq4;generalize w11.alloc (.cells #[.slice K4 a4 k4,.slice G4 b4 g4] 49)=w12 at *;obtain⟨x0,x1⟩:=Zb9 HV12.out;obtain⟨y0,y1⟩:=Zb9 HU12.out;go_upto_region 10 with (first
  | (go_at_call 15;refine(Zqn HJ12.out HI12.out).mono ?_;rintro e w13 ⟨rfl,hb13⟩;have HB13:=hid (Zac HB12.out hb13);clear hb13)
  | (go_at_call 11;refine(HLY.out w13 (Zac Qa.out HB13.out)).mono ?_;rintro e w14 ⟨rfl,hrow,hb14,hsz⟩;have HL14:=hid hrow;have Ug:=hid (Zac HB13.out hb14);clear hrow hb14 hsz)
  | (go_at_call 12;refine(Z3.out p _ w14 (Zm.out.mono Ug.out) HL14.out).mono ?_;rintro e w15 ⟨rfl,hw⟩;replace hw:=hw.symm;subst hw))
 clear x0 x1 y0 y1 HL14 HB13 HB12 HV12 HU12 HI12 HJ12;go_upto_region 11 with (go_at_call 16;refine(Zu.out _ _ (Zac Qa.out Ug.out) (JU.out p _ (Zm.out.mono Ug.out))).mono ?_;rintro e w16 ⟨rfl,hw⟩;replace hw:=hw.symm;subst hw)
 go_wp2_with (first
  | (go_at_call 17;refine(HCR.out _ (Zac Qa.out Ug.out)).mono ?_;rintro e w17 ⟨rfl,hw⟩;replace hw:=hw.symm;subst hw)
  | (go_at_call 11;refine(HLY.out _ (Zac Qa.out Ug.out)).mono ?_;rintro e w18 ⟨rfl,hrow,hb18,hsz⟩;have HL18:=hid hrow;have HB18:=hid (Zac Ug.out hb18);clear hrow hb18 hsz)
  | (go_at_call 12;refine(Z3.out p _ w18 (Zm.out.mono HB18.out) HL18.out).mono ?_;rintro e w19 ⟨rfl,hw⟩;replace hw:=hw.symm;subst hw))
 go_ret;exact⟨rfl,Zac Qa.out HB18.out⟩
set_option maxRecDepth 512
theorem Zqw {n:Int} (h:(Lit.int .u8 n).wf=true):0≤n∧n<256:=by
 simp[Lit.wf,IntKind.min,IntKind.max,IntKind.signed,IntKind.bits]at h;omega
theorem Z1z (zs:List Int) (h:∀ n∈zs,(Lit.int .u8 n).wf=true):zs.map (Value.int .u8)=u8s (zs.map Int.toNat)∧∀ x∈zs.map Int.toNat,x<256:=by
 constructor
 ·simp only[u8s,u8,List.map_map];apply List.map_congr_left;intro n hn;have:=Zqw (h n hn);simp only[Function.comp];congr 1;omega
 ·intro x hx;obtain⟨n,hn,rfl⟩:=List.mem_map.1 hx;have:=Zqw (h n hn);omega
theorem Zu9 {H:Type} {enc:TypeId×Value→H} {P:Program} {w:World} {base:Nat} {held:Bool} {t e:TypeId} {a:Option Addr} {len cap:Nat} {x:DataW H×List MemPlace}
  (ht:P.underlying t=some (.slice e)) (he:P.underlying e=some (.int .u8)) (hc:P.cellsOf e=1) (h:∃ fuel,DataW.trod enc P w base (fun _=>true) held fuel t (Value.slice a len cap).cells.toList=some x) :
  ∃ xs:List Nat,Rd w (.slice a len cap) xs.length 1 (u8s xs)∧(∀ y∈xs,y<256)∧(xs=[]∨∃ elems sp,x.1=.slice elems sp∧elems.length=xs.length):=by
 obtain⟨zs,hl,hr,hw,hs⟩:=Zq6 ht he hc h;obtain⟨h1,h2⟩:=Z1z zs hw;refine⟨zs.map Int.toNat,?_,h2,?_⟩
 ·rw[h1]at hr;simpa using hr
 ·simpa using hs
end Go.Proofs.YtmcjknjlihgihaaGreatDoor
