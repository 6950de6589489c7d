/- The law's own test that lists of words share no memory. -/
import Derived.Test.YtmcjknjlihgihaaGreatDoorLawfreshlistsuptoM22
set_option linter.unusedVariables false
set_option linter.unusedSimpArgs false
set_option linter.unnecessarySimpa false
set_option maxRecDepth 100000
namespace Go.Proofs.YtmcjknjlihgihaaGreatDoor
open Go.RowKit
theorem Zdd {w:World} {g:Nat} {e:TypeId} {a b:Value} (h:Row w g e [a,b]):w.cell? ⟨g,0,none⟩=some a∧w.cell? ⟨g,1,none⟩=some b:=⟨by rw[h.cell];rfl,by rw[h.cell];rfl⟩
set_option maxHeartbeats 8000000 in
theorem Zqt (b0:Bool) (i1:Int) (m0:Bool) (m1:Int) (m2:ByteArray) (x0:Bool) (x1:Int) (x2:ByteArray) (h:Int) (u v:Value) (xs:List Nat) (w:World) (hu:Rd w u xs.length 1 (u64s xs)) (hv:Rd w v xs.length 1 (u64s xs)) (hl:xs.length≤maxLen) :
  Calls Tryz.prog 52 #[.agg #[.bool b0,.int .i64 i1,.bool m0,.int .i64 m1,.string m2,.bool x0,.int .i64 x1,.string x2,.int .i64 h,u],.agg #[.bool b0,.int .i64 i1,.bool m0,.int .i64 m1,.string m2,.bool x0,.int .i64 x1,.string x2,.int .i64 h,v]] w fun e w'=>e=.returned (.bool true)∧Below w.heap.size w w':=by
 have JE:=hid (fun(w2:World) (hb:Below w.heap.size w w2)=>Zmj u v xs w2 (hu.mono hb) (hv.mono hb) hl);obtain⟨A1,c1,rfl,_,_,_⟩:=hu.form;obtain⟨A2,c2,rfl,_,_,_⟩:=hv.form;clear hu hv;obtain⟨n,hn⟩:∃ n,xs.length=n:=⟨_,rfl⟩;rw[hn]at JE ⊢;clear hn;go_enter Tryz.func52,Tryz.ntmps52;go_upto_region 1 with fail
 obtain⟨ra,rz,hbw⟩:=Zjk (u:=w) (X:=#[.bool b0,.int .i64 i1,.bool m0,.int .i64 m1,.string m2,.bool x0,.int .i64 x1,.string x2,.int .i64 h,.slice A1 n c1]) (Y:=#[.bool b0,.int .i64 i1,.bool m0,.int .i64 m1,.string m2,.bool x0,.int .i64 x1,.string x2,.int .i64 h,.slice A2 n c2]) (eX:=39) (eY:=39);have Qg:=hid hbw;obtain⟨a0,a1,a2,a3,a4,a5,a6,a7,a8,a9⟩:=Za5 ra;obtain⟨b'0,b'1,b'2,b'3,b'4,b'5,b'6,b'7,b'8,b'9⟩:=Za5 rz;clear ra rz hbw;generalize (w.alloc (.cells #[.bool b0,.int .i64 i1,.bool m0,.int .i64 m1,.string m2,.bool x0,.int .i64 x1,.string x2,.int .i64 h,.slice A1 n c1] 39)).alloc (.cells #[.bool b0,.int .i64 i1,.bool m0,.int .i64 m1,.string m2,.bool x0,.int .i64 x1,.string x2,.int .i64 h,.slice A2 n c2] 39)=w0 at *;have e0:(b0==b0)=true:=by simp
 have e1:(i1==i1)=true:=by simp
 have e2:(h==h)=true:=by simp
 go_wp2_with (go_at_call 95;refine(JE.out _ Qg.out).mono ?_;rintro e w1 ⟨rfl,k1,rfl⟩)
 go_ret;exact⟨rfl,Zag Qg.out k1⟩
set_option maxHeartbeats 8000000 in
theorem Znt (o l s cd wd:Int) (b0:Bool) (i1:Int) (m0:Bool) (m1:Int) (m2:ByteArray) (x0:Bool) (x1:Int) (x2:ByteArray) (h:Int) (u v:Value) (xs:List Nat) (w:World) (hu:Rd w u xs.length 1 (u64s xs)) (hv:Rd w v xs.length 1 (u64s xs)) (hl:xs.length≤maxLen) :
  Calls Tryz.prog 27 #[.agg #[.int .i64 o,.int .i64 l,.int .u32 s,.int .i64 cd,.int .i64 wd,.bool b0,.int .i64 i1,.bool m0,.int .i64 m1,.string m2,.bool x0,.int .i64 x1,.string x2,.int .i64 h,u],.agg #[.int .i64 o,.int .i64 l,.int .u32 s,.int .i64 cd,.int .i64 wd,.bool b0,.int .i64 i1,.bool m0,.int .i64 m1,.string m2,.bool x0,.int .i64 x1,.string x2,.int .i64 h,v]] w fun e w'=>e=.returned (.bool true)∧Below w.heap.size w w':=by
 have JE:=hid (fun(w2:World) (hb:Below w.heap.size w w2)=>Zqt b0 i1 m0 m1 m2 x0 x1 x2 h u v xs w2 (hu.mono hb) (hv.mono hb) hl);obtain⟨A1,c1,rfl,_,_,_⟩:=hu.form;obtain⟨A2,c2,rfl,_,_,_⟩:=hv.form;clear hu hv;obtain⟨n,hn⟩:∃ n,xs.length=n:=⟨_,rfl⟩;rw[hn]at JE ⊢;clear hn;go_enter Tryz.func27,Tryz.ntmps27;go_upto_region 1 with fail
 obtain⟨ra,rz,hbw⟩:=Zjk (u:=w) (X:=#[.int .i64 o,.int .i64 l,.int .u32 s,.int .i64 cd,.int .i64 wd,.bool b0,.int .i64 i1,.bool m0,.int .i64 m1,.string m2,.bool x0,.int .i64 x1,.string x2,.int .i64 h,.slice A1 n c1]) (Y:=#[.int .i64 o,.int .i64 l,.int .u32 s,.int .i64 cd,.int .i64 wd,.bool b0,.int .i64 i1,.bool m0,.int .i64 m1,.string m2,.bool x0,.int .i64 x1,.string x2,.int .i64 h,.slice A2 n c2]) (eX:=41) (eY:=41);have Qg:=hid hbw;obtain⟨a0,a1,a2,a3,a4,a5,a6,a7,a8,a9,a10,a11,a12,a13,a14⟩:=Zch ra;obtain⟨b'0,b'1,b'2,b'3,b'4,b'5,b'6,b'7,b'8,b'9,b'10,b'11,b'12,b'13,b'14⟩:=Zch rz;clear ra rz hbw;generalize (w.alloc (.cells #[.int .i64 o,.int .i64 l,.int .u32 s,.int .i64 cd,.int .i64 wd,.bool b0,.int .i64 i1,.bool m0,.int .i64 m1,.string m2,.bool x0,.int .i64 x1,.string x2,.int .i64 h,.slice A1 n c1] 41)).alloc (.cells #[.int .i64 o,.int .i64 l,.int .u32 s,.int .i64 cd,.int .i64 wd,.bool b0,.int .i64 i1,.bool m0,.int .i64 m1,.string m2,.bool x0,.int .i64 x1,.string x2,.int .i64 h,.slice A2 n c2] 41)=w0 at *;go_wp2_with (go_at_call 52;refine(JE.out _ Qg.out).mono ?_;rintro e w1 ⟨rfl,hb1⟩)
 go_ret;exact⟨rfl,Zad Qg.out hb1⟩
theorem Gr.at {w:World} {B n cap:Nat} {A:Option Addr} {es:List Ent} {ces:Nat→List Ent} {lo:Nat→Nat} {C:Nat} {xs:List Nat} (h:Gr w B (.slice A n cap) es ces lo C xs) (i:Nat) (hi:i<es.length) :
  ∃ b o A2 c2,A=some ⟨b,o,none⟩∧w.cell? ⟨b,o+i*2,none⟩=some (.int .i64 (Za4 C xs i:Nat))∧w.cell? ⟨b,o+i*2+1,none⟩=some (.slice A2 C c2)∧(es.getD i Ent.df).2=.slice A2 C c2∧CkN w (lo i) (.slice A2 C c2) (ces i) C xs i∧(ces i).length=C:=by
 obtain⟨hc,hl⟩:=h.inn i hi;obtain⟨A2,c2,he⟩:=Zah hc.n.own;rw[hl]at he;rw[he]at hc;have hes:∀ p∈es,p.1.length+1=2:=fun p hp=>by
  obtain⟨k,hk,rfl⟩:=List.getElem_of_mem hp;have:=h.hd k hk;simp only[List.getD,List.getElem?_eq_getElem hk,Option.getD_some]at this;rw[this];rfl
 have hg:=Zi3 es hes i hi;have hgd:=h.hd i hi;rw[hgd,he]at hg;obtain⟨b,o,e,hs⟩:=(Zb5 h.own).at (show 0<es.length by omega);refine⟨b,o,A2,c2,e,?_,?_,he,hc,hl⟩
 ·have:=hs (i*2+0) _ (hg 0 (by omega));exact this
 ·have:=hs (i*2+1) _ (hg 1 (by omega));exact this
theorem CkN.at {w:World} {B n cap:Nat} {A:Option Addr} {ces:List Ent} {C:Nat} {xs:List Nat} {g:Nat} (h:CkN w B (.slice A n cap) ces C xs g) (c:Nat) (hc:c<ces.length) :
  ∃ b o bv,A=some ⟨b,o,none⟩∧(ces.getD c Ent.df).2=bv∧Rd w bv (Zdg C xs g c).length 1 (u64s (Zdg C xs g c))∧∀ j,j<15→w.cell? ⟨b,o+(c*15+j),none⟩=(ckX C xs g c++[bv])[j]?:=by
 have hes:∀ p∈ces,p.1.length+1=15:=fun p hp=>by
  obtain⟨k,hk,rfl⟩:=List.getElem_of_mem hp;have:=h.hd k hk;simp only[List.getD,List.getElem?_eq_getElem hk,Option.getD_some]at this;rw[this];rfl
 have hg:=Zi3 ces hes c hc;rw[h.hd c hc]at hg;obtain⟨b,o,e,hs⟩:=(Zb5 h.n.own).at (show 0<ces.length by omega);refine⟨b,o,_,e,rfl,Zb5 (h.n.inn c hc),fun j hj=>?_⟩;have h1:=hg j hj;have hlt:j<(ckX C xs g c++[(ces.getD c Ent.df).2]).length:=by
  rw[List.length_append,ckX,Zye];simpa using hj
 rw[List.getElem?_eq_getElem hlt]at h1 ⊢;exact hs _ _ h1
theorem Zj7 {w:World} {g q k:Nat} {a0 a1 a2 a3 a4 a5 a6 a7 a8 a9 a10 a11 a12 a13 a14:Value} (h:∀ j,j<15→w.cell? ⟨g,q+(k*15+j),none⟩=[a0,a1,a2,a3,a4,a5,a6,a7,a8,a9,a10,a11,a12,a13,a14][j]?) :
  w.cell? ⟨g,q+k*15,none⟩=some a0∧w.cell? ⟨g,q+k*15+1,none⟩=some a1∧w.cell? ⟨g,q+k*15+2,none⟩=some a2∧w.cell? ⟨g,q+k*15+3,none⟩=some a3∧w.cell? ⟨g,q+k*15+4,none⟩=some a4∧w.cell? ⟨g,q+k*15+5,none⟩=some a5∧w.cell? ⟨g,q+k*15+6,none⟩=some a6∧w.cell? ⟨g,q+k*15+7,none⟩=some a7∧w.cell? ⟨g,q+k*15+8,none⟩=some a8∧w.cell? ⟨g,q+k*15+9,none⟩=some a9∧w.cell? ⟨g,q+k*15+10,none⟩=some a10∧w.cell? ⟨g,q+k*15+11,none⟩=some a11∧w.cell? ⟨g,q+k*15+12,none⟩=some a12∧w.cell? ⟨g,q+k*15+13,none⟩=some a13∧w.cell? ⟨g,q+k*15+14,none⟩=some a14 :=
 ⟨h 0 (by omega),h 1 (by omega),h 2 (by omega),h 3 (by omega),h 4 (by omega),h 5 (by omega),h 6 (by omega),h 7 (by omega),h 8 (by omega),h 9 (by omega),h 10 (by omega),h 11 (by omega),h 12 (by omega),h 13 (by omega),h 14 (by omega)⟩
theorem Rd.lens {w:World} {A:Option Addr} {n c m sz:Nat} {cs:List Value} (h:Rd w (.slice A n c) m sz cs):m≤9223372036854775807:=by
 obtain⟨_,cap,_,h1,h2,_⟩:=h.form;unfold maxLen at h2;omega
set_option maxHeartbeats 8000000 in
theorem Zoc (w:World):Calls Tryz.prog 8 #[.agg #[.slice none 0 0,.slice none 0 0],.agg #[.slice none 0 0,.slice none 0 0]] w fun e w'=>e=.returned (.bool true)∧Below w.heap.size w w':=by
 have HS:=hid (fun(w2:World)=>Zjh (.slice none 0 0) (.slice none 0 0) [] w2 (by exact⟨rfl,.inl ⟨⟨_,rfl⟩,rfl⟩⟩) (by exact⟨rfl,.inl ⟨⟨_,rfl⟩,rfl⟩⟩) (by simp));go_enter Tryz.func8,Tryz.ntmps8;go_upto_region 1 with fail
 obtain⟨ra,rb,hbw⟩:=Zjk (u:=w) (X:=#[.slice none 0 0,.slice none 0 0]) (Y:=#[.slice none 0 0,.slice none 0 0]) (eX:=26) (eY:=26);have QK:=hid ra;have Zx:=hid rb;have Qg:=hid hbw;clear ra rb hbw;generalize (w.alloc (.cells #[.slice none 0 0,.slice none 0 0] 26)).alloc (.cells #[.slice none 0 0,.slice none 0 0] 26)=w0 at *;obtain⟨a0,a1⟩:=Zdd QK.out;obtain⟨b0,b1⟩:=Zdd Zx.out;have nd:∀(k b:Nat) (e:TypeId) (cs:List Value),Row w0 b e cs→Row (w0.drewN k) b e cs:=fun k b e cs h=>h
 go_upto_region 3 with (go_at_call 24;refine(HS.out _).mono ?_;rintro e w1 ⟨rfl,nd1,rfl⟩;have UE:=hid (nd nd1 _ _ _ QK.out);have YI:=hid (nd nd1 _ _ _ Zx.out);obtain⟨p0,p1⟩:=Zdd UE.out;obtain⟨q0,q1⟩:=Zdd YI.out)
 have V1:Hid (Below w.heap.size w (w0.drewN nd1)):=hid (Zag Qg.out nd1);clear a0 a1 b0 b1 QK Zx nd;generalize w0.drewN nd1=w2 at *;go_upto_region 4 with fail
 clear p0 p1 q0 q1;go_loopw [27] (fun i wr=>i=.int .i64 0∧wr=w2) (fun i _=>0)
 case atStart=>exact⟨rfl,rfl⟩
 case round =>
  obtain⟨rfl,rfl⟩:=hrel;go_wp2_with fail
  go_ret;exact⟨rfl,V1.out⟩
set_option maxHeartbeats 16000000 in
theorem Zoo (kv gv kv' gv':Value) (B B':Nat) (xs:List Nat) (w:World) (h:Zgn w B kv gv xs) (h':Zgn w B' kv' gv' xs) :
  Calls Tryz.prog 8 #[.agg #[kv,gv],.agg #[kv',gv']] w fun e w'=>e=.returned (.bool true)∧Below w.heap.size w w':=by
 obtain⟨hk,es,ces,lo,hes,hg⟩:=h;obtain⟨hk',es',ces',lo',hes',hg'⟩:=h';have hkl:(nI (iKs (iC xs) xs)).length=iC xs:=by have:=hk.1;simpa [i64s]using this
 have hks:=(Zb5 hk).form;have HS:=hid (fun(w2:World) (hb:Below w.heap.size w w2)=>Zjh kv kv' (nI (iKs (iC xs) xs)) w2 (by rw[hkl];exact(Zb5 hk).mono hb) (by rw[hkl];exact(Zb5 hk').mono hb) (by rw[hkl];obtain⟨_,cap,_,h1,h2,_⟩:=hks;omega));obtain⟨A1,c1,rfl⟩:=Zah hk;obtain⟨A2,c2,rfl⟩:=Zah hg.own;obtain⟨B1,d1,rfl⟩:=Zah hk';obtain⟨B2,d2,rfl⟩:=Zah hg'.own;rw[hes]at hg ⊢;rw[hes']at hg' ⊢;have HG:=hid hg;have HG':=hid hg';have VO:=hid hes;have HES':=hid hes';have hGm:iG xs≤9223372036854775807:=by have:=hg.own;rw[hes]at this;exact(Zb5 this).lens
 have hCm:iC xs≤9223372036854775807:=(Zb5 hk).lens;clear hk hk' hg hg' hkl hes hes' hks;generalize iC xs=C at *;generalize iG xs=G at *;go_enter Tryz.func8,Tryz.ntmps8;go_upto_region 1 with fail
 obtain⟨ra,rb,hbw⟩:=Zjk (u:=w) (X:=#[.slice A1 C c1,.slice A2 G c2]) (Y:=#[.slice B1 C d1,.slice B2 G d2]) (eX:=26) (eY:=26);have QK:=hid ra;have Zx:=hid rb;have Qg:=hid hbw;clear ra rb hbw;obtain⟨pa,hpa⟩:∃ pa,w.heap.size=pa:=⟨_,rfl⟩;have HPA:=hid hpa;rw[hpa]at QK Zx ⊢;clear hpa;generalize (w.alloc (.cells #[.slice A1 C c1,.slice A2 G c2] 26)).alloc (.cells #[.slice B1 C d1,.slice B2 G d2] 26)=w0 at *;obtain⟨a0,a1⟩:=Zdd QK.out;obtain⟨b0,b1⟩:=Zdd Zx.out;have nd:∀(k b:Nat) (e:TypeId) (cs:List Value),Row w0 b e cs→Row (w0.drewN k) b e cs:=fun k b e cs h=>h
 have e1:((G:Int) != (G:Int))=false:=by simp
 have e2:((C:Int) != (C:Int))=false:=by simp
 go_upto_region 3 with (go_at_call 24;refine(HS.out _ Qg.out).mono ?_;rintro e w1 ⟨rfl,nd1,rfl⟩;have UE:=hid (nd nd1 _ _ _ QK.out);have YI:=hid (nd nd1 _ _ _ Zx.out);obtain⟨p0,p1⟩:=Zdd UE.out;obtain⟨q0,q1⟩:=Zdd YI.out)
 have V1:Hid (Below w.heap.size w (w0.drewN nd1)):=hid (Zag Qg.out nd1);clear a0 a1 b0 b1 QK Zx nd Qg HS;generalize w0.drewN nd1=w2 at *;go_upto_region 4 with fail
 clear p0 p1 q0 q1;go_loopw [27] (fun i wr=>∃ t:Nat,t≤G∧i=.int .i64 t∧Hid (Row wr pa 26 [.slice A1 C c1,.slice A2 G c2])∧Hid (Row wr (pa+1) 26 [.slice B1 C d1,.slice B2 G d2])∧Hid (Below w.heap.size w wr)) (fun i _=>G-(intOf i).toNat)
 case atStart=>exact⟨0,by omega,rfl,UE,YI,V1⟩
 case round =>
  obtain⟨t,ht,rfl,QK,Zx,Qg⟩:=hrel;clear UE YI V1;by_cases hlt:t<G
  ·obtain⟨b,o,Ac,cc,rfl,m0,m1,_,hck,hcl⟩:=(HG.out.mono Qg.out).at t (by rw[VO.out];exact hlt);obtain⟨b',o',Ac',cc',rfl,l0,l1,_,hck',hcl'⟩:=(HG'.out.mono Qg.out).at t (by rw[HES'.out];exact hlt);have Y2:=hid hck;have HCK':=hid hck';have Yp:=hid hcl;have HCL':=hid hcl';clear hck hck' hcl hcl';obtain⟨a0,a1⟩:=Zdd QK.out;obtain⟨b0,b1⟩:=Zdd Zx.out;go_upto_region 7 with fail
   have hf:=Zbs (w:=wr) (C:=#[.int .i64 (Za4 C xs t:Nat),.slice Ac C cc]) (e:=33);have Jp:=hid hf.1;have Qa:=hid hf.2;have b1':=(Zx.out.mono hf.2).cell 1;simp only[List.getElem?_cons_zero,List.getElem?_cons_succ]at b1';have l0':=(hf.2.cell (World.block_lt_of_cell? wr _ l0)).trans l0;have l1':=(hf.2.cell (World.block_lt_of_cell? wr _ l1)).trans l1;clear hf a0 a1 b0 b1 m0 m1 l0 l1;obtain⟨va,hva⟩:∃ va,wr.heap.size=va:=⟨_,rfl⟩;have HVAE:=hid hva;rw[hva]at Jp ⊢;clear hva;generalize wr.alloc (.cells #[.int .i64 (Za4 C xs t:Nat),.slice Ac C cc] 33)=w5 at *;go_upto_region 8 with fail
   have hf:=Zbs (w:=w5) (C:=#[.int .i64 (Za4 C xs t:Nat),.slice Ac' C cc']) (e:=33);have JK:=hid hf.1;have X9:=hid (Jp.out.mono hf.2);have Qc:=hid (Zad Qa.out hf.2);clear hf b1' l0' l1';obtain⟨vb,hvb⟩:∃ vb,w5.heap.size=vb:=⟨_,rfl⟩;have HVBE:Hid (wr.heap.size≤vb):=hid (by rw[← hvb];exact Qa.out.size);rw[hvb]at JK ⊢;clear hvb;generalize w5.alloc (.cells #[.int .i64 (Za4 C xs t:Nat),.slice Ac' C cc'] 33)=w6 at *;obtain⟨a0,a1⟩:=Zdd X9.out;obtain⟨b0,b1⟩:=Zdd JK.out;have e3:((Za4 C xs t:Int) != (Za4 C xs t:Int))=false:=by simp
   go_upto_region 11 with fail
   clear a0 a1 b0 b1 e3;generalize wr=wo at *;go_loopw [57] (fun i wv=>∃ c:Nat,c≤C∧i=.int .i64 c∧Hid (Row wv va 33 [.int .i64 (Za4 C xs t:Nat),.slice Ac C cc])∧Hid (Row wv vb 33 [.int .i64 (Za4 C xs t:Nat),.slice Ac' C cc'])∧Hid (Below wo.heap.size wo wv)) (fun i _=>C-(intOf i).toNat)
   case atStart=>exact⟨0,by omega,rfl,X9,JK,Qc⟩
   case round =>
    obtain⟨c,hc,rfl,HYA,HYB,Q5⟩:=hrel;clear X9 JK Qc Jp Qa;by_cases hlc:c<C
    ·obtain⟨g,q,bv,rfl,_,hbv,hcs⟩:=(Y2.out.below (T:=0) (Q5.out.mono (Nat.le_refl _))).at c (by rw[Yp.out];exact hlc);obtain⟨g',q',bv',rfl,_,hbv',hcs'⟩:=(HCK'.out.below (T:=0) (Q5.out.mono (Nat.le_refl _))).at c (by rw[HCL'.out];exact hlc);obtain⟨ol,ll,sl,cdl,wdl,zl,hk1,_,_,_⟩:=Zoa C xs t c;rw[hk1]at hcs hcs';clear hk1;unfold ckVs at hcs hcs';simp only[List.cons_append,List.nil_append]at hcs hcs';have HCA:=hid (fun(w2:World) (hb:Below wr.heap.size wr w2)=>Znt (ol:Nat) (ll:Nat) (sl:Nat) (cdl:Nat) (wdl:Nat) zl.rg zl.nu zl.mn.n zl.mn.i zl.mn.s zl.mx.n zl.mx.i zl.mx.s zl.hs bv bv' (Zdg C xs t c) w2 (hbv.mono hb) (hbv'.mono hb) (by obtain⟨_,cap,_,h1,h2,_⟩:=hbv.form;omega));obtain⟨D1,f1,rfl,_,_,_⟩:=hbv.form;obtain⟨D2,f2,rfl,_,_,_⟩:=hbv'.form;clear hbv hbv';obtain⟨a0,a1⟩:=Zdd HYA.out;obtain⟨b0,b1⟩:=Zdd HYB.out;generalize (Zdg C xs t c).length=bn at *;obtain⟨y0,y1,y2,y3,y4,y5,y6,y7,y8,y9,y10,y11,y12,y13,y14⟩:=Zj7 hcs;obtain⟨z0,z1,z2,z3,z4,z5,z6,z7,z8,z9,z10,z11,z12,z13,z14⟩:=Zj7 hcs';have YT:=hid (fun(w':World) (hb:Below wr.heap.size wr w')=>(show w'.cell? ⟨va,1,none⟩=some (.slice (some ⟨g,q,none⟩) C cc)∧w'.cell? ⟨vb,1,none⟩=some (.slice (some ⟨g',q',none⟩) C cc')∧w'.cell? ⟨g,q+c*15,none⟩=some (.int .i64 (ol:Nat))∧w'.cell? ⟨g,q+c*15+1,none⟩=some (.int .i64 (ll:Nat))∧w'.cell? ⟨g,q+c*15+2,none⟩=some (.int .u32 (sl:Nat))∧w'.cell? ⟨g,q+c*15+3,none⟩=some (.int .i64 (cdl:Nat))∧w'.cell? ⟨g,q+c*15+4,none⟩=some (.int .i64 (wdl:Nat))∧w'.cell? ⟨g,q+c*15+5,none⟩=some (.bool zl.rg)∧w'.cell? ⟨g,q+c*15+6,none⟩=some (.int .i64 zl.nu)∧w'.cell? ⟨g,q+c*15+7,none⟩=some (.bool zl.mn.n)∧w'.cell? ⟨g,q+c*15+8,none⟩=some (.int .i64 zl.mn.i)∧w'.cell? ⟨g,q+c*15+9,none⟩=some (.string zl.mn.s)∧w'.cell? ⟨g,q+c*15+10,none⟩=some (.bool zl.mx.n)∧w'.cell? ⟨g,q+c*15+11,none⟩=some (.int .i64 zl.mx.i)∧w'.cell? ⟨g,q+c*15+12,none⟩=some (.string zl.mx.s)∧w'.cell? ⟨g,q+c*15+13,none⟩=some (.int .i64 zl.hs)∧w'.cell? ⟨g,q+c*15+14,none⟩=some (.slice D1 bn f1)∧w'.cell? ⟨g',q'+c*15,none⟩=some (.int .i64 (ol:Nat))∧w'.cell? ⟨g',q'+c*15+1,none⟩=some (.int .i64 (ll:Nat))∧w'.cell? ⟨g',q'+c*15+2,none⟩=some (.int .u32 (sl:Nat))∧w'.cell? ⟨g',q'+c*15+3,none⟩=some (.int .i64 (cdl:Nat))∧w'.cell? ⟨g',q'+c*15+4,none⟩=some (.int .i64 (wdl:Nat))∧w'.cell? ⟨g',q'+c*15+5,none⟩=some (.bool zl.rg)∧w'.cell? ⟨g',q'+c*15+6,none⟩=some (.int .i64 zl.nu)∧w'.cell? ⟨g',q'+c*15+7,none⟩=some (.bool zl.mn.n)∧w'.cell? ⟨g',q'+c*15+8,none⟩=some (.int .i64 zl.mn.i)∧w'.cell? ⟨g',q'+c*15+9,none⟩=some (.string zl.mn.s)∧w'.cell? ⟨g',q'+c*15+10,none⟩=some (.bool zl.mx.n)∧w'.cell? ⟨g',q'+c*15+11,none⟩=some (.int .i64 zl.mx.i)∧w'.cell? ⟨g',q'+c*15+12,none⟩=some (.string zl.mx.s)∧w'.cell? ⟨g',q'+c*15+13,none⟩=some (.int .i64 zl.hs)∧w'.cell? ⟨g',q'+c*15+14,none⟩=some (.slice D2 bn f2)from by
      have key:∀(p:Addr) (u:Value),wr.cell? p=some u→w'.cell? p=some u:=fun p u h=>(hb.cell (World.block_lt_of_cell? wr _ h)).trans h
      exact⟨key _ _ a1,key _ _ b1,key _ _ y0,key _ _ y1,key _ _ y2,key _ _ y3,key _ _ y4,key _ _ y5,key _ _ y6,key _ _ y7,key _ _ y8,key _ _ y9,key _ _ y10,key _ _ y11,key _ _ y12,key _ _ y13,key _ _ y14,key _ _ z0,key _ _ z1,key _ _ z2,key _ _ z3,key _ _ z4,key _ _ z5,key _ _ z6,key _ _ z7,key _ _ z8,key _ _ z9,key _ _ z10,key _ _ z11,key _ _ z12,key _ _ z13,key _ _ z14⟩))
     clear hcs hcs' a0 a1 b0 b1 y0 y1 y2 y3 y4 y5 y6 y7 y8 y9 y10 y11 y12 y13 y14 z0 z1 z2 z3 z4 z5 z6 z7 z8 z9 z10 z11 z12 z13 z14;obtain⟨m0,m1,y0,y1,y2,y3,y4,y5,y6,y7,y8,y9,y10,y11,y12,y13,y14,z0,z1,z2,z3,z4,z5,z6,z7,z8,z9,z10,z11,z12,z13,z14⟩:=YT.out wr.drew (Zag (Zab wr) 1);go_upto_region 13 with fail
     go_region_held3 (fun w'=>w'.cell? ⟨va,1,none⟩=some (.slice (some ⟨g,q,none⟩) C cc)∧w'.cell? ⟨vb,1,none⟩=some (.slice (some ⟨g',q',none⟩) C cc')∧w'.cell? ⟨g,q+c*15,none⟩=some (.int .i64 (ol:Nat))∧w'.cell? ⟨g,q+c*15+1,none⟩=some (.int .i64 (ll:Nat))∧w'.cell? ⟨g,q+c*15+2,none⟩=some (.int .u32 (sl:Nat))∧w'.cell? ⟨g,q+c*15+3,none⟩=some (.int .i64 (cdl:Nat))∧w'.cell? ⟨g,q+c*15+4,none⟩=some (.int .i64 (wdl:Nat))∧w'.cell? ⟨g,q+c*15+5,none⟩=some (.bool zl.rg)∧w'.cell? ⟨g,q+c*15+6,none⟩=some (.int .i64 zl.nu)∧w'.cell? ⟨g,q+c*15+7,none⟩=some (.bool zl.mn.n)∧w'.cell? ⟨g,q+c*15+8,none⟩=some (.int .i64 zl.mn.i)∧w'.cell? ⟨g,q+c*15+9,none⟩=some (.string zl.mn.s)∧w'.cell? ⟨g,q+c*15+10,none⟩=some (.bool zl.mx.n)∧w'.cell? ⟨g,q+c*15+11,none⟩=some (.int .i64 zl.mx.i)∧w'.cell? ⟨g,q+c*15+12,none⟩=some (.string zl.mx.s)∧w'.cell? ⟨g,q+c*15+13,none⟩=some (.int .i64 zl.hs)∧w'.cell? ⟨g,q+c*15+14,none⟩=some (.slice D1 bn f1)∧w'.cell? ⟨g',q'+c*15,none⟩=some (.int .i64 (ol:Nat))∧w'.cell? ⟨g',q'+c*15+1,none⟩=some (.int .i64 (ll:Nat))∧w'.cell? ⟨g',q'+c*15+2,none⟩=some (.int .u32 (sl:Nat))∧w'.cell? ⟨g',q'+c*15+3,none⟩=some (.int .i64 (cdl:Nat))∧w'.cell? ⟨g',q'+c*15+4,none⟩=some (.int .i64 (wdl:Nat))∧w'.cell? ⟨g',q'+c*15+5,none⟩=some (.bool zl.rg)∧w'.cell? ⟨g',q'+c*15+6,none⟩=some (.int .i64 zl.nu)∧w'.cell? ⟨g',q'+c*15+7,none⟩=some (.bool zl.mn.n)∧w'.cell? ⟨g',q'+c*15+8,none⟩=some (.int .i64 zl.mn.i)∧w'.cell? ⟨g',q'+c*15+9,none⟩=some (.string zl.mn.s)∧w'.cell? ⟨g',q'+c*15+10,none⟩=some (.bool zl.mx.n)∧w'.cell? ⟨g',q'+c*15+11,none⟩=some (.int .i64 zl.mx.i)∧w'.cell? ⟨g',q'+c*15+12,none⟩=some (.string zl.mx.s)∧w'.cell? ⟨g',q'+c*15+13,none⟩=some (.int .i64 zl.hs)∧w'.cell? ⟨g',q'+c*15+14,none⟩=some (.slice D2 bn f2)) (first | (refine YT.out _ ?_;first | exact Zag (Zab wr) 1 | exact Ys.out)) (first | (go_at_call 27;refine(HCA.out _ (Zag (Zab wr) 1)).mono ?_;rintro e w9 ⟨rfl,hb9⟩;have Ys:=hid (show Below wr.heap.size wr w9 from Zad (Zag (Zab wr) 1) hb9);clear hb9))
     go_wp2_with fail
     go_roundw
     case rel=>exact⟨c+1,by omega,by go_num,hid (HYA.out.mono Ys.out),hid (HYB.out.mono Ys.out),hid (Zad Q5.out Ys.out)⟩
     case measure=>simp[intOf];omega
    ·obtain rfl:c=C:=by omega
     have HRA9:=hid (QK.out.mono Q5.out);have HRB9:=hid (Zx.out.mono Q5.out);go_wp2_with fail
     go_roundw
     case rel=>exact⟨t+1,by omega,by go_num,HRA9,HRB9,hid (Zad Qg.out Q5.out)⟩
     case measure=>simp[intOf];omega
  ·obtain rfl:t=G:=by omega
   go_wp2_with fail
   go_ret;exact⟨rfl,Qg.out⟩
set_option maxRecDepth 20000
theorem Tryz.infoWs:(Tryz.prog.info? 37).map (fun i=>(i.zero,i.size,i.bytes))=some (some (.slice none 0 0),1,24):=by kernel_rfl
structure OwS (B s:Nat) (v:Value) (L:List Value) (N:Nat→Nat) (X:Nat→List Value) (w0:World) (i:Nat) (vl:Value) (ls:List Value) (w:World):Prop where
 rdv:Rd w v L.length 1 L
 lon:w.ownsRow w0.heap.size 37 1 vl i ls
 mine:∀ j,i≤j→j<L.length→w.ownsRow B 73 1 (L.getD j undef) (N j) (X j)
 done:∀ j,j<i→Rd w (L.getD j undef) (N j) 1 (Zcs j (N j))∧Rd w (ls.getD j undef) (N j+s) 1 (Zcs j (N j+s))
 apart:∀ j,j<i→∀ k,(L.getD j undef).ownBlock=some k∨(ls.getD j undef).ownBlock=some k→k<w.heap.size∧vl.ownBlock≠some k∧∀ j',i≤j'→j'<L.length→(L.getD j' undef).ownBlock≠some k
 bel:Below B w0 w
 size:w0.heap.size≤w.heap.size
 els:∀ k,k<w0.heap.size→(∀ j,j<L.length→(L.getD j undef).ownBlock≠some k)→w.heap[k]? = w0.heap[k]?
theorem Zfh (ls:List Value) (x:Value) (j:Nat) (h:j<ls.length):(ls++[x]).getD j undef=ls.getD j undef:=by simp[List.getD,List.getElem?_append_left h]
theorem Zfj (ls:List Value) (x:Value) (j:Nat) (h:j=ls.length):(ls++[x]).getD j undef=x:=by subst h;simp[List.getD]
theorem OwS.step {B s:Nat} {v:Value} {L:List Value} {N:Nat→Nat} {X:Nat→List Value} {w0 wa wc w':World} {t u cd cd7:Nat} {D D7:Option Addr} {vl vl':Value} {ls:List Value}
  (h:OwS B s v L N X w0 t vl ls wa) (ht:t<L.length) (hLt:L.getD t undef=.slice D u cd) (hm:N t=u) (hsz:wa.heap.size≤wc.heap.size)
  (hel:∀ k,k<wa.heap.size→(Value.slice D u cd).ownBlock≠some k→wc.heap[k]? = wa.heap[k]?)
  (hrd:Rd wc (.slice D u cd) u 1 (Zcs t u)) (ho7:wc.ownsRow B 73 1 (.slice D7 (u+s) cd7) (u+s) (Zcs t (u+s)))
  (hw7:∀ k,(Value.slice D7 (u+s) cd7).ownBlock=some k→(Value.slice D u cd).ownBlock=some k∨wa.heap.size≤k)
  (hlon:w'.ownsRow w0.heap.size 37 1 vl' (t+1) (ls++[.slice D7 (u+s) cd7])) (hsz':wc.heap.size≤w'.heap.size)
  (hk':∀ k,k<wc.heap.size→some k≠vl.ownBlock→w'.heap[k]? = wc.heap[k]?)
  (hw':vl'.ownBlock=vl.ownBlock∨((∀ k,vl'.ownBlock=some k→wc.heap.size≤k)∧∀ k,k<wc.heap.size→w'.heap[k]? = wc.heap[k]?)) (hbel:Below B w0 w')
  (hLT:∀ j,j<L.length→∀ k,(L.getD j undef).ownBlock=some k→k<w0.heap.size) (hSEP:∀ i j,i<j→j<L.length→∀ k,(L.getD i undef).ownBlock=some k→(L.getD j undef).ownBlock≠some k)
  (hV:∀ k,v.ownBlock=some k→∀ j,j<L.length→(L.getD j undef).ownBlock≠some k) (hvlt:∀ k,v.ownBlock=some k→k<w0.heap.size) :
  OwS B s v L N X w0 (t+1) vl' (ls++[.slice D7 (u+s) cd7]) w':=by
 have h0:=h.size;have hll:ls.length=t:=by have:=h.lon.1;omega
 have hvl:∀ k,vl.ownBlock=some k→w0.heap.size≤k∧k<wa.heap.size:=h.lon.lt;have hvl':∀ k,vl'.ownBlock=some k→w0.heap.size≤k∧k<w'.heap.size:=hlon.lt;have key:∀ k,k<wa.heap.size→(Value.slice D u cd).ownBlock≠some k→vl.ownBlock≠some k→w'.heap[k]? = wa.heap[k]?:=fun k h1 h2 h3 =>
  (hk' k (Nat.lt_of_lt_of_le h1 hsz) (fun e=>h3 e.symm)).trans (hel k h1 h2)
 have hLtk:∀ k,(Value.slice D u cd).ownBlock=some k→k<w0.heap.size:=fun k hk=>hLT t ht k (by rw[hLt];exact hk)
 have hold:∀ k,k<w0.heap.size→vl.ownBlock≠some k:=fun k hk e=>by have:=(hvl k e).1;omega
 have hold':∀ k,k<w0.heap.size→vl'.ownBlock≠some k:=fun k hk e=>by have:=(hvl' k e).1;omega
 have hin':∀ k,k<wc.heap.size→vl.ownBlock≠some k→vl'.ownBlock≠some k:=fun k hk hne e=>by
  rcases hw' with h' | ⟨h',_⟩
  ·exact hne (h'.symm.trans e)
  ·have:=h' k e;omega
 refine⟨?_,hlon,?_,?_,?_,hbel,by omega,fun k hk hne=>(key k (by omega) (by rw[← hLt];exact hne t ht) (hold k hk)).trans (h.els k hk hne)⟩
 ·refine h.rdv.keep fun k hk=>?_
  have hkl:=hvlt k hk;exact key k (by omega) (fun e=>hV k hk t ht (by rw[hLt];exact e)) (hold k hkl)
 ·intro j hj hjl;refine Zav (h.mine j (by omega) hjl) fun k hk=>?_
  have hkl:=hLT j hjl k hk;exact key k (by omega) (fun e=>hSEP t j (by omega) hjl k (by rw[hLt];exact e) hk) (hold k hkl)
 ·intro j hj;by_cases hjt:j<t
  ·obtain⟨d1,d2⟩:=h.done j hjt;have ap:=h.apart j hjt;rw[Zfh _ _ _ (by omega)];constructor
   ·refine d1.keep fun k hk=>?_
    obtain⟨p1,p2,p3⟩:=ap k (.inl hk);exact key k p1 (by rw[← hLt];exact p3 t (Nat.le_refl _) ht) p2
   ·refine d2.keep fun k hk=>?_
    obtain⟨p1,p2,p3⟩:=ap k (.inr hk);exact key k p1 (by rw[← hLt];exact p3 t (Nat.le_refl _) ht) p2
  ·obtain rfl:j=t:=by omega
   rw[Zfj _ _ _ hll.symm,hLt,hm];constructor
   ·refine hrd.keep fun k hk=>?_
    have hkl:=hLtk k hk;exact hk' k (by omega) (fun e=>hold k hkl e.symm)
   ·refine(Zba ho7).keep fun k hk=>?_
    have hk2:=(ho7.lt k hk).2;refine hk' k hk2 fun e=>?_
    rcases hw7 k hk with h1 | h1
    ·exact hold k (hLtk k h1) e.symm
    ·have:=(hvl k e.symm).2;omega
 ·intro j hj k hk;by_cases hjt:j<t
  ·rw[Zfh _ _ _ (by omega)]at hk;obtain⟨p1,p2,p3⟩:=h.apart j hjt k hk;exact⟨by omega,hin' k (by omega) p2,fun j' h1 h2=>p3 j' (by omega) h2⟩
  ·obtain rfl:j=t:=by omega
   rw[Zfj _ _ _ hll.symm,hLt]at hk;have hcase:(Value.slice D u cd).ownBlock=some k∨(wa.heap.size≤k∧k<wc.heap.size):=by
    rcases hk with hk | hk
    ·exact .inl hk
    ·rcases hw7 k hk with h1 | h1
     ·exact .inl h1
     ·exact .inr ⟨h1,(ho7.lt k hk).2⟩
   rcases hcase with h1 | ⟨h1,h2⟩
   ·have hkl:=hLtk k h1;exact⟨by omega,hold' k hkl,fun j' hj' hl'=>hSEP j j' (by omega) hl' k (by rw[hLt];exact h1)⟩
   ·refine⟨by omega,hin' k h2 (fun e=>by have:=(hvl k e).2;omega),fun j' hj' hl' e=>?_⟩;have:=hLT j' hl' k e;omega
theorem Zwl (i:Nat) (hi:i≤1048576):bits BinOp.xor IntKind.u64 IntKind.u64.max (501+(i:Int))=((18446744073709551615-(501+i):Nat):Int):=Zx4 _ (501+i) (by omega) (by omega)
set_option maxHeartbeats 4000000 in
theorem Zkj (B:Nat) (v:Value) (L:List Value) (N:Nat→Nat) (X:Nat→List Value) (r:Int) (w:World) (hx:Rd w v L.length 1 L) (hB:B≤w.heap.size) (hnL:L.length≤1048576) (hN:∀ j,N j≤1099511627776)
  (hown:∀ j,j<L.length→w.ownsRow B 73 1 (L.getD j undef) (N j) (X j))
  (hsep:∀ i j,i<j→j<L.length→∀ k,(L.getD i undef).ownBlock=some k→(L.getD j undef).ownBlock≠some k)
  (hv:∀ k,v.ownBlock=some k→∀ j,j<L.length→(L.getD j undef).ownBlock≠some k) :
  Calls Tryz.prog 9 #[v,.int .i64 r] w fun e w'=>e=.returned (.bool true)∧Below B w w'∧∀ k,k<w.heap.size→(∀ j,j<L.length→(L.getD j undef).ownBlock≠some k)→w'.heap[k]? = w.heap[k]?:=by
 obtain⟨s,hs⟩:∃ s,Zng r L.length=s:=⟨_,rfl⟩;have hs2:s≤1024:=by rw[← hs];exact Zpk _ _
 have ZH:Hid (∀ w2:World,Calls Tryz.prog 28 #[.int .i64 r,.int .i64 (L.length:Int)] w2 fun e w'=>e=.returned (.int .i64 (s:Nat))∧∃ m,w'=w2.drewN m):=hid (fun w2=>by have:=Zpt r L.length w2 hnL;rw[hs]at this;exact this);have hvlt:Hid (0<L.length→∀ k,v.ownBlock=some k→k<w.heap.size):=hid (fun h0 k hk=>by
  obtain⟨A,cap,rfl,_,_,hA⟩:=hx.form;obtain⟨b,o,rfl,hseg⟩:=hA h0;simp[Value.ownBlock]at hk;subst hk;exact World.block_lt_of_cell? w _ (hseg 0 _ (List.getElem?_eq_getElem h0)))
 have QV:Hid (OwS B s v L N X w 0 (.slice none 0 0) [] w):=hid ⟨hx,World.ownsRow_nil _ _ _ _,fun j _ h=>hown j h,fun j h=>absurd h (Nat.not_lt_zero j),fun j h=>absurd h (Nat.not_lt_zero j),Below.refl _ _,Nat.le_refl _,fun k _ _=>rfl⟩;have Yl:Hid (∀ j,j<L.length→∀ k,(L.getD j undef).ownBlock=some k→k<w.heap.size):=hid (fun j hj k hk=>((hown j hj).lt k hk).2);have V2:=hid hsep;have HV:=hid hv;have HN:=hid hN;obtain⟨A,cap,rfl,hlc,hcm,_⟩:=hx.form;clear hx hown hsep hv hN hs;obtain⟨n,hn⟩:∃ n,L.length=n:=⟨_,rfl⟩;have HL:=hid hn;rw[hn]at hnL hlc ZH hvlt Yl V2 HV ⊢;rw[hn]at QV;clear hn;go_enter Tryz.func9,Tryz.ntmps9;go_wp2_with fail
 go_loopw [5,17] (fun v5 i wr=>∃(t:Nat) (ls:List Value),t≤n∧i=.int .i64 t∧Hid (OwS B s (.slice A n cap) L N X w t v5 ls wr)) (fun _ i _=>n-(intOf i).toNat)
 case atStart=>exact⟨0,[],by omega,rfl,QV⟩
 case round =>
  obtain⟨t,ls,ht,rfl,hst⟩:=hrel;clear QV;generalize wr=wa at *;by_cases hlt:t<n
  ·have htl:t<L.length:=by rw[HL.out];exact hlt
   have hrd:=hst.out.rdv;obtain⟨b,o,rfl,hseg⟩:=hrd.at (by omega);have hcell:wa.cell? ⟨b,o+t,none⟩=some (L.getD t undef):=hseg t _ (by rw[List.getElem?_eq_getElem htl];simp[List.getD,List.getElem?_eq_getElem htl]);have Qd:=hid (hst.out.mine t (Nat.le_refl _) htl);clear hrd hseg;generalize hLt:L.getD t undef=Lt at *;have HLt:=hid hLt;obtain⟨D,cd,rfl,hcd1,hcd2,hlen,_⟩:=Zaj Qd.out;have hNt:=HN.out t;generalize hm:N t=m at *;have HMm:=hid hm;have hmk:=Zwl t (by omega);clear hLt hm hlen;go_wp2_with fail
   have HX0:Hid ((X t).length=m):=hid (by have:=Qd.out.1;omega);go_loopw [24] (fun i wv=>∃ u:Nat,u≤m∧i=.int .i64 u∧Hid (wv.ownsRow B 73 1 (.slice D m cd) m (Zcs t u++(X t).drop u))∧Hid (∀ k,(Value.slice D m cd).ownBlock≠some k→wv.heap[k]? = wa.heap[k]?)∧Hid (wv.heap.size=wa.heap.size)∧Hid (Below B w wv)) (fun i _=>m-(intOf i).toNat)
   case atStart=>exact⟨0,by omega,rfl,hid (by simpa [Zcs]using Qd.out),hid (fun _ _=>rfl),hid rfl,hid hst.out.bel⟩
   case round =>
    obtain⟨u,hu,rfl,how,hkp,hsz,hbl⟩:=hrel;by_cases hlu:u<m
    ·obtain⟨A9,cap9,he9,_,_,hlen9,hform⟩:=Zaj how.out;injection he9 with e1 e2 e3
     subst e1 e3;obtain⟨g,rfl,hBg,hgs,hc,hf⟩:=hform (by omega);have c1:wr.cell? ⟨g,u,none⟩=some ((X t).getD u undef):=by
      have hxl:=HX0.out;rw[hc u hlu,List.getElem?_append_right (by simp[Zcs])];simp only[Zcs,List.length_replicate,Nat.sub_self,List.getElem?_drop,Nat.add_zero];rw[List.getElem?_eq_getElem (by omega)];simp[List.getD,List.getElem?_eq_getElem (show u<(X t).length by omega)]
     have f1:=hf u;have QE:=hid (Ztu how.out u (mk t));have YA:Hid ((Zcs t u++(X t).drop u).set u (mk t)=Zcs t (u+1)++(X t).drop (u+1)):=hid (by
      have hxl:=HX0.out;rw[List.set_append_right _ _ (by simp[Zcs])];simp only[Zcs,List.length_replicate,Nat.sub_self];rw[List.drop_eq_getElem_cons (by omega),List.set_cons_zero,List.replicate_succ',List.append_assoc];rfl)
     clear hform hc hf;generalize (X t).getD u undef=old at *;go_wp2_with fail
     rw[Zxr,hmk];go_roundw
     case rel =>
      refine⟨u+1,by omega,by go_num,hid (by rw[← YA.out];exact QE.out),hid (fun k hk=>?_),hid (by rw[← hsz.out];simp[World.setCell]),hid (Zac hbl.out _ _ _ hBg)⟩;rw[heap_setCell_other _ _ k _ (fun e=>hk (by simp[Value.ownBlock,e]))];exact hkp.out k hk
     case measure=>simp[intOf];omega
    ·obtain rfl:u=m:=by omega
     have hdr:(X t).drop u=[]:=List.drop_of_length_le (by rw[HX0.out];exact Nat.le_refl _);rw[hdr,List.append_nil]at how;clear hdr;generalize wr=wb at *;have JA:=hid (Zu6 how.out);have Zt:Hid (∀ k,(Value.slice D u cd).ownBlock=some k→k<wb.heap.size):=hid (fun k hk=>(how.out.lt k hk).2);go_wp2_with fail
     go_loopw [7,9] (fun v7 i wv=>∃ c:Nat,c≤s∧i=.int .i64 c∧Hid (wv.ownsRow B 73 1 v7 (u+c) (Zcs t (u+c)))∧Hid (Rd wv (.slice D u cd) u 1 (Zcs t u))∧Hid (∀ k,k<wb.heap.size→(Value.slice D u cd).ownBlock≠some k→wv.heap[k]? = wb.heap[k]?)∧Hid (wb.heap.size≤wv.heap.size)∧Hid (∀ k,v7.ownBlock=some k→(Value.slice D u cd).ownBlock=some k∨wb.heap.size≤k)∧Hid (Below B w wv)) (fun _ i _=>s-(intOf i).toNat)
     case atStart=>exact⟨0,by omega,rfl,how,hid (Zba how.out),hid (fun _ _ _=>rfl),hid (Nat.le_refl _),hid (fun k hk=>.inl hk),hbl⟩
     case round =>
      obtain⟨c,hc,rfl,ho7,hr7,hk7,hs7,hw7,hb7⟩:=hrel;by_cases hlc7:c<s
      ·have Yi:Hid (B≤wr.heap.size):=hid (Nat.le_trans hB hb7.out.size);go_wp2_with (first
        | (go_at_call 28;refine(ZH.out _).mono ?_;rintro e w' ⟨rfl,nd,rfl⟩)
        | (at_builtin;refine Zcp rfl (.tmp 43) (.tmp 48) rfl 73 (.int .u64 0) 8 Tryz.underlying37 Tryz.info45 rfl rfl rfl (Zav (w':=wr.drewN nd) ho7.out (fun _ _=>rfl)) Yi.out (by rfl) (by unfold maxLen;omega) (by omega) ?_;intro v' w' ho hb3 hsz3 hk3 hw3;have HO:=hid ho;have Qk:=hid hb3;have Jr:=hid hsz3;have Z8:=hid hk3;have Ua:=hid hw3;clear ho hb3 hsz3 hk3 hw3))
       go_roundw
       case rel =>
        have hsn:Zcs t (u+c)++[.int .u64 ((18446744073709551615-(501+t):Nat):Int)]=Zcs t (u+c+1):=Zq8 t (u+c);have ho9:w'.ownsRow B 73 1 v' (u+c+1) (Zcs t (u+c+1)):=by
         have h:=HO.out;rw[Zxr,hmk]at h;rw[← hsn];exact h
        refine⟨c+1,by omega,by go_num,hid ho9,hid (Zrx JA.out hr7.out ho9 (by omega) ?_),hid ?_,hid (Nat.le_trans hs7.out Jr.out),hid ?_,hid (hb7.out.trans ((Go.below_drewN (Below.refl B wr) nd).trans Qk.out))⟩
        ·intro k hk;have hkl:=Zt.out k hk;rcases Ua.out with h | ⟨_,h⟩
         ·by_cases hu7:u7.ownBlock=some k
          ·exact .inl (by rw[h];exact hu7)
          ·exact .inr (Z8.out k (Nat.lt_of_lt_of_le hkl hs7.out) (fun e=>hu7 e.symm))
         ·exact .inr (h k (Nat.lt_of_lt_of_le hkl hs7.out))
        ·intro k hk hne;have hne7:some k≠u7.ownBlock:=fun e=>by
          rcases hw7.out k e.symm with h | h
          ·exact hne h
          ·omega
         rw[← hk7.out k hk hne];exact Z8.out k (Nat.lt_of_lt_of_le hk hs7.out) hne7
        ·intro k hk;rcases Ua.out with h | ⟨h,_⟩
         ·exact hw7.out k (h.symm.trans hk)
         ·exact .inr (Nat.le_trans hs7.out (h k hk))
       case measure=>simp[intOf];omega
      ·obtain rfl:c=s:=by omega
       generalize wr=wc at *;have Zd:=hid hst.out.lon;have HWS:Hid (w.heap.size≤wa.heap.size):=hid hst.out.size;have UF:Hid (wa.heap.size=wb.heap.size):=hid hsz.out.symm;have J3:Hid (∀ k,k<wb.heap.size→(Value.slice D u cd).ownBlock≠some k→wc.heap[k]? = wa.heap[k]?):=hid (fun k hk hne=>(hk7.out k hk hne).trans (hkp.out k hne));have HNL:Hid (∀ k,u5.ownBlock=some k→(Value.slice D u cd).ownBlock≠some k):=hid (fun k hk e=>by
        have h1:=(Zd.out.lt k hk).1;have h2:=Yl.out t hlt k (by rw[HLt.out];exact e);omega)
       have HLC:Hid (wc.ownsRow w.heap.size 37 1 u5 t ls):=hid (Zav Zd.out (fun k hk=>J3.out k (by have:=(Zd.out.lt k hk).2;have:=UF.out;omega) (HNL.out k hk)));have HWC:Hid (w.heap.size≤wc.heap.size):=hid (by have:=HWS.out;have:=UF.out;have:=hs7.out;omega);obtain⟨D7,cd7,rfl,_,_,_,_⟩:=Zaj ho7.out;go_wp2_with (first
        | (go_at_call 28;refine(ZH.out _).mono ?_;rintro e w' ⟨rfl,nd,rfl⟩)
        | (at_builtin;refine Zcp rfl (.tmp 50) (.tmp 52) rfl 37 (.slice none 0 0) 24 Tryz.underlying30 Tryz.infoWs rfl rfl rfl (Zav (w':=wc.drewN nd) HLC.out (fun _ _=>rfl)) HWC.out (by rfl) (by unfold maxLen;omega) (by omega) ?_;intro v' w' ho hb3 hsz3 hk3 hw3;have HO:=hid ho;have Qk:=hid hb3;have Jr:=hid hsz3;have Z8:=hid hk3;have Ua:=hid hw3;clear ho hb3 hsz3 hk3 hw3))
       go_roundw
       case rel =>
        refine⟨t+1,ls++[.slice D7 (u+c) cd7],by omega,by go_num,hid ?_⟩;exact hst.out.step htl HLt.out HMm.out (by have:=UF.out;have:=hs7.out;omega) (fun k hk hne=>J3.out k (by have:=UF.out;omega) hne) hr7.out ho7.out (fun k hk=>by rw[UF.out];exact hw7.out k hk) HO.out Jr.out Z8.out Ua.out ((Go.below_drewN hb7.out nd).trans (Qk.out.mono hB)) (by rw[HL.out];exact Yl.out) (by rw[HL.out];exact V2.out) (by rw[HL.out];exact HV.out) (hvlt.out (by omega))
       case measure=>simp[intOf];omega
  ·obtain rfl:t=n:=by omega
   have XA:=hid hst.out.done;have UG:=hid hst.out.rdv;have UZ:=hid hst.out.lon;have Ya:=hid hst.out.bel;have J3:=hid hst.out.els;obtain⟨A5,c5,rfl,_,_,_,_⟩:=Zaj UZ.out;clear hst;go_wp2_with fail
   go_loop [57] (fun i=>∃ q:Nat,q≤t∧i=.int .i64 q) (fun i=>t-(intOf i).toNat)
   case atStart=>exact⟨0,by omega,rfl⟩
   case round =>
    obtain⟨q,hq,rfl⟩:=hrel;by_cases hlq:q<t
    ·obtain⟨hd1,hd2⟩:=XA.out q hlq;have JA:=hid hd1;have HD2:=hid hd2;obtain⟨b,o,rfl,hseg⟩:=UG.out.at (by rw[HL.out];omega);have hql:q<L.length:=by rw[HL.out];exact hlq
     have hcell:wa.cell? ⟨b,o+q,none⟩=some (L.getD q undef):=hseg q _ (by rw[List.getElem?_eq_getElem hql];simp[List.getD,List.getElem?_eq_getElem hql]);obtain⟨b5,o5,rfl,hseg5⟩:=(Zba UZ.out).at (by omega);have hlsl:ls.length=t:=by have:=UZ.out.1;omega
     have hcell5:wa.cell? ⟨b5,o5+q,none⟩=some (ls.getD q undef):=hseg5 q _ (by rw[List.getElem?_eq_getElem (by omega)];simp[List.getD,List.getElem?_eq_getElem (show q<ls.length by omega)]);clear hseg hseg5 hd1 hd2 hlsl;generalize L.getD q undef=Lq at *;generalize ls.getD q undef=lq at *;have hNq:=HN.out q;generalize N q=m at *;obtain⟨D,cd,rfl,_,_,hf1⟩:=JA.out.form;obtain⟨E,ce,rfl,_,_,hf2⟩:=HD2.out.form;obtain⟨z,hz⟩:∃ z,18446744073709551615-(501+q)=z:=⟨_,rfl⟩;have hmk:=Zwl q (by omega);rw[hz]at hmk;have hmk2:bits BinOp.xor IntKind.u64 (if IntKind.u64.signed=true then -1 else IntKind.u64.max) (501+(q:Int))=(z:Int):=by rw[Zxr];exact hmk
     have HMQ:Hid (mk q=.int .u64 (z:Int)):=hid (by rw[mk,hz]);have hzz:((z:Int) != (z:Int))=false:=by simp
     clear hmk hz;go_wp2_with fail
     go_loop [65] (fun i=>∃ u:Nat,u≤m∧i=.int .i64 u) (fun i=>m-(intOf i).toNat)
     case atStart=>exact⟨0,by omega,rfl⟩
     case round =>
      obtain⟨u,hu,rfl⟩:=hrel;by_cases hlu:u<m
      ·obtain⟨g,o1,rfl,hs1⟩:=hf1 (by omega);have hc1:wa.cell? ⟨g,o1+u,none⟩=some (.int .u64 (z:Int)):=by rw[← HMQ.out];exact hs1 u _ (Zhn q m u hlu)
       clear hf1 hf2 hs1;go_wp2_with fail
       go_round
       case rel=>exact⟨u+1,by omega,by go_num⟩
       case measure=>simp[intOf];omega
      ·obtain rfl:u=m:=by omega
       clear hf1;go_wp2_with fail
       go_loop [81] (fun i=>∃ u2:Nat,u2≤u+s∧i=.int .i64 u2) (fun i=>u+s-(intOf i).toNat)
       case atStart=>exact⟨0,by omega,rfl⟩
       case round =>
        obtain⟨u2,hu2,rfl⟩:=hrel;by_cases hlu2:u2<u+s
        ·obtain⟨g,o1,rfl,hs1⟩:=hf2 (by omega);have hc1:wa.cell? ⟨g,o1+u2,none⟩=some (.int .u64 (z:Int)):=by rw[← HMQ.out];exact hs1 u2 _ (Zhn q (u+s) u2 hlu2)
         have hi:(u2:Int)<(u:Int)+(s:Int):=by omega
         clear hf2 hs1;go_wp2_with fail
         go_round
         case rel=>exact⟨u2+1,by omega,by go_num⟩
         case measure=>simp[intOf];omega
        ·obtain rfl:u2=u+s:=by omega
         clear hf2;go_wp2_with fail
         go_round
         case rel=>exact⟨q+1,by omega,by go_num⟩
         case measure=>simp[intOf];omega
    ·obtain rfl:q=t:=by omega
     go_wp2_with fail
     go_ret;exact⟨rfl,Ya.out,fun k h1 h2=>J3.out k h1 (fun j hj=>by have h3:=h2 j (by have:=HL.out;omega);simpa [List.getD]using h3)⟩
theorem Zpa (B:Nat) (v:Value) (L:List Value) (N:Nat→Nat) (X:Nat→List Value) (r:Int) (w:World) (hx:Rd w v L.length 1 L) (hB:B≤w.heap.size) (hnL:L.length≤1048576) (hN:∀ j,N j≤1099511627776)
  (hown:∀ j,j<L.length→w.ownsRow B 73 1 (L.getD j undef) (N j) (X j))
  (hsep:∀ i j,i<j→j<L.length→∀ k,(L.getD i undef).ownBlock=some k→(L.getD j undef).ownBlock≠some k)
  (hv:∀ k,v.ownBlock=some k→∀ j,j<L.length→(L.getD j undef).ownBlock≠some k) :
  Calls Tryz.prog 9 #[v,.int .i64 r] w fun e w'=>e=.returned (.bool true)∧Below B w w' :=
 (Zkj B v L N X r w hx hB hnL hN hown hsep hv).mono fun e w' h=>⟨h.1,h.2.1⟩
end Go.Proofs.YtmcjknjlihgihaaGreatDoor
