/- The rows of a table, read: how they lie, how they grow. -/
import Derived.Test.YtmcjknjlihgihaaGreatDoorLawparseuptoM38
import Derived.Test.YtmcjknjlihgihaaGreatDoorLawparseuptoM39
set_option linter.unusedVariables false
set_option linter.unusedSimpArgs false
set_option linter.unnecessarySimpa false
set_option maxRecDepth 100000
namespace Go.Proofs.YtmcjknjlihgihaaGreatDoor
open Go.RowKit
def clA (C:Nat) (xs:List Nat) (g k:Nat):Nat→Bool:=cA (rWs (Zap C xs g) (Zak xs (eN C xs g k)))
def clB (C:Nat) (xs:List Nat) (g k:Nat):Nat→Int:=cB (rWs (Zap C xs g) (Zak xs (eN C xs g k))) (rPay (kdX xs k) (Zap C xs g) (Zak xs (eN C xs g k))).2
def clC (C:Nat) (xs:List Nat) (g k:Nat):Nat→ByteArray:=cC (rWs (Zap C xs g) (Zak xs (eN C xs g k))) (rPay (kdX xs k) (Zap C xs g) (Zak xs (eN C xs g k))).2
theorem Zwz (C:Nat) (xs:List Nat) (g k:Nat):Zd7 (kdX xs k) (Zap C xs g) (Zak xs (eN C xs g k))=Za2 (clA C xs g k) (clB C xs g k) (clC C xs g k) (Zap C xs g):=rfl
theorem Zzb {C:Nat} {xs:List Nat} {g c:Nat} (h:Ze9 C xs g c=true):rOk (kdX xs c) (Zap C xs g) (Zak xs (eN C xs g c))=true:=by
 unfold Ze9 Zh9 sOkE at h;simp only[Bool.and_eq_true]at h;exact h.2.2.1
structure RrS (w:World) (pg pr pc C n c t:Nat) (xs:List Nat) (g:Nat) (cv:Value) (wr:World) (cs:List Value):Prop where
 gr:Row wr pg 33 [.int .i64 (Zap C xs g:Nat),cv]
 rows:Row wr pr 78 (Zfz pc C n)
 cells:Row wr pc 36 cs
 len:cs.length=n*C*3
 at3:∀ i k,i<n→k<C→(k<c∨(k=c∧i<t))→at3 cs (i*C+k) (clA C xs g k i) (clB C xs g k i) (clC C xs g k i)
 bel:Below w.heap.size w wr
 h0:w.heap.size≤pg
 h1:pg<pc
 h2:pc<pr
theorem RrS.mono {w wr wq:World} {pg pr pc C n c t:Nat} {xs:List Nat} {g:Nat} {cv:Value} {cs:List Value} (h:RrS w pg pr pc C n c t xs g cv wr cs) (hb:Below wr.heap.size wr wq):RrS w pg pr pc C n c t xs g cv wq cs :=
 ⟨h.gr.mono hb,h.rows.mono hb,h.cells.mono hb,h.len,h.at3,Zac h.bel hb,h.h0,h.h1,h.h2⟩
theorem RrS.next {w wr:World} {pg pr pc C n c:Nat} {xs:List Nat} {g:Nat} {cv:Value} {cs:List Value} (h:RrS w pg pr pc C n c n xs g cv wr cs):RrS w pg pr pc C n (c+1) 0 xs g cv wr cs :=
 ⟨h.gr,h.rows,h.cells,h.len,fun i k hi hk ho=>h.at3 i k hi hk (by omega),h.bel,h.h0,h.h1,h.h2⟩
theorem RrS.put {w wr:World} {pg pr pc C n c t:Nat} {xs:List Nat} {g:Nat} {cv:Value} {cs:List Value} (h:RrS w pg pr pc C n c t xs g cv wr cs) (hc:c<C) (ht:t<n) :
  RrS w pg pr pc C n c (t+1) xs g cv (((wr.setCell ⟨pc,t*C*3+c*3,none⟩ (.bool (clA C xs g c t))).setCell ⟨pc,t*C*3+c*3+1,none⟩ (.int .i64 (clB C xs g c t))).setCell ⟨pc,t*C*3+c*3+2,none⟩ (.string (clC C xs g c t))) (Zmi cs (t*C+c) (clA C xs g c t) (clB C xs g c t) (clC C xs g c t)):=by
 have e0:t*C*3+c*3=(t*C+c)*3:=by rw[Nat.add_mul]
 have hle:(t+1)*C≤n*C:=Nat.mul_le_mul_right _ ht;rw[Nat.add_mul,Nat.one_mul]at hle;have hpc:=h.h0;have hpg:=h.h1;have hpr:=h.h2;have hl:=h.len;rw[e0];refine⟨Zam (Zam (Zam h.gr (by omega)) (by omega)) (by omega),Zam (Zam (Zam h.rows (by omega)) (by omega)) (by omega),((h.cells.set _ _).set _ _).set _ _,by rw[Zvc];exact hl,fun i k hi hk ho=>?_,Zad (Zad (Zad h.bel _ _ _ (by omega)) _ _ _ (by omega)) _ _ _ (by omega),h.h0,h.h1,h.h2⟩;by_cases he:i*C+k=t*C+c
 ·have hik:i=t∧k=c:=by
   have h1:(i*C+k)/C=(t*C+c)/C:=by rw[he]
   rw[Nat.mul_comm i,Nat.mul_add_div (by omega),Nat.div_eq_of_lt hk,Nat.mul_comm t,Nat.mul_add_div (by omega),Nat.div_eq_of_lt hc]at h1;refine⟨by omega,?_⟩;have h2:i=t:=by omega
   subst h2;omega
  rw[hik.1,hik.2];exact Zzo (by omega) _ _ _
 ·refine Zx2 (h.at3 i k hi hk ?_) he _ _ _;rcases ho with h1 | ⟨h1,h2⟩
  ·exact .inl h1
  ·refine .inr ⟨h1,?_⟩;have:i≠t:=fun hh=>he (by rw[hh,h1])
   omega
theorem RrS.cell3 {w wr:World} {pg pr pc C n c t:Nat} {xs:List Nat} {g:Nat} {cv:Value} {cs:List Value} (h:RrS w pg pr pc C n c t xs g cv wr cs) (hc:c<C) (ht:t<n) :
  ∃ a b d,wr.cell? ⟨pc,t*C*3+c*3,none⟩=some a∧wr.cell? ⟨pc,t*C*3+c*3+1,none⟩=some b∧wr.cell? ⟨pc,t*C*3+c*3+2,none⟩=some d:=by
 have hle:(t+1)*C≤n*C:=Nat.mul_le_mul_right _ ht;rw[Nat.add_mul,Nat.one_mul]at hle;have e0:t*C*3+c*3=(t*C+c)*3:=by rw[Nat.add_mul]
 have hl:=h.len;refine⟨cs[t*C*3+c*3]'(by omega),cs[t*C*3+c*3+1]'(by omega),cs[t*C*3+c*3+2]'(by omega),?_,?_,?_⟩
 all_goals (rw[h.cells.cell,List.getElem?_eq_getElem])
theorem Z0k {w:World} {g k:Nat} (hk:k≠g) (i j l:Nat) (a b c:Value):(((w.setCell ⟨g,i,none⟩ a).setCell ⟨g,j,none⟩ b).setCell ⟨g,l,none⟩ c).drew.heap[k]? = w.heap[k]?:=by
 show (((w.setCell ⟨g,i,none⟩ a).setCell ⟨g,j,none⟩ b).setCell ⟨g,l,none⟩ c).heap[k]? = w.heap[k]?
 rw[heap_setCell_other _ _ _ _ (by exact hk),heap_setCell_other _ _ _ _ (by exact hk),heap_setCell_other _ _ _ _ (by exact hk)]
set_option maxHeartbeats 16000000 in
theorem Zrl (v kv cv:Value) (xs:List Nat) (C g B:Nat) (ces:List Ent) (w:World) (hT:Tab w) (hv:Rd w v xs.length 1 (u8s xs)) (hb:∀ x∈xs,x<256) (hl:xs.length≤16777216)
  (hkv:Rd w kv C 1 (i64s (nI (iKs C xs)))) (hck:CkN w B cv ces C xs g) (hces:ces.length=C) (hC:1≤C∧C≤16) (h16:16+C≤xs.length) (hkd:∀ c,c<C→kdX xs c=1∨kdX xs c=2)
  (hR:Zap C xs g≤65536) (hfit:∀ c,c<C→(eN C xs g c).off+(eN C xs g c).len≤xs.length) (hok:∀ c,c<C→Ze9 C xs g c=true) :
  Calls Tryz.prog 30 #[v,kv,.agg #[.int .i64 (Zap C xs g:Nat),cv]] w fun e w'=>∃ pg pr pc cs,e=.returned (.slice (some ⟨pr,0,none⟩) (Zap C xs g) (Zap C xs g))∧RrS w pg pr pc C (Zap C xs g) C 0 xs g cv w' cs:=by
 have ZE:=hid (fun(A:Option Addr) (ca c:Nat) (hc:c<C) (sm cd wd:Int) (z:ZM) (Bq:Option Addr) (bn bc:Nat) (w2:World) (he:v=.slice A xs.length ca) (h:Below w.heap.size w w2)=>Zkn A ca xs (eN C xs g c).off (eN C xs g c).len sm cd wd z Bq bn bc w2 (he ▸ hv.mono h) hl (hfit c hc));have HDE:=hid (fun(c:Nat) (hc:c<C) (u:Value) (w2:World) (h:Below w.heap.size w w2) (hu:Rd w2 u (Zak xs (eN C xs g c)).length 1 (u8s (Zak xs (eN C xs g c))))=>Ztd w2 u (Zak xs (eN C xs g c)) (kdX xs c) (Zap C xs g) (hT.mono h hT.lt) hu (Zfa hb _ _) (by have:=hfit c hc;unfold Zak;rw[List.length_take,List.length_drop];omega) (hkd c hc) hR (Zzb (hok c hc)));have JM:Hid (∃ kb ko,(∃ k9,kv=.slice (some ⟨kb,ko,none⟩) C k9)∧∀ c,c<C→w.cell? ⟨kb,ko+c,none⟩=some (.int .i64 (kdX xs c:Nat))):=hid (by
  obtain⟨A7,k9,rfl,_,_,hA7⟩:=hkv.form;obtain⟨kb,ko,rfl,hs⟩:=hA7 (by omega);refine⟨kb,ko,⟨k9,rfl⟩,fun c hc=>hs c _ ?_⟩;have h8:=Zpo hc h16;have h7:c<(iKs C xs).length:=by rw[h8.1];exact hc
  have h9:=h8.2;simp only[List.getD,List.getElem?_eq_getElem h7,Option.getD_some]at h9;simp[i64s,nI,List.getElem?_map,List.getElem?_eq_getElem h7,i64];rw[h9];rfl)
 have Ui:=hid hck;have Uk:=hid hces;obtain⟨A,ca,rfl,_,_,_⟩:=hv.form;obtain⟨kb,ko,⟨k9,rfl⟩,hkc⟩:=JM.out;have HKD:=hid hkc;obtain⟨V8,v8,rfl⟩:=Zag hck.n.own;rw[hces]at Ui ⊢;clear hv hb hkv hck hces hkd hfit hok hT JM hkc;obtain⟨n,hn⟩:∃ n,Zap C xs g=n:=⟨_,rfl⟩;have HN:=hid hn;have Zx:=hid (fun k:Nat=>(show Zd7 (kdX xs k) n (Zak xs (eN C xs g k))=Za2 (clA C xs g k) (clB C xs g k) (clC C xs g k) n from by rw[← hn];rfl));rw[hn]at hR HDE ⊢;have HEM:=hid (fun(w2:World)=>Zo8 n C w2 hR hC);go_enter Tryz.func30,Tryz.ntmps30;go_upto_region 1 with fail
 have hf:=Zbe (w:=w) (C:=#[.int .i64 (n:Nat),.slice V8 C v8]) (e:=33);have QO:=hid hf.1;have Qa:=hid hf.2;have hs1:(w.alloc (.cells #[.int .i64 (n:Nat),.slice V8 C v8] 33)).heap.size=w.heap.size+1:=by simp
 clear hf;obtain⟨pg,hpg⟩:∃ pg,w.heap.size=pg:=⟨_,rfl⟩;have HPG:=hid hpg;rw[hpg]at QO hs1 ⊢;clear hpg;generalize w.alloc (.cells #[.int .i64 (n:Nat),.slice V8 C v8] 33)=w1 at *;have YJ:=hid hs1;clear hs1;obtain⟨a0,a1⟩:=Zb9 QO.out;go_upto_region 2 with (go_at_call 53;refine(HEM.out _).mono ?_;rintro e w2 ⟨cs,rfl,hr1,hr2,hl2,hb2⟩;have HX:=hid (And.intro hr1 (And.intro hr2 (And.intro hl2 hb2)));clear hr1 hr2 hl2 hb2)
 clear a0 a1;have QC:Hid (RrS w pg (pg+1+1) (pg+1) C n 0 0 xs g (.slice V8 C v8) w2 cs):=hid (by
  obtain⟨h1,h2,h3,h4⟩:=HX.out;have e1:=YJ.out;rw[e1]at h1 h2;exact⟨by rw[HN.out];exact QO.out.mono h4,h1,h2,h3,fun i k _ _ ho=>by omega,Zac Qa.out h4,by rw[HPG.out];exact Nat.le_refl _,by omega,by omega⟩)
 rw[YJ.out];clear HX;obtain⟨a0,a1⟩:=Zb9 QC.out.gr;go_upto_region 3 with fail
 clear a0 a1;generalize pg+1+1=pr at *;generalize pg+1=pc at *;go_loopw [22] (fun i wr=>∃(c:Nat) (cs:List Value),c≤C∧i=.int .i64 c∧Hid (RrS w pg pr pc C n c 0 xs g (.slice V8 C v8) wr cs)) (fun i _=>C-(intOf i).toNat)
 case atStart=>exact⟨0,_,by omega,rfl,QC⟩
 case round =>
  obtain⟨c,cs,hc,rfl,hst⟩:=hrel;clear QC;by_cases hlc:c<C
  ·obtain⟨bq,q,bv,rfl,_,hbv,hcs⟩:=(Ui.out.below (T:=0) hst.out.bel).at c (by rw[Uk.out];exact hlc);have HKX:=hid (HKD.out c hlc);have XT:=hid (fun sm cd wd z Bq bn bc w2 h=>ZE.out _ _ c hlc sm cd wd z Bq bn bc w2 rfl h);have VO:=hid (HDE.out c hlc);rw[Zx.out]at VO;obtain⟨ol,ll,sl,cdl,wdl,zl,hk1,hk2,_,_⟩:=Zpj C xs g c;have hbo:ol=(eN C xs g c).off∧ll=(eN C xs g c).len:=by
    have h2:=hk2;unfold ckVE ckVs at h2;simp only[List.cons.injEq,Value.int.injEq,true_and]at h2;exact⟨by omega,by omega⟩
   obtain⟨ho1,ho2⟩:=hbo;rw[← ho1,← ho2]at XT;have hbe:Zak xs (eN C xs g c)=(xs.drop (eN C xs g c).off).take (eN C xs g c).len:=rfl;rw[hbe,← ho1,← ho2]at VO;clear hbe;rw[hk1]at hcs;clear hk1 hk2 ho1 ho2;unfold ckVs at hcs;simp only[List.cons_append,List.nil_append]at hcs;obtain⟨D1,f1,rfl,_,_,_⟩:=hbv.form;generalize (Zfq C xs g c).length=bn at *;obtain⟨y0,y1,y2,y3,y4,y5,y6,y7,y8,y9,y10,y11,y12,y13,y14⟩:=Zss hcs;clear hcs hbv;go_upto_region 5 with fail
   have hf:=Zbe (w:=wr) (C:=#[.int .i64 (ol:Nat),.int .i64 (ll:Nat),.int .u32 (sl:Nat),.int .i64 (cdl:Nat),.int .i64 (wdl:Nat),.bool zl.rg,.int .i64 zl.nu,.bool zl.mn.n,.int .i64 zl.mn.i,.string zl.mn.s,.bool zl.mx.n,.int .i64 zl.mx.i,.string zl.mx.s,.int .i64 zl.hs,.slice D1 bn f1]) (e:=41);have HVC:=hid hf.1;have Zl:=hid (hst.out.mono hf.2);clear hf y0 y1 y2 y3 y4 y5 y6 y7 y8 y9 y10 y11 y12 y13 y14;obtain⟨vc,hvc⟩:∃ vc,wr.heap.size=vc:=⟨_,rfl⟩;rw[hvc]at HVC ⊢;clear hvc;generalize wr.alloc (.cells #[.int .i64 (ol:Nat),.int .i64 (ll:Nat),.int .u32 (sl:Nat),.int .i64 (cdl:Nat),.int .i64 (wdl:Nat),.bool zl.rg,.int .i64 zl.nu,.bool zl.mn.n,.int .i64 zl.mn.i,.string zl.mn.s,.bool zl.mx.n,.int .i64 zl.mx.i,.string zl.mx.s,.int .i64 zl.hs,.slice D1 bn f1] 41)=we at *;generalize kdX xs c=kd at *;have YE:=hid (fun(w':World) (hb:Below we.heap.size we w')=>(show w'.cell? ⟨kb,ko+c,none⟩=some (.int .i64 (kd:Nat))∧w'.cell? ⟨pg,0,none⟩=some (.int .i64 (n:Nat))∧w'.cell? ⟨vc,0,none⟩=some (.int .i64 (ol:Nat))∧w'.cell? ⟨vc,1,none⟩=some (.int .i64 (ll:Nat))∧w'.cell? ⟨vc,2,none⟩=some (.int .u32 (sl:Nat))∧w'.cell? ⟨vc,3,none⟩=some (.int .i64 (cdl:Nat))∧w'.cell? ⟨vc,4,none⟩=some (.int .i64 (wdl:Nat))∧w'.cell? ⟨vc,5,none⟩=some (.bool zl.rg)∧w'.cell? ⟨vc,6,none⟩=some (.int .i64 zl.nu)∧w'.cell? ⟨vc,7,none⟩=some (.bool zl.mn.n)∧w'.cell? ⟨vc,8,none⟩=some (.int .i64 zl.mn.i)∧w'.cell? ⟨vc,9,none⟩=some (.string zl.mn.s)∧w'.cell? ⟨vc,10,none⟩=some (.bool zl.mx.n)∧w'.cell? ⟨vc,11,none⟩=some (.int .i64 zl.mx.i)∧w'.cell? ⟨vc,12,none⟩=some (.string zl.mx.s)∧w'.cell? ⟨vc,13,none⟩=some (.int .i64 zl.hs)∧w'.cell? ⟨vc,14,none⟩=some (.slice D1 bn f1)from by
    have h1:=HVC.out.mono hb;have h2:=(Zl.out.mono hb).gr;rw[HN.out]at h2;obtain⟨x0,x1⟩:=Zb9 h2;exact⟨((Zac Zl.out.bel hb).cell (World.block_lt_of_cell? w _ HKX.out)).trans HKX.out,x0,Zcs h1⟩))
   obtain⟨n0,n1,y0,y1,y2,y3,y4,y5,y6,y7,y8,y9,y10,y11,y12,y13,y14⟩:=YE.out we.drew (Zaf (Zab we) 1);have Qh:Hid (Below we.heap.size we we.drew):=hid (Zaf (Zab we) 1);go_region_held3 (fun w'=>w'.cell? ⟨kb,ko+c,none⟩=some (.int .i64 (kd:Nat))∧w'.cell? ⟨pg,0,none⟩=some (.int .i64 (n:Nat))∧w'.cell? ⟨vc,0,none⟩=some (.int .i64 (ol:Nat))∧w'.cell? ⟨vc,1,none⟩=some (.int .i64 (ll:Nat))∧w'.cell? ⟨vc,2,none⟩=some (.int .u32 (sl:Nat))∧w'.cell? ⟨vc,3,none⟩=some (.int .i64 (cdl:Nat))∧w'.cell? ⟨vc,4,none⟩=some (.int .i64 (wdl:Nat))∧w'.cell? ⟨vc,5,none⟩=some (.bool zl.rg)∧w'.cell? ⟨vc,6,none⟩=some (.int .i64 zl.nu)∧w'.cell? ⟨vc,7,none⟩=some (.bool zl.mn.n)∧w'.cell? ⟨vc,8,none⟩=some (.int .i64 zl.mn.i)∧w'.cell? ⟨vc,9,none⟩=some (.string zl.mn.s)∧w'.cell? ⟨vc,10,none⟩=some (.bool zl.mx.n)∧w'.cell? ⟨vc,11,none⟩=some (.int .i64 zl.mx.i)∧w'.cell? ⟨vc,12,none⟩=some (.string zl.mx.s)∧w'.cell? ⟨vc,13,none⟩=some (.int .i64 zl.hs)∧w'.cell? ⟨vc,14,none⟩=some (.slice D1 bn f1)) (first | (refine YE.out _ ?_;with_reducible (first | exact XU.out | exact QN.out | exact Qh.out))) (first | (go_at_call 55;refine(XT.out _ _ _ zl _ _ _ _ (Zaf Zl.out.bel 1)).mono ?_;rintro e w7 ⟨D,dc,rfl,hrd,hb7⟩;have QN:=hid (show Below we.heap.size we w7 from Zac (Zaf (Zab we) 1) hb7);have Qx:=hid (hrd.mono hb7);clear hrd hb7) | (go_at_call 54;refine(VO.out _ _ (Zac Zl.out.bel QN.out) Qx.out).mono ?_;rintro e w8 ⟨hb8,pd,hpd,rfl,hrow⟩;have XU:=hid (show Below we.heap.size we w8 from Zac QN.out hb8);have Yb:=hid hrow;have HPD:=hid (Nat.le_trans QN.out.size hpd);clear hb8 hpd hrow))
   have HST8:=hid (Zl.out.mono XU.out);have Vl:Hid (pd≠pc):=hid (by have h1:=Zl.out.cells.lt;have h2:=HPD.out;omega);clear YE XT VO Zl HVC Qh QN Qx n0 n1 y0 y1 y2 y3 y4 y5 y6 y7 y8 y9 y10 y11 y12 y13 y14;go_upto_region 7 with fail
   go_loopw [42] (fun i wv=>∃(t:Nat) (cs:List Value),t≤n∧i=.int .i64 t∧Hid (RrS w pg pr pc C n c t xs g (.slice (some ⟨bq,q,none⟩) C v8) wv cs)∧Hid (Row wv pd 36 (Za2 (clA C xs g c) (clB C xs g c) (clC C xs g c) n))) (fun i _=>n-(intOf i).toNat)
   case atStart=>exact⟨0,_,by omega,rfl,HST8,Yb⟩
   case round =>
    clear HST8 Yb hst;obtain⟨t,cs,ht,rfl,hst,hrw⟩:=hrel;by_cases hlt:t<n
    ·obtain⟨m0,m1,m2⟩:=Zfh (clA C xs g c) (clB C xs g c) (clC C xs g c) n t hlt;rw[← hrw.out.cell]at m0 m1 m2;go_upto_region 9 with fail
     have hf:=Zbe (w:=wr) (C:=#[.bool (clA C xs g c t),.int .i64 (clB C xs g c t),.string (clC C xs g c t)]) (e:=36);have HVV:=hid hf.1;have J5:=hid (hst.out.mono hf.2);have HRWI:=hid (hrw.out.mono hf.2);clear hf m0 m1 m2;obtain⟨vv,hvv⟩:∃ vv,wr.heap.size=vv:=⟨_,rfl⟩;have XK:Hid (vv≠pc):=hid (by have:=hst.out.cells.lt;omega);rw[hvv]at HVV ⊢;clear hvv;generalize wr.alloc (.cells #[.bool (clA C xs g c t),.int .i64 (clB C xs g c t),.string (clC C xs g c t)] 36)=wi at *;have hdr:Below wi.heap.size wi wi.drew:=Zaf (Zab wi) 1;have hp:RrS w pg pr pc C n c (t+1) xs g (.slice (some ⟨bq,q,none⟩) C v8) ((((wi.setCell ⟨pc,t*C*3+c*3,none⟩ (.bool (clA C xs g c t))).setCell ⟨pc,t*C*3+c*3+1,none⟩ (.int .i64 (clB C xs g c t))).setCell ⟨pc,t*C*3+c*3+2,none⟩ (.string (clC C xs g c t))).drew) _:=(J5.out.put hlc hlt).mono (Zaf (Zab _) 1);obtain⟨x0,x1,x2,c0,c1,c2⟩:=J5.out.cell3 hlc hlt;have d0:wi.drew.cell? ⟨pc,t*C*3+c*3,none⟩=some x0:=c0;have d1:wi.drew.cell? ⟨pc,t*C*3+c*3+1,none⟩=some x1:=c1;have d2:wi.drew.cell? ⟨pc,t*C*3+c*3+2,none⟩=some x2:=c2;have g0:=J5.out.cells.frozen (t*C*3+c*3);have g1:=J5.out.cells.frozen (t*C*3+c*3+1);have g2:=J5.out.cells.frozen (t*C*3+c*3+2);have HPUT:=hid hp;have hrow:wi.cell? ⟨pr,t,none⟩=some (.slice (some ⟨pc,t*C*3,none⟩) C C):=by rw[J5.out.rows.cell,Zmt _ _ _ _ hlt];rfl
     have HRO:=hid hrow;have f0:wi.drew.frozen? ⟨pc,t*C*3+c*3,none⟩=false:=g0;have f1:wi.drew.frozen? ⟨pc,t*C*3+c*3+1,none⟩=false:=g1;have f2:wi.drew.frozen? ⟨pc,t*C*3+c*3+2,none⟩=false:=g2;have Ye:Hid (Row ((((wi.setCell ⟨pc,t*C*3+c*3,none⟩ (.bool (clA C xs g c t))).setCell ⟨pc,t*C*3+c*3+1,none⟩ (.int .i64 (clB C xs g c t))).setCell ⟨pc,t*C*3+c*3+2,none⟩ (.string (clC C xs g c t))).drew) pd 36 (Za2 (clA C xs g c) (clB C xs g c) (clC C xs g c) n)):=hid ((Zam (Zam (Zam HRWI.out Vl.out) Vl.out) Vl.out).mono (Zaf (Zab _) 1));clear hp hrow hdr hst hrw;generalize clA C xs g c t=a at *;generalize clB C xs g c t=b at *;generalize clC C xs g c t=d at *;generalize t*C*3=p3 at *;have HKQ:=hid (fun(w':World) (hk:∀ k,k≠pc→w'.heap[k]? = wi.heap[k]?)=>(show w'.cell? ⟨pr,t,none⟩=some (.slice (some ⟨pc,p3,none⟩) C C)∧w'.cell? ⟨vv,0,none⟩=some (.bool a)∧w'.cell? ⟨vv,1,none⟩=some (.int .i64 b)∧w'.cell? ⟨vv,2,none⟩=some (.string d)from by
      have hpr:pr≠pc:=by have:=J5.out.h2;omega
      have key:∀(g:Nat) (o:Nat) (u:Value),g≠pc→wi.cell? ⟨g,o,none⟩=some u→w'.cell? ⟨g,o,none⟩=some u:=fun g o u hg h=>(World.cell?_of_block (hk g hg)).trans h
      exact⟨key _ _ _ hpr HRO.out,key _ _ _ XK.out (by rw[HVV.out.cell];rfl),key _ _ _ XK.out (by rw[HVV.out.cell];rfl),key _ _ _ XK.out (by rw[HVV.out.cell];rfl)⟩))
     obtain⟨k0,k1,k2,k3⟩:=HKQ.out wi.drew (fun _ _=>rfl);go_region_held3 (fun w'=>w'.cell? ⟨pr,t,none⟩=some (.slice (some ⟨pc,p3,none⟩) C C)∧w'.cell? ⟨vv,0,none⟩=some (.bool a)∧w'.cell? ⟨vv,1,none⟩=some (.int .i64 b)∧w'.cell? ⟨vv,2,none⟩=some (.string d)) (first | exact HKQ.out _ (fun _ _=>rfl) | exact HKQ.out _ (fun k hk=>Z0k hk _ _ _ _ _ _)) (fail)
     go_wp2_with fail
     go_roundw
     case rel=>exact⟨t+1,_,by omega,by go_num,HPUT,Ye⟩
     case measure=>simp[intOf];omega
    ·obtain rfl:t=n:=by omega
     have YH:=hid hst.out.next;go_wp2_with fail
     go_roundw
     case rel=>exact⟨c+1,_,by omega,by go_num,YH⟩
     case measure=>simp[intOf];omega
  ·obtain rfl:c=C:=by omega
   go_wp2_with fail
   go_ret;exact⟨pg,pr,pc,cs,rfl,hst.out⟩
set_option maxRecDepth 20000
def rwG (C:Nat) (xs:List Nat):Nat→List (Nat×Nat)
 | 0=>[]
 | g+1=>rwG C xs g++(List.range (Zap C xs g)).map fun i=>(g,i)
def rwV (C:Nat) (xs:List Nat) (p:Nat×Nat):List Value:=Za2 (fun k=>clA C xs p.1 k p.2) (fun k=>clB C xs p.1 k p.2) (fun k=>clC C xs p.1 k p.2) C
structure RwIn (w:World) (C:Nat) (xs:List Nat) (L:List Value) (P:List (Nat×Nat)):Prop where
 len:L.length=P.length
 rd:∀ j,j<L.length→Rd w (L.getD j undef) C 3 (rwV C xs (P.getD j (0,0)))
 mke:∀ j,j<L.length→∀ k,(L.getD j undef).ownBlock=some k→∃ cs fl,w.heap[k]? = some (.cells cs 36 fl)
theorem RwIn.nil (w:World) (C:Nat) (xs:List Nat):RwIn w C xs [] []:=⟨rfl,(fun j h=>by cases h),(fun j h=>by cases h)⟩
theorem RwIn.keep {w w':World} {C:Nat} {xs:List Nat} {L:List Value} {P:List (Nat×Nat)} (h:RwIn w C xs L P) (hk:∀(k:Nat) cs fl,w.heap[k]? = some (Obj.cells cs 36 fl)→w'.heap[k]? = w.heap[k]?):RwIn w' C xs L P :=
 ⟨h.len,fun j hj=>(h.rd j hj).keep fun k hv=>by obtain⟨cs,fl,he⟩:=h.mke j hj k hv;exact hk k cs fl he,fun j hj k hv=>by
  obtain⟨cs,fl,he⟩:=h.mke j hj k hv;exact⟨cs,fl,by rw[hk k cs fl he];exact he⟩⟩
theorem Zxi {w:World} {k:Nat} {o:Obj} (h:w.heap[k]? = some o):k<w.heap.size:=(Array.getElem?_eq_some_iff.1 h).1
theorem RwIn.mono {w w':World} {C:Nat} {xs:List Nat} {L:List Value} {P:List (Nat×Nat)} (h:RwIn w C xs L P) (hb:Below w.heap.size w w'):RwIn w' C xs L P :=
 h.keep fun k cs fl he=>hb.block k (Zxi he)
theorem RwIn.list {w w':World} {C B n sz:Nat} {xs:List Nat} {L:List Value} {P:List (Nat×Nat)} {v:Value} {ds:List Value} (h:RwIn w C xs L P) (ho:w.ownsRow B 78 sz v n ds) (hk:∀ k,k<w.heap.size→some k≠v.ownBlock→w'.heap[k]? = w.heap[k]?):RwIn w' C xs L P :=
 h.keep fun k cs fl he=>hk k (Zxi he) fun hv=>by
  obtain⟨ds2,fl2,h2⟩:=Zjl ho k hv.symm;rw[h2]at he;injection he with h3
  injection h3 with _ h4
  exact absurd h4 (by decide)
theorem RwIn.var {w w':World} {C p:Nat} {e:TypeId} {xs:List Nat} {L:List Value} {P:List (Nat×Nat)} {ds:List Value} (h:RwIn w C xs L P) (hr:Row w p e ds) (hne:e≠36) (hk:∀ k,k≠p→w'.heap[k]? = w.heap[k]?):RwIn w' C xs L P :=
 h.keep fun k cs fl he=>hk k fun hv=>by
  subst hv;unfold Row at hr;rw[hr]at he;injection he with h3
  injection h3 with _ h4
  exact hne h4
theorem Zm1 {α : Type} (L M:List α) (d : α) (j:Nat) (h:j<L.length):(L++M).getD j d=L.getD j d:=by simp[List.getD,List.getElem?_append_left h]
theorem Zmq {α : Type} (L M:List α) (d : α) (j:Nat) (h:L.length≤j):(L++M).getD j d=M.getD (j-L.length) d:=by simp[List.getD,List.getElem?_append_right h]
theorem RwIn.append {w:World} {C:Nat} {xs:List Nat} {L M:List Value} {P Q:List (Nat×Nat)} (h:RwIn w C xs L P) (h2:RwIn w C xs M Q):RwIn w C xs (L++M) (P++Q):=by
 refine⟨by simp[h.len,h2.len],fun j hj=>?_,fun j hj k hv=>?_⟩
 ·by_cases h1:j<L.length
  ·rw[Zm1 _ _ _ _ h1,Zm1 _ _ _ _ (by rw[← h.len];exact h1)];exact h.rd j h1
  ·rw[Zmq _ _ _ _ (by omega),Zmq _ _ _ _ (by rw[← h.len];omega),← h.len];exact h2.rd _ (by rw[List.length_append]at hj;omega)
 ·by_cases h1:j<L.length
  ·rw[Zm1 _ _ _ _ h1]at hv;exact h.mke j h1 k hv
  ·rw[Zmq _ _ _ _ (by omega)]at hv;exact h2.mke _ (by rw[List.length_append]at hj;omega) k hv
theorem RrS.rows_in {w wr:World} {pg pr pc C n t:Nat} {xs:List Nat} {g:Nat} {cv:Value} {cs:List Value} (h:RrS w pg pr pc C n C t xs g cv wr cs) (hC:C≤16):RwIn wr C xs (Zfz pc C n) ((List.range n).map fun i=>(g,i)):=by
 refine⟨by simp[Zep],fun j hj=>?_,fun j hj k hv=>?_⟩
 ·rw[Zep]at hj;have e1:(Zfz pc C n).getD j undef=rowV pc C j:=by simp[List.getD,Zmt _ _ _ _ hj]
  have e2:((List.range n).map fun i=>(g,i)).getD j (0,0)=(g,j):=by simp[List.getD,List.getElem?_map,List.getElem?_range hj]
  rw[e1,e2];exact Zzt h.cells (fun k hk=>h.at3 j k hj hk (.inl hk)) (by unfold maxLen;omega)
 ·rw[Zep]at hj;have e1:(Zfz pc C n).getD j undef=rowV pc C j:=by simp[List.getD,Zmt _ _ _ _ hj]
  rw[e1]at hv;simp[rowV,Value.ownBlock]at hv;subst hv;exact⟨_,_,h.cells⟩
theorem Zy0 (pc K n:Nat):∀ u∈Zfz pc K n,u.oneCell'=true:=by
 intro u hu;unfold Zfz at hu;obtain⟨i,_,rfl⟩:=List.mem_map.1 hu;rfl
theorem Zqu {P:Program} {w:World} {ops:Array Oper} {o:Oper} {a:Act} {K:Act→World→Prop} {Q:Exit→Act→World→Prop} {E:Prop} {t:TypeId} {v:Value} {B n m c:Nat} {xs:List Value} (cs:List Value) (ad:Addr)
  (hgd:o.guard=none) (s r:Operand) (ho:o.op=.call { callee:=.builtin .append,args:=#[s,r],argTypes:=#[t,t] })
  (e:TypeId) (z:Value) (bytes:Nat) (h1:P.underlying t=some (.slice e)) (h2:(P.info? e).map (fun i=>(i.zero,i.size,i.bytes))=some (some z,1,bytes)) (hz:z.cells.size=1) (hcs:cs.length=m)
  (hs:a.eval s=v) (hx:a.eval r=.slice (some ad) m c) (hnews:∀ j u,cs[j]? = some u→w.cell? (ad.add j)=some u)
  (hown:w.ownsRow B e 1 v n xs) (hB:B≤w.heap.size) (hu:∀ u∈cs,u.oneCell'=true) (hm:n+m≤maxLen) (hby:(n+m)*bytes≤140737488355328)
  (hK:∀ v' w',w'.ownsRow B e 1 v' (n+m) (xs++cs)→Below B w w'→w.heap.size≤w'.heap.size→(∀ k,k<w.heap.size→some k≠v.ownBlock→w'.heap[k]? = w.heap[k]?)→K (a.put o.dst v') w') :
  if Region.wanted o (yielded ops a.tmps)=true then Oper.wp P o a w K Q else E:=by
 have hw:Region.wanted o (yielded ops a.tmps)=true:=by simp[Region.wanted,hgd]
 rw[if_pos hw];unfold Oper.wp execOp;simp only[ho,resolve,invoke,builtin,Sem.run_bind,Sem.run_pure,Result.andThen_ok,List.map_toArray,List.map_cons,List.map_nil,hs,hx];obtain⟨i,hi,hz0,hz1,hz2⟩:=info_parts h2;obtain⟨v',w',hr,h3,h4,_⟩:=run_append_own (P:=P) (w:=w) B t o.type e i z 1 bytes h1 hi hz0 hz1 hz2 hz (by omega) v n xs hown ad m c cs (by omega) hnews hu hm hby hB;have hlt:=hown.lt;refine Ze7 hr (hK _ _ h3 ((Below.refl B w).grown h4 (by omega) (fun k hk=>(hlt k hk).1)) h4.size (fun k hk hne=>h4.block k hk hne))
end Go.Proofs.YtmcjknjlihgihaaGreatDoor
