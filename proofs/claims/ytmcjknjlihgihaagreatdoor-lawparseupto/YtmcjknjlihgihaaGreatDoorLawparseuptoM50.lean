/- The plain answer's Read. -/
import Derived.Test.YtmcjknjlihgihaaGreatDoorLawparseuptoM40
import Derived.Test.YtmcjknjlihgihaaGreatDoorLawparseuptoM49
set_option linter.unusedVariables false
set_option linter.unusedSimpArgs false
set_option linter.unnecessarySimpa false
set_option maxRecDepth 100000
namespace Go.Proofs.YtmcjknjlihgihaaGreatDoor
open Go.RowKit
def TbIn (w:World) (kv rv:Value) (xs:List Nat):Prop:=Rd w kv (iC xs) 1 (i64s (nI (iKs (iC xs) xs)))∧∃ L,Rd w rv L.length 1 L∧RwIn w (iC xs) xs L (rwG (iC xs) xs (iG xs))
def Zm9 (xs:List Nat) (w:World) (e:Ending) (w':World):Prop:=Below w.heap.size w w' ∧
 ((Zcu xs=true∧∃ kv rv,e=.returned (.tuple #[.agg #[kv,rv],.int .i64 0])∧TbIn w' kv rv xs) ∨
 (Zcu xs=false∧e=.returned (.tuple #[.agg #[.slice none 0 0,.slice none 0 0],.int .i64 1])))
structure RdS (w3:World) (pt C:Nat) (xs:List Nat) (kv rv:Value) (L:List Value) (g:Nat) (wr:World):Prop where
 bel:Below pt w3 wr
 tb:Row wr pt 49 [kv,rv]
 own:wr.ownsRow (pt+1) 78 1 rv L.length L
 rows:RwIn wr C xs L (rwG C xs g)
 h3:pt<wr.heap.size
theorem RdS.mono {w3 wr wq:World} {pt C:Nat} {xs:List Nat} {kv rv:Value} {L:List Value} {g:Nat} (h:RdS w3 pt C xs kv rv L g wr) (hb:Below wr.heap.size wr wq):RdS w3 pt C xs kv rv L g wq :=
 ⟨h.bel.trans (hb.mono (Nat.le_of_lt h.h3)),h.tb.mono hb,Zah h.own hb,h.rows.mono hb,Nat.lt_of_lt_of_le h.h3 hb.size⟩
theorem RdS.step {w3 w5 w6 w9:World} {pt C n pr pc:Nat} {xs:List Nat} {kv rv v':Value} {L M:List Value} {g:Nat} (h:RdS w3 pt C xs kv rv L g w5) (hb:Below w5.heap.size w5 w6) (hr:RwIn w6 C xs M ((List.range (Zap C xs g)).map fun i=>(g,i))) (hm:M.length=n)
  (ho:w9.ownsRow (pt+1) 78 1 v' (L.length+n) (L++M)) (hb9:Below (pt+1) w6 w9) (hs9:w6.heap.size≤w9.heap.size) (hk:∀ k,k<w6.heap.size→some k≠rv.ownBlock→w9.heap[k]? = w6.heap[k]?) :
  RdS w3 pt C xs kv v' (L++M) (g+1) (w9.setCell ⟨pt,1,none⟩ v'):=by
 have hm6:=h.mono hb;have tb9:Row w9 pt 49 [kv,rv]:=hm6.tb.below hb9 (by omega);have hz:∀ k,k≠pt→(w9.setCell ⟨pt,1,none⟩ v').heap[k]? = w9.heap[k]?:=fun k hk2=>heap_setCell_other _ _ _ _ (by exact hk2)
 refine⟨Zad (hm6.bel.trans (hb9.mono (by omega))) _ _ _ (Nat.le_refl _),tb9.set 1 v',?_,?_,?_⟩
 ·rw[List.length_append,hm];exact Za5 ho fun k hv=>hz k (Zc5 ho tb9 (by decide) k hv)
 ·have h1:=(hm6.rows.append hr).list hm6.own hk;exact h1.var tb9 (by decide) hz
 ·have:=hm6.h3;simp;omega
set_option maxHeartbeats 16000000 in
theorem Zzj (v:Value) (xs:List Nat) (w:World) (hT:Tab w) (hTF:TabF w) (hv:Rd w v xs.length 1 (u8s xs)) (hb:∀ x∈xs,x<256) (hl:xs.length≤16777216) :
  Calls Tryz.prog 13 #[v] w (Zm9 xs w):=by
 obtain⟨ANS,hANS⟩:∃ ANS,Zm9 xs w=ANS:=⟨_,rfl⟩;have Qj:=hid hANS;rw[hANS];clear hANS;have Z5:=hid (fun(w2:World) (h:Below w.heap.size w w2)=>Zux v xs w2 (hT.mono h hT.lt) (hTF.mono h hTF.lt) (hv.mono h) hb hl);unfold Zv9 at Z5;have Qc:=hid (fun(h:Zcu xs=false) (w9:World) (hb9:Below w.heap.size w w9)=>(show Zm9 xs w (.returned (.tuple #[.agg #[.slice none 0 0,.slice none 0 0],.int .i64 1])) w9 from ⟨hb9,.inr ⟨h,rfl⟩⟩));have Qf:=hid (fun(h:Zcu xs=true) (kv rv:Value) (w9:World) (hb9:Below w.heap.size w w9) (hi:TbIn w9 kv rv xs)=>(show Zm9 xs w (.returned (.tuple #[.agg #[kv,rv],.int .i64 0])) w9 from ⟨hb9,.inl ⟨h,kv,rv,rfl,hi⟩⟩));rw[Qj.out]at Qc Qf;have Qo:=hid (fun(hi:Zcu xs=true) (g B:Nat) (kv cv:Value) (ces:List Ent) (w2:World) (h:Below w.heap.size w w2) (hg:g<iG xs) (hkv:Rd w2 kv (iC xs) 1 (i64s (nI (iKs (iC xs) xs)))) (hck:CkN w2 B cv ces (iC xs) xs g) (hces:ces.length=iC xs)=>(show Calls Tryz.prog 30 #[v,kv,.agg #[.int .i64 (Zap (iC xs) xs g:Nat),cv]] w2 fun e w'=>∃ pg pr pc cs,e=.returned (.slice (some ⟨pr,0,none⟩) (Zap (iC xs) xs g) (Zap (iC xs) xs g))∧RrS w2 pg pr pc (iC xs) (Zap (iC xs) xs g) (iC xs) 0 xs g cv w' cs from by
  obtain⟨hd,hok⟩:=Zji hi;rw[Zgd,Bool.and_eq_true]at hd;obtain⟨hC,hG,hR,hD,hkd⟩:=Zdd hd.1;have h16:16+iC xs≤xs.length:=by unfold iD at hD;omega
  exact Zrl v kv cv xs (iC xs) g B ces w2 (hT.mono h hT.lt) (hv.mono h) hb hl hkv hck hces hC h16 hkd (by
   have:=Zf2 hd.1 hd.2 g 0 hg (by omega);exact this.1) (fun c hc=>by have:=Zf2 hd.1 hd.2 g c hg hc;omega) (fun c hc=>hok g hg c hc)))
 have Ze:Hid (Zcu xs=true→(1≤iC xs∧iC xs≤16)∧iG xs≤256∧(∀ g,g<iG xs→Zap (iC xs) xs g≤65536)∧∀ g,g≤iG xs→sumR (iC xs) xs g≤65536):=hid (fun hi=>by
  obtain⟨hd,hok⟩:=Zji hi;rw[Zgd,Bool.and_eq_true]at hd;obtain⟨hC,hG,hR,hD,hkd⟩:=Zdd hd.1;refine⟨hC,hG,fun g hg=>(Zf2 hd.1 hd.2 g 0 hg (by omega)).1,?_⟩;have hsum:sumR (iC xs) xs (iG xs)=iR xs:=by
   have h2:=hd.2;unfold Zc1 at h2;simp only[Bool.and_eq_true,decide_eq_true_eq]at h2;exact h2.2.1
  have hmono:∀ n g,g+n=iG xs→sumR (iC xs) xs g≤65536:=fun n=>by
   induction n with
   | zero=>intro g hg;rw[show g=iG xs by omega,hsum];exact hR
   | succ n ih =>
    intro g hg;have h3:=ih (g+1) (by omega);have h4:sumR (iC xs) xs (g+1)=sumR (iC xs) xs g+Zap (iC xs) xs g:=rfl;omega
  exact fun g hg=>hmono (iG xs-g) g (by omega))
 obtain⟨A,ca,rfl,_,_,_⟩:=hv.form;clear hv hb hT hTF;go_enter Tryz.func13,Tryz.ntmps13;go_upto_region 1 with fail
 have hf:=Zbe (w:=w) (C:=#[.slice none 0 0,.slice none 0 0]) (e:=49);have Qg:=hid hf.1;have Qh:=hid hf.2;have hs1:(w.alloc (.cells #[.slice none 0 0,.slice none 0 0] 49)).heap.size=w.heap.size+1:=by simp
 clear hf;generalize w.alloc (.cells #[.slice none 0 0,.slice none 0 0] 49)=w1 at *;obtain⟨p0,hp0⟩:∃ p0,w.heap.size=p0:=⟨_,rfl⟩;have Yo:=hid hp0;have YJ:Hid (w1.heap.size=p0+1):=hid (by rw[hs1,hp0]);rw[hp0]at Qg ⊢;clear hp0 hs1;have Q4:Hid (w.heap.size≤p0):=hid (by rw[Yo.out];exact Nat.le_refl _);have JB:=hid (Z5.out w1 Qh.out);obtain⟨ok,hok⟩:∃ ok,Zcu xs=ok:=⟨_,rfl⟩;have Q3:=hid hok;rw[hok]at JB;clear hok Z5;cases ok
 ·go_upto_region 2 with (go_at_call 25;refine JB.out.mono ?_;rintro e w2 ⟨hb2,hor⟩;obtain rfl:=(hor.resolve_left (fun h=>by cases h.1)).2;have Qb:=hid (Zac Qh.out hb2);have Qm:=hid (Qg.out.mono hb2);clear hb2 hor)
  have hf:=Zbe (w:=w2) (C:=#[.slice none 0 0,.slice none 0 0]) (e:=26);have Qd:=hid (Qm.out.mono hf.2);have Qe:=hid (Zac Qb.out hf.2);clear hf;generalize w2.alloc (.cells #[.slice none 0 0,.slice none 0 0] 26)=w3 at *;have z0:=Qd.out.cell 0;have z1:=Qd.out.cell 1;have f0:=Qd.out.frozen 0;have f1:=Qd.out.frozen 1;go_wp2_with fail
  have Q0:=hid ((Qd.out.set 0 (.slice none 0 0)).set 1 (.slice none 0 0));have QQ:Hid (Below w.heap.size w ((w3.setCell ⟨p0,0,none⟩ (.slice none 0 0)).setCell ⟨p0,1,none⟩ (.slice none 0 0))):=hid (Zad (Zad Qe.out _ _ _ Q4.out) _ _ _ Q4.out);clear z0 z1 f0 f1;generalize (w3.setCell ⟨p0,0,none⟩ (.slice none 0 0)).setCell ⟨p0,1,none⟩ (.slice none 0 0)=wz at *;have y0:=Q0.out.cell 0;have y1:=Q0.out.cell 1;simp at y0 y1;refine bodyPost_ret (v:=.tuple #[.agg #[.slice none 0 0,.slice none 0 0],.int .i64 1]) ?_ rfl (Qc.out Q3.out _ QQ.out);simp[results,Tryz.results13,go_sem,y0,y1]
 ·obtain⟨hC,hG,hgr,hsr⟩:=Ze.out Q3.out;have ZY:=hid hgr;have Q6:=hid hsr;have HRR2:=hid (Qo.out Q3.out);clear hgr hsr Ze Qo;go_upto_region 2 with (go_at_call 25;refine JB.out.mono ?_;rintro e w2 ⟨hb2,hor⟩;obtain⟨_,kv,gv,rfl,him⟩:=hor.resolve_right (fun h=>by cases h.1);obtain⟨⟨K9,k9,rfl⟩,G9,g9,rfl⟩:=him.forms;have Zm:=hid him;have Qb:=hid (Zac Qh.out hb2);have Qm:=hid (Qg.out.mono hb2);clear hb2 hor him)
  obtain⟨hkk,es,ces,lo,hes,hgg⟩:=Zm.out;have YO:=hid hkk;have HES:=hid hes;have HGG:=hid hgg;clear hkk hes hgg Zm;generalize hCC:iC xs=C at *;generalize hGG:iG xs=G at *;have Zu:=hid hCC;have VU:=hid hGG;clear hCC hGG;have hf:=Zbe (w:=w2) (C:=#[.slice K9 C k9,.slice G9 G g9]) (e:=26);have Zn:=hid hf.1;have Qe:=hid (Zac Qb.out hf.2);have Qd:=hid (Qm.out.mono hf.2);have Xa:=hid (Zah YO.out hf.2);have HGG3:=hid (HGG.out.mono hf.2);clear hf YO HGG Qm Qb;obtain⟨pim,hpim⟩:∃ pim,w2.heap.size=pim:=⟨_,rfl⟩;rw[hpim]at Zn ⊢;clear hpim;generalize w2.alloc (.cells #[.slice K9 C k9,.slice G9 G g9] 26)=w3 at *;obtain⟨a0,a1⟩:=Zb9 Zn.out;go_upto_region 5 with fail
  clear a0 a1;have hf:=Zbe (w:=w3) (C:=#[.slice K9 C k9,.slice none 0 0]) (e:=49);have QZ:Hid (RdS w3 w3.heap.size C xs (.slice K9 C k9) (.slice none 0 0) [] 0 (w3.alloc (.cells #[.slice K9 C k9,.slice none 0 0] 49))):=hid
   ⟨hf.2,hf.1,World.ownsRow_nil _ _ _ _,RwIn.nil _ _ _,by simp⟩
  have Vj:=hid (Zn.out.mono hf.2);clear hf;obtain⟨pt,hpt⟩:∃ pt,w3.heap.size=pt:=⟨_,rfl⟩;have JU:=hid hpt;rw[hpt]at QZ ⊢;clear hpt;generalize w3.alloc (.cells #[.slice K9 C k9,.slice none 0 0] 49)=w4 at *;obtain⟨a0,a1⟩:=Zb9 Vj.out;go_upto_region 6 with fail
  clear a0 a1 Vj;have HPP:Hid (p0<pt):=hid (by rw[← JU.out];exact Qd.out.lt);have YZ:Hid (∀ w9,Below pt w3 w9→Below w3.heap.size w3 w9):=hid (fun w9 h=>by rw[JU.out];exact h);go_loopw [23] (fun i wr=>∃(g:Nat) (rv:Value) (L:List Value),g≤G∧i=.int .i64 g∧Hid (L.length=sumR C xs g)∧Hid (RdS w3 pt C xs (.slice K9 C k9) rv L g wr)) (fun i _=>G-(intOf i).toNat)
  case atStart=>exact⟨0,_,[],by omega,rfl,hid rfl,QZ⟩
  case round =>
   obtain⟨g,rv,L,hgl,rfl,hll,hst⟩:=hrel;clear QZ;obtain⟨U9,u9,rfl⟩:=Zag hst.out.own;have QX:=hid (YZ.out _ hst.out.bel);by_cases hlt:g<G
   ·obtain⟨b,o,A2,c2,rfl,m0,m1,_,hck,hcl⟩:=(HGG3.out.mono QX.out).at g (by rw[HES.out];exact hlt);have Yj:=hid hck;have Yv:=hid hcl;have hn65:=ZY.out g hlt;have hsm:=Q6.out g hgl;rw[← hll.out]at hsm;obtain⟨n,hn⟩:∃ n,Zap C xs g=n:=⟨_,rfl⟩;have HN:=hid hn;have HRR3:=hid (fun(w2:World) h h2 h3=>HRR2.out g (lo g) (.slice K9 C k9) (.slice A2 C c2) (ces g) w2 h hlt h2 h3 Yv.out);rw[hn]at m0 hn65 HRR3;clear hck hcl hn;go_upto_region 8 with fail
    have hf:=Zbe (w:=wr) (C:=#[.int .i64 (n:Nat),.slice A2 C c2]) (e:=33);have HVG:=hid hf.1;have Uf:=hid (hst.out.mono hf.2);have Q1:=hid (Zac (Zac Qe.out QX.out) hf.2);have HKK5:=hid (Zby (Zah (Zah Xa.out QX.out) hf.2));have YM:=hid (Yj.out.below (T:=0) hf.2);have HIM5:=hid (Zn.out.mono (Zac QX.out hf.2));clear hf m0 m1;obtain⟨vg,hvg⟩:∃ vg,wr.heap.size=vg:=⟨_,rfl⟩;rw[hvg]at HVG ⊢;clear hvg;generalize wr.alloc (.cells #[.int .i64 (n:Nat),.slice A2 C c2] 33)=w5 at *;have hdw:Below w5.heap.size w5 w5.drew:=Zaf (Zab w5) 1;have Zx:=hid (HRR3.out w5.drew (Zac Q1.out hdw) (HKK5.out.mono hdw) (YM.out.below (T:=0) hdw));have x0:w5.cell? ⟨pt,1,none⟩=some (.slice U9 L.length u9):=by rw[Uf.out.tb.cell];rfl
    have x1:w5.drew.cell? ⟨pt,1,none⟩=some (.slice U9 L.length u9):=x0;obtain⟨b0,b1⟩:=Zb9 HIM5.out;have b2:w5.drew.cell? ⟨pim,0,none⟩=some (.slice K9 C k9):=b0;obtain⟨d0,d1⟩:=Zb9 HVG.out;have d2:w5.drew.cell? ⟨vg,0,none⟩=some (.int .i64 (n:Nat)):=d0;have d3:w5.drew.cell? ⟨vg,1,none⟩=some (.slice A2 C c2):=d1;clear hdw;obtain⟨ln,hln⟩:∃ ln,L.length=ln:=⟨_,rfl⟩;have QP:=hid hln;rw[hln]at x0 x1 hsm;clear hln;go_region_law
     (first
      | (refine Zmf 30 #[.tmp 29,.tmp 31,.tmp 32] #[22,23,33] rfl rfl (enters_of Tryz.func30 (by kernel_rfl) rfl) #[.slice A xs.length ca,.slice K9 C k9,.agg #[.int .i64 (n:Nat),.slice A2 C c2]] rfl Zx.out (by rintro e w' ⟨pg,pr,pc,cs,rfl,_⟩;exact⟨_,rfl⟩) ?_;rintro v9 w6 ⟨pg,pr,pc,cs,hve,hrs⟩;cases hve;have JI:=hid hrs;have QS:=hid (show Below w5.heap.size w5 w6 from Zac (Zaf (Zab w5) 1) hrs.bel);have Zb:=hid (Uf.out.mono QS.out);have xq:w6.cell? ⟨pt,1,none⟩=some (.slice U9 ln u9):=(by rw[Zb.out.tb.cell,QP.out];rfl);have HOW6:=hid Zb.out.own;rw[QP.out]at HOW6;have hB6:=Zb.out.h3;have HNEW:=hid (fun(j:Nat) (u:Value) (hj:(Zfz pc C n)[j]? = some u)=>(show w6.cell? ((⟨pr,0,none⟩:Addr).add j)=some u from by rw[Zdl,JI.out.rows.cell,Nat.zero_add];exact hj));clear hrs)
      | (refine Zqu (v:=.slice U9 ln u9) (Zfz pc C n) ⟨pr,0,none⟩ rfl (.tmp 28) (.tmp 33) rfl 78 (.slice none 0 0) 24 Tryz.underlying47 Tryz.infoCsg rfl (Zep _ _ _) rfl rfl HNEW.out HOW6.out (by omega) (Zy0 _ _ _) (by unfold maxLen;omega) (by omega) ?_;intro v9 w9 g1 g2 g3 g4;obtain⟨A8,c8,rfl⟩:=Zag g1;have QO:=hid g1;have QY:=hid g2;have Zi:=hid g3;have Zg:=hid g4;have Uo:=hid (Zb.out.tb.below g2 (by omega));have fs:=Uo.out.frozen 1;have xs9:=Uo.out.cell 1;clear g1 g2 g3 g4))
    all_goals
     have Qw:=hid (RdS.step (pr:=0) (pc:=0) Uf.out QS.out (by rw[HN.out];exact JI.out.rows_in hC.2) (Zep _ _ _) (by rw[QP.out];exact QO.out) QY.out Zi.out (by rw[QP.out];exact Zg.out));clear Uo fs xs9 QO QY Zi Zg xq x0 x1 b0 b1 b2 d0 d1 d2 d3 HOW6 HNEW;generalize w9.setCell ⟨pt,1,none⟩ (.slice A8 (ln+n) c8)=wz at *;go_wp2_with fail
     go_roundw
     case rel=>exact⟨g+1,_,_,by omega,by go_num,hid (by rw[List.length_append,Zep,hll.out];show _=sumR C xs g+Zap C xs g;rw[HN.out]),Qw⟩
     case measure=>simp[intOf];omega
   ·obtain rfl:g=G:=by omega
    have htb:=hst.out.tb;have z0:=htb.cell 0;have z1:=htb.cell 1;have hres:=Qd.out.mono QX.out;have YC:=hid hres;have y0:=hres.cell 0;have y1:=hres.cell 1;have f0:=hres.frozen 0;have f1:=hres.frozen 1;simp only[List.toList_toArray,List.getElem?_cons_zero,List.getElem?_cons_succ]at z0 z1 y0 y1;have HBZ0:=hid (Zac Qe.out QX.out);obtain⟨ln,hln⟩:∃ ln,L.length=ln:=⟨_,rfl⟩;have QP:=hid hln;rw[hln]at z1;clear hln htb hres;have key:∀ k,k≠p0→((wr.setCell ⟨p0,0,none⟩ (.slice K9 C k9)).setCell ⟨p0,1,none⟩ (.slice U9 ln u9)).heap[k]? = wr.heap[k]?:=fun k hk=>by
     rw[heap_setCell_other _ _ _ _ (by exact hk),heap_setCell_other _ _ _ _ (by exact hk)]
    have HTI:Hid (TbIn ((wr.setCell ⟨p0,0,none⟩ (.slice K9 C k9)).setCell ⟨p0,1,none⟩ (.slice U9 ln u9)) (.slice K9 C k9) (.slice U9 ln u9) xs):=hid (by
     have hk1:=Zah Xa.out QX.out;have hpp:=HPP.out;have hs1:=YJ.out;unfold TbIn;rw[Zu.out,VU.out];refine⟨Zby (Za5 hk1 (fun k hk=>key k (by have:=(hk1.lt k hk).1;omega))),L,?_,hst.out.rows.var YC.out (by decide) key⟩;have h2:=Zby (Za5 hst.out.own (fun k hk=>key k (by have:=(hst.out.own.lt k hk).1;omega)));rw[QP.out]at h2 ⊢;exact h2)
    have HD3:Hid (Below w.heap.size w ((wr.setCell ⟨p0,0,none⟩ (.slice K9 C k9)).setCell ⟨p0,1,none⟩ (.slice U9 ln u9))):=hid (Zad (Zad HBZ0.out _ _ _ Q4.out) _ _ _ Q4.out);have Xh:=hid ((YC.out.set 0 (.slice K9 C k9)).set 1 (.slice U9 ln u9));clear key;go_wp2_with fail
    clear z0 z1 y0 y1 f0 f1;generalize (wr.setCell ⟨p0,0,none⟩ (.slice K9 C k9)).setCell ⟨p0,1,none⟩ (.slice U9 ln u9)=wz at *;have y0:=Xh.out.cell 0;have y1:=Xh.out.cell 1;simp at y0 y1;refine bodyPost_ret (v:=.tuple #[.agg #[.slice K9 C k9,.slice U9 ln u9],.int .i64 0]) ?_ rfl (Qf.out Q3.out _ _ _ HD3.out HTI.out);simp[results,Tryz.results13,go_sem,y0,y1]
structure RdP (w3:World) (pt C:Nat) (xs:List Nat) (kv rv:Value) (L:List Value) (P:List (Nat×Nat)) (wr:World):Prop where
 bel:Below pt w3 wr
 tb:Row wr pt 49 [kv,rv]
 own:wr.ownsRow (pt+1) 78 1 rv L.length L
 rows:RwIn wr C xs L P
 h3:pt<wr.heap.size
theorem RdP.mono {w3 wr wq:World} {pt C:Nat} {xs:List Nat} {kv rv:Value} {L:List Value} {P:List (Nat×Nat)} (h:RdP w3 pt C xs kv rv L P wr) (hb:Below wr.heap.size wr wq):RdP w3 pt C xs kv rv L P wq :=
 ⟨h.bel.trans (hb.mono (Nat.le_of_lt h.h3)),h.tb.mono hb,Zah h.own hb,h.rows.mono hb,Nat.lt_of_lt_of_le h.h3 hb.size⟩
theorem RdP.step {w3 w6 w9:World} {pt C:Nat} {xs:List Nat} {kv rv v' x:Value} {L:List Value} {P:List (Nat×Nat)} {p:Nat×Nat} (h:RdP w3 pt C xs kv rv L P w6) (hr:RwIn w6 C xs [x] [p])
  (ho:w9.ownsRow (pt+1) 78 1 v' (L.length+1) (L++[x])) (hb9:Below (pt+1) w6 w9) (hs9:w6.heap.size≤w9.heap.size) (hk:Kp rv w6 w9 v') :
  RdP w3 pt C xs kv v' (L++[x]) (P++[p]) (w9.setCell ⟨pt,1,none⟩ v'):=by
 have tb9:Row w9 pt 49 [kv,rv]:=h.tb.below hb9 (by omega);have hz:∀ k,k≠pt→(w9.setCell ⟨pt,1,none⟩ v').heap[k]? = w9.heap[k]?:=fun k hk2=>heap_setCell_other _ _ _ _ (by exact hk2)
 refine⟨Zad (h.bel.trans (hb9.mono (by omega))) _ _ _ (Nat.le_refl _),tb9.set 1 v',?_,?_,?_⟩
 ·rw[List.length_append];exact Za5 ho fun k hv=>hz k (Zc5 ho tb9 (by decide) k hv)
 ·have h1:=(h.rows.append hr).list h.own hk.1;exact h1.var tb9 (by decide) hz
 ·have:=h.h3;simp;omega
theorem RwIn.one {w:World} {B C:Nat} {xs:List Nat} {v:Value} {p:Nat×Nat} (h:w.ownsRow B 36 3 v C (rwV C xs p)):RwIn w C xs [v] [p]:=by
 refine⟨rfl,fun j hj=>?_,fun j hj k hv=>?_⟩
 ·obtain rfl:j=0:=by simp at hj;omega
  exact Zby h
 ·obtain rfl:j=0:=by simp at hj;omega
  exact Zjl h k hv
theorem Row.kp {w w':World} {p B sz n:Nat} {e e2:TypeId} {v:Value} {ds cs:List Value} (h:Row w p e ds) (ho:w.ownsRow B e2 sz v n cs) (hne:e2≠e) (hk:∀ k,k<w.heap.size→some k≠v.ownBlock→w'.heap[k]? = w.heap[k]?):Row w' p e ds:=by
 have h1:=hk p h.lt fun he=>Zc5 ho h hne p he.symm rfl
 unfold Row at h ⊢;rw[h1];exact h
set_option maxHeartbeats 16000000 in
theorem Zto (v:Value) (xs:List Nat) (w:World) (hv:Rd w v xs.length 1 (u8s xs)) (hb:∀ x∈xs,x<256) (hl:xs.length≤16777216) :
  Calls Tryz.prog 14 #[v] w (Zm9 xs w):=by
 obtain⟨ANS,hANS⟩:∃ ANS,Zm9 xs w=ANS:=⟨_,rfl⟩;have Qj:=hid hANS;rw[hANS];clear hANS;have Z5:=hid (fun(w2:World) (h:Below w.heap.size w w2)=>Zqy v xs w2 (hv.mono h) hb hl);unfold Zwg at Z5;have Qc:=hid (fun(h:Zcu xs=false) (w9:World) (hb9:Below w.heap.size w w9)=>(show Zm9 xs w (.returned (.tuple #[.agg #[.slice none 0 0,.slice none 0 0],.int .i64 1])) w9 from ⟨hb9,.inr ⟨h,rfl⟩⟩));have Qf:=hid (fun(h:Zcu xs=true) (kv rv:Value) (w9:World) (hb9:Below w.heap.size w w9) (hi:TbIn w9 kv rv xs)=>(show Zm9 xs w (.returned (.tuple #[.agg #[kv,rv],.int .i64 0])) w9 from ⟨hb9,.inl ⟨h,kv,rv,rfl,hi⟩⟩));rw[Qj.out]at Qc Qf;have Ze:Hid (Zcu xs=true→(1≤iC xs∧iC xs≤16)∧iG xs≤256∧(∀ g,g<iG xs→Zap (iC xs) xs g≤65536)∧∀ g,g≤iG xs→sumR (iC xs) xs g≤65536):=hid (fun hi=>by
  obtain⟨hd,hok⟩:=Zji hi;rw[Zgd,Bool.and_eq_true]at hd;obtain⟨hC,hG,hR,hD,hkd⟩:=Zdd hd.1;refine⟨hC,hG,fun g hg=>(Zf2 hd.1 hd.2 g 0 hg (by omega)).1,?_⟩;have hsum:sumR (iC xs) xs (iG xs)=iR xs:=by
   have h2:=hd.2;unfold Zc1 at h2;simp only[Bool.and_eq_true,decide_eq_true_eq]at h2;exact h2.2.1
  have hmono:∀ n g,g+n=iG xs→sumR (iC xs) xs g≤65536:=fun n=>by
   induction n with
   | zero=>intro g hg;rw[show g=iG xs by omega,hsum];exact hR
   | succ n ih =>
    intro g hg;have h3:=ih (g+1) (by omega);have h4:sumR (iC xs) xs (g+1)=sumR (iC xs) xs g+Zap (iC xs) xs g:=rfl;omega
  exact fun g hg=>hmono (iG xs-g) g (by omega))
 obtain⟨A,ca,rfl,_,_,_⟩:=hv.form;clear hv hb;go_enter Tryz.func14,Tryz.ntmps14;go_upto_region 1 with fail
 have hf:=Zbe (w:=w) (C:=#[.slice none 0 0,.slice none 0 0]) (e:=49);have Qg:=hid hf.1;have Qh:=hid hf.2;have hs1:(w.alloc (.cells #[.slice none 0 0,.slice none 0 0] 49)).heap.size=w.heap.size+1:=by simp
 clear hf;generalize w.alloc (.cells #[.slice none 0 0,.slice none 0 0] 49)=w1 at *;obtain⟨p0,hp0⟩:∃ p0,w.heap.size=p0:=⟨_,rfl⟩;have Yo:=hid hp0;have YJ:Hid (w1.heap.size=p0+1):=hid (by rw[hs1,hp0]);rw[hp0]at Qg ⊢;clear hp0 hs1;have Q4:Hid (w.heap.size≤p0):=hid (by rw[Yo.out];exact Nat.le_refl _);have JB:=hid (Z5.out w1 Qh.out);obtain⟨ok,hok⟩:∃ ok,Zcu xs=ok:=⟨_,rfl⟩;have Q3:=hid hok;rw[hok]at JB;clear hok Z5;cases ok
 ·go_upto_region 2 with (go_at_call 26;refine JB.out.mono ?_;rintro e w2 ⟨hb2,hor⟩;obtain rfl:=(hor.resolve_left (fun h=>by cases h.1)).2;have Qb:=hid (Zac Qh.out hb2);have Qm:=hid (Qg.out.mono hb2);clear hb2 hor)
  have hf:=Zbe (w:=w2) (C:=#[.slice none 0 0,.slice none 0 0]) (e:=26);have Qd:=hid (Qm.out.mono hf.2);have Qe:=hid (Zac Qb.out hf.2);clear hf;generalize w2.alloc (.cells #[.slice none 0 0,.slice none 0 0] 26)=w3 at *;have z0:=Qd.out.cell 0;have z1:=Qd.out.cell 1;have f0:=Qd.out.frozen 0;have f1:=Qd.out.frozen 1;go_wp2_with fail
  have Q0:=hid ((Qd.out.set 0 (.slice none 0 0)).set 1 (.slice none 0 0));have QQ:Hid (Below w.heap.size w ((w3.setCell ⟨p0,0,none⟩ (.slice none 0 0)).setCell ⟨p0,1,none⟩ (.slice none 0 0))):=hid (Zad (Zad Qe.out _ _ _ Q4.out) _ _ _ Q4.out);clear z0 z1 f0 f1;generalize (w3.setCell ⟨p0,0,none⟩ (.slice none 0 0)).setCell ⟨p0,1,none⟩ (.slice none 0 0)=wz at *;have y0:=Q0.out.cell 0;have y1:=Q0.out.cell 1;simp at y0 y1;refine bodyPost_ret (v:=.tuple #[.agg #[.slice none 0 0,.slice none 0 0],.int .i64 1]) ?_ rfl (Qc.out Q3.out _ QQ.out);simp[results,Tryz.results14,go_sem,y0,y1]
 ·obtain⟨hC,hG,hgr,hsr⟩:=Ze.out Q3.out;have ZY:=hid hgr;have Q6:=hid hsr;clear hgr hsr Ze;go_upto_region 2 with (go_at_call 26;refine JB.out.mono ?_;rintro e w2 ⟨hb2,hor⟩;obtain⟨_,kv,gv,uu,UL,rfl,him,hce,hul⟩:=hor.resolve_right (fun h=>by cases h.1);obtain⟨⟨K9,k9,rfl⟩,G9,g9,rfl⟩:=him.forms;have Zm:=hid him;obtain⟨U8,u8',rfl⟩:=Zag hce.own;have Uk:=hid hce;have HUL:=hid hul;have Qb:=hid (Zac Qh.out hb2);have Qm:=hid (Qg.out.mono hb2);clear hb2 hor him hce hul)
  obtain⟨hkk,es,ces,lo,hes,hgg⟩:=Zm.out;have YO:=hid hkk;have HES:=hid hes;have HGG:=hid hgg;clear hkk hes hgg Zm;generalize hCC:iC xs=C at *;generalize hGG:iG xs=G at *;have Zu:=hid hCC;have VU:=hid hGG;clear hCC hGG;have hf:=Zbe (w:=w2) (C:=#[.slice K9 C k9,.slice G9 G g9]) (e:=26);have Zn:=hid hf.1;have Qe:=hid (Zac Qb.out hf.2);have Qd:=hid (Qm.out.mono hf.2);have Xa:=hid (Zah YO.out hf.2);have HGG3:=hid (HGG.out.mono hf.2);have HCE3:=hid (Uk.out.mono hf.2);clear hf YO HGG Qm Qb Uk;obtain⟨pim,hpim⟩:∃ pim,w2.heap.size=pim:=⟨_,rfl⟩;rw[hpim]at Zn ⊢;clear hpim;generalize w2.alloc (.cells #[.slice K9 C k9,.slice G9 G g9] 26)=w3 at *;obtain⟨a0,a1⟩:=Zb9 Zn.out;go_upto_region 5 with fail
  clear a0 a1;have hf:=Zbe (w:=w3) (C:=#[.slice K9 C k9,.slice none 0 0]) (e:=49);have QZ:Hid (RdP w3 w3.heap.size C xs (.slice K9 C k9) (.slice none 0 0) [] [] (w3.alloc (.cells #[.slice K9 C k9,.slice none 0 0] 49))):=hid
   ⟨hf.2,hf.1,World.ownsRow_nil _ _ _ _,RwIn.nil _ _ _,by simp⟩
  have Vj:=hid (Zn.out.mono hf.2);clear hf;obtain⟨pt,hpt⟩:∃ pt,w3.heap.size=pt:=⟨_,rfl⟩;have JU:=hid hpt;rw[hpt]at QZ ⊢;clear hpt;generalize w3.alloc (.cells #[.slice K9 C k9,.slice none 0 0] 49)=w4 at *;obtain⟨a0,a1⟩:=Zb9 Vj.out;go_upto_region 6 with fail
  clear a0 a1 Vj;have HPP:Hid (p0<pt):=hid (by rw[← JU.out];exact Qd.out.lt);have YZ:Hid (∀ w9,Below pt w3 w9→Below w3.heap.size w3 w9):=hid (fun w9 h=>by rw[JU.out];exact h);obtain⟨uln,huln⟩:∃ uln,UL.length=uln:=⟨_,rfl⟩;have Vk:=hid huln;rw[huln];clear huln;go_loopw [28] (fun i wr=>∃(g:Nat) (rv:Value) (L:List Value),g≤G∧i=.int .i64 g∧Hid (L.length=sumR C xs g)∧Hid (RdP w3 pt C xs (.slice K9 C k9) rv L (rwG C xs g) wr)) (fun i _=>G-(intOf i).toNat)
  case atStart=>exact⟨0,_,[],by omega,rfl,hid rfl,QZ⟩
  case round =>
   obtain⟨g,rv,L,hgl,rfl,hll,hst⟩:=hrel;clear QZ;have QX:=hid (YZ.out _ hst.out.bel);by_cases hlt:g<G
   ·obtain⟨b,o,A2,c2,rfl,m0,m1,_,hck,hcl⟩:=(HGG3.out.mono QX.out).at g (by rw[HES.out];exact hlt);have hn65:=ZY.out g hlt;have hsm:=Q6.out g hgl;rw[← hll.out]at hsm;obtain⟨n,hn⟩:∃ n,Zap C xs g=n:=⟨_,rfl⟩;have HN:=hid hn;rw[hn]at m0 hn65;clear hck hcl hn;go_upto_region 8 with fail
    have hf:=Zbe (w:=wr) (C:=#[.int .i64 (n:Nat),.slice A2 C c2]) (e:=33);have HVG:=hid hf.1;have Uf:=hid (hst.out.mono hf.2);clear hf m0 m1;obtain⟨vg,hvg⟩:∃ vg,wr.heap.size=vg:=⟨_,rfl⟩;rw[hvg]at HVG ⊢;have HVP:Hid (pt<vg):=hid (by rw[← hvg];exact hst.out.h3);clear hvg;generalize wr.alloc (.cells #[.int .i64 (n:Nat),.slice A2 C c2] 33)=w5 at *;go_upto_region 9 with fail
    have HRW0:Hid (rwG C xs g++(List.range 0).map (fun i=>(g,i))=rwG C xs g):=hid (by simp);go_loopw [10] (fun i wq=>∃(r:Nat) (rv:Value) (L:List Value),r≤n∧i=.int .i64 r∧Hid (L.length=sumR C xs g+r)∧Hid (RdP w3 pt C xs (.slice K9 C k9) rv L (rwG C xs g++(List.range r).map (fun i=>(g,i))) wq)∧Hid (Row wq vg 33 [.int .i64 (n:Nat),.slice A2 C c2])) (fun i _=>n-(intOf i).toNat)
    case atStart=>exact⟨0,_,L,by omega,rfl,hid (by rw[hll.out];rfl),hid (by rw[HRW0.out];exact Uf.out),HVG⟩
    case round =>
     clear Uf HVG hst QX hll;obtain⟨r,rv,L,hrn,rfl,hll,hst,hvg⟩:=hrel;have QX:=hid (YZ.out _ hst.out.bel);obtain⟨d0,d1⟩:=Zb9 hvg.out;have hsm9:L.length≤131072:=by rw[hll.out];have:=Q6.out g hgl;omega
     by_cases hlr:r<n
     ·have VZ:=hid (Zn.out.mono QX.out);obtain⟨b0,b1⟩:=Zb9 VZ.out;go_upto_region 13 with fail
      clear b0 b1 d0 d1;generalize wr=wo at *;obtain⟨gm,hgm⟩:∃ gm,g*C=gm:=⟨_,rfl⟩;have HGM:=hid hgm;have hgmi:(g:Int)*(C:Int)=(gm:Int):=by rw[← hgm];simp
      have hgm9:gm+C≤uln:=by
       have h1:=Nat.mul_le_mul_right C hlt;rw[Nat.succ_mul]at h1;rw[← Vk.out,HUL.out,← hgm];exact h1
      have hgb:gm≤4096:=by rw[← hgm];exact Nat.le_trans (Nat.mul_le_mul (show g≤256 by omega) hC.2) (by decide)
      clear hgm;have HRS0:Hid (wo.ownsRow wo.heap.size 36 3 (.slice none 0 0) 0 (Za2 (fun k=>clA C xs g k r) (fun k=>clB C xs g k r) (fun k=>clC C xs g k r) 0)∧Below wo.heap.size wo wo):=hid ⟨World.ownsRow_nil _ _ _ _,Zab wo⟩;go_loopw [11,42] (fun sv i wq=>∃(c:Nat),c≤C∧i=.int .i64 c∧Hid (wq.ownsRow wo.heap.size 36 3 sv c (Za2 (fun k=>clA C xs g k r) (fun k=>clB C xs g k r) (fun k=>clC C xs g k r) c)∧Below wo.heap.size wo wq)) (fun _ i _=>C-(intOf i).toNat)
      case atStart=>exact⟨0,by omega,rfl,HRS0⟩
      case round =>
       clear HRS0;obtain⟨c,hc,rfl,hrs⟩:=hrel;obtain⟨R9,r9,rfl⟩:=Zag hrs.out.1;by_cases hlc:c<C
       ·have hbr:=Zac QX.out hrs.out.2;have HIMR2:=hid (Zn.out.mono hbr);obtain⟨b0,b1⟩:=Zb9 HIMR2.out;have hce:=HCE3.out.mono hbr;have hdv:(gm+c)/C=g:=by rw[← HGM.out,Nat.mul_comm,Nat.mul_add_div (by omega),Nat.div_eq_of_lt hlc,Nat.add_zero]
        have hmd:(gm+c)%C=c:=by rw[← HGM.out,Nat.mul_comm,Nat.mul_add_mod,Nat.mod_eq_of_lt hlc]
        have hin:=hce.inn (gm+c) (by rw[Vk.out];omega);have hei:eI C xs (gm+c)=eN C xs g c:=by rw[← HGM.out];exact Zr8 hlc
        rw[hdv,hmd,hei,Zwz,HN.out]at hin;obtain⟨ub,uo,rfl,hus⟩:=(Zby hce.own).at (by rw[Vk.out];omega);have hcu:wr.cell? ⟨ub,uo+(gm+c),none⟩=some (UL.getD (gm+c) undef):=hus (gm+c) _ (by rw[List.getElem?_eq_getElem (by rw[Vk.out];omega)];simp[List.getD,List.getElem?_eq_getElem (show gm+c<UL.length by rw[Vk.out];omega)]);obtain⟨Q9,q9,hqe⟩:=Zag hin;rw[hqe]at hin hcu;obtain⟨qb,qo,rfl,hqs⟩:=(Zby hin).at (by omega);obtain⟨e0,e1,e2⟩:=Zfh (clA C xs g c) (clB C xs g c) (clC C xs g c) n r hlr;have f0:wr.cell? ⟨qb,qo+r*3,none⟩=some (.bool (clA C xs g c r)):=hqs _ _ e0;have f1:wr.cell? ⟨qb,qo+r*3+1,none⟩=some (.int .i64 (clB C xs g c r)):=hqs _ _ e1;have f2:wr.cell? ⟨qb,qo+r*3+2,none⟩=some (.string (clC C xs g c r)):=hqs _ _ e2;clear e0 e1 e2 hqs hqe hin hus hce hdv hmd hei;have QI:=hid hrs.out.1;have ZE:=hid hrs.out.2;have QJ:=hid (show Za2 (fun k=>clA C xs g k r) (fun k=>clB C xs g k r) (fun k=>clC C xs g k r) (c+1)=Za2 (fun k=>clA C xs g k r) (fun k=>clB C xs g k r) (fun k=>clC C xs g k r) c++[.bool (clA C xs g c r),.int .i64 (clB C xs g c r),.string (clC C xs g c r)]from rfl);generalize clA C xs g c r=ca at *;generalize clB C xs g c r=cb at *;generalize clC C xs g c r=cd at *;have hsz:wo.heap.size≤wr.heap.size:=ZE.out.size;go_upto_region 16 with (at_builtin;refine Zch [.bool ca,.int .i64 cb,.string cd] 3 rfl (.tmp 45) (.tmp 59) rfl 36 (.agg [Value.bool false,.int .i64 0,.string ⟨#[]⟩].toArray) 32 Tryz.underlying78 Tryz.infoC3g rfl (by decide) rfl rfl rfl QI.out hsz (by simp[Value.oneCell']) (by unfold maxLen;omega) (by omega) ?_;intro v9' w9 g1 g2 g3 g4;obtain⟨A8,c8,rfl⟩:=Zag g1;have QO:=hid g1;have QY:=hid g2;clear g1 g2 g3 g4)
        go_wp2_with fail
        go_roundw
        case rel=>exact⟨c+1,by omega,by go_num,hid ⟨by rw[QJ.out];exact QO.out,ZE.out.trans QY.out⟩⟩
        case measure=>simp[intOf];omega
       ·obtain rfl:c=C:=by omega
        have Zb:=hid (hst.out.mono hrs.out.2);have HVG6:=hid (hvg.out.mono hrs.out.2);have HONE:=hid (RwIn.one (p:=(g,r)) hrs.out.1);obtain⟨U9,u9,rfl⟩:=Zag Zb.out.own;have x0:wr.cell? ⟨pt,1,none⟩=some (.slice U9 L.length u9):=by rw[Zb.out.tb.cell];rfl
        have QI:=hid Zb.out.own;have hpt3:=Zb.out.h3;obtain⟨ln,hln⟩:∃ ln,L.length=ln:=⟨_,rfl⟩;have QP:=hid hln;rw[hln]at x0 QI hsm9;clear hln;go_upto_region 10 with (at_builtin;refine Zch (v:=.slice U9 ln u9) [.slice R9 c r9] 1 rfl (.tmp 63) (.tmp 65) rfl 78 (.slice none 0 0) 24 Tryz.underlying47 Tryz.infoCsg rfl (by decide) rfl rfl rfl QI.out (by omega) (by simp[Value.oneCell']) (by unfold maxLen;omega) (by omega) ?_;intro v9' w9 g1 g2 g3 g4;obtain⟨A8,c8,rfl⟩:=Zag g1;have QO:=hid g1;have QY:=hid g2;have Zi:=hid g3;have Zg:=hid g4;have Uo:=hid (Zb.out.tb.below g2 (by omega));have fs:=Uo.out.frozen 1;have xs9:=Uo.out.cell 1;clear g1 g2 g3 g4)
        have Qw:=hid (RdP.step Zb.out HONE.out (by rw[QP.out];exact QO.out) QY.out Zi.out (by rw[QP.out];exact Zg.out));have HVGZ:=hid (Zam (p:=pt) (i:=1) (v:=.slice A8 (ln+1) c8) (Row.kp HVG6.out QI.out (by decide) Zg.out.1) (by have:=HVP.out;omega));clear Uo fs xs9 QO QY Zi Zg x0 QI;generalize w9.setCell ⟨pt,1,none⟩ (.slice A8 (ln+1) c8)=wz at *;go_wp2_with fail
        go_roundw
        case rel=>exact⟨r+1,_,L++[.slice R9 c r9],by omega,by go_num,hid (by rw[List.length_append,hll.out];rfl),hid (by rw[List.range_succ,List.map_append,← List.append_assoc];exact Qw.out),HVGZ⟩
        case measure=>simp[intOf];omega
     ·obtain rfl:r=n:=by omega
      go_wp2_with fail
      go_roundw
      case rel=>exact⟨g+1,_,L,by omega,by go_num,hid (by rw[hll.out];show _=sumR C xs g+Zap C xs g;rw[HN.out]),hid (by show RdP _ _ _ _ _ _ _ (rwG C xs g++(List.range (Zap C xs g)).map fun i=>(g,i)) _;rw[HN.out];exact hst.out)⟩
      case measure=>simp[intOf];omega
   ·obtain rfl:g=G:=by omega
    obtain⟨U9,u9,rfl⟩:=Zag hst.out.own;have htb:=hst.out.tb;have z0:=htb.cell 0;have z1:=htb.cell 1;have hres:=Qd.out.mono QX.out;have YC:=hid hres;have y0:=hres.cell 0;have y1:=hres.cell 1;have f0:=hres.frozen 0;have f1:=hres.frozen 1;simp only[List.toList_toArray,List.getElem?_cons_zero,List.getElem?_cons_succ]at z0 z1 y0 y1;have HBZ0:=hid (Zac Qe.out QX.out);obtain⟨ln,hln⟩:∃ ln,L.length=ln:=⟨_,rfl⟩;have QP:=hid hln;rw[hln]at z1;clear hln htb hres;have key:∀ k,k≠p0→((wr.setCell ⟨p0,0,none⟩ (.slice K9 C k9)).setCell ⟨p0,1,none⟩ (.slice U9 ln u9)).heap[k]? = wr.heap[k]?:=fun k hk=>by
     rw[heap_setCell_other _ _ _ _ (by exact hk),heap_setCell_other _ _ _ _ (by exact hk)]
    have HTI:Hid (TbIn ((wr.setCell ⟨p0,0,none⟩ (.slice K9 C k9)).setCell ⟨p0,1,none⟩ (.slice U9 ln u9)) (.slice K9 C k9) (.slice U9 ln u9) xs):=hid (by
     have hk1:=Zah Xa.out QX.out;have hpp:=HPP.out;have hs1:=YJ.out;unfold TbIn;rw[Zu.out,VU.out];refine⟨Zby (Za5 hk1 (fun k hk=>key k (by have:=(hk1.lt k hk).1;omega))),L,?_,hst.out.rows.var YC.out (by decide) key⟩;have h2:=Zby (Za5 hst.out.own (fun k hk=>key k (by have:=(hst.out.own.lt k hk).1;omega)));rw[QP.out]at h2 ⊢;exact h2)
    have HD3:Hid (Below w.heap.size w ((wr.setCell ⟨p0,0,none⟩ (.slice K9 C k9)).setCell ⟨p0,1,none⟩ (.slice U9 ln u9))):=hid (Zad (Zad HBZ0.out _ _ _ Q4.out) _ _ _ Q4.out);have Xh:=hid ((YC.out.set 0 (.slice K9 C k9)).set 1 (.slice U9 ln u9));clear key;go_wp2_with fail
    clear z0 z1 y0 y1 f0 f1;generalize (wr.setCell ⟨p0,0,none⟩ (.slice K9 C k9)).setCell ⟨p0,1,none⟩ (.slice U9 ln u9)=wz at *;have y0:=Xh.out.cell 0;have y1:=Xh.out.cell 1;simp at y0 y1;refine bodyPost_ret (v:=.tuple #[.agg #[.slice K9 C k9,.slice U9 ln u9],.int .i64 0]) ?_ rfl (Qf.out Q3.out _ _ _ HD3.out HTI.out);simp[results,Tryz.results14,go_sem,y0,y1]
end Go.Proofs.YtmcjknjlihgihaaGreatDoor
