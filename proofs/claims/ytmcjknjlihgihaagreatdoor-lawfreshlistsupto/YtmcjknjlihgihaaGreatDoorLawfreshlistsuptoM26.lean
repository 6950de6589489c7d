/- A region that draws its order, in a round of a loop over a function: walked as one of a plain function (loads first, one condition on the world). -/
import Derived.Deep.RegionHeld
import Derived.KernelRfl
import Derived.Test.YtmcjknjlihgihaaGreatDoorLawfreshlistsuptoM25
set_option linter.unusedVariables false
set_option linter.unusedSimpArgs false
set_option linter.unnecessarySimpa false
set_option maxRecDepth 20000
namespace Go.Proofs.YtmcjknjlihgihaaGreatDoor
open Go.RowKit
def GsIn (w:World) (v:Value) (C G:Nat) (xs:List Nat):Prop :=
 ∃(A:Option Addr) (cap:Nat),v=.slice A G cap∧G≤cap∧cap≤maxLen ∧
  ∀ g,g<G→∃(b o:Nat) (ev:Value),A=some ⟨b,o,none⟩∧w.cell? ⟨b,o+g*2,none⟩=some (.int .i64 (Za4 C xs g:Nat))∧w.cell? ⟨b,o+g*2+1,none⟩=some ev∧Rd w ev C 4 (ensV xs (gP C g+4) C)
theorem GsIn.mono {w w':World} {v:Value} {C G:Nat} {xs:List Nat} (h:GsIn w v C G xs) (hb:Below w.heap.size w w'):GsIn w' v C G xs:=by
 obtain⟨A,cap,hv,h1,h2,h3⟩:=h;refine⟨A,cap,hv,h1,h2,fun k hk=>?_⟩;obtain⟨b,o,av,hA,c0,c1,hr⟩:=h3 k hk;have hl:b<w.heap.size:=World.block_lt_of_cell? w _ c0;exact⟨b,o,av,hA,(hb.cell (p:=⟨b,_,none⟩) hl).trans c0,(hb.cell (p:=⟨b,_,none⟩) hl).trans c1,hr.mono hb⟩
theorem GsIn.form {w:World} {v:Value} {C G:Nat} {xs:List Nat} (h:GsIn w v C G xs):∃ A cap,v=.slice A G cap:=by
 obtain⟨A,cap,hv,_⟩:=h;exact⟨A,cap,hv⟩
theorem GsIn.at {w:World} {A:Option Addr} {n cap:Nat} {C G:Nat} {xs:List Nat} (h:GsIn w (.slice A n cap) C G xs) (g:Nat) (hg:g<G) :
  ∃(b o:Nat) (B:Option Addr) (c:Nat),A=some ⟨b,o,none⟩∧w.cell? ⟨b,o+g*2,none⟩=some (.int .i64 (Za4 C xs g:Nat))∧w.cell? ⟨b,o+g*2+1,none⟩=some (.slice B C c)∧Rd w (.slice B C c) C 4 (ensV xs (gP C g+4) C):=by
 obtain⟨A',cap',hv,_,_,h3⟩:=h;injection hv with e1 e2 e3
 subst e1;obtain⟨b,o,av,hA,c0,c1,hr⟩:=h3 g hg;obtain⟨B,c,rfl,_⟩:=hr.form;exact⟨b,o,B,c,hA,c0,c1,hr⟩
theorem Zyi (xs:List Nat) (q n:Nat):∀ c,c<n→(ensV xs q n)[c*4]? = some (.int .i64 ((enAt xs (q+16*c)).off:Nat))∧(ensV xs q n)[c*4+1]? = some (.int .i64 ((enAt xs (q+16*c)).len:Nat)) ∧
  (ensV xs q n)[c*4+2]? = some (.int .u32 ((enAt xs (q+16*c)).sum:Nat))∧(ensV xs q n)[c*4+3]? = some (.int .i64 ((enAt xs (q+16*c)).zl:Nat)):=by
 induction n with
 | zero=>intro c hc;omega
 | succ n ih =>
  intro c hc;rw[Zl1];have hl:=Zri xs q n;by_cases h:c<n
  ·obtain⟨h0,h1,h2,h3⟩:=ih c h;rw[List.getElem?_append_left (by omega),List.getElem?_append_left (by omega),List.getElem?_append_left (by omega),List.getElem?_append_left (by omega)];exact⟨h0,h1,h2,h3⟩
  ·obtain rfl:c=n:=by omega
   rw[List.getElem?_append_right (by omega),List.getElem?_append_right (by omega),List.getElem?_append_right (by omega),List.getElem?_append_right (by omega),hl];rw[show c*4-c*4=0 by omega,show c*4+1-c*4=1 by omega,show c*4+2-c*4=2 by omega,show c*4+3-c*4=3 by omega];exact⟨rfl,rfl,rfl,rfl⟩
theorem Seg.en {w:World} {b o:Nat} {xs:List Nat} {q n:Nat} (h:Seg w b o (ensV xs q n)) (c:Nat) (hc:c<n) :
  w.cell? ⟨b,o+c*4,none⟩=some (.int .i64 ((enAt xs (q+16*c)).off:Nat))∧w.cell? ⟨b,o+c*4+1,none⟩=some (.int .i64 ((enAt xs (q+16*c)).len:Nat)) ∧
   w.cell? ⟨b,o+c*4+2,none⟩=some (.int .u32 ((enAt xs (q+16*c)).sum:Nat))∧w.cell? ⟨b,o+c*4+3,none⟩=some (.int .i64 ((enAt xs (q+16*c)).zl:Nat)):=by
 obtain⟨h0,h1,h2,h3⟩:=Zyi xs q n c hc;exact⟨h _ _ h0,h _ _ h1,h _ _ h2,h _ _ h3⟩
set_option maxHeartbeats 1000000 in
theorem Zjd (C G:Nat) (w:World) (hC:C≤16) (hG:G≤256):Calls Tryz.prog 66 #[.int .i64 C,.int .i64 G] w fun e w'=>e=.returned (.int .i64 (iD C G:Nat))∧w'=w:=by
 have h1:G*(4+16*C)≤256*260:=Nat.mul_le_mul hG (by omega);obtain⟨m,hm⟩:∃ m,G*(4+16*C)=m:=⟨_,rfl⟩;have hmi:(G:Int)*(4+16*(C:Int))=(m:Int):=by rw[← hm];simp
 have hd:((iD C G:Nat):Int)=16+(C:Int)+(m:Int):=by unfold iD;rw[hm];simp
 rw[hm]at h1;rw[hd];clear hd hm;go_enter Tryz.func66,Tryz.ntmps66;go_wp2;go_ret;exact⟨by go_num,rfl⟩
theorem Zvy (ks:List Nat) (k:Nat) (hk:k<ks.length):(ks.take (k+1)).all (fun k=>Za3 (k:Int))=((ks.take k).all (fun k=>Za3 (k:Int))&&Za3 ((ks.getD k 0:Nat):Int)):=by
 rw[List.take_succ_eq_append_getElem hk,List.all_append];simp[List.getD,List.getElem?_eq_getElem hk]
theorem Zzc (ks:List Nat) (k:Nat) (hk:k<ks.length) (h:Za3 ((ks.getD k 0:Nat):Int)=false):ks.all (fun k=>Za3 (k:Int))=false:=by
 rw[← Bool.not_eq_true];intro h2;rw[List.all_eq_true]at h2;have:=h2 (ks.getD k 0) (by simp[List.getD,List.getElem?_eq_getElem hk]);rw[h]at this;cases this
set_option maxHeartbeats 1000000 in
theorem Zoi (v:Value) (ks:List Nat) (w:World) (hx:Rd w v ks.length 1 (i64s (nI ks))) :
  Calls Tryz.prog 57 #[v] w fun e w'=>e=.returned (.bool (ks.all fun k=>Za3 (k:Int)))∧w'=w:=by
 obtain⟨A,ca,rfl,hlc,hcm,hA⟩:=hx.form;unfold maxLen at hcm;obtain⟨n,hn⟩:∃ n,ks.length=n:=⟨_,rfl⟩;have HN:=hid hn;rw[hn]at hlc hA ⊢;clear hx hn;go_enter Tryz.func57,Tryz.ntmps57;go_wp2;go_loop [7] (fun i=>∃ k:Nat,k≤n∧i=.int .i64 k∧Hid ((ks.take k).all (fun k=>Za3 (k:Int))=true)) (fun i=>n-(intOf i).toNat)
 case atStart=>exact⟨0,by omega,rfl,hid (by simp)⟩
 case round =>
  obtain⟨k,hk,rfl,hall⟩:=hrel;by_cases hlt:k<n
  ·obtain⟨b,o,rfl,hs⟩:=hA (by omega);have hkl:k<ks.length:=by rw[HN.out];exact hlt
   have c1:=hs.int k (by rw[Zaq];exact hkl);rw[Znl ks k hkl]at c1;have HS:=hid (Zvy ks k hkl);have HB:=hid (Zzc ks k hkl);clear hA hs hkl;generalize ks.getD k 0=p at *;have HK:=hid (Zfw (p:Int) w);generalize Za3 (p:Int)=kk at *;cases kk
   ·have Qc:=hid (HB.out rfl);go_wp2_with (go_at_call 96;refine HK.out.mono ?_;rintro e w1 ⟨rfl,hw⟩;replace hw:=hw.symm;subst hw)
    go_ret;exact⟨Zae Qc.out.symm,rfl⟩
   ·go_wp2_with (go_at_call 96;refine HK.out.mono ?_;rintro e w1 ⟨rfl,hw⟩;replace hw:=hw.symm;subst hw)
    go_round
    case rel=>exact⟨k+1,by omega,by go_num,hid (by rw[HS.out,hall.out];rfl)⟩
    case measure=>simp[intOf];omega
  ·obtain rfl:k=n:=by omega
   clear hA;go_wp2;go_ret;refine⟨Zae ?_,rfl⟩;rw[← hall.out,List.take_of_length_le (by rw[HN.out];exact Nat.le_refl _)]
set_option maxHeartbeats 1000000 in
theorem Zs7 (kv gv:Value) (C G:Nat) (xs:List Nat) (w:World) (hg:GsIn w gv C G xs) (hG:G≤256) (hb:∀ x∈xs,x<256) :
  Calls Tryz.prog 84 #[.agg #[kv,gv]] w fun e w'=>e=.returned (.int .i64 (sumR C xs G:Nat))∧Below w.heap.size w w':=by
 obtain⟨A,ca,rfl⟩:=hg.form;have HG:=hid hg;have HS:=hid (Zrd (C:=C) hb);have HL:Hid (∀ g,Za4 C xs g<4294967296):=hid (fun g=>Zdt hb);clear hg hb;go_enter Tryz.func84,Tryz.ntmps84;go_upto_region 1 with fail
 have hf:=Zbs (w:=w) (C:=#[kv,.slice A G ca]) (e:=101);have Yd:=hid (HG.out.mono hf.2);have QI:=hid hf.1;have Qa:=hid hf.2;have hg1:=QI.out.cell 1;clear hf;generalize w.alloc (.cells #[kv,.slice A G ca] 101)=w1 at *;go_upto_region 3 with fail
 clear hg1;go_loopw [3,9] (fun s i wr=>∃ j:Nat,j≤G∧i=.int .i64 j∧s=.int .i64 (sumR C xs j:Nat)∧Hid (Below w1.heap.size w1 wr)) (fun _ i _=>G-(intOf i).toNat)
 case atStart=>exact⟨0,by omega,rfl,rfl,hid (Zab w1)⟩
 case round =>
  obtain⟨j,hj,rfl,rfl,hb⟩:=hrel;by_cases hlt:j<G
  ·obtain⟨b,o,B,c,rfl,c0,c1,hr⟩:=(Yd.out.mono hb.out).at j hlt;have h1:=HS.out j;have h2:=HL.out j;have Zp:Hid (sumR C xs (j+1)=sumR C xs j+Za4 C xs j):=hid rfl;generalize sumR C xs j=sm at *;generalize Za4 C xs j=r at *;have Qc:=hid ((Zab wr).alloc (Nat.le_refl _) (.cells #[.int .i64 (r:Nat),.slice B C c] 106));clear hr;go_wp2_with fail
   go_roundw
   case rel=>exact⟨j+1,by omega,by go_num,by rw[Zp.out];go_num,hid (Zad hb.out Qc.out)⟩
   case measure=>simp[intOf];omega
  ·obtain rfl:j=G:=by omega
   go_wp2_with fail
   go_ret;exact⟨rfl,Zad Qa.out hb.out⟩
def Zkt (C G:Nat) (xs:List Nat) (i:Nat):Nat:=eAt C (iD C G) xs i
theorem Zuh {C G:Nat} {xs:List Nat} {g c:Nat} (hc:c<C):Zkt C G xs (g*C+c+1)=Zkt C G xs (g*C+c)+((eN C xs g c).len+(eN C xs g c).zl):=by
 unfold Zkt;rw[show g*C+c+1=(g*C+c)+1 from rfl,eAt,Zvt hc]
set_option maxHeartbeats 2000000 in
theorem Zqh (kv gv:Value) (C G:Nat) (xs:List Nat) (ks:List Nat) (w:World) (hk:Rd w kv C 1 (i64s (nI ks))) (hg:GsIn w gv C G xs) (hC:1≤C∧C≤16) (hG:G≤256) (hb:∀ x∈xs,x<256) (hl:xs.length≤16777216) :
  Calls Tryz.prog 85 #[.agg #[kv,gv],.int .i64 xs.length] w fun e w'=>e=.returned (.bool (laid C (iD C G) xs (G*C)&&decide (eAt C (iD C G) xs (G*C)=xs.length)))∧Below w.heap.size w w':=by
 obtain⟨A,ca,rfl⟩:=hg.form;obtain⟨K,ka,rfl,_,_,_⟩:=hk.form;have HG:=hid hg;have HD:=hid (fun w2:World=>Zjd C G w2 hC.2 hG);have HP:Hid (∀ i,i≤4096→Zkt C G xs i≤66592+4096*8589934592):=hid (fun i hi=>by
  have:=Zwu (C:=C) (D:=iD C G) hb i;have h2:=Z00 hC.2 hG;unfold Zkt;omega)
 have HE:Hid (∀ g c,(eN C xs g c).off<4294967296∧(eN C xs g c).len<4294967296∧(eN C xs g c).sum<4294967296∧(eN C xs g c).zl<4294967296):=hid (fun g c=>Zvz hb g c);have HGC:Hid (∀ g,g<G→g*C+C≤G*C):=hid (fun g h=>by have:=Nat.mul_le_mul_right C h;rw[Nat.succ_mul]at this;exact this);have XG:Hid (G*C≤4096):=hid (Nat.mul_le_mul hG hC.2);obtain⟨F,hF⟩:∃ F,(laid C (iD C G) xs (G*C)&&decide (eAt C (iD C G) xs (G*C)=xs.length))=F:=⟨_,rfl⟩;have HF:=hid hF;rw[hF];obtain⟨q,hq⟩:∃ q,xs.length=q:=⟨_,rfl⟩;have HQ:=hid hq;rw[hq]at hl ⊢;clear hg hk hb hF hq;go_enter Tryz.func85,Tryz.ntmps85;go_upto_region 1 with fail
 have hf:=Zbs (w:=w) (C:=#[.slice K C ka,.slice A G ca]) (e:=101);have Yd:=hid (HG.out.mono hf.2);have QI:=hid hf.1;have Qa:=hid hf.2;have hg0:=QI.out.cell 0;have hg1:=QI.out.cell 1;clear hf;generalize w.alloc (.cells #[.slice K C ka,.slice A G ca] 101)=w1 at *;go_upto_region 3 with (go_at_call 66;refine(HD.out w1).mono ?_;rintro e w2 ⟨rfl,hw⟩;replace hw:=hw.symm;subst hw)
 clear hg0 hg1;have HL0:Hid (laid C (iD C G) xs 0=true):=hid (by simp[laid]);have HZ:=hid (show Zkt C G xs 0=iD C G from rfl);have Q6:=hid (fun(g c:Nat) (h1:g<G) (h2:c<C) (h3:(eN C xs g c).off≠Zkt C G xs (g*C+c))=>show F=false by
  have h4:laid C (iD C G) xs (G*C)=false:=Zxc (i:=g*C+c) (by have:=HGC.out g h1;omega) (by rw[Zvt h2];exact h3);rw[← HF.out,h4];rfl)
 have QG:=hid (fun(g c:Nat) (h2:c<C) (h3:(eN C xs g c).off=Zkt C G xs (g*C+c)) (h4:laid C (iD C G) xs (g*C+c)=true)=>show laid C (iD C G) xs (g*C+c+1)=true by
  rw[Zp8,h4,Zvt h2];exact decide_eq_true h3)
 have Zp:=hid (fun(g c:Nat) (h:c<C)=>Zuh (G:=G) (xs:=xs) (g:=g) h);have Jk:Hid (laid C (iD C G) xs (G*C)=true→decide (Zkt C G xs (G*C)=q)=F):=hid (fun h=>by rw[← HF.out,h,HQ.out];rfl);have HEND2:=hid (show ∀ g,(g+1)*C=g*C+C from fun g=>Nat.succ_mul g C);clear HF HD HQ;go_loopw [5,20] (fun a i wr=>∃ g:Nat,g≤G∧i=.int .i64 g∧a=.int .i64 (Zkt C G xs (g*C):Nat)∧Hid (laid C (iD C G) xs (g*C)=true)∧Hid (Below w1.heap.size w1 wr)) (fun _ i _=>G-(intOf i).toNat)
 case atStart=>exact⟨0,by omega,rfl,by rw[Nat.zero_mul,HZ.out],by rw[Nat.zero_mul];exact HL0,hid (Zab w1)⟩
 case round =>
  obtain⟨g,hg,rfl,rfl,hla,hb⟩:=hrel;by_cases hlt:g<G
  ·obtain⟨b,o,B,c,rfl,c0,c1,hr⟩:=(Yd.out.mono hb.out).at g hlt;have Qc:=hid ((Zab wr).alloc (Nat.le_refl _) (.cells #[.int .i64 (Za4 C xs g:Nat),.slice B C c] 106));have HR:=hid (hr.mono Qc.out);have Qk:=hid (Zad hb.out Qc.out);have hgc:=HGC.out g hlt;have hgc2:=XG.out;obtain⟨m,hm⟩:∃ m,g*C=m:=⟨_,rfl⟩;have HM:=hid hm;rw[hm]at hgc hla ⊢;clear hr Qc hm;go_upto_region 6 with fail
   clear c0 c1;generalize wr.alloc (.cells #[.int .i64 (Za4 C xs g:Nat),.slice B C c] 106)=wq at *;go_loopw [5,27] (fun a i wv=>∃ k:Nat,k≤C∧i=.int .i64 k∧a=.int .i64 (Zkt C G xs (m+k):Nat)∧Hid (laid C (iD C G) xs (m+k)=true)∧Hid (Below wq.heap.size wq wv)) (fun _ i _=>C-(intOf i).toNat)
   case atStart=>exact⟨0,by omega,rfl,rfl,hla,hid (Zab wq)⟩
   case round =>
    obtain⟨k,hk,rfl,rfl,hla2,hb2⟩:=hrel;by_cases hkC:k<C
    ·obtain⟨b2,o2,rfl,hs⟩:=(HR.out.mono hb2.out).at (by omega);obtain⟨d0,d1,d2,d3⟩:=hs.en k hkC;have hen:enAt xs (gP C g+4+16*k)=eN C xs g k:=rfl;rw[hen]at d0 d1 d2 d3;have Zq:=hid (Q6.out g k hlt hkC);have YK:=hid (QG.out g k hkC);have UK:=hid (Zp.out g k hkC);rw[HM.out]at Zq YK UK;have hp:=HP.out (m+k) (by omega);have he:=HE.out g k;obtain⟨mk,hmk⟩:∃ mk,m+k=mk:=⟨_,rfl⟩;have hmk1:m+(k+1)=mk+1:=by omega
     rw[hmk]at Zq YK UK hp hla2 ⊢;have HMK:=hid hmk1;clear hs hen hmk hmk1;generalize eN C xs g k=e at *;obtain⟨eo,el,es,ez⟩:=e;simp only at d0 d1 d2 d3 Zq YK UK he;have Q0:=hid ((Zab wr).alloc (Nat.le_refl _) (.cells #[.int .i64 (eo:Nat),.int .i64 (el:Nat),.int .u32 (es:Nat),.int .i64 (ez:Nat)] 108));obtain⟨ps,hps⟩:∃ ps,Zkt C G xs mk=ps:=⟨_,rfl⟩;rw[hps]at Zq YK UK hp ⊢;clear hps;by_cases heq:eo=ps
     ·subst heq;have HY:=hid (YK.out rfl hla2.out);go_wp2_with fail
      go_roundw
      case rel=>exact⟨k+1,by omega,by go_num,by rw[HMK.out,UK.out];go_num,by rw[HMK.out];exact HY,hid (Zad hb2.out Q0.out)⟩
      case measure=>simp[intOf];omega
     ·have HN:=hid (Zq.out heq);have hne:((eo:Int) != (ps:Int))=true:=by simp;omega
      go_wp2_with fail
      go_ret;exact⟨Zae HN.out.symm,Zad (Zad (Zad Qa.out Qk.out) hb2.out) Q0.out⟩
    ·obtain rfl:k=C:=by omega
     have he2:=HEND2.out g;rw[HM.out]at he2;have HE2:=hid he2;clear he2;go_wp2_with fail
     go_roundw
     case rel=>exact⟨g+1,by omega,by go_num,by rw[HE2.out],by rw[HE2.out];exact hla2,hid (Zad Qk.out hb2.out)⟩
     case measure=>simp[intOf];omega
  ·obtain rfl:g=G:=by omega
   have HF2:=hid (Jk.out hla.out);go_wp2_with fail
   go_ret;exact⟨Zae (by rw[← HF2.out,Bool.eq_iff_iff,beq_iff_eq,decide_eq_true_eq];omega),Zad Qa.out hb.out⟩
structure InK (wr:World) (pg C:Nat) (xs:List Nat) (j:Nat) (cv:Value) (cs:List Ent) (wv:World):Prop where
 bw:Below wr.heap.size wr wv
 g:Row wv pg 33 [.int .i64 (Za4 C xs j:Nat),cv]
 ck:CkN wv (pg+1) cv cs C xs j
 all:∀ c,c<cs.length→Zeu C xs j c=true
 h1:wr.heap.size≤pg
 h2:pg<wv.heap.size
theorem InK.mono {wr wv wq:World} {pg C:Nat} {xs:List Nat} {j:Nat} {cv:Value} {cs:List Ent} (h:InK wr pg C xs j cv cs wv) (hb:Below wv.heap.size wv wq):InK wr pg C xs j cv cs wq :=
 ⟨Zad h.bw hb,h.g.mono hb,h.ck.below (T:=0) hb,h.all,h.h1,Nat.lt_of_lt_of_le h.h2 hb.size⟩
theorem InK.chunk {wr wv w1 w3:World} {pg C:Nat} {xs:List Nat} {j:Nat} {cv v' bv:Value} {cs:List Ent} (h:InK wr pg C xs j cv cs wv) (hb:Below wv.heap.size wv w1) (hok:Zeu C xs j cs.length=true)
  (hbv:w1.ownsRow wv.heap.size 73 1 bv (Zdg C xs j cs.length).length (u64s (Zdg C xs j cs.length)))
  (ho:w3.ownsRow (pg+1) 41 15 v' (cs.length+1) (entV cs++(ckX C xs j cs.length++[bv]))) (h3:Below (pg+1) w1 w3) (hs:w1.heap.size≤w3.heap.size) (hk:Kp cv w1 w3 v') :
  InK wr pg C xs j v' (cs++[(ckX C xs j cs.length,bv)]) (w3.setCell ⟨pg,1,none⟩ v'):=by
 have e1:=h.h1;have e2:=h.h2;have hm:=h.mono hb;have hg3:Row w3 pg 33 [.int .i64 (Za4 C xs j:Nat),cv]:=hm.g.below h3 (by omega);have hcn:CkN w3 (pg+1) v' (cs++[(ckX C xs j cs.length,bv)]) C xs j:=h.ck.push hb (by omega) hbv ho hk;refine⟨Zac (hm.bw.trans (h3.mono (by omega))) _ _ _ e1,hg3.set 1 v',?_,fun c hc=>?_,e1,by have:=hg3.lt;simp;omega⟩
 ·exact hcn.keep (fun k hk=>heap_setCell_other _ _ _ _ (by simpa using Zdj hcn.n.own hg3 (by decide) k hk)) (fun i hi k hk=>heap_setCell_other _ _ _ _ (by simpa using Zdj (hcn.n.inn i hi) hg3 (by decide) k hk))
 ·by_cases hc2:c<cs.length
  ·exact h.all c hc2
  ·have:c=cs.length:=by simp at hc;omega
   rw[this];exact hok
structure LkS (wd:World) (pd pim C:Nat) (xs:List Nat) (kv gd gv:Value) (es:List Ent) (ces:Nat→List Ent) (lo:Nat→Nat) (wr:World):Prop where
 bd:Below wd.heap.size wd wr
 dir:Row wr pd 101 [kv,gd]
 im:Row wr pim 26 [kv,gv]
 gs:Gr wr (pim+1) gv es ces lo C xs
 all:∀ g,g<es.length→∀ c,c<C→Zeu C xs g c=true
 h1:wd.heap.size≤pd
 h2:pd<pim
 h3:pim<wr.heap.size
theorem LkS.mono {wd wr wq:World} {pd pim C:Nat} {xs:List Nat} {kv gd gv:Value} {es:List Ent} {ces:Nat→List Ent} {lo:Nat→Nat} (h:LkS wd pd pim C xs kv gd gv es ces lo wr) (hb:Below wr.heap.size wr wq):LkS wd pd pim C xs kv gd gv es ces lo wq :=
 ⟨Zad h.bd hb,h.dir.mono hb,h.im.mono hb,h.gs.mono hb,h.all,h.h1,h.h2,Nat.lt_of_lt_of_le h.h3 hb.size⟩
theorem LkS.inner {wd wr:World} {pd pim C:Nat} {xs:List Nat} {kv gd gv:Value} {es:List Ent} {ces:Nat→List Ent} {lo:Nat→Nat} (h:LkS wd pd pim C xs kv gd gv es ces lo wr) (a b:Value) :
  InK wr (wr.heap.size+1) C xs es.length (.slice none 0 0) [] ((wr.alloc (.cells #[a,b] 106)).alloc (.cells #[.int .i64 (Za4 C xs es.length:Nat),.slice none 0 0] 33)):=by
 have hf:=Zjk (u:=wr) (X:=#[a,b]) (Y:=#[.int .i64 (Za4 C xs es.length:Nat),.slice none 0 0]) (eX:=106) (eY:=33);exact⟨hf.2.2,hf.2.1,CkN.nil _ _ _ _ _,fun c hc=>(by cases hc),by omega,by simp⟩
theorem LkS.group {wd wr wv w3:World} {pd pim pg C:Nat} {xs:List Nat} {kv gd gv v' cv:Value} {es cs:List Ent} {ces:Nat→List Ent} {lo:Nat→Nat} (h:LkS wd pd pim C xs kv gd gv es ces lo wr)
  (hi:InK wr pg C xs es.length cv cs wv) (hl:cs.length=C)
  (ho:w3.ownsRow (pim+1) 33 2 v' (es.length+1) (entV es++([Value.int .i64 (Za4 C xs es.length:Nat)]++[cv]))) (hb:Below (pim+1) wv w3) (hs:wv.heap.size≤w3.heap.size) (hk:Kp gv wv w3 v') :
  ∃ es2 ces2 lo2,es2.length=es.length+1∧LkS wd pd pim C xs kv gd v' es2 ces2 lo2 (w3.setCell ⟨pim,1,none⟩ v'):=by
 have h1:=h.h1;have h2:=h.h2;have h3:=h.h3;have e1:=hi.h1;have e2:=hi.h2;have e5:=hi.bw.size;have hv:=h.mono hi.bw;have hlo:lo es.length≤pg+1:=by have:=h.gs.top;omega
 have hp:=hv.gs.push (hi.ck.weak hlo) hl ho hk hs;have im3:=hv.im.below hb (by omega);have dir3:=hv.dir.below hb (by omega);refine⟨_,_,_,by simp,⟨Zac (hv.bd.trans (hb.mono (by omega))) _ _ _ (by omega),Zbg dir3 (by omega),im3.set 1 v',hp.under (fun k h3 h4=>heap_setCell_other _ _ _ _ (by simp;omega)) (by simp),?_,h1,h2,?_⟩⟩
 ·intro g hg c hc;by_cases hgl:g<es.length
  ·exact h.all g hgl c hc
  ·have:g=es.length:=by simp at hg;omega
   rw[this];exact hi.all c (by omega)
 ·have:=im3.lt;simp;omega
set_option maxRecDepth 512
theorem Zck {ops:Array Oper} {i:Nat} {o:Oper} (h:(ops.toList.drop i).head? = some o):ops[i]? = some o:=by
 rw[List.head?_drop]at h;simpa using h
theorem tkA {P:Program} {md:Region.Mode} {ops:Array Oper} {Q:Exit→Act→World→Prop} {S:World→Prop} {fuel:Nat} {listed:Array Bool} {a:Act} {w:World} (i:Nat) {oi:Oper} {v:Value}
  (hv:∀ w,S w→(execOp a.eval oi).run P w=.ok (.value v) w) (h:wpAnyH P md ops Q S fuel (listed.setIfInBounds i true) (a.put oi.dst v) w)
  (hi:(ops.toList.drop i).head? = some oi:=by rfl) (hs:Region.noSelect ops=true:=by kernel_rfl) (hf:Region.free md ops listed i=true:=by kernel_rfl) (hr:(Region.ready md ops listed).contains i=true:=by kernel_rfl)
  (hQ:∀ c a w,Q (.panic c) (a.put oi.dst v) w→Q (.panic c) a w:=by exact fun _ _ _ h=>h) (hw:Region.wanted oi (yielded ops a.tmps)=true:=by rfl) (hS:S w:=by assumption) :
  wpAnyH P md ops Q S (fuel+1) listed a w:=wpAnyH_take (Zck hi) hs hf hr hQ (Or.inl ⟨hw,hv⟩) hS h
theorem tkB {P:Program} {md:Region.Mode} {ops:Array Oper} {Q:Exit→Act→World→Prop} {S:World→Prop} {fuel:Nat} {listed:Array Bool} {a:Act} {w:World} (i:Nat) {oi:Oper}
  (h:wpAnyH P md ops Q S fuel (listed.setIfInBounds i true) (a.put oi.dst undef) w)
  (hi:(ops.toList.drop i).head? = some oi:=by rfl) (hs:Region.noSelect ops=true:=by kernel_rfl) (hf:Region.free md ops listed i=true:=by kernel_rfl) (hr:(Region.ready md ops listed).contains i=true:=by kernel_rfl)
  (hQ:∀ c a w,Q (.panic c) (a.put oi.dst undef) w→Q (.panic c) a w:=by exact fun _ _ _ h=>h) (hw:Region.wanted oi (yielded ops a.tmps)=false:=by rfl) (hS:S w:=by assumption) :
  wpAnyH P md ops Q S (fuel+1) listed a w:=wpAnyH_take (Zck hi) hs hf hr hQ (Or.inr ⟨hw,rfl⟩) hS h
theorem tk1 {α : Type} {i:Nat} {a : α} {l:List α}:l.toArray.setIfInBounds i a=(l.set i a).toArray:=List.setIfInBounds_toArray ..
theorem tk2 {α : Type} {x y : α} {l:List α}:(x :: l).set 0 y=y :: l:=List.set_cons_zero
theorem tk3 {α : Type} {x y : α} {i:Nat} {l:List α}:(x :: l).set (i+1) y=x :: l.set i y:=List.set_cons_succ
end Go.Proofs.YtmcjknjlihgihaaGreatDoor
namespace Go.Proofs.YtmcjknjlihgihaaGreatDoor
open Go
def Zlt (Q:Exit→Act→World→Prop):Exit→Act→World→Prop
 | .normal,a,w=>Q .normal a w
 | _,_,_=>False
theorem Zus (l n:Nat) {P:Program} {o:Oper} {a:Act} {w:World} {K K':Act→World→Prop} {Q:Exit→Act→World→Prop} (hd:∀ c,o.op≠.defer c) (hK:∀ a w,K a w→K' a w)
  (h:o.wp P a w K (Zlt Q)):o.wpIn (Fence.wide.inRound l) n P a w K' Q:=by
 refine⟨fun _ _=>trivial,?_⟩;rw[Fence.inRound_round,Oper.semAt_some _ _ _ hd];unfold Oper.wp at h;generalize (execOp a.eval o).run P w=r at *;have hno:¬ ((Fence.wide.inRound l).depth.isSome=true):=by simp[Fence.wide]
 match r,h with
 | .ok (.value v) w',h=>exact hK _ _ h
 | .ok .skip w',h=>exact hK _ _ h
 | .ok (.defer d) w',h=>exact hK _ _ h
 | .ok (.enter f args) w',h =>
  refine⟨fun hh=>absurd hh hno,?_⟩;refine(CallsIn.inRound l (callsIn_wide.2 h)).mono ?_;intro e w2 he;cases e with
  | returned v=>exact hK _ _ he
  | panicked c=>exact he.elim
  | outgrown=>exact absurd he (by rintro⟨_,_,hq⟩;exact hq)
 | .ok (.row row args) w',h =>
  refine⟨fun hh=>absurd hh hno,?_⟩;intro c cs _;obtain⟨v,w2,hr,hs⟩:=h c cs;exact⟨v,w2,hK _ _ hr,stepsIn_wide.2 hs⟩
 | .halt (.panic v) w',h=>exact h.elim
theorem Zq1 (l n:Nat) {P:Program} {ops:Array Oper} {Q:Exit→Act→World→Prop} (hnd:∀(i:Nat) (o:Oper),ops[i]? = some o→∀ c,o.op≠.defer c) :
  ∀(is:List Nat) (a:Act) (w:World),wpOps P ops (Zlt Q) is a w→wpOpsIn (Fence.wide.inRound l) n P ops Q is a w:=by
 intro is
 induction is with
 | nil=>exact fun a w h=>h
 | cons i rest ih =>
  intro a w h;unfold wpOps at h;unfold wpOpsIn;cases ho:ops[i]? with
  | none=>simp only[ho]at h ⊢;exact ih a w h
  | some o =>
   simp only[ho]at h ⊢;by_cases hw:Region.wanted o (yielded ops a.tmps)=true
   ·simp only[hw,if_true]at h ⊢;rcases h with h | ⟨_,_,_,hq⟩
    ·exact Zus l n (hnd i o ho) ih h
    ·exact hq.elim
   ·simp only[hw,if_false,Bool.false_eq_true]at h ⊢;exact⟨fun _ _=>trivial,ih _ _ h⟩
def Zsu (ops:Array Oper):Bool:=ops.toList.all (fun o=>match o.op with | .defer _=>false | _=>true)
theorem Zu3 {ops:Array Oper} (h:Zsu ops=true):∀(i:Nat) (o:Oper),ops[i]? = some o→∀ c,o.op≠.defer c:=by
 intro i o ho c hc;unfold Zsu at h;rw[List.all_eq_true]at h;have:=h o (by rw[← Array.getElem?_toList]at ho;exact List.mem_of_getElem? ho);rw[hc]at this;cases this
theorem Zbw {l n:Nat} {P:Program} {id:Nat} {ops:Array Oper} {Q:Exit→Act→World→Prop} {S:World→Prop} {a:Act} {w:World} (hm:P.follows .mixedOrders=true) (hnd:Zsu ops=true) (hS:S w.drew)
  (h:S w.drew→wpAnyH P .any ops (Zlt Q) S ops.size (Array.replicate ops.size false) a w.drew):(Code.region id ops true).wpIn (Fence.wide.inRound l) n P Q a w :=
 wpIn_region_draw fun t=>by
  refine Zq1 l n (Zu3 hnd) _ _ _ ?_;simp only[Region.schedule,hm,Bool.true_or,if_true];exact wpAny_sound ops.size t _ a _ (wpAny_of_held _ _ _ _ (h hS))
end Go.Proofs.YtmcjknjlihgihaaGreatDoor
