/- Package chunk: offsets and whole payloads of integers off the reader. -/
import Derived.Test.YtmcjknjlihgihaaGreatDoorLawparseuptoM8
set_option linter.unusedVariables false
set_option linter.unusedSimpArgs false
set_option linter.unnecessarySimpa false
set_option maxRecDepth 100000
namespace Go.Proofs.YtmcjknjlihgihaaGreatDoor
open Go.RowKit
theorem Zdy {w:World} {B C:Nat} {e:TypeId} {v:Value} {n:Nat} {cs:List Value} (h:w.ownsRow B e 1 v n cs) (hC:C≤B):w.ownsRow C e 1 v n cs:=by
 refine⟨h.1,?_⟩;rcases h.2 with hn | ⟨g,cap,cur,rfl,hb',hg,r⟩
 ·exact .inl hn
 ·exact .inr ⟨g,cap,cur,rfl,Nat.le_trans hC hb',hg,r⟩
def Zbu (wd:Int) (k:Nat) (xs:List Nat) (s:Bool):Out_I :=
 if 256<L.wordOf 8 (tk 4 xs)∨wd≠(Zgl (L.wordOf 8 (tk 4 xs)):Int)then { b:=false,left:=tkL 4 xs,short:=tkS 4 xs s,list:=[],ends:=[],lanes:=[] }
 else match rdI (L.wordOf 8 (tk 4 xs)) (tkL 4 xs) (tkS 4 xs s)with
  | (vals,ok,xl,s1) =>
   if (ok&&Zbd geI vals)=true then { b:=Zck wd k 6 (Za7 xl) (L.wordOf 8 (tk 4 xs)),left:=tkL (8*(xl.length/8)) xl,short:=tkS (8*(xl.length/8)) xl s1,list:=vals,ends:=[],lanes:=Za7 xl }
   else { b:=false,left:=xl,short:=s1,list:=vals,ends:=[],lanes:=[] }
set_option maxHeartbeats 8000000 in
theorem Zvs (w0 w:World) (g gr:Nat) (xs:List Nat) (s:Bool) (rows codec wd:Int) (k:Nat) (nulls bef:Value) (base:Int) (hT:Tab w0)
  (hc:Row w g 207 (ck_I rows codec wd nulls k nilS nilS base nilS Zbg bef)) (hr:Zaq w0 w gr xs s) (hne:g≠gr) (hg0:w0.heap.size≤g) (hgs:gr<w.heap.size)
  (hv:∀ x∈xs,x<256) (hl:xs.length≤16777216) (hk:k≤65536) :
  Calls Tryz.prog 199 #[.pointer (some ⟨g,0,none⟩),.pointer (some ⟨gr,0,none⟩)] w fun e w' =>
   e=.returned (.bool (Zbu wd k xs s).b)∧OutAt_I w0 w w' w.heap.size g gr rows codec wd k nulls Zbg bef base (Zbu wd k xs s):=by
 have hU:=Zff w0 w gr xs s hr hv hl;have hd32:L.wordOf 8 (tk 4 xs)<4294967296:=Zb0 _ (Zdh hv) (Zit 4 xs);obtain⟨d,hd⟩:∃ d,L.wordOf 8 (tk 4 xs)=d:=⟨_,rfl⟩;obtain⟨xs1,hx1⟩:∃ xs1,tkL 4 xs=xs1:=⟨_,rfl⟩;obtain⟨s1,hs1⟩:∃ s1,tkS 4 xs s=s1:=⟨_,rfl⟩;have hxl1:xs1.length≤16777216:=by rw[← hx1];exact Nat.le_trans (Zbn _ _) hl
 have hxv1:∀ x∈xs1,x<256:=by rw[← hx1];exact Zau hv
 obtain⟨O,hO⟩:∃ O,Zbu wd k xs s=O:=⟨_,rfl⟩;have HO:=hid hO;unfold Zbu at HO;rw[hd,hx1,hs1]at HO;rw[hd,hx1,hs1]at hU;rw[hd]at hd32;rw[hO];have HU:=hid hU;have HC:=hid hc;have HT:=hid hT;have hgw:g<w.heap.size:=hc.lt;have d2:w.cell? ⟨g,2,none⟩=some (.int .i64 wd):=by rw[hc.cell];rfl
 clear hU hc hr hT hd hx1 hs1 hO hv hl;obtain⟨B,hB⟩:∃ B,w.heap.size=B:=⟨_,rfl⟩;have HB:=hid hB;rw[hB];clear hB;have hm:=Zg6;go_enter Tryz.func199,Tryz.ntmps199;go_upto_region 2 with (first | (go_at_call 81;refine HU.out.mono ?_;rintro e w1 ⟨rfl,ha1,hc1⟩;have JQ:=hid ha1;have QK:=hid (Chg.wide' (a:=g) hc1);have QM:=hid (hc1.row HC.out hne hne);clear ha1 hc1))
 have e2:w1.cell? ⟨g,2,none⟩=some (.int .i64 wd):=by rw[QM.out.cell];rfl
 have hgr1:gr<w1.heap.size:=Nat.lt_of_lt_of_le hgs QK.out.size;have hgB:g<B:=by have:=HB.out;omega
 have hB1:B≤w1.heap.size:=by have:=HB.out;have:=QK.out.size;omega
 have Qc:Hid (∀ n,OutAt_I w0 w (w1.drewN n) B g gr rows codec wd k nulls Zbg bef base { b:=false,left:=xs1,short:=s1,list:=[],ends:=[],lanes:=[] }):=hid (fun n =>
  ⟨⟨_,_,_,QM.out.drewN n,World.ownsRow_nil _ _ _ _,World.ownsRow_nil _ _ _ _,World.ownsRow_nil _ _ _ _⟩,JQ.out.mono (Zaf (Zab w1) n),QK.out.drewN n⟩)
 clear HU HC d2;by_cases hbig:256<d
 ·have hO:O={ b:=false,left:=xs1,short:=s1,list:=[],ends:=[],lanes:=[] }:=by rw[← HO.out,if_pos (.inl hbig)]
  subst hO;have hb1:(d:Int) > 256:=by omega
  go_wp2_with fail
  go_quiet (fail)
  go_wp2_with fail
  go_ret;exact⟨rfl,Qc.out _⟩
 ·have hb1:¬ (d:Int) > 256:=by omega
  obtain⟨nd,hnd⟩:∃ nd,Zgl d=nd:=⟨_,rfl⟩;have HN:=hid (fun w2:World=>Zt7 d w2 (by omega));rw[hnd]at HN HO;clear hnd;by_cases hw:wd=(nd:Int)
  ·have hw1:(wd != (nd:Int))=false:=by rw[hw];simp
   have hO2:=HO.out;rw[if_neg (fun h=>h.elim (fun h=>hbig h) (fun h=>h hw))]at hO2;obtain⟨vals,ok,xl,s2,hR⟩:∃ vals ok xl s2,rdI d xs1 s1=(vals,ok,xl,s2):=⟨_,_,_,_,rfl⟩;rw[hR]at hO2;simp only at hO2;have hxl:xl.length≤16777216:=by have:=(Zeq d xs1 s1).1;rw[hR]at this;exact Nat.le_trans this hxl1
   have hxv:∀ x∈xl,x<256:=by have:=(Zeq d xs1 s1).2 256 hxv1;rw[hR]at this;exact this
   have hvl:vals.length≤16777216:=by have:=Zjw d xs1 s1 hxl1;rw[hR]at this;exact this
   have Yk:=hid hO2;have Yc:=hid (fun(w2:World) (h:Zaq w0 w2 gr xs1 s1) (h2:gr<w2.heap.size)=>Zgp w0 w2 gr xs1 s1 d h h2 hxv1 hxl1 (by omega));rw[hR]at Yc;have HHW:=hid hw;clear hO2 hR hw HO Qc;go_wp2_with fail
   go_quiet (first | (go_at_call 215;refine Calls.quiet_of_same (HN.out _)))
   have Uu:=hid (JQ.out.mono (Zaf (Zab w1) nq));have Zq:=hid (QK.out.drewN nq);have Qp:=hid (QM.out.drewN nq);have hgr2:gr<(w1.drewN nq).heap.size:=hgr1;have hB2:B≤(w1.drewN nq).heap.size:=hB1;clear JQ QK QM e2 HN;generalize w1.drewN nq=w2 at *;have d9:w2.cell? ⟨g,0+9,none⟩=some (.iface 159 (.agg #[])):=by rw[Qp.out.cell];rfl
   go_wp2_with fail
   refine(Yc.out w2 Uu.out hgr2).mono ?_;rintro e w3 ⟨v3,rfl,ho3,ha3,hc3⟩;obtain⟨A3,c3,rfl,hcc3,_,_,_⟩:=Zao ho3;have Y6:=hid (Zdy ho3 hB2);have Yx:=hid ha3;have QT:=hid (Zq.out.trans (Chg.wide' (a:=g) hc3));have Qn:=hid (hc3.row Qp.out hne hne);have e5:w3.cell? ⟨g,0+5,none⟩=some nilS:=by rw[Qn.out.cell];rfl
   have f5:=Qn.out.frozen (0+5);have hgr3:gr<w3.heap.size:=Nat.lt_of_lt_of_le hgs QT.out.size;have hch4:=(Chg.refl g g w3).setCell g 5 (.slice A3 vals.length c3) (.inl rfl);have Yy:Hid (Row (w3.setCell ⟨g,5,none⟩ (.slice A3 vals.length c3)) g 207 (ck_I rows codec wd nulls k (.slice A3 vals.length c3) nilS base nilS Zbg bef)):=hid (Qn.out.set 5 _);have Zr:=hid (Zb5 Y6.out hch4 hgB hgB);have Zd:=hid (Yx.out.chg hch4 (Ne.symm hne) (Ne.symm hne) hg0 hg0);have Yn:=hid (QT.out.setCell g 5 (.slice A3 vals.length c3) (.inl rfl));have hgr4:gr<(w3.setCell ⟨g,5,none⟩ (.slice A3 vals.length c3)).heap.size:=Nat.lt_of_lt_of_le hgr3 hch4.size;have hB4:B≤(w3.setCell ⟨g,5,none⟩ (.slice A3 vals.length c3)).heap.size:=Nat.le_trans hB2 (Nat.le_trans hc3.size hch4.size);clear ho3 ha3 hc3 hcc3 Uu Zq Qp d9 Yc Y6 Yx QT Qn hch4 hm hgr2 hgr3 hB2;go_upto_region 6 with fail
   clear e5 f5;generalize w3.setCell ⟨g,5,none⟩ (.slice A3 vals.length c3)=w4 at *;have Jo:=hid (Znc _ vals w4 (Zba Zr.out) (by unfold maxLen;omega));have QP:=hid (fun n:Nat=>Zlr w0 (w4.drewN n) g gr xl s2 rows codec wd k nulls (.slice A3 vals.length c3) nilS nilS Zbg bef base 6 d HT.out (Yy.out.drewN n) (Zd.out.mono (Zaf (Zab w4) n)) hne hg0 hgr4 hxv hxl (by omega));have YF:=hid (fun n:Nat=>(⟨⟨_,_,_,Yy.out.drewN n,Zbs Zr.out (Zaf (Zab w4) n),World.ownsRow_nil _ _ _ _,World.ownsRow_nil _ _ _ _⟩,Zd.out.mono (Zaf (Zab w4) n),Yn.out.drewN n⟩:OutAt_I w0 w (w4.drewN n) B g gr rows codec wd k nulls Zbg bef base { b:=false,left:=xl,short:=s2,list:=vals,ends:=[],lanes:=[] }));obtain⟨asc,hasc⟩:∃ asc,Zbd geI vals=asc:=⟨_,rfl⟩;rw[hasc]at Jo Yk;clear hasc;cases ok
   case' false =>
    have hO:=Yk.out;rw[if_neg (by simp)]at hO;subst hO;go_wp2_with fail
    go_ret;exact⟨rfl,YF.out 0⟩
   cases asc
   case' false =>
    have hO:=Yk.out;rw[if_neg (by simp)]at hO;subst hO;go_wp2_with (go_at_call 233;refine Jo.out.mono ?_;rintro e w5 ⟨rfl,n5,rfl⟩)
    go_ret;exact⟨rfl,YF.out _⟩
   case' true =>
    have hO:=Yk.out;rw[if_pos (by rfl)]at hO;obtain⟨lb,hlb⟩:∃ lb,Zck wd k 6 (Za7 xl) d=lb:=⟨_,rfl⟩;rw[hlb]at QP hO;clear YF Yk hlb;subst hO;go_wp2_with (first
     | (go_at_call 233;refine Jo.out.mono ?_;rintro e w5 ⟨rfl,n5,rfl⟩)
     | (go_at_call 234;refine(QP.out n5).mono ?_;rintro e w6 ⟨rfl,v6,hr6,ho6,ha6,hc6⟩;have Vn:=hid hr6;have ZN:=hid (Zdy ho6 hB4);have Uv:=hid ha6;have Vz:=hid hc6;have Xr:=hid (Zb5 (Zbs Zr.out (Zaf (Zab w4) n5)) hc6 hgB (by have:=HB.out;omega));clear hr6 ho6 ha6 hc6))
    go_ret;exact⟨rfl,⟨_,_,_,Vn.out,Xr.out,World.ownsRow_nil _ _ _ _,ZN.out⟩,Uv.out,(Yn.out.drewN n5).trans Vz.out⟩
  ·have hO:O={ b:=false,left:=xs1,short:=s1,list:=[],ends:=[],lanes:=[] }:=by rw[← HO.out,if_pos (.inr hw)]
   subst hO;have hw1:(wd != (nd:Int))=true:=by rw[bne_iff_ne];exact hw
   go_wp2_with fail
   go_quiet (first | (go_at_call 215;refine Calls.quiet_of_same (HN.out _)))
   go_wp2_with fail
   go_ret;exact⟨rfl,Qc.out _⟩
theorem Zx3 (w:World) (a b c:Value) (e:TypeId):∀ j u,[a,b,c][j]? = some u→(w.alloc (.cells #[a,b,c] e)).cell? ((⟨w.heap.size,0,none⟩:Addr).add j)=some u:=by
 intro j u h;have hr:Row (w.alloc (.cells #[a,b,c] e)) w.heap.size e [a,b,c]:=by unfold Row;rw[heap_alloc_new]
 rw[Zdl,hr.cell,Nat.zero_add];exact h
theorem Zb4 {P:Program} {w:World} {ops:Array Oper} {rest:List Oper} {o:Oper} {a:Act} {Q:Exit→Act→World→Prop} {t:TypeId} {x y z v:Value} {B n:Nat} {xs:List Value}
  (hgd:o.guard=none) (s r:Operand) (ho:o.op=.call { callee:=.builtin .append,args:=#[s,r],argTypes:=#[t,t] })
  (e:TypeId) (zs:List Value) (bytes:Nat) (h1:P.underlying t=some (.slice e)) (h2:(P.info? e).map (fun i=>(i.zero,i.size,i.bytes))=some (some (.agg zs.toArray),3,bytes)) (hz:zs.length=3)
  (hs:a.eval s=v) (hx:a.eval r=.slice (some ⟨w.heap.size,0,none⟩) 1 1)
  (hown:w.ownsRow B e 3 v n xs) (hB:B≤w.heap.size) (hu:∀ u∈[x,y,z],u.oneCell'=true) (hm:n+1≤maxLen) (hby:(n+1)*bytes≤140737488355328)
  (hK:∀ v' w',w'.ownsRow B e 3 v' (n+1) (xs++[x,y,z])→Below B w w'→wpList P ops Q rest (a.put o.dst v') w') :
  wpList P ops Q (o :: rest) a (w.alloc (.cells #[x,y,z] e)):=by
 refine wpList_plain hgd fun K hK'=>?_
 unfold Oper.wp execOp;simp only[ho,resolve,invoke,builtin,Sem.run_bind,Sem.run_pure,Result.andThen_ok,List.map_toArray,List.map_cons,List.map_nil,hs,hx];obtain⟨i,hi,hz0,hz1,hz2⟩:=info_parts h2;obtain⟨v',w',hr,h3,h4,_⟩:=run_append_own (P:=P) (w:=w.alloc (.cells #[x,y,z] e)) B t o.type e i (.agg zs.toArray) 3 bytes h1 hi hz0 hz1 hz2 (by simpa [Value.cells]using hz) (by omega) v n xs (hown.alloc _)
  ⟨w.heap.size,0,none⟩ 1 1 [x,y,z] rfl (Zx3 w x y z e) hu hm hby (by simp;omega)
 have hlt:=hown.lt;refine Ze7 hr (hK' _ _ (hK _ _ h3 ?_));refine(((Below.refl B w).alloc hB _).grown h4 (by simp;omega) ?_);intro k hk;exact(hlt k hk).1
theorem Zb1 {w:World} {B:Nat} {e:TypeId} {v:Value} {n:Nat} {cs:List Value} (h:w.ownsRow B e 3 v n cs):∃ A cap,v=.slice A n cap:=by
 rcases h.2 with ⟨rfl,rfl⟩ | ⟨g,cap,cur,rfl,_⟩
 ·exact⟨none,0,rfl⟩
 ·exact⟨_,_,rfl⟩
theorem Zon {w:World} {B:Nat} {e:TypeId} {v:Value} {n:Nat} {cs:List Value} (h:w.ownsRow B e 3 v n cs):Rd w v n 3 cs:=by
 refine⟨h.1,?_⟩;rcases h.2 with ⟨rfl,rfl⟩ | ⟨g,cap,cur,rfl,hb,hg,hnc,hcm,hcs,htake⟩
 ·exact .inl ⟨⟨_,rfl⟩,rfl⟩
 ·refine .inr ⟨g,0,cap,rfl,hnc,hcm,?_⟩;intro i v hv;have:=h.cells (g:=g) rfl i v hv
  rwa [Zdl]at this
theorem Zmy {w w':World} {B:Nat} {e:TypeId} {v:Value} {n:Nat} {cs:List Value} (h:w.ownsRow B e 3 v n cs) (hb:Below w.heap.size w w'):w'.ownsRow B e 3 v n cs:=by
 refine⟨h.1,?_⟩;rcases h.2 with hn | ⟨g,cap,cur,rfl,hb',hg,r⟩
 ·exact .inl hn
 ·exact .inr ⟨g,cap,cur,rfl,hb',by rw[hb.block g (Array.getElem?_eq_some_iff.1 hg).1];exact hg,r⟩
def Zbx (wd k p:Nat) (xs:List Nat):Bool:=decide (p≤xs.length∧(xs.length-p)%8=0)&&Za9 wd k (Za7 (xs.drop p))
def Zbm (wd k p:Nat) (xs:List Nat):List Nat:=if Zbx wd k p xs=true then L.lanesL wd k (Za7 (xs.drop p))else []
set_option maxHeartbeats 2000000 in
theorem Zl2 (v:Value) (xs:List Nat) (p wd k:Nat) (w:World) (hx:Rd w v xs.length 1 (u8s xs)) (hb:∀ x∈xs,x<256) (hl:xs.length≤16777216) (hp:p≤1099511627776) :
  Calls Tryz.prog 206 #[v,.int .i64 p,.int .i64 wd,.int .i64 k] w fun e w' =>
   ∃ u,e=.returned (.tuple #[u,.bool (Zbx wd k p xs)])∧w'.ownsRow w.heap.size 73 1 u (Zbm wd k p xs).length (u64s (Zbm wd k p xs))∧Below w.heap.size w w':=by
 by_cases hg:p≤xs.length∧(xs.length-p)%8=0
 ·have hdl:(xs.drop p).length=xs.length-p:=by simp
  obtain⟨c,hc⟩:∃ c,(xs.length-p)/8=c:=⟨_,rfl⟩;have hci:((xs.length:Int)-(p:Int))/8=(c:Int):=by omega
  have hmod2:((xs.length:Int)-(p:Int))%8=0:=by omega
  have hrw:numL 8 (tk (8*c) (xs.drop p))=Za7 (xs.drop p):=by unfold Za7;rw[hdl,hc]
  have hno:Zav 8 c p xs.length=true:=by unfold Zav;exact decide_eq_true ⟨hg.1,by omega⟩
  have HN:=hid (Zcn v xs p 8 c w hx hb hl (.inr rfl) hp (by omega));rw[hrw,hno]at HN;have hwl:(Za7 (xs.drop p)).length≤16777216:=by rw[Zfj,hdl];omega
  have hwv:∀ x∈Za7 (xs.drop p),x<18446744073709551616:=by unfold Za7;exact Zdz (Zdh (fun x h=>hb x (List.mem_of_mem_drop h))) (by omega)
  have eok:Zbx wd k p xs=Za9 wd k (Za7 (xs.drop p)):=by unfold Zbx;rw[decide_eq_true hg,Bool.true_and]
  have eV:Zbm wd k p xs=Zfk wd k (Za7 (xs.drop p)):=by unfold Zbm Zfk;rw[eok];simp
  rw[eok,eV];generalize Za7 (xs.drop p)=ws at *;obtain⟨A,ca,rfl,hlc,hcm,hA⟩:=hx.form;have hp1:¬ (p:Int) > (xs.length:Int):=by omega
  have HU:=hid (fun(w2:World) (u:Value) (h:Rd w2 u ws.length 1 (u64s ws))=>Zpw u ws wd k w2 h hwv (by unfold maxLen;omega));obtain⟨B,hB⟩:∃ B,w.heap.size=B:=⟨_,rfl⟩;have Y8:=hid hB;rw[hB];generalize Za9 wd k ws=ok at *;generalize Zfk wd k ws=R at *;simp only[if_pos]at HN;clear hx hA eok eV hno hrw hwv hB hb;go_enter Tryz.func206,Tryz.ntmps206;go_wp2_with fail
  refine HN.out.mono ?_;rintro e w1 ⟨u,rfl,ho,hb1⟩;obtain⟨A1,c1,rfl,_,_,_⟩:=Zao ho;have HO:=hid (Zba ho);have Qa:=hid hb1;clear ho hb1;go_wp2_with fail
  refine(HU.out w1 _ HO.out).mono ?_;rintro e w2 ⟨u2,rfl,ho2,hb2⟩;have Yk:=hid (Zdy ho2 (by have:=Y8.out;have:=Qa.out.size;omega:B≤w1.heap.size));have Qb:=hid (Zac Qa.out hb2);clear ho2 hb2;go_wp2_with fail
  go_ret2
  exact⟨_,rfl,Yk.out,by rw[← Y8.out];exact Qb.out⟩
 ·have eok:Zbx wd k p xs=false:=by unfold Zbx;rw[decide_eq_false hg,Bool.false_and]
  have eV:Zbm wd k p xs=[]:=by unfold Zbm;rw[eok];simp
  rw[eok,eV];obtain⟨A,ca,rfl,hlc,hcm,hA⟩:=hx.form;clear hx hA eok eV;go_enter Tryz.func206,Tryz.ntmps206;by_cases h1:p≤xs.length
  ·have hp1:¬ (p:Int) > (xs.length:Int):=by omega
   have hne:¬ (xs.length-p)%8=0:=fun h=>hg ⟨h1,h⟩
   have hmod2:(((xs.length:Int)-(p:Int))%8 != 0)=true:=by rw[bne_iff_ne];omega
   go_wp2;go_ret2
   exact⟨_,rfl,World.ownsRow_nil _ _ _ _,Zab w⟩
  ·have hp1:(p:Int) > (xs.length:Int):=by omega
   go_wp2;go_ret2
   exact⟨_,rfl,World.ownsRow_nil _ _ _ _,Zab w⟩
def Zbo (wd:Int) (k:Nat) (xs:List Nat) (s:Bool):Out_I :=
 if wd≠0∨Za1 (nI (numL 4 (tk (4*L.wordOf 8 (tk 4 xs)) (tkL 4 xs)))) k=false then
  { b:=false,left:=tkL (4*L.wordOf 8 (tk 4 xs)) (tkL 4 xs),short:=tkS (4*L.wordOf 8 (tk 4 xs)) (tkL 4 xs) (tkS 4 xs s),list:=[],ends:=numL 4 (tk (4*L.wordOf 8 (tk 4 xs)) (tkL 4 xs)),lanes:=[] }
 else match rdI (L.wordOf 8 (tk 4 xs)) (tkL (4*L.wordOf 8 (tk 4 xs)) (tkL 4 xs)) (tkS (4*L.wordOf 8 (tk 4 xs)) (tkL 4 xs) (tkS 4 xs s))with
  | (vals,ok,xl,s3)=>{ b:=ok&&Zbd eqI vals,left:=xl,short:=s3,list:=vals,ends:=numL 4 (tk (4*L.wordOf 8 (tk 4 xs)) (tkL 4 xs)),lanes:=[] }
set_option maxHeartbeats 8000000 in
theorem Zwi (w0 w:World) (g gr:Nat) (xs:List Nat) (s:Bool) (rows codec wd:Int) (k:Nat) (nulls bef:Value) (base:Int)
  (hc:Row w g 207 (ck_I rows codec wd nulls k nilS nilS base nilS Zbg bef)) (hr:Zaq w0 w gr xs s) (hne:g≠gr) (hg0:w0.heap.size≤g) (hgs:gr<w.heap.size)
  (hv:∀ x∈xs,x<256) (hl:xs.length≤16777216) (hk:k≤65536) :
  Calls Tryz.prog 200 #[.pointer (some ⟨g,0,none⟩),.pointer (some ⟨gr,0,none⟩)] w fun e w' =>
   e=.returned (.bool (Zbo wd k xs s).b)∧OutAt_I w0 w w' w.heap.size g gr rows codec wd k nulls Zbg bef base (Zbo wd k xs s):=by
 have hU:=Zff w0 w gr xs s hr hv hl;have hd32:L.wordOf 8 (tk 4 xs)<4294967296:=Zb0 _ (Zdh hv) (Zit 4 xs);obtain⟨O,hO⟩:∃ O,Zbo wd k xs s=O:=⟨_,rfl⟩;have HO:=hid hO;unfold Zbo at HO;rw[hO];clear hO;obtain⟨d,hd⟩:∃ d,L.wordOf 8 (tk 4 xs)=d:=⟨_,rfl⟩;obtain⟨xs1,hx1⟩:∃ xs1,tkL 4 xs=xs1:=⟨_,rfl⟩;obtain⟨s1,hs1⟩:∃ s1,tkS 4 xs s=s1:=⟨_,rfl⟩;have hxl1:xs1.length≤16777216:=by rw[← hx1];exact Nat.le_trans (Zbn _ _) hl
 have hxv1:∀ x∈xs1,x<256:=by rw[← hx1];exact Zau hv
 rw[hd,hx1,hs1]at hU HO;rw[hd]at hd32;obtain⟨es,hes⟩:∃ es,numL 4 (tk (4*d) xs1)=es:=⟨_,rfl⟩;obtain⟨xs2,hx2⟩:∃ xs2,tkL (4*d) xs1=xs2:=⟨_,rfl⟩;obtain⟨s2,hs2⟩:∃ s2,tkS (4*d) xs1 s1=s2:=⟨_,rfl⟩;have hxl2:xs2.length≤16777216:=by rw[← hx2];exact Nat.le_trans (Zbn _ _) hxl1
 have hxv2:∀ x∈xs2,x<256:=by rw[← hx2];exact Zau hxv1
 have hel:es.length≤16777216:=by
  rw[← hes,Zan];unfold tk;split
  ·rw[List.length_take];omega
  ·simp
 rw[hes,hx2,hs2]at HO;have Xs:=hid (fun(w2:World) (h2:Zaq w0 w2 gr xs1 s1) (hg2:gr<w2.heap.size)=>Zo6 w0 w2 gr xs1 s1 d h2 hg2 hxv1 hxl1 (by omega));rw[hes,hx2,hs2]at Xs;have HU:=hid hU;have HC:=hid hc;have hgw:g<w.heap.size:=hc.lt;clear hU hc hr hd hx1 hs1 hes hx2 hs2 hv hl;obtain⟨B,hB⟩:∃ B,w.heap.size=B:=⟨_,rfl⟩;have HB:=hid hB;rw[hB];clear hB;have hm:=Zg6;have hgB:g<B:=by have:=HB.out;omega
 have hrB:gr<B:=by have:=HB.out;omega
 go_enter Tryz.func200,Tryz.ntmps200;go_upto_region 2 with (first | (go_at_call 81;refine HU.out.mono ?_;rintro e w1 ⟨rfl,ha1,hc1⟩;have JQ:=hid ha1;have QK:=hid (Chg.wide' (a:=g) hc1);have QM:=hid (hc1.row HC.out hne hne);clear ha1 hc1))
 have hgr1:gr<w1.heap.size:=Nat.lt_of_lt_of_le hgs QK.out.size;have hB1:B≤w1.heap.size:=by have:=HB.out;have:=QK.out.size;omega
 clear HU HC;go_wp2_with fail
 refine(Xs.out w1 JQ.out hgr1).mono ?_;rintro e w2 ⟨p,hp,rfl,hrow2,ha2,hc2⟩;have hpB:B≤p:=Nat.le_trans hB1 hp;have hpg:p≠g:=by omega
 have hpr:p≠gr:=by omega
 have Qp:=hid (hc2.row QM.out hne hne);have e6:w2.cell? ⟨g,0+6,none⟩=some nilS:=by rw[Qp.out.cell];rfl
 have f6:=Qp.out.frozen (0+6);have hch:=(Chg.refl g g w2).setCell g 6 (.slice (some ⟨p,0,none⟩) es.length es.length) (.inl rfl);have Qn:Hid (Row (w2.setCell ⟨g,6,none⟩ (.slice (some ⟨p,0,none⟩) es.length es.length)) g 207 (ck_I rows codec wd nulls k nilS (.slice (some ⟨p,0,none⟩) es.length es.length) base nilS Zbg bef)):=hid (Qp.out.set 6 _);have Qd:=hid (hch.row hrow2 hpg hpg);have Yx:=hid (ha2.chg hch (Ne.symm hne) (Ne.symm hne) hg0 hg0);have QT:=hid ((QK.out.trans (Chg.wide' (a:=g) hc2)).setCell g 6 (.slice (some ⟨p,0,none⟩) es.length es.length) (.inl rfl));have hgr3:gr<(w2.setCell ⟨g,6,none⟩ (.slice (some ⟨p,0,none⟩) es.length es.length)).heap.size:=Nat.lt_of_lt_of_le hgs QT.out.size;have hB3:B≤(w2.setCell ⟨g,6,none⟩ (.slice (some ⟨p,0,none⟩) es.length es.length)).heap.size:=Nat.le_trans hB1 (Nat.le_trans hc2.size hch.size);clear hrow2 ha2 hc2 JQ QK QM Qp hch hgr1 hB1 Xs hp;go_upto_region 3 with fail
 clear e6 f6;generalize w2.setCell ⟨g,6,none⟩ (.slice (some ⟨p,0,none⟩) es.length es.length)=w3 at *;have JR:=hid (Qd.out.owns (B:=B) (n:=es.length) hpB (by simp[i64s,nI]) (by unfold maxLen;omega));have Qc:Hid (∀ n,OutAt_I w0 w (w3.drewN n) B g gr rows codec wd k nulls Zbg bef base { b:=false,left:=xs2,short:=s2,list:=[],ends:=es,lanes:=[] }):=hid (fun n =>
  ⟨⟨_,_,_,Qn.out.drewN n,World.ownsRow_nil _ _ _ _,Zbs JR.out (Zaf (Zab w3) n),World.ownsRow_nil _ _ _ _⟩,Yx.out.mono (Zaf (Zab w3) n),QT.out.drewN n⟩)
 have e2:w3.cell? ⟨g,2,none⟩=some (.int .i64 wd):=by rw[Qn.out.cell];rfl
 have e4:w3.cell? ⟨g,4,none⟩=some (.int .i64 k):=by rw[Qn.out.cell];rfl
 have e6:w3.cell? ⟨g,6,none⟩=some (.slice (some ⟨p,0,none⟩) es.length es.length):=by rw[Qn.out.cell];rfl
 have Yr:=hid (fun nd:Nat=>Zie (.slice (some ⟨p,0,none⟩) es.length es.length) (nI es) k (w3.drewN nd) (by rw[Zas];exact((Qd.out.drewN nd).rd' (n:=es.length) (by simp[i64s,nI]) (by unfold maxLen;omega))) (by rw[Zas];unfold maxLen;omega));obtain⟨re,hre⟩:∃ re,Za1 (nI es) k=re:=⟨_,rfl⟩;rw[hre]at Yr HO;clear hre;by_cases hw:wd=0
 case neg =>
  have hO:O={ b:=false,left:=xs2,short:=s2,list:=[],ends:=es,lanes:=[] }:=by rw[← HO.out,if_pos (.inl hw)]
  subst hO;have hw1:(wd != 0)=true:=by rw[bne_iff_ne];exact hw
  go_wp2_with fail
  go_quiet (fail)
  go_wp2_with fail
  go_ret;exact⟨rfl,Qc.out _⟩
 case pos =>
  have hw1:(wd != 0)=false:=by rw[hw];rfl
  cases re
  case false =>
   have hO:O={ b:=false,left:=xs2,short:=s2,list:=[],ends:=es,lanes:=[] }:=by rw[← HO.out,if_pos (.inr rfl)]
   subst hO;clear hw;go_wp2_with fail
   go_quiet (first | (go_at_call 228;refine Calls.quiet_of_same (Yr.out _)))
   go_wp2_with fail
   go_ret;exact⟨rfl,Qc.out _⟩
  case true =>
   have hO2:=HO.out;rw[if_neg (fun h=>h.elim (fun h=>h hw) (fun h=>by cases h))]at hO2;obtain⟨vals,ok,xl,s4,hR⟩:∃ vals ok xl s4,rdI d xs2 s2=(vals,ok,xl,s4):=⟨_,_,_,_,rfl⟩;rw[hR]at hO2;simp only at hO2;have hvl:vals.length≤16777216:=by have:=Zjw d xs2 s2 hxl2;rw[hR]at this;exact this
   have Yk:=hid hO2;have Yc:=hid (fun(w2:World) (h:Zaq w0 w2 gr xs2 s2) (h2:gr<w2.heap.size)=>Zgp w0 w2 gr xs2 s2 d h h2 hxv2 hxl2 (by omega));rw[hR]at Yc;clear hO2 hR hw HO Qc;go_wp2_with fail
   go_quiet (first | (go_at_call 228;refine Calls.quiet_of_same (Yr.out _)))
   have Zd:=hid (Yx.out.mono (Zaf (Zab w3) nq));have Yn:=hid (QT.out.drewN nq);have Yy:=hid (Qn.out.drewN nq);have Uw:=hid (Zbs JR.out (Zaf (Zab w3) nq));have hgr4:gr<(w3.drewN nq).heap.size:=hgr3;have hB4:B≤(w3.drewN nq).heap.size:=hB3;clear Yx QT Qn JR Qd e2 e4 e6 Yr hgr3 hB3;generalize w3.drewN nq=w4 at *;have d9:w4.cell? ⟨g,0+9,none⟩=some (.iface 159 (.agg #[])):=by rw[Yy.out.cell];rfl
   go_wp2_with fail
   refine(Yc.out w4 Zd.out hgr4).mono ?_;rintro e w5 ⟨v3,rfl,ho3,ha3,hc3⟩;obtain⟨A3,c3,rfl,hcc3,_,_,_⟩:=Zao ho3;have YF:=hid (Zdy ho3 hB4);have V0:=hid ha3;have JS:=hid (Yn.out.trans (Chg.wide' (a:=g) hc3));have YM:=hid (hc3.row Yy.out hne hne);have Ux:=hid (Zb5 Uw.out hc3 hrB hrB);have e5:w5.cell? ⟨g,0+5,none⟩=some nilS:=by rw[YM.out.cell];rfl
   have f5:=YM.out.frozen (0+5);have hch6:=(Chg.refl g g w5).setCell g 5 (.slice A3 vals.length c3) (.inl rfl);have Xt:Hid (Row (w5.setCell ⟨g,5,none⟩ (.slice A3 vals.length c3)) g 207 (ck_I rows codec wd nulls k (.slice A3 vals.length c3) (.slice (some ⟨p,0,none⟩) es.length es.length) base nilS Zbg bef)):=hid (YM.out.set 5 _);have ZN:=hid (Zb5 YF.out hch6 hgB hgB);have Xu:=hid (Zb5 Ux.out hch6 hgB hgB);have Uv:=hid (V0.out.chg hch6 (Ne.symm hne) (Ne.symm hne) hg0 hg0);have Vz:=hid (JS.out.setCell g 5 (.slice A3 vals.length c3) (.inl rfl));clear ho3 ha3 hc3 hcc3 Zd Yn Yy Uw d9 Yc YF V0 JS YM Ux hch6 hm hgr4 hB4;go_upto_region 7 with fail
   clear e5 f5;generalize w5.setCell ⟨g,5,none⟩ (.slice A3 vals.length c3)=w6 at *;have HDF:=hid (Ztw _ vals w6 (Zba ZN.out) (by unfold maxLen;omega));have ZO:=hid (fun(n:Nat) (b:Bool)=>(⟨⟨_,_,_,Xt.out.drewN n,Zbs ZN.out (Zaf (Zab w6) n),Zbs Xu.out (Zaf (Zab w6) n),World.ownsRow_nil _ _ _ _⟩,Uv.out.mono (Zaf (Zab w6) n),Vz.out.drewN n⟩:OutAt_I w0 w (w6.drewN n) B g gr rows codec wd k nulls Zbg bef base { b:=b,left:=xl,short:=s4,list:=vals,ends:=es,lanes:=[] }));obtain⟨df,hdf⟩:∃ df,Zbd eqI vals=df:=⟨_,rfl⟩;rw[hdf]at HDF Yk;clear hdf;have hO:=Yk.out;subst hO;clear Yk;cases ok
   case' false =>
    go_wp2_with fail
    go_ret;exact⟨rfl,ZO.out 0 _⟩
   case' true =>
    go_wp2_with (go_at_call 235;refine HDF.out.mono ?_;rintro e w7 ⟨rfl,n7,rfl⟩)
    go_ret;exact⟨rfl,ZO.out _ _⟩
def Zfl (base:Int):Nat:=(9223372036854775807-base).toNat
def Zdr (wd base:Int) (k:Nat) (xs:List Nat) (s:Bool):Out_I :=
 { b:=Zck wd k 5 (Za7 xs) (Zfl base),left:=tkL (8*(xs.length/8)) xs,short:=tkS (8*(xs.length/8)) xs s,list:=[],ends:=[],lanes:=Za7 xs }
theorem Zt8 (b:Int) (h1 : -9223372036854775808≤b) (h2:b≤9223372036854775807):IntKind.u64.wrap (9223372036854775807-IntKind.u64.wrap b)=((Zfl b:Nat):Int):=by
 unfold Zfl;rw[IntKind.wrap_u64,IntKind.wrap_u64];omega
theorem Zjp (x:Nat) : -9223372036854775808≤Zcf x∧Zcf x≤9223372036854775807:=by unfold Zcf wrap64;omega
set_option maxHeartbeats 4000000 in
theorem Zhq (w0 w:World) (g gr:Nat) (xs:List Nat) (s:Bool) (rows codec wd:Int) (k:Nat) (nulls bef:Value) (base:Int) (hT:Tab w0)
  (hc:Row w g 207 (ck_I rows codec wd nulls k nilS nilS base nilS Zbg bef)) (hr:Zaq w0 w gr xs s) (hne:g≠gr) (hg0:w0.heap.size≤g) (hgs:gr<w.heap.size)
  (hv:∀ x∈xs,x<256) (hl:xs.length≤16777216) (hb1 : -9223372036854775808≤base) (hb2:base≤9223372036854775807) :
  Calls Tryz.prog 201 #[.pointer (some ⟨g,0,none⟩),.pointer (some ⟨gr,0,none⟩)] w fun e w' =>
   e=.returned (.bool (Zdr wd base k xs s).b)∧OutAt_I w0 w w' w.heap.size g gr rows codec wd k nulls Zbg bef base (Zdr wd base k xs s):=by
 have hroom:=Zt8 base hb1 hb2;have hrl:Zfl base<18446744073709551616:=by unfold Zfl;omega
 have QP:=hid (Zlr w0 w g gr xs s rows codec wd k nulls nilS nilS nilS Zbg bef base 5 (Zfl base) hT hc hr hne hg0 hgs hv hl hrl);have e7:w.cell? ⟨g,0+7,none⟩=some (.int .i64 base):=by rw[hc.cell];rfl
 unfold Zdr;generalize Zfl base=rm at *;generalize Zck wd k 5 (Za7 xs) rm=lb at *;clear hc hr hv hT;go_enter Tryz.func201,Tryz.ntmps201;go_wp2_with fail
 refine QP.out.mono ?_;rintro e w1 ⟨rfl,v,h1,h2,h3,h4⟩;have H1:=hid h1;have H2:=hid h2;have H3:=hid h3;have H4:=hid h4;clear h1 h2 h3 h4;go_wp2_with fail
 go_ret;exact⟨rfl,⟨_,_,_,H1.out,World.ownsRow_nil _ _ _ _,World.ownsRow_nil _ _ _ _,H2.out⟩,H3.out,H4.out⟩
def Zde (codec:Nat) (xs:List Nat):Int:=if codec=4 then Zcf (L.wordOf 8 (tk 8 xs))else 0
def Zbf (codec:Nat) (wd:Int) (k:Nat) (xs:List Nat) (s:Bool):Out_I :=
 if codec=1 then Zbt wd k xs s else if codec=2 then Zbu wd k xs s else if codec=3 then Zbo wd k xs s
 else if codec=4 then Zdr wd (Zde 4 xs) k (tkL 8 xs) (tkS 8 xs s)else Zdr wd 0 k xs s
set_option maxHeartbeats 8000000 in
theorem Zpt (w0 w:World) (g gr:Nat) (xs:List Nat) (s:Bool) (rows wd:Int) (codec k:Nat) (nulls bef:Value) (hT:Tab w0)
  (hc:Row w g 207 (ck_I rows codec wd nulls k nilS nilS 0 nilS Zbg bef)) (hr:Zaq w0 w gr xs s) (hne:g≠gr) (hg0:w0.heap.size≤g) (hgs:gr<w.heap.size)
  (hv:∀ x∈xs,x<256) (hl:xs.length≤16777216) (hk:k≤65536) (hcd:1≤codec∧codec≤5) :
  Calls Tryz.prog 161 #[.pointer (some ⟨g,0,none⟩),.pointer (some ⟨gr,0,none⟩)] w fun e w' =>
   e=.returned (.bool (Zbf codec wd k xs s).b)∧OutAt_I w0 w w' w.heap.size g gr rows codec wd k nulls Zbg bef (Zde codec xs) (Zbf codec wd k xs s):=by
 have c1:w.cell? ⟨g,0+1,none⟩=some (.int .i64 codec):=by rw[hc.cell];rfl
 obtain⟨O,hO⟩:∃ O,Zbf codec wd k xs s=O:=⟨_,rfl⟩;obtain⟨bs,hbs⟩:∃ bs,Zde codec xs=bs:=⟨_,rfl⟩;rw[hO,hbs];have HO:=hid hO;have YA:=hid hbs;have HC:=hid hc;clear hO hbs;by_cases h1:codec=1
 ·subst h1;obtain rfl:Zbt wd k xs s=O:=by rw[← HO.out];rfl
  obtain rfl:(0:Int)=bs:=by rw[← YA.out];rfl
  have HP:=hid (Zsq w0 w g gr xs s rows _ wd k nulls bef 0 hc hr hne hg0 hgs hv hl hk);generalize Zbt wd k xs s=O at *;clear hc hr hv hT;go_enter Tryz.func161,Tryz.ntmps161;go_wp2_with (go_at_call 198;refine HP.out.mono ?_;rintro e w1 ⟨rfl,h⟩;have H:=hid h;clear h)
  go_ret;exact⟨rfl,H.out⟩
 by_cases h2:codec=2
 ·subst h2;obtain rfl:Zbu wd k xs s=O:=by rw[← HO.out];rfl
  obtain rfl:(0:Int)=bs:=by rw[← YA.out];rfl
  have HP:=hid (Zvs w0 w g gr xs s rows _ wd k nulls bef 0 hT hc hr hne hg0 hgs hv hl hk);generalize Zbu wd k xs s=O at *;clear hc hr hv hT;go_enter Tryz.func161,Tryz.ntmps161;go_wp2_with (go_at_call 199;refine HP.out.mono ?_;rintro e w1 ⟨rfl,h⟩;have H:=hid h;clear h)
  go_ret;exact⟨rfl,H.out⟩
 by_cases h3:codec=3
 ·subst h3;obtain rfl:Zbo wd k xs s=O:=by rw[← HO.out];rfl
  obtain rfl:(0:Int)=bs:=by rw[← YA.out];rfl
  have HP:=hid (Zwi w0 w g gr xs s rows _ wd k nulls bef 0 hc hr hne hg0 hgs hv hl hk);generalize Zbo wd k xs s=O at *;clear hc hr hv hT;go_enter Tryz.func161,Tryz.ntmps161;go_wp2_with (go_at_call 200;refine HP.out.mono ?_;rintro e w1 ⟨rfl,h⟩;have H:=hid h;clear h)
  go_ret;exact⟨rfl,H.out⟩
 by_cases h4:codec=4
 ·subst h4;obtain rfl:Zdr wd (Zde 4 xs) k (tkL 8 xs) (tkS 8 xs s)=O:=by rw[← HO.out];rfl
  obtain rfl:Zde 4 xs=bs:=YA.out;obtain⟨xs1,hx1⟩:∃ xs1,tkL 8 xs=xs1:=⟨_,rfl⟩;obtain⟨s1,hs1⟩:∃ s1,tkS 8 xs s=s1:=⟨_,rfl⟩;have hxl1:xs1.length≤16777216:=by rw[← hx1];exact Nat.le_trans (Zbn _ _) hl
  have hxv1:∀ x∈xs1,x<256:=by rw[← hx1];exact Zau hv
  obtain⟨x,hx⟩:∃ x,L.wordOf 8 (tk 8 xs)=x:=⟨_,rfl⟩;have hx64:x<18446744073709551616:=by rw[← hx];exact Zgc _ (Zdh hv) (Zit 8 xs)
  have hbp:Zde 4 xs=Zcf x:=by unfold Zde;rw[if_pos rfl,hx]
  have hU:=Zx6 w0 w gr xs s hr hv hl;rw[hx,hx1,hs1]at hU;rw[hx1,hs1,hbp];have HU:=hid hU;have HT:=hid hT;have c7:w.cell? ⟨g,0+7,none⟩=some (.int .i64 0):=by rw[hc.cell];rfl
  have hgw:g<w.heap.size:=hc.lt;have HOFF:=hid (fun(w2:World) (h1:Row w2 g 207 (ck_I rows (4:Nat) wd nulls k nilS nilS (Zcf x) nilS Zbg bef)) (h2:Zaq w0 w2 gr xs1 s1) (h3:gr<w2.heap.size) =>
   Zhq w0 w2 g gr xs1 s1 rows (4:Nat) wd k nulls bef (Zcf x) hT h1 h2 hne hg0 h3 hxv1 hxl1 (Zjp x).1 (Zjp x).2)
  obtain⟨B,hB⟩:∃ B,w.heap.size=B:=⟨_,rfl⟩;have HB:=hid hB;rw[hB];generalize Zdr wd (Zcf x) k xs1 s1=O at *;clear hc hr hv hT hU hx1 hs1 hx hbp HO YA hB hxv1;go_enter Tryz.func161,Tryz.ntmps161;go_wp2_with fail
  refine HU.out.mono ?_;rintro e w1 ⟨rfl,h1,h2⟩;have QM:=hid (h2.row HC.out hne hne);have d7:w1.cell? ⟨g,0+7,none⟩=some (.int .i64 0):=by rw[QM.out.cell];rfl
  have f7:=QM.out.frozen (0+7);have hch:=(Chg.refl g g w1).setCell g 7 (.int .i64 (Zcf x)) (.inl rfl);have Qp:Hid (Row (w1.setCell ⟨g,7,none⟩ (.int .i64 (Zcf x))) g 207 (ck_I rows (4:Nat) wd nulls k nilS nilS (Zcf x) nilS Zbg bef)):=hid (QM.out.set 7 _);have Uu:=hid (h1.chg hch (Ne.symm hne) (Ne.symm hne) hg0 hg0);have Zq:=hid ((Chg.wide' (a:=g) h2).setCell g 7 (.int .i64 (Zcf x)) (.inl rfl));have hgr2:gr<(w1.setCell ⟨g,7,none⟩ (.int .i64 (Zcf x))).heap.size:=Nat.lt_of_lt_of_le hgs Zq.out.size;have hB2:B≤(w1.setCell ⟨g,7,none⟩ (.int .i64 (Zcf x))).heap.size:=by have:=HB.out;have:=Zq.out.size;omega
  have esg:wrap64 (x:Int)=Zcf x:=rfl;clear h1 h2 hch HC QM c7 HU;go_wp2_with fail
  rw[esg];clear d7 f7 esg;generalize w1.setCell ⟨g,7,none⟩ (.int .i64 (Zcf x))=w2 at *;refine(HOFF.out w2 Qp.out Uu.out hgr2).mono ?_;rintro e w3 ⟨rfl,h⟩;have H:=hid h;clear h;go_wp2_with fail
  go_ret;obtain⟨⟨lv,ev,nv,h1,h2,h3,h4⟩,h5,h6⟩:=H.out;exact⟨rfl,⟨lv,ev,nv,h1,Zdy h2 hB2,Zdy h3 hB2,Zdy h4 hB2⟩,h5,Zq.out.trans h6⟩
 ·obtain rfl:codec=5:=by omega
  obtain rfl:Zdr wd 0 k xs s=O:=by rw[← HO.out];rfl
  obtain rfl:(0:Int)=bs:=by rw[← YA.out];rfl
  have HP:=hid (Zhq w0 w g gr xs s rows _ wd k nulls bef 0 hT hc hr hne hg0 hgs hv hl (by omega) (by omega));generalize Zdr wd 0 k xs s=O at *;clear hc hr hv hT;go_enter Tryz.func161,Tryz.ntmps161;go_wp2_with (go_at_call 201;refine HP.out.mono ?_;rintro e w1 ⟨rfl,h⟩;have H:=hid h;clear h)
  go_ret;exact⟨rfl,H.out⟩
end Go.Proofs.YtmcjknjlihgihaaGreatDoor
