/- The plain answer: zoneRecord. -/
import Derived.Test.YtmcjknjlihgihaaGreatDoorLawparseuptoM23
set_option linter.unusedVariables false
set_option linter.unusedSimpArgs false
set_option linter.unnecessarySimpa false
set_option maxRecDepth 100000
namespace Go.Proofs.YtmcjknjlihgihaaGreatDoor
open Go.RowKit
set_option maxHeartbeats 8000000 in
theorem Zpz (k rows:Int) (z:ZM) (B:Option Addr) (bc:Nat) (w:World):Calls Tryz.prog 135 #[z.v (.slice B z.bl.length bc),.int .i64 k,.int .i64 rows] w fun e w'=>e=.returned (.bool (zOk k rows z))∧Below w.heap.size w w':=by
 have Jf:=hid (fun w2:World=>Zfu z.mn k w2);have Zc:=hid (fun w2:World=>Zfu z.mx k w2);obtain⟨bn,hbn⟩:∃ bn,z.bl.length=bn:=⟨_,rfl⟩;obtain⟨R,hR⟩:∃ R,zOk k rows z=R:=⟨_,rfl⟩;rw[hR,hbn];unfold zOk rgOk filZ Zet at hR;rw[hbn]at hR;clear hbn;obtain⟨v1,hv1⟩:∃ v1,Zdw k z.mn=v1:=⟨_,rfl⟩;obtain⟨v2,hv2⟩:∃ v2,Zdw k z.mx=v2:=⟨_,rfl⟩;rw[hv1,hv2]at hR;rw[hv1]at Jf;rw[hv2]at Zc;clear hv1 hv2;have HR:=hid hR;clear hR;obtain⟨rg,nu,⟨mnn,mni,mns⟩,⟨mxn,mxi,mxs⟩,hs,bl⟩:=z;unfold ZM.v;unfold C3.v at Jf Zc;simp only at HR Jf Zc ⊢;have Qh:=hid ((Zab w).alloc (Nat.le_refl _) (.cells #[.bool rg,.int .i64 nu,.bool mnn,.int .i64 mni,.string mns,.bool mxn,.int .i64 mxi,.string mxs,.int .i64 hs,.slice B bn bc] 39));have Qg:Hid (Row (w.alloc (.cells #[.bool rg,.int .i64 nu,.bool mnn,.int .i64 mni,.string mns,.bool mxn,.int .i64 mxi,.string mxs,.int .i64 hs,.slice B bn bc] 39)) w.heap.size 39 [.bool rg,.int .i64 nu,.bool mnn,.int .i64 mni,.string mns,.bool mxn,.int .i64 mxi,.string mxs,.int .i64 hs,.slice B bn bc]):=hid (by unfold Row;rw[heap_alloc_new]);go_enter Tryz.func135,Tryz.ntmps135;go_upto_region 1 with fail
 generalize w.alloc (.cells #[.bool rg,.int .i64 nu,.bool mnn,.int .i64 mni,.string mns,.bool mxn,.int .i64 mxi,.string mxs,.int .i64 hs,.slice B bn bc] 39)=w0 at *;obtain⟨a0,a1,a2,a3,a4,a5,a6,a7,a8,a9⟩:=Za6 Qg.out;obtain⟨q1,hq1⟩:∃ q1,decide (bn=0∧hs≠0)=q1:=⟨_,rfl⟩;have Zf:=hid hq1;clear hq1;go_cut [16]from 8 to 15 (fun s16 wc=>s16=.bool q1∧wc=w0)
 case first =>
  by_cases h0:bn=0
  ·subst h0;by_cases h1:hs=0
   ·obtain rfl:q1=false:=by rw[← Zf.out];simp[h1]
    subst h1;go_wp2_with fail
    go_meet;exact⟨rfl,rfl⟩
   ·obtain rfl:q1=true:=by rw[← Zf.out];simp[h1]
    have h1b:(hs != 0)=true:=by simp[h1]
    go_wp2_with fail
    go_meet;exact⟨rfl,rfl⟩
  ·obtain rfl:q1=false:=by rw[← Zf.out];simp[h0]
   have h0b:((bn:Int)==0)=false:=by simp;omega
   go_wp2_with fail
   go_meet;exact⟨rfl,rfl⟩
 case rest =>
 obtain⟨rfl,hw⟩:=hcut;replace hw:=hw.symm;subst hw;cases q1;rotate_left
 ·have h:=of_decide_eq_true Zf.out;go_wp2_with fail
  go_ret;exact⟨Zae (by rw[← HR.out,decide_eq_false (show ¬ (bn=0∧hs=0)from fun h2=>h.2 h2.2),decide_eq_false (show ¬ (1≤(bn:Int)∧(bn:Int)≤64∧1≤hs∧hs≤8) by omega)];simp),Qh.out⟩
 have h1:=of_decide_eq_false Zf.out;have Ur:=hid h1;clear h1 Zf;go_upto_region 3 with fail
 obtain⟨q3,hq3⟩:∃ q3,decide (0<bn∧(64<bn∨hs<1∨8<hs))=q3:=⟨_,rfl⟩;have Yt:=hid hq3;clear hq3;go_cut [36]from 17 to 35 (fun s36 wc=>s36=.bool q3∧wc=w0)
 case first =>
  by_cases h0:bn=0
  ·subst h0;obtain rfl:q3=false:=by rw[← Yt.out];simp
   go_wp2_with fail
   go_meet;exact⟨rfl,rfl⟩
  ·have h0b:(bn:Int) > 0:=by omega
   by_cases h2:(bn:Int) > 64
   ·obtain rfl:q3=true:=by rw[← Yt.out];exact decide_eq_true (by omega)
    go_wp2_with fail
    go_meet;exact⟨rfl,rfl⟩
   ·by_cases h3:hs<1
    ·obtain rfl:q3=true:=by rw[← Yt.out];exact decide_eq_true (by omega)
     go_wp2_with fail
     go_meet;exact⟨rfl,rfl⟩
    ·by_cases h4:hs > 8
     ·obtain rfl:q3=true:=by rw[← Yt.out];exact decide_eq_true (by omega)
      go_wp2_with fail
      go_meet;exact⟨rfl,rfl⟩
     ·obtain rfl:q3=false:=by rw[← Yt.out];exact decide_eq_false (by omega)
      go_wp2_with fail
      go_meet;exact⟨rfl,rfl⟩
 case rest =>
 obtain⟨rfl,hw⟩:=hcut;replace hw:=hw.symm;subst hw;cases q3;rotate_left
 ·have h:=of_decide_eq_true Yt.out;go_wp2_with fail
  go_ret;exact⟨Zae (by rw[← HR.out,decide_eq_false (show ¬ (bn=0∧hs=0) by omega),decide_eq_false (show ¬ (1≤(bn:Int)∧(bn:Int)≤64∧1≤hs∧hs≤8) by omega)];simp),Qh.out⟩
 have h3:=of_decide_eq_false Yt.out;have hfil:(decide (bn=0∧hs=0)||decide (1≤(bn:Int)∧(bn:Int)≤64∧1≤hs∧hs≤8))=true:=by
  have:=Ur.out;by_cases h0:bn=0
  ·rw[decide_eq_true (show bn=0∧hs=0 by omega)];rfl
  ·rw[decide_eq_true (show 1≤(bn:Int)∧(bn:Int)≤64∧1≤hs∧hs≤8 by omega)];simp
 rw[hfil,Bool.and_true]at HR;clear hfil h3 Yt Ur;have Qa:=hid (Qh.out.alloc Qh.out.size (.cells #[.bool false,.int .i64 0,.string ⟨#[]⟩] 36));have Q5:Hid (Row (w0.alloc (.cells #[.bool false,.int .i64 0,.string ⟨#[]⟩] 36)) w0.heap.size 36 [.bool false,.int .i64 0,.string ⟨#[]⟩]):=hid (by unfold Row;rw[heap_alloc_new]);have QD:=hid (Qg.out.mono ((Zab w0).alloc (Nat.le_refl _) (.cells #[.bool false,.int .i64 0,.string ⟨#[]⟩] 36)));go_upto_region 5 with fail
 cases rg
 ·rw[if_neg (by decide)]at HR;go_upto_region 7 with fail
  clear a0 a1 a2 a3 a4 a5 a6 a7 a8 a9;generalize w0.alloc (.cells #[.bool false,.int .i64 0,.string ⟨#[]⟩] 36)=w1 at *;obtain⟨a0,a1,a2,a3,a4,a5,a6,a7,a8,a9⟩:=Za6 QD.out;obtain⟨n0,n1,n2⟩:=cell3 Q5.out;by_cases hn:nu=0
  ·subst hn;rw[decide_eq_true rfl,Bool.true_and]at HR;cases mnn
   ·by_cases h1:mni=0
    ·subst h1;by_cases h2:mns.toList=[]
     ·cases mxn
      ·by_cases h3:mxi=0
       ·subst h3;by_cases h4:mxs.toList=[]
        ·go_wp2_with fail
         go_ret;exact⟨Zae (by rw[← HR.out];simp[isDf, *]),Qa.out⟩
        ·go_wp2_with fail
         go_ret;exact⟨Zae (by rw[← HR.out];simp[isDf, *]),Qa.out⟩
       ·go_wp2_with fail
        go_ret;exact⟨Zae (by rw[← HR.out];simp[isDf, *]),Qa.out⟩
      ·go_wp2_with fail
       go_ret;exact⟨Zae (by rw[← HR.out];simp[isDf, *]),Qa.out⟩
     ·go_wp2_with fail
      go_ret;exact⟨Zae (by rw[← HR.out];simp[isDf, *]),Qa.out⟩
    ·go_wp2_with fail
     go_ret;exact⟨Zae (by rw[← HR.out];simp[isDf, *]),Qa.out⟩
   ·go_wp2_with fail
    go_ret;exact⟨Zae (by rw[← HR.out];simp[isDf, *]),Qa.out⟩
  ·rw[decide_eq_false hn,Bool.false_and]at HR;have hnb:(nu==0)=false:=by simp[hn]
   cases mnn
   ·by_cases h1:mni=0
    ·subst h1;by_cases h2:mns.toList=[]
     ·cases mxn
      ·by_cases h3:mxi=0
       ·subst h3;by_cases h4:mxs.toList=[]
        ·go_wp2_with fail
         go_ret;exact⟨Zae (by rw[← HR.out]),Qa.out⟩
        ·go_wp2_with fail
         go_ret;exact⟨Zae (by rw[← HR.out]),Qa.out⟩
       ·go_wp2_with fail
        go_ret;exact⟨Zae (by rw[← HR.out]),Qa.out⟩
      ·go_wp2_with fail
       go_ret;exact⟨Zae (by rw[← HR.out]),Qa.out⟩
     ·go_wp2_with fail
      go_ret;exact⟨Zae (by rw[← HR.out]),Qa.out⟩
    ·go_wp2_with fail
     go_ret;exact⟨Zae (by rw[← HR.out]),Qa.out⟩
   ·go_wp2_with fail
    go_ret;exact⟨Zae (by rw[← HR.out]),Qa.out⟩
 ·rw[if_pos rfl]at HR;by_cases hn:nu=rows
  ·subst hn;rw[if_pos rfl]at HR;go_upto_region 7 with fail
   clear a0 a1 a2 a3 a4 a5 a6 a7 a8 a9;generalize w0.alloc (.cells #[.bool false,.int .i64 0,.string ⟨#[]⟩] 36)=w1 at *;obtain⟨a0,a1,a2,a3,a4,a5,a6,a7,a8,a9⟩:=Za6 QD.out;obtain⟨n0,n1,n2⟩:=cell3 Q5.out;cases mnn
   ·by_cases h1:mni=0
    ·subst h1;by_cases h2:mns.toList=[]
     ·cases mxn
      ·by_cases h3:mxi=0
       ·subst h3;by_cases h4:mxs.toList=[]
        ·go_wp2_with fail
         go_ret;exact⟨Zae (by rw[← HR.out];simp[isDf, *]),Qa.out⟩
        ·go_wp2_with fail
         go_ret;exact⟨Zae (by rw[← HR.out];simp[isDf, *]),Qa.out⟩
       ·go_wp2_with fail
        go_ret;exact⟨Zae (by rw[← HR.out];simp[isDf, *]),Qa.out⟩
      ·go_wp2_with fail
       go_ret;exact⟨Zae (by rw[← HR.out];simp[isDf, *]),Qa.out⟩
     ·go_wp2_with fail
      go_ret;exact⟨Zae (by rw[← HR.out];simp[isDf, *]),Qa.out⟩
    ·go_wp2_with fail
     go_ret;exact⟨Zae (by rw[← HR.out];simp[isDf, *]),Qa.out⟩
   ·go_wp2_with fail
    go_ret;exact⟨Zae (by rw[← HR.out];simp[isDf, *]),Qa.out⟩
  ·rw[if_neg hn]at HR;have hnb:(nu==rows)=false:=by simp[hn]
   by_cases h1:nu ≥ 0
   ·by_cases h2:nu<rows
    ·go_wp2_with (first
      | (go_at_call_of 167 (Value.agg #[.bool mnn,.int .i64 mni,.string mns]);refine(Jf.out _).mono ?_;rintro e w3 ⟨rfl,hb3⟩;have Qe:=hid hb3;have Qd:=hid (Qg.out.mono hb3);clear hb3;obtain⟨b0,b1,b2,b3,b4,b5,b6,b7,b8,b9⟩:=Za6 Qd.out)
      | (go_at_call 167;refine(Zc.out _).mono ?_;rintro e w4 ⟨rfl,hb4⟩;have Qz:=hid hb4;clear hb4))
     ·go_ret;exact⟨Zae (by rw[← HR.out,decide_eq_true (show 0≤nu∧nu<rows from ⟨h1,h2⟩)];simp[*]),Zac (Zac Qh.out Qe.out) Qz.out⟩
     ·go_ret;exact⟨Zae (by rw[← HR.out,decide_eq_true (show 0≤nu∧nu<rows from ⟨h1,h2⟩)];simp[*]),Zac Qh.out Qe.out⟩
    ·go_wp2_with fail
     go_ret;exact⟨Zae (by rw[← HR.out,decide_eq_false (show ¬ (0≤nu∧nu<rows) by omega)];rfl),Qh.out⟩
   ·go_wp2_with fail
    go_ret;exact⟨Zae (by rw[← HR.out,decide_eq_false (show ¬ (0≤nu∧nu<rows) by omega)];rfl),Qh.out⟩
set_option maxHeartbeats 4000000 in
theorem Zld (a b:Value) (xs ys:List Nat) (w:World) (ha:Rd w a xs.length 1 (u8s xs)) (hb:Rd w b ys.length 1 (u8s ys)) (hx:∀ x∈xs,x<256) (hy:∀ x∈ys,x<256) :
  Calls Tryz.prog 136 #[a,b] w fun e w'=>e=.returned (.bool (decide (xs=ys)))∧w'=w:=by
 have h1:=Zd9 ha;have h2:=Zd9 hb;obtain⟨q,hq⟩:∃ q,decide (xs=ys)=q:=⟨_,rfl⟩;have hcmp:((Zat xs).toList==(Zat ys).toList)=q:=by
  rw[← hq];by_cases e:xs=ys
  ·subst e;simp
  ·have:¬ (Zat xs).toList=(Zat ys).toList:=fun h=>e (Zip hx hy h)
   simp[e,this]
 rw[hq];obtain⟨A1,c1,rfl,_,_,_⟩:=ha.form;obtain⟨A2,c2,rfl,_,_,_⟩:=hb.form;clear ha hb hx hy hq;generalize xs.length=n at *;generalize ys.length=m at *;generalize Zat xs=sx at *;generalize Zat ys=sy at *;go_enter Tryz.func136,Tryz.ntmps136;go_wp2_with fail
 go_ret;exact⟨Zae (by simpa using hcmp),rfl⟩
theorem Zqb {ops:Array Oper} {o:Oper} {a:Act} {w:World} {K:Act→World→Prop} {Q:Exit→Act→World→Prop} {E:Prop} {v:Value} {B:Nat} {bs:List Nat} {x:ByteArray}
  (hgd:o.guard=none) (sl r:Operand) (ho:o.op=.call { callee:=.builtin .append,args:=#[sl,r],argTypes:=#[22,9] })
  (hs:a.eval sl=v) (hx:a.eval r=.string x) (hown:OwnB B w v bs) (hm:bs.length+x.size≤17592186044416) (hB:B≤w.heap.size)
  (hK:∀ v' w',OwnB B w' v' (bs++sbs x)→Below B w w'→w.heap.size≤w'.heap.size→Kp v w w' v'→K (a.put o.dst v') w'):if Region.wanted o (yielded ops a.tmps)=true then Oper.wp Tryz.prog o a w K Q else E:=by
 have hw:Region.wanted o (yielded ops a.tmps)=true:=by simp[Region.wanted,hgd]
 rw[if_pos hw];obtain⟨iu,hiu,hz0,hz1,hz2⟩:=info_parts Tryz.infoU8;have hlt:=World.ownsRow.lt hown;obtain⟨v',w',hr,h1,h2,hw⟩:=Zd2 (P:=Tryz.prog) w B 22 9 o.type 5 iu Tryz.underlying22 Tryz.underlying9 hiu hz0 hz1 hz2 v bs.length (u8s bs) hown x (by unfold maxLen;omega) (by omega) hB;unfold Oper.wp execOp;simp only[ho,resolve,invoke,builtin,Sem.run_bind,Sem.run_pure,Result.andThen_ok,List.map_toArray,List.map_cons,List.map_nil,hs,hx,hr];refine hK v' w' ?_ ((Below.refl B w).grown h2 (by omega) (fun k hk=>(hlt k hk).1)) h2.size ⟨h2.block,hw⟩;unfold OwnB;rw[List.length_append,Zcb,Zh6,← Zk2];exact h1
set_option maxHeartbeats 4000000 in
theorem Zku (B:Nat) (v:Value) (bs:List Nat) (k:Int) (c:C3) (w:World) (hk:Zax k=true) (hown:OwnB B w v bs) (hB:B≤w.heap.size) (hs:c.s.size≤16777216) (hl:bs.length≤1099511627776) :
  Calls Tryz.prog 76 #[v,c.v,.int .i64 k] w fun e w'=>Zp8 B v w w' e (bs++Zb3 k c):=by
 have hk12:k=1∨k=2:=by unfold Zax at hk;exact of_decide_eq_true hk
 obtain⟨cn,ci,cs⟩:=c;unfold C3.v Zb3;simp only at hs ⊢;have Qh:=hid ((Zab w).alloc (Nat.le_refl _) (.cells #[.bool cn,.int .i64 ci,.string cs] 36));have Qg:Hid (Row (w.alloc (.cells #[.bool cn,.int .i64 ci,.string cs] 36)) w.heap.size 36 [.bool cn,.int .i64 ci,.string cs]):=hid (by unfold Row;rw[heap_alloc_new]);have QI:Hid (OwnB B (w.alloc (.cells #[.bool cn,.int .i64 ci,.string cs] 36)) v bs):=hid (Zbs hown Qh.out);have QQ:Hid (B≤(w.alloc (.cells #[.bool cn,.int .i64 ci,.string cs] 36)).heap.size):=hid (Nat.le_trans hB Qh.out.size);have VC:Hid (Kp v w (w.alloc (.cells #[.bool cn,.int .i64 ci,.string cs] 36)) v):=hid (Kp.below Qh.out);have JW:=hid (fun k hk=>(World.ownsRow.lt hown k hk).2);have Ql:=hid hB;obtain⟨A1,c1,rfl⟩:=hown.form;clear hown hB hk;obtain⟨n1,hn1⟩:∃ n1,bs.length=n1:=⟨_,rfl⟩;rcases hk12 with rfl | rfl
 ·rw[if_neg (by decide)];have HA:=hid (fun w2 v2 (h:OwnB B w2 v2 bs) (hb:B≤w2.heap.size)=>Zc3 B v2 bs (toU ci) 8 w2 h hb (Znx ci) (by omega) (by omega));have hcv:IntKind.u64.wrap ci=((toU ci:Nat):Int):=by rw[IntKind.wrap_u64];unfold toU;omega
  generalize toU ci=xu at *;obtain⟨b4,hb4⟩:∃ b4,bs++leN 8 xu=b4:=⟨_,rfl⟩;rw[hb4]at HA ⊢;clear hb4 hl;simp only[hn1]at QI VC JW ⊢;clear hn1;go_enter Tryz.func76,Tryz.ntmps76;go_upto_region 1 with fail
  generalize w.alloc (.cells #[.bool cn,.int .i64 ci,.string cs] 36)=w0 at *;obtain⟨a0,a1,a2⟩:=cell3 Qg.out;go_wp2_with (go_at_call 75;refine(HA.out w0 _ QI.out QQ.out).mono ?_;rintro e w1 ⟨r1,rfl,o1,b1,z1,k1⟩;obtain⟨A2,c2,rfl,_⟩:=Zao o1;have Y7:=hid o1;have Qa:=hid b1;have Qy:=hid z1;have Zw:=hid k1;clear o1 b1 z1 k1)
  go_ret;exact⟨_,rfl,Y7.out,(Qh.out.mono Ql.out).trans Qa.out,Nat.le_trans Qh.out.size Qy.out,VC.out.trans Zw.out Qh.out.size⟩
 ·rw[if_pos rfl,← List.append_assoc];have HA:=hid (fun w2 v2 (h:OwnB B w2 v2 bs) (hb:B≤w2.heap.size)=>Zc3 B v2 bs cs.size 4 w2 h hb (by omega) (by omega) (by omega));have hcw:IntKind.u64.wrap (cs.size:Int)=(cs.size:Int):=by rw[IntKind.wrap_u64];omega
  have HL:Hid ((bs++leN 4 cs.size).length+cs.size≤17592186044416):=hid (by rw[List.length_append,Zai];omega);obtain⟨b4,hb4⟩:∃ b4,bs++leN 4 cs.size=b4:=⟨_,rfl⟩;rw[hb4]at HA HL ⊢;clear hb4 hl;simp only[hn1]at QI VC JW ⊢;clear hn1;go_enter Tryz.func76,Tryz.ntmps76;go_upto_region 1 with fail
  generalize w.alloc (.cells #[.bool cn,.int .i64 ci,.string cs] 36)=w0 at *;obtain⟨a0,a1,a2⟩:=cell3 Qg.out;go_upto_region 3 with fail
  go_region_held3 (fun w'=>w'.cell? ⟨w.heap.size,2,none⟩=some (.string cs)) (assumption)
   (first
    | (go_at_call 75;refine(HA.out w0.drew _ QI.out QQ.out).mono ?_;rintro e w1 ⟨r1,rfl,o1,b1,z1,k1⟩;obtain⟨A2,c2,rfl,_⟩:=Zao o1;have Y7:=hid o1;have Qa:=hid b1;have Qy:=hid z1;have Zw:=hid k1;have QD:Hid (Row w1 w.heap.size 36 [.bool cn,.int .i64 ci,.string cs]):=(hid (by
      have h:=Zw.out.1 w.heap.size Qg.out.lt (fun e=>by have:=JW.out _ e.symm;omega);unfold Row;rw[h];exact Qg.out));clear o1 b1 z1 k1;obtain⟨d0,d1,d2⟩:=cell3 QD.out)
    | (refine Zqb rfl (.tmp 19) (.tmp 21) rfl rfl rfl Y7.out HL.out (Nat.le_trans QQ.out Qy.out) ?_;intro v9 w9 g1 g2 g3 g4;have QO:=hid g1;have QY:=hid g2;have Zi:=hid g3;have Zg:=hid g4;have XG:Hid (Row w9 w.heap.size 36 [.bool cn,.int .i64 ci,.string cs]):=(hid (by
      have h:=g4.1 w.heap.size QD.out.lt (fun e=>by
       rcases Zw.out.2 _ e.symm with h2 | h2
       ·have:=JW.out _ h2.symm;omega
       ·have:=Qg.out.lt;have h3:w0.drew.heap.size=w0.heap.size:=rfl;omega)
      unfold Row;rw[h];exact QD.out));clear g1 g2 g3 g4;obtain⟨e0,e1,e2⟩:=cell3 XG.out))
  go_wp2_with fail
  obtain⟨A9,c9,rfl⟩:=QO.out.form;go_ret;exact⟨_,rfl,QO.out,(Qh.out.mono Ql.out).trans ((Go.below_drewN (Below.refl B w0) 1).trans (Qa.out.trans QY.out)),Nat.le_trans Qh.out.size (Nat.le_trans Qy.out Zi.out),(VC.out.trans Zw.out Qh.out.size).trans Zg.out (Nat.le_trans Qh.out.size Qy.out)⟩
set_option maxHeartbeats 16000000 in
theorem Zki (k rows:Int) (z:ZM) (B:Option Addr) (bc:Nat) (w:World) (hk:Zax k=true) (hr:0≤rows∧rows≤65536) (hz:zOk k rows z=true) (hbl:Rd w (.slice B z.bl.length bc) z.bl.length 1 (u64s z.bl)) (hv:∀ x∈z.bl,x<18446744073709551616) :
  Calls Tryz.prog 43 #[z.v (.slice B z.bl.length bc),.int .i64 k,.int .i64 rows] w fun e w'=>∃ r,e=.returned r∧OwnB (w.heap.size+1) w' r (zRec k rows z)∧Below w.heap.size w w':=by
 obtain⟨hn0,hn1⟩:=Zub hr hz;have UA:=hid (Zfx hz);have Ze:=hid (Zn0 hz);have hfl:=Zmo z;have ZU:Hid (Zdq z=(if z.rg=true then 1 else 0)+(if z.bl.length=0 then 0 else 2)):=hid (by
  unfold Zdq;by_cases h:z.bl=[]<;>simp[h])
 have hzr:zRec k rows z=[Zdq z]++recA z++recB k rows z++recC z:=rfl;obtain⟨F,hF⟩:∃ F,Zdq z=F:=⟨_,rfl⟩;rw[hF]at hfl hzr ZU;rw[hzr];have HA:Hid (recA z=if z.rg=true then leN 4 z.nu.toNat else []):=hid rfl;have HB:Hid (recB k rows z=if z.rg=true∧z.nu≠rows then Zb3 k z.mn++Zb3 k z.mx else []):=hid rfl;have HC:Hid (recC z=if z.bl=[]then []else [z.hs.toNat]++leN 4 z.bl.length++le8 z.bl):=hid rfl;generalize recA z=RA at *;generalize recB k rows z=RB at *;generalize recC z=RC at *;have QA:=hid hbl;have HV:=hid hv;clear hz hF hzr hbl hv;obtain⟨rg,nu,mn,mx,hs,bl⟩:=z;simp only at *;obtain⟨nn,rfl⟩:=Int.eq_ofNat_of_zero_le hn0;rw[Int.toNat_natCast]at HA;have YQ:=hid (fun(s1:Nat) (v:Value) (bs:List Nat) (w2:World) (h:OwnB s1 w2 v bs) (hb:s1≤w2.heap.size) (h1:mn.s.size≤16777216) (h2:bs.length≤1099511627776)=>Zku s1 v bs k mn w2 hk h hb h1 h2);have YR:=hid (fun(s1:Nat) (v:Value) (bs:List Nat) (w2:World) (h:OwnB s1 w2 v bs) (hb:s1≤w2.heap.size) (h1:mx.s.size≤16777216) (h2:bs.length≤1099511627776)=>Zku s1 v bs k mx w2 hk h hb h1 h2);have Z6:Hid ((rg=true∧(nn:Int)≠rows)→mn.s.size≤1024∧mx.s.size≤1024):=hid (by
  intro h;rcases Ze.out with ⟨_,_,h3,h4⟩ | ⟨h1,_⟩
  ·exact⟨Zht h3,Zht h4⟩
  ·exact absurd h h1)
 have UB:Hid (RB.length≤8192):=hid (by
  rw[HB.out]
  split
  ·rename_i h
   have h5:=Z6.out h;have h6:∀ c:C3,c.s.size≤1024→(Zb3 k c).length≤4096:=fun c hc=>by
    unfold Zb3
    split
    ·rw[List.length_append,Zai,Zcb];omega
    ·rw[Zai];omega
   have:=h6 mn h5.1;have:=h6 mx h5.2;rw[List.length_append];omega
  ·simp)
 have VD:Hid (RA.length≤4):=hid (by
  rw[HA.out]
  split
  ·rw[Zai];omega
  ·simp)
 clear Ze;obtain⟨bn,hbn⟩:∃ bn,bl.length=bn:=⟨_,rfl⟩;have Yl:=hid hbn;rw[hbn]at QA HC ZU ⊢;clear hbn;generalize Zb3 k mn=R1 at *;generalize Zb3 k mx=R2 at *;obtain⟨mnn,mni,mns⟩:=mn;obtain⟨mxn,mxi,mxs⟩:=mx;unfold ZM.v;unfold C3.v at YQ YR;simp only at YQ YR Z6 ZU ⊢;have Qh:=hid ((Zab w).alloc (Nat.le_refl _) (.cells #[.bool rg,.int .i64 nn,.bool mnn,.int .i64 mni,.string mns,.bool mxn,.int .i64 mxi,.string mxs,.int .i64 hs,.slice B bn bc] 39));have Qg:Hid (Row (w.alloc (.cells #[.bool rg,.int .i64 nn,.bool mnn,.int .i64 mni,.string mns,.bool mxn,.int .i64 mxi,.string mxs,.int .i64 hs,.slice B bn bc] 39)) w.heap.size 39 [.bool rg,.int .i64 nn,.bool mnn,.int .i64 mni,.string mns,.bool mxn,.int .i64 mxi,.string mxs,.int .i64 hs,.slice B bn bc]):=hid (by unfold Row;rw[heap_alloc_new]);have Yh:Hid ((w.alloc (.cells #[.bool rg,.int .i64 nn,.bool mnn,.int .i64 mni,.string mns,.bool mxn,.int .i64 mxi,.string mxs,.int .i64 hs,.slice B bn bc] 39)).heap.size=w.heap.size+1):=hid (by simp);obtain⟨RES,hRES⟩:∃ RES,[F]++RA++RB++RC=RES:=⟨_,rfl⟩;have YC:=hid hRES;rw[hRES];clear hRES;clear hk;obtain⟨f1,hf1⟩:∃ f1:Nat,(if rg=true then 1 else 0)=f1:=⟨_,rfl⟩;have U2:=hid hf1;rw[hf1]at ZU;clear hf1;go_enter Tryz.func43,Tryz.ntmps43;go_upto_region 1 with fail
 generalize w.alloc (.cells #[.bool rg,.int .i64 nn,.bool mnn,.int .i64 mni,.string mns,.bool mxn,.int .i64 mxi,.string mxs,.int .i64 hs,.slice B bn bc] 39)=w0 at *;obtain⟨a0,a1,a2,a3,a4,a5,a6,a7,a8,a9⟩:=Za6 Qg.out;go_upto_if 12 with fail
 go_cut [7]from 12 to 14 (fun s7 wc=>s7=.int .u8 (f1:Nat)∧wc=w0)
 case first =>
  cases rg
  ·have h:=U2.out;rw[if_neg (by decide)]at h;subst h;go_wp2_with fail
   go_meet;exact⟨rfl,rfl⟩
  ·have h:=U2.out;rw[if_pos rfl]at h;subst h;go_wp2_with fail
   go_meet;exact⟨rfl,rfl⟩
 case rest =>
 obtain⟨rfl,hw⟩:=hcut;replace hw:=hw.symm;subst hw;go_upto_if 18 with fail
 go_cut [7]from 15 to 20 (fun s7 wc=>s7=.int .u8 (F:Nat)∧wc=w0)
 case first =>
  by_cases h0:bn=0
  ·have h:=ZU.out;rw[if_pos h0,Nat.add_zero]at h;subst h;subst h0;go_wp2_with fail
   go_meet;exact⟨rfl,rfl⟩
  ·have h:=ZU.out;rw[if_neg h0]at h;have hf1:f1≤1:=by rw[← U2.out];split<;>omega
   have hwr:IntKind.u8.wrap ((f1:Int)+2)=((f1+2:Nat):Int):=by rw[IntKind.wrap_u8];omega
   have hgt:(bn:Int) > 0:=by omega
   rw[← h]at hwr;clear h;go_wp2_with fail
   go_meet;exact⟨rfl,rfl⟩
 case rest =>
 obtain⟨rfl,hw⟩:=hcut;replace hw:=hw.symm;subst hw;clear U2 ZU;go_upto_region 7 with fail
 have Qy:Hid (ZSt w0.heap.size w0 (w0.alloc (.cells #[.int .u8 F] 5)) (.slice (some ⟨w0.heap.size,0,none⟩) 1 1) [F]):=hid ⟨by
  have h:Row (w0.alloc (.cells #[.int .u8 F] 5)) w0.heap.size 5 (u8s [F]):=by unfold Row;rw[heap_alloc_new];rfl
  exact h.owns (Nat.le_refl _) rfl (by unfold maxLen;decide),(Below.refl _ w0).alloc (Nat.le_refl _) _,by simp⟩
 clear a0 a1 a2 a3 a4 a5 a6 a7 a8 a9;generalize w0.alloc (.cells #[.int .u8 F] 5)=w2 at *;generalize hs0:w0.heap.size=g1 at *;have Yu:=hid hs0;clear hs0;have HBL0:=hid (QA.out.mono Qh.out);have Yb:=hid (fun(wc:World) (h:Below g1 w0 wc)=>Qg.out.mono (by rw[Yu.out];exact h));have Qm:=hid (Yb.out w2 Qy.out.2.1);obtain⟨a0,a1,a2,a3,a4,a5,a6,a7,a8,a9⟩:=Za6 Qm.out;go_upto_if 24 with fail
 go_cut [8]from 24 to 42 (fun s8 wc=>Hid (ZSt g1 w0 wc s8 ([F]++RA++RB)))
 case first =>
  cases rg
  ·rw[if_neg (by decide)]at HA;rw[if_neg (by simp)]at HB;go_wp2_with fail
   go_meet;exact hid (by rw[HA.out,HB.out,List.append_nil,List.append_nil];exact Qy.out)
  ·rw[if_pos rfl]at HA;have hcv:IntKind.u64.wrap (nn:Int)=(nn:Int):=by rw[IntKind.wrap_u64];omega
   have X6:=hid (Zc3 g1 _ [F] nn 4 w2 Qy.out.1 Qy.out.2.2 (by omega) (by omega) (by simp));rw[← HA.out]at X6;have Xc:Hid (([F]++RA).length≤5):=hid (by rw[List.length_append];have:=VD.out;simp;omega);obtain⟨b3,hb3⟩:∃ b3,[F]++RA=b3:=⟨_,rfl⟩;rw[hb3]at X6 Xc;have Qe:=hid hb3;clear hb3;go_upto_region 9 with (go_at_call 75;refine X6.out.mono ?_;rintro e w3 ⟨r1,rfl,o1,b1,z1,k1⟩;obtain⟨A2,c2,rfl,_⟩:=Zao o1;have Y6:=hid (Qy.out.step o1 b1 z1);clear o1 b1 z1 k1)
   have Qd:=hid (Yb.out w3 Y6.out.2.1);clear a0 a1 a2 a3 a4 a5 a6 a7 a8 a9 X6 Qy;obtain⟨a0,a1,a2,a3,a4,a5,a6,a7,a8,a9⟩:=Za6 Qd.out;by_cases he:(nn:Int)=rows
   ·rw[if_neg (fun h=>h.2 he)]at HB;subst he;go_wp2_with fail
    go_meet;exact hid (by rw[Qe.out,HB.out,List.append_nil];exact Y6.out)
   ·have heb:((nn:Int) != rows)=true:=by simp[he]
    have hB:=HB.out;replace hB:RB=R1++R2:=by simpa [he]using hB
    replace HB:=hid hB;clear hB;obtain⟨z1,z2⟩:=Z6.out (by simpa using he);have Yc:Hid ((b3++R1).length≤1099511627776):=hid (by
     have:=UB.out;rw[HB.out,List.length_append]at this;have:=Xc.out;rw[List.length_append];omega)
    have VE:=hid (fun(v:Value) (w2:World) (h:OwnB g1 w2 v b3) (hb:g1≤w2.heap.size)=>YQ.out g1 v b3 w2 h hb (by omega) (by have:=Xc.out;omega));have JJ:=hid (fun(v:Value) (w2:World) (h:OwnB g1 w2 v (b3++R1)) (hb:g1≤w2.heap.size)=>YR.out g1 v (b3++R1) w2 h hb (by omega) Yc.out);have X8:Hid (b3++RB=b3++R1++R2):=hid (by rw[HB.out,← List.append_assoc]);clear Yc;obtain⟨b4,hb4⟩:∃ b4,b3++R1=b4:=⟨_,rfl⟩;rw[hb4]at VE JJ X8;obtain⟨b5,hb5⟩:∃ b5,b4++R2=b5:=⟨_,rfl⟩;rw[hb5]at JJ X8;clear hb4 hb5 YQ YR;have XH:Hid (ZSt g1 w0 w3.drew (.slice A2 b3.length c2) b3):=hid ⟨Y6.out.1,Y6.out.2.1.trans (Go.below_drewN (Below.refl g1 w3) 1),Y6.out.2.2⟩;go_upto_region 10 with fail
    go_region_held3 (fun w'=>w'.cell? ⟨w.heap.size,2,none⟩=some (.bool mnn)∧w'.cell? ⟨w.heap.size,3,none⟩=some (.int .i64 mni)∧w'.cell? ⟨w.heap.size,4,none⟩=some (.string mns)∧w'.cell? ⟨w.heap.size,5,none⟩=some (.bool mxn)∧w'.cell? ⟨w.heap.size,6,none⟩=some (.int .i64 mxi)∧w'.cell? ⟨w.heap.size,7,none⟩=some (.string mxs)) (first | exact⟨a2,a3,a4,a5,a6,a7⟩ | exact⟨d2,d3,d4,d5,d6,d7⟩ | exact⟨e2,e3,e4,e5,e6,e7⟩)
     (first
      | (go_at_call_of 76 (Value.agg #[.bool mnn,.int .i64 mni,.string mns]);refine(VE.out _ w3.drew XH.out.1 XH.out.2.2).mono ?_;rintro e w4 ⟨r1,rfl,o1,b1,z1',k1⟩;obtain⟨A4,c4,rfl⟩:=o1.form;have Zr:=hid (XH.out.step o1 b1 z1');have U4:=hid (Yb.out w4 Zr.out.2.1);clear o1 b1 z1' k1;obtain⟨d0,d1,d2,d3,d4,d5,d6,d7,d8,d9⟩:=Za6 U4.out)
      | (go_at_call 76;refine(JJ.out _ w4 Zr.out.1 Zr.out.2.2).mono ?_;rintro e w5 ⟨r1,rfl,o1,b1,z1',k1⟩;obtain⟨A5,c5,rfl⟩:=o1.form;have YF:=hid (Zr.out.step o1 b1 z1');have Jd:=hid (Yb.out w5 YF.out.2.1);clear o1 b1 z1' k1;obtain⟨e0,e1,e2,e3,e4,e5,e6,e7,e8,e9⟩:=Za6 Jd.out))
    go_wp2_with fail
    go_meet;exact hid (by rw[Qe.out,X8.out];exact YF.out)
 case rest =>
 obtain⟨A6,c6,hf6⟩:=hcut.1.form;subst hf6;have Y2:=hid hcut;clear hcut Qy Qm a0 a1 a2 a3 a4 a5 a6 a7 a8 a9 Z6 YQ YR;generalize wc=w6 at *;have Vn:=hid (Yb.out w6 Y2.out.2.1);have UC:Hid (([F]++RA++RB).length≤9000):=hid (by rw[List.length_append,List.length_append];have:=UB.out;have:=VD.out;simp;omega);obtain⟨b6,hb6⟩:∃ b6,[F]++RA++RB=b6:=⟨_,rfl⟩;rw[hb6]at Y2 UC ⊢;have HE6:Hid (RES=b6++RC):=hid (by rw[← YC.out,hb6]);clear hb6;obtain⟨a0,a1,a2,a3,a4,a5,a6,a7,a8,a9⟩:=Za6 Vn.out;obtain⟨m6,hm6⟩:∃ m6,b6.length=m6:=⟨_,rfl⟩;rw[hm6]at UC ⊢;have YD:Hid (ZSt g1 w0 w6 (.slice A6 m6 c6) b6):=hid (by rw[← hm6];exact Y2.out);have HM6:=hid hm6;clear hm6 Y2;have hgw:w.heap.size+1=g1:=Yh.out.symm;have Vp:=hid hgw;clear hgw;by_cases hb0:bn=0
 ·have hbl0:bl=[]:=List.length_eq_zero_iff.1 (by rw[Yl.out];exact hb0);rw[if_pos hbl0]at HC;subst hb0;clear hbl0;go_wp2_with fail
  go_ret;refine⟨_,rfl,by rw[HE6.out,HC.out,List.append_nil,Vp.out];exact YD.out.1,?_⟩;exact Qh.out.trans (YD.out.2.1.mono (by have:=Vp.out;omega))
 ·have hbl0:bl≠[]:=fun h=>hb0 (by rw[← Yl.out,h];rfl)
  rw[if_neg hbl0]at HC;obtain⟨f1',f2',f3'⟩:bl.length≤64∧1≤hs∧hs≤8:=by
   rcases UA.out with h | h
   ·exact absurd h.1 hbl0
   ·exact h.2
  rw[Yl.out]at f1';clear hbl0 UA;obtain⟨hn,rfl⟩:=Int.eq_ofNat_of_zero_le (show 0≤hs by omega);rw[Int.toNat_natCast]at HC;have hgt:(bn:Int) > 0:=by omega
  have hwr:IntKind.u64.wrap (hn:Int)=(hn:Int):=by rw[IntKind.wrap_u64];omega
  have hwb:IntKind.u64.wrap (bn:Int)=(bn:Int):=by rw[IntKind.wrap_u64];omega
  have e1:leN 1 hn=[hn]:=by
   unfold leN;simp;omega
  have HE7:Hid (b6++RC=b6++leN 1 hn++leN 4 bn++le8 bl):=hid (by rw[HC.out,e1];simp[List.append_assoc]);have HP7:=hid (Zc3 g1 _ b6 hn 1 w6 YD.out.1 YD.out.2.2 (by omega) (by omega) (by rw[HM6.out];have:=UC.out;omega));obtain⟨b7,hb7⟩:∃ b7,b6++leN 1 hn=b7:=⟨_,rfl⟩;have UD:Hid (b7.length≤9001):=hid (by rw[← hb7,List.length_append,Zai,HM6.out];have:=UC.out;omega);rw[hb7]at HP7 HE7;have HP8:=hid (fun(v:Value) (w2:World) (h:OwnB g1 w2 v b7) (hb:g1≤w2.heap.size)=>Zc3 g1 v b7 bn 4 w2 h hb (by omega) (by omega) (by have:=UD.out;omega));obtain⟨b8,hb8⟩:∃ b8,b7++leN 4 bn=b8:=⟨_,rfl⟩;have HL8:Hid (b8.length≤9005):=hid (by rw[← hb8,List.length_append,Zai];have:=UD.out;omega);rw[hb8]at HP8 HE7;clear hb7 hb8 e1 UD;go_upto_region 14 with (first
   | (go_at_call_of 75 (Value.int IntKind.i64 1);refine HP7.out.mono ?_;rintro e w7 ⟨r1,rfl,o1,b1,z1',k1⟩;obtain⟨A7,c7,rfl,_⟩:=Zao o1;have ZO:=hid (YD.out.step o1 b1 z1');have Jz:=hid (Yb.out w7 ZO.out.2.1);clear o1 b1 z1' k1;obtain⟨d0,d1,d2,d3,d4,d5,d6,d7,d8,d9⟩:=Za6 Jz.out)
   | (go_at_call 75;refine(HP8.out _ w7 ZO.out.1 ZO.out.2.2).mono ?_;rintro e w8 ⟨r1,rfl,o1,b1,z1',k1⟩;obtain⟨A8,c8,rfl,_⟩:=Zao o1;have ZT:=hid (ZO.out.step o1 b1 z1');have Zv:=hid (Yb.out w8 ZT.out.2.1);clear o1 b1 z1' k1;obtain⟨e0,e1,e2,e3,e4,e5,e6,e7,e8,e9⟩:=Za6 Zv.out))
  go_upto_region 15 with fail
  clear a0 a1 a2 a3 a4 a5 a6 a7 a8 a9 d0 d1 d2 d3 d4 d5 d6 d7 d8 d9 e0 e1 e2 e3 e4 e5 e6 e7 e8 e9 Vn Jz Zv ZO YD HP7 HP8 hwr hwb hgt;obtain⟨m8,hm8⟩:∃ m8,b8.length=m8:=⟨_,rfl⟩;rw[hm8];have HO8':Hid (ZSt g1 w0 w8 (.slice A8 m8 c8) b8):=hid (by rw[← hm8];exact ZT.out);clear ZT;rw[hm8]at HL8;have HM8:=hid hm8;clear hm8;go_loopw [8,61] (fun s i wr=>∃ t:Nat,t≤bn∧i=.int .i64 t∧Hid (ZSt g1 w0 wr s (b8++le8 (bl.take t)))) (fun _ i _=>bn-(intOf i).toNat)
  case atStart=>exact⟨0,by omega,rfl,hid (by rw[List.take_zero];show ZSt g1 w0 w8 (.slice A8 m8 c8) (b8++[]);rw[List.append_nil];exact HO8'.out)⟩
  case round =>
   obtain⟨t,ht,rfl,HS⟩:=hrel;have Yi:Hid ((b8++le8 (bl.take t)).length≤9600):=hid (by rw[List.length_append,Zlv,List.length_take];have:=HL8.out;have:=HM8.out;omega);have YH:Hid (t<bn→b8++le8 (bl.take (t+1))=b8++le8 (bl.take t)++leN 8 (bl.getD t 0)):=hid (fun h=>by
    rw[List.take_succ_eq_append_getElem (by rw[Yl.out];exact h),Zuk,← List.append_assoc];simp[List.getD,show t<bl.length by rw[Yl.out];exact h])
   have Xe:Hid (t=bn→b8++le8 (bl.take t)=RES):=hid (fun h=>by rw[List.take_of_length_le (by rw[Yl.out,h];exact Nat.le_refl _),HE6.out,HE7.out]);obtain⟨bt,hbt⟩:∃ bt,b8++le8 (bl.take t)=bt:=⟨_,rfl⟩;rw[hbt]at HS Yi YH Xe;clear hbt;obtain⟨At,ct,rfl⟩:=HS.out.1.form;obtain⟨mt,hmt⟩:∃ mt,bt.length=mt:=⟨_,rfl⟩;rw[hmt];have HS':Hid (ZSt g1 w0 wr (.slice At mt ct) bt):=hid (by rw[← hmt];exact HS.out);rw[hmt]at Yi;have HMT:=hid hmt;clear HS hmt;by_cases hlt:t<bn
   ·obtain⟨b,o,rfl,hseg⟩:=(HBL0.out.mono (by rw[Yu.out];exact HS'.out.2.1)).at (by omega);have l0:=hseg.word t (by rw[Yl.out];exact hlt);have hx:bl.getD t 0<18446744073709551616:=by
     refine HV.out _ ?_;simp[List.getD,show t<bl.length by rw[Yl.out];exact hlt]
    have hnx:=YH.out hlt;have HP:=hid (Zc3 g1 _ bt (bl.getD t 0) 8 wr HS'.out.1 HS'.out.2.2 hx (by omega) (by rw[HMT.out];have:=Yi.out;omega));rw[← hnx]at HP;clear hseg hnx;generalize bl.getD t 0=x at *;obtain⟨bu,hbu⟩:∃ bu,b8++le8 (bl.take (t+1))=bu:=⟨_,rfl⟩;have Q7:=hid hbu;rw[hbu]at HP;clear hbu;go_wp2_with (go_at_call 75;refine HP.out.mono ?_;rintro e w9 ⟨r1,rfl,o1,b1,z1',k1⟩;obtain⟨A9,c9,rfl,_⟩:=Zao o1;have Z7:=hid (HS'.out.step o1 b1 z1');clear o1 b1 z1' k1)
    go_roundw
    case rel=>exact⟨t+1,by omega,by go_num,hid (by rw[Q7.out];exact Z7.out)⟩
    case measure=>simp[intOf];omega
   ·obtain rfl:t=bn:=by omega
    have hf:=Xe.out rfl;go_wp2_with fail
    go_ret;exact⟨_,rfl,by rw[← hf,Vp.out];exact HS'.out.1,Qh.out.trans (HS'.out.2.1.mono (by have:=Vp.out;omega))⟩
end Go.Proofs.YtmcjknjlihgihaaGreatDoor
