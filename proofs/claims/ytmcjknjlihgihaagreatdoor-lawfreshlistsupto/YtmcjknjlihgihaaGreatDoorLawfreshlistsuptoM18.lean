/- The plain reading of a zone record, as mathematics: it reads the record of a zone in order back. -/
import Derived.Test.YtmcjknjlihgihaaGreatDoorLawfreshlistsuptoM17
set_option linter.unusedVariables false
set_option linter.unusedSimpArgs false
set_option linter.unnecessarySimpa false
set_option maxRecDepth 100000
namespace Go.Proofs.YtmcjknjlihgihaaGreatDoor
open Go.RowKit
set_option maxHeartbeats 4000000 in
theorem Zkv (a b:Value) (xs ys:List Nat) (w:World) (ha:Rd w a xs.length 1 (u8s xs)) (hb:Rd w b ys.length 1 (u8s ys)) (hx:∀ x∈xs,x<256) (hy:∀ x∈ys,x<256) :
  Calls Tryz.prog 136 #[a,b] w fun e w'=>e=.returned (.bool (decide (xs=ys)))∧w'=w:=by
 have h1:=Zfc ha;have h2:=Zfc hb;obtain⟨q,hq⟩:∃ q,decide (xs=ys)=q:=⟨_,rfl⟩;have hcmp:((Zat xs).toList==(Zat ys).toList)=q:=by
  rw[← hq];by_cases e:xs=ys
  ·subst e;simp
  ·have:¬ (Zat xs).toList=(Zat ys).toList:=fun h=>e (Zh2 hx hy h)
   simp[e,this]
 rw[hq];obtain⟨A1,c1,rfl,_,_,_⟩:=ha.form;obtain⟨A2,c2,rfl,_,_,_⟩:=hb.form;clear ha hb hx hy hq;generalize xs.length=n at *;generalize ys.length=m at *;generalize Zat xs=sx at *;generalize Zat ys=sy at *;go_enter Tryz.func136,Tryz.ntmps136;go_wp2_with fail
 go_ret;exact⟨Zae (by simpa using hcmp),rfl⟩
theorem Zqi {ops:Array Oper} {o:Oper} {a:Act} {w:World} {K:Act→World→Prop} {Q:Exit→Act→World→Prop} {E:Prop} {v:Value} {B:Nat} {bs:List Nat} {x:ByteArray}
  (hgd:o.guard=none) (sl r:Operand) (ho:o.op=.call { callee:=.builtin .append,args:=#[sl,r],argTypes:=#[22,9] })
  (hs:a.eval sl=v) (hx:a.eval r=.string x) (hown:OwnB B w v bs) (hm:bs.length+x.size≤17592186044416) (hB:B≤w.heap.size)
  (hK:∀ v' w',OwnB B w' v' (bs++sbs x)→Below B w w'→w.heap.size≤w'.heap.size→Kp v w w' v'→K (a.put o.dst v') w'):if Region.wanted o (yielded ops a.tmps)=true then Oper.wp Tryz.prog o a w K Q else E:=by
 have hw:Region.wanted o (yielded ops a.tmps)=true:=by simp[Region.wanted,hgd]
 rw[if_pos hw];obtain⟨iu,hiu,hz0,hz1,hz2⟩:=info_parts Tryz.infoU8;have hlt:=World.ownsRow.lt hown;obtain⟨v',w',hr,h1,h2,hw⟩:=Zd0 (P:=Tryz.prog) w B 22 9 o.type 5 iu Tryz.underlying22 Tryz.underlying9 hiu hz0 hz1 hz2 v bs.length (u8s bs) hown x (by unfold maxLen;omega) (by omega) hB;unfold Oper.wp execOp;simp only[ho,resolve,invoke,builtin,Sem.run_bind,Sem.run_pure,Result.andThen_ok,List.map_toArray,List.map_cons,List.map_nil,hs,hx,hr];refine hK v' w' ?_ ((Below.refl B w).grown h2 (by omega) (fun k hk=>(hlt k hk).1)) h2.size ⟨h2.block,hw⟩;unfold OwnB;rw[List.length_append,Zca,Znc,← Zkq];exact h1
set_option maxHeartbeats 4000000 in
theorem Zkb (B:Nat) (v:Value) (bs:List Nat) (k:Int) (c:C3) (w:World) (hk:Za3 k=true) (hown:OwnB B w v bs) (hB:B≤w.heap.size) (hs:c.s.size≤16777216) (hl:bs.length≤1099511627776) :
  Calls Tryz.prog 76 #[v,c.v,.int .i64 k] w fun e w'=>Zpd B v w w' e (bs++Zb3 k c):=by
 have hk12:k=1∨k=2:=by unfold Za3 at hk;exact of_decide_eq_true hk
 obtain⟨cn,ci,cs⟩:=c;unfold C3.v Zb3;simp only at hs ⊢;have Ql:=hid ((Zab w).alloc (Nat.le_refl _) (.cells #[.bool cn,.int .i64 ci,.string cs] 36));have Qj:Hid (Row (w.alloc (.cells #[.bool cn,.int .i64 ci,.string cs] 36)) w.heap.size 36 [.bool cn,.int .i64 ci,.string cs]):=hid (by unfold Row;rw[heap_alloc_new]);have QO:Hid (OwnB B (w.alloc (.cells #[.bool cn,.int .i64 ci,.string cs] 36)) v bs):=hid (Zbt hown Ql.out);have QU:Hid (B≤(w.alloc (.cells #[.bool cn,.int .i64 ci,.string cs] 36)).heap.size):=hid (Nat.le_trans hB Ql.out.size);have Vw:Hid (Kp v w (w.alloc (.cells #[.bool cn,.int .i64 ci,.string cs] 36)) v):=hid (Kp.below Ql.out);have JK:=hid (fun k hk=>(World.ownsRow.lt hown k hk).2);have Qg:=hid hB;obtain⟨A1,c1,rfl⟩:=hown.form;clear hown hB hk;obtain⟨n1,hn1⟩:∃ n1,bs.length=n1:=⟨_,rfl⟩;rcases hk12 with rfl | rfl
 ·rw[if_neg (by decide)];have HA:=hid (fun w2 v2 (h:OwnB B w2 v2 bs) (hb:B≤w2.heap.size)=>Zcw B v2 bs (toU ci) 8 w2 h hb (Zmw ci) (by omega) (by omega));have hcv:IntKind.u64.wrap ci=((toU ci:Nat):Int):=by rw[IntKind.wrap_u64];unfold toU;omega
  generalize toU ci=xu at *;obtain⟨b4,hb4⟩:∃ b4,bs++leN 8 xu=b4:=⟨_,rfl⟩;rw[hb4]at HA ⊢;clear hb4 hl;simp only[hn1]at QO Vw JK ⊢;clear hn1;go_enter Tryz.func76,Tryz.ntmps76;go_upto_region 1 with fail
  generalize w.alloc (.cells #[.bool cn,.int .i64 ci,.string cs] 36)=w0 at *;obtain⟨a0,a1,a2⟩:=Zeq Qj.out;go_wp2_with (go_at_call 75;refine(HA.out w0 _ QO.out QU.out).mono ?_;rintro e w1 ⟨r1,rfl,o1,b1,z1,k1⟩;obtain⟨A2,c2,rfl,_⟩:=Zaj o1;have Y1:=hid o1;have Qa:=hid b1;have Qx:=hid z1;have Zc:=hid k1;clear o1 b1 z1 k1)
  go_ret;exact⟨_,rfl,Y1.out,(Ql.out.mono Qg.out).trans Qa.out,Nat.le_trans Ql.out.size Qx.out,Vw.out.trans Zc.out Ql.out.size⟩
 ·rw[if_pos rfl,← List.append_assoc];have HA:=hid (fun w2 v2 (h:OwnB B w2 v2 bs) (hb:B≤w2.heap.size)=>Zcw B v2 bs cs.size 4 w2 h hb (by omega) (by omega) (by omega));have hcw:IntKind.u64.wrap (cs.size:Int)=(cs.size:Int):=by rw[IntKind.wrap_u64];omega
  have HL:Hid ((bs++leN 4 cs.size).length+cs.size≤17592186044416):=hid (by rw[List.length_append,Zak];omega);obtain⟨b4,hb4⟩:∃ b4,bs++leN 4 cs.size=b4:=⟨_,rfl⟩;rw[hb4]at HA HL ⊢;clear hb4 hl;simp only[hn1]at QO Vw JK ⊢;clear hn1;go_enter Tryz.func76,Tryz.ntmps76;go_upto_region 1 with fail
  generalize w.alloc (.cells #[.bool cn,.int .i64 ci,.string cs] 36)=w0 at *;obtain⟨a0,a1,a2⟩:=Zeq Qj.out;go_upto_region 3 with fail
  go_region_held3 (fun w'=>w'.cell? ⟨w.heap.size,2,none⟩=some (.string cs)) (assumption)
   (first
    | (go_at_call 75;refine(HA.out w0.drew _ QO.out QU.out).mono ?_;rintro e w1 ⟨r1,rfl,o1,b1,z1,k1⟩;obtain⟨A2,c2,rfl,_⟩:=Zaj o1;have Y1:=hid o1;have Qa:=hid b1;have Qx:=hid z1;have Zc:=hid k1;have QI:Hid (Row w1 w.heap.size 36 [.bool cn,.int .i64 ci,.string cs]):=(hid (by
      have h:=Zc.out.1 w.heap.size Qj.out.lt (fun e=>by have:=JK.out _ e.symm;omega);unfold Row;rw[h];exact Qj.out));clear o1 b1 z1 k1;obtain⟨d0,d1,d2⟩:=Zeq QI.out)
    | (refine Zqi rfl (.tmp 19) (.tmp 21) rfl rfl rfl Y1.out HL.out (Nat.le_trans QU.out Qx.out) ?_;intro v9 w9 g1 g2 g3 g4;have Yd:=hid g1;have QZ:=hid g2;have Jn:=hid g3;have Jo:=hid g4;have Xz:Hid (Row w9 w.heap.size 36 [.bool cn,.int .i64 ci,.string cs]):=(hid (by
      have h:=g4.1 w.heap.size QI.out.lt (fun e=>by
       rcases Zc.out.2 _ e.symm with h2 | h2
       ·have:=JK.out _ h2.symm;omega
       ·have:=Qj.out.lt;have h3:w0.drew.heap.size=w0.heap.size:=rfl;omega)
      unfold Row;rw[h];exact QI.out));clear g1 g2 g3 g4;obtain⟨e0,e1,e2⟩:=Zeq Xz.out))
  go_wp2_with fail
  obtain⟨A9,c9,rfl⟩:=Yd.out.form;go_ret;exact⟨_,rfl,Yd.out,(Ql.out.mono Qg.out).trans ((Go.below_drewN (Below.refl B w0) 1).trans (Qa.out.trans QZ.out)),Nat.le_trans Ql.out.size (Nat.le_trans Qx.out Jn.out),(Vw.out.trans Zc.out Ql.out.size).trans Jo.out (Nat.le_trans Ql.out.size Qx.out)⟩
set_option maxHeartbeats 16000000 in
theorem Zjl (k rows:Int) (z:ZM) (B:Option Addr) (bc:Nat) (w:World) (hk:Za3 k=true) (hr:0≤rows∧rows≤65536) (hz:zOk k rows z=true) (hbl:Rd w (.slice B z.bl.length bc) z.bl.length 1 (u64s z.bl)) (hv:∀ x∈z.bl,x<18446744073709551616) :
  Calls Tryz.prog 43 #[z.v (.slice B z.bl.length bc),.int .i64 k,.int .i64 rows] w fun e w'=>∃ r,e=.returned r∧OwnB (w.heap.size+1) w' r (zRec k rows z)∧Below w.heap.size w w':=by
 obtain⟨hn0,hn1⟩:=Ztz hr hz;have Uw:=hid (Zfq hz);have ZP:=hid (Zmv hz);have hfl:=Zmd z;have ZA:Hid (Zdl z=(if z.rg=true then 1 else 0)+(if z.bl.length=0 then 0 else 2)):=hid (by
  unfold Zdl;by_cases h:z.bl=[]<;>simp[h])
 have hzr:zRec k rows z=[Zdl z]++recA z++recB k rows z++recC z:=rfl;obtain⟨F,hF⟩:∃ F,Zdl z=F:=⟨_,rfl⟩;rw[hF]at hfl hzr ZA;rw[hzr];have HA:Hid (recA z=if z.rg=true then leN 4 z.nu.toNat else []):=hid rfl;have HB:Hid (recB k rows z=if z.rg=true∧z.nu≠rows then Zb3 k z.mn++Zb3 k z.mx else []):=hid rfl;have HC:Hid (recC z=if z.bl=[]then []else [z.hs.toNat]++leN 4 z.bl.length++le8 z.bl):=hid rfl;generalize recA z=RA at *;generalize recB k rows z=RB at *;generalize recC z=RC at *;have Q9:=hid hbl;have HV:=hid hv;clear hz hF hzr hbl hv;obtain⟨rg,nu,mn,mx,hs,bl⟩:=z;simp only at *;obtain⟨nn,rfl⟩:=Int.eq_ofNat_of_zero_le hn0;rw[Int.toNat_natCast]at HA;have YE:=hid (fun(s1:Nat) (v:Value) (bs:List Nat) (w2:World) (h:OwnB s1 w2 v bs) (hb:s1≤w2.heap.size) (h1:mn.s.size≤16777216) (h2:bs.length≤1099511627776)=>Zkb s1 v bs k mn w2 hk h hb h1 h2);have YF:=hid (fun(s1:Nat) (v:Value) (bs:List Nat) (w2:World) (h:OwnB s1 w2 v bs) (hb:s1≤w2.heap.size) (h1:mx.s.size≤16777216) (h2:bs.length≤1099511627776)=>Zkb s1 v bs k mx w2 hk h hb h1 h2);have Zl:Hid ((rg=true∧(nn:Int)≠rows)→mn.s.size≤1024∧mx.s.size≤1024):=hid (by
  intro h;rcases ZP.out with ⟨_,_,h3,h4⟩ | ⟨h1,_⟩
  ·exact⟨Zhg h3,Zhg h4⟩
  ·exact absurd h h1)
 have Ux:Hid (RB.length≤8192):=hid (by
  rw[HB.out]
  split
  ·rename_i h
   have h5:=Zl.out h;have h6:∀ c:C3,c.s.size≤1024→(Zb3 k c).length≤4096:=fun c hc=>by
    unfold Zb3
    split
    ·rw[List.length_append,Zak,Zca];omega
    ·rw[Zak];omega
   have:=h6 mn h5.1;have:=h6 mx h5.2;rw[List.length_append];omega
  ·simp)
 have Vx:Hid (RA.length≤4):=hid (by
  rw[HA.out]
  split
  ·rw[Zak];omega
  ·simp)
 clear ZP;obtain⟨bn,hbn⟩:∃ bn,bl.length=bn:=⟨_,rfl⟩;have Yc:=hid hbn;rw[hbn]at Q9 HC ZA ⊢;clear hbn;generalize Zb3 k mn=R1 at *;generalize Zb3 k mx=R2 at *;obtain⟨mnn,mni,mns⟩:=mn;obtain⟨mxn,mxi,mxs⟩:=mx;unfold ZM.v;unfold C3.v at YE YF;simp only at YE YF Zl ZA ⊢;have Ql:=hid ((Zab w).alloc (Nat.le_refl _) (.cells #[.bool rg,.int .i64 nn,.bool mnn,.int .i64 mni,.string mns,.bool mxn,.int .i64 mxi,.string mxs,.int .i64 hs,.slice B bn bc] 39));have Qj:Hid (Row (w.alloc (.cells #[.bool rg,.int .i64 nn,.bool mnn,.int .i64 mni,.string mns,.bool mxn,.int .i64 mxi,.string mxs,.int .i64 hs,.slice B bn bc] 39)) w.heap.size 39 [.bool rg,.int .i64 nn,.bool mnn,.int .i64 mni,.string mns,.bool mxn,.int .i64 mxi,.string mxs,.int .i64 hs,.slice B bn bc]):=hid (by unfold Row;rw[heap_alloc_new]);have QY:Hid ((w.alloc (.cells #[.bool rg,.int .i64 nn,.bool mnn,.int .i64 mni,.string mns,.bool mxn,.int .i64 mxi,.string mxs,.int .i64 hs,.slice B bn bc] 39)).heap.size=w.heap.size+1):=hid (by simp);obtain⟨RES,hRES⟩:∃ RES,[F]++RA++RB++RC=RES:=⟨_,rfl⟩;have JL:=hid hRES;rw[hRES];clear hRES;clear hk;obtain⟨f1,hf1⟩:∃ f1:Nat,(if rg=true then 1 else 0)=f1:=⟨_,rfl⟩;have Us:=hid hf1;rw[hf1]at ZA;clear hf1;go_enter Tryz.func43,Tryz.ntmps43;go_upto_region 1 with fail
 generalize w.alloc (.cells #[.bool rg,.int .i64 nn,.bool mnn,.int .i64 mni,.string mns,.bool mxn,.int .i64 mxi,.string mxs,.int .i64 hs,.slice B bn bc] 39)=w0 at *;obtain⟨a0,a1,a2,a3,a4,a5,a6,a7,a8,a9⟩:=Za5 Qj.out;go_upto_if 12 with fail
 go_cut [7]from 12 to 14 (fun s7 wc=>s7=.int .u8 (f1:Nat)∧wc=w0)
 case first =>
  cases rg
  ·have h:=Us.out;rw[if_neg (by decide)]at h;subst h;go_wp2_with fail
   go_meet;exact⟨rfl,rfl⟩
  ·have h:=Us.out;rw[if_pos rfl]at h;subst h;go_wp2_with fail
   go_meet;exact⟨rfl,rfl⟩
 case rest =>
 obtain⟨rfl,hw⟩:=hcut;replace hw:=hw.symm;subst hw;go_upto_if 18 with fail
 go_cut [7]from 15 to 20 (fun s7 wc=>s7=.int .u8 (F:Nat)∧wc=w0)
 case first =>
  by_cases h0:bn=0
  ·have h:=ZA.out;rw[if_pos h0,Nat.add_zero]at h;subst h;subst h0;go_wp2_with fail
   go_meet;exact⟨rfl,rfl⟩
  ·have h:=ZA.out;rw[if_neg h0]at h;have hf1:f1≤1:=by rw[← Us.out];split<;>omega
   have hwr:IntKind.u8.wrap ((f1:Int)+2)=((f1+2:Nat):Int):=by rw[IntKind.wrap_u8];omega
   have hgt:(bn:Int) > 0:=by omega
   rw[← h]at hwr;clear h;go_wp2_with fail
   go_meet;exact⟨rfl,rfl⟩
 case rest =>
 obtain⟨rfl,hw⟩:=hcut;replace hw:=hw.symm;subst hw;clear Us ZA;go_upto_region 7 with fail
 have Qx:Hid (ZSt w0.heap.size w0 (w0.alloc (.cells #[.int .u8 F] 5)) (.slice (some ⟨w0.heap.size,0,none⟩) 1 1) [F]):=hid ⟨by
  have h:Row (w0.alloc (.cells #[.int .u8 F] 5)) w0.heap.size 5 (u8s [F]):=by unfold Row;rw[heap_alloc_new];rfl
  exact h.owns (Nat.le_refl _) rfl (by unfold maxLen;decide),(Below.refl _ w0).alloc (Nat.le_refl _) _,by simp⟩
 clear a0 a1 a2 a3 a4 a5 a6 a7 a8 a9;generalize w0.alloc (.cells #[.int .u8 F] 5)=w2 at *;generalize hs0:w0.heap.size=g1 at *;have QV:=hid hs0;clear hs0;have HBL0:=hid (Q9.out.mono Ql.out);have Yo:=hid (fun(wc:World) (h:Below g1 w0 wc)=>Qj.out.mono (by rw[QV.out];exact h));have Qq:=hid (Yo.out w2 Qx.out.2.1);obtain⟨a0,a1,a2,a3,a4,a5,a6,a7,a8,a9⟩:=Za5 Qq.out;go_upto_if 24 with fail
 go_cut [8]from 24 to 42 (fun s8 wc=>Hid (ZSt g1 w0 wc s8 ([F]++RA++RB)))
 case first =>
  cases rg
  ·rw[if_neg (by decide)]at HA;rw[if_neg (by simp)]at HB;go_wp2_with fail
   go_meet;exact hid (by rw[HA.out,HB.out,List.append_nil,List.append_nil];exact Qx.out)
  ·rw[if_pos rfl]at HA;have hcv:IntKind.u64.wrap (nn:Int)=(nn:Int):=by rw[IntKind.wrap_u64];omega
   have Xo:=hid (Zcw g1 _ [F] nn 4 w2 Qx.out.1 Qx.out.2.2 (by omega) (by omega) (by simp));rw[← HA.out]at Xo;have VK:Hid (([F]++RA).length≤5):=hid (by rw[List.length_append];have:=Vx.out;simp;omega);obtain⟨b3,hb3⟩:∃ b3,[F]++RA=b3:=⟨_,rfl⟩;rw[hb3]at Xo VK;have Qk:=hid hb3;clear hb3;go_upto_region 9 with (go_at_call 75;refine Xo.out.mono ?_;rintro e w3 ⟨r1,rfl,o1,b1,z1,k1⟩;obtain⟨A2,c2,rfl,_⟩:=Zaj o1;have Y0:=hid (Qx.out.step o1 b1 z1);clear o1 b1 z1 k1)
   have Qf:=hid (Yo.out w3 Y0.out.2.1);clear a0 a1 a2 a3 a4 a5 a6 a7 a8 a9 Xo Qx;obtain⟨a0,a1,a2,a3,a4,a5,a6,a7,a8,a9⟩:=Za5 Qf.out;by_cases he:(nn:Int)=rows
   ·rw[if_neg (fun h=>h.2 he)]at HB;subst he;go_wp2_with fail
    go_meet;exact hid (by rw[Qk.out,HB.out,List.append_nil];exact Y0.out)
   ·have heb:((nn:Int) != rows)=true:=by simp[he]
    have hB:=HB.out;replace hB:RB=R1++R2:=by simpa [he]using hB
    replace HB:=hid hB;clear hB;obtain⟨z1,z2⟩:=Zl.out (by simpa using he);have QW:Hid ((b3++R1).length≤1099511627776):=hid (by
     have:=Ux.out;rw[HB.out,List.length_append]at this;have:=VK.out;rw[List.length_append];omega)
    have Vc:=hid (fun(v:Value) (w2:World) (h:OwnB g1 w2 v b3) (hb:g1≤w2.heap.size)=>YE.out g1 v b3 w2 h hb (by omega) (by have:=VK.out;omega));have J7:=hid (fun(v:Value) (w2:World) (h:OwnB g1 w2 v (b3++R1)) (hb:g1≤w2.heap.size)=>YF.out g1 v (b3++R1) w2 h hb (by omega) QW.out);have Xq:Hid (b3++RB=b3++R1++R2):=hid (by rw[HB.out,← List.append_assoc]);clear QW;obtain⟨b4,hb4⟩:∃ b4,b3++R1=b4:=⟨_,rfl⟩;rw[hb4]at Vc J7 Xq;obtain⟨b5,hb5⟩:∃ b5,b4++R2=b5:=⟨_,rfl⟩;rw[hb5]at J7 Xq;clear hb4 hb5 YE YF;have X0:Hid (ZSt g1 w0 w3.drew (.slice A2 b3.length c2) b3):=hid ⟨Y0.out.1,Y0.out.2.1.trans (Go.below_drewN (Below.refl g1 w3) 1),Y0.out.2.2⟩;go_upto_region 10 with fail
    go_region_held3 (fun w'=>w'.cell? ⟨w.heap.size,2,none⟩=some (.bool mnn)∧w'.cell? ⟨w.heap.size,3,none⟩=some (.int .i64 mni)∧w'.cell? ⟨w.heap.size,4,none⟩=some (.string mns)∧w'.cell? ⟨w.heap.size,5,none⟩=some (.bool mxn)∧w'.cell? ⟨w.heap.size,6,none⟩=some (.int .i64 mxi)∧w'.cell? ⟨w.heap.size,7,none⟩=some (.string mxs)) (first | exact⟨a2,a3,a4,a5,a6,a7⟩ | exact⟨d2,d3,d4,d5,d6,d7⟩ | exact⟨e2,e3,e4,e5,e6,e7⟩)
     (first
      | (go_at_call_of 76 (Value.agg #[.bool mnn,.int .i64 mni,.string mns]);refine(Vc.out _ w3.drew X0.out.1 X0.out.2.2).mono ?_;rintro e w4 ⟨r1,rfl,o1,b1,z1',k1⟩;obtain⟨A4,c4,rfl⟩:=o1.form;have YY:=hid (X0.out.step o1 b1 z1');have Xr:=hid (Yo.out w4 YY.out.2.1);clear o1 b1 z1' k1;obtain⟨d0,d1,d2,d3,d4,d5,d6,d7,d8,d9⟩:=Za5 Xr.out)
      | (go_at_call 76;refine(J7.out _ w4 YY.out.1 YY.out.2.2).mono ?_;rintro e w5 ⟨r1,rfl,o1,b1,z1',k1⟩;obtain⟨A5,c5,rfl⟩:=o1.form;have Y8:=hid (YY.out.step o1 b1 z1');have JZ:=hid (Yo.out w5 Y8.out.2.1);clear o1 b1 z1' k1;obtain⟨e0,e1,e2,e3,e4,e5,e6,e7,e8,e9⟩:=Za5 JZ.out))
    go_wp2_with fail
    go_meet;exact hid (by rw[Qk.out,Xq.out];exact Y8.out)
 case rest =>
 obtain⟨A6,c6,hf6⟩:=hcut.1.form;subst hf6;have Yw:=hid hcut;clear hcut Qx Qq a0 a1 a2 a3 a4 a5 a6 a7 a8 a9 Zl YE YF;generalize wc=w6 at *;have Vb:=hid (Yo.out w6 Yw.out.2.1);have Uy:Hid (([F]++RA++RB).length≤9000):=hid (by rw[List.length_append,List.length_append];have:=Ux.out;have:=Vx.out;simp;omega);obtain⟨b6,hb6⟩:∃ b6,[F]++RA++RB=b6:=⟨_,rfl⟩;rw[hb6]at Yw Uy ⊢;have HE6:Hid (RES=b6++RC):=hid (by rw[← JL.out,hb6]);clear hb6;obtain⟨a0,a1,a2,a3,a4,a5,a6,a7,a8,a9⟩:=Za5 Vb.out;obtain⟨m6,hm6⟩:∃ m6,b6.length=m6:=⟨_,rfl⟩;rw[hm6]at Uy ⊢;have Y6:Hid (ZSt g1 w0 w6 (.slice A6 m6 c6) b6):=hid (by rw[← hm6];exact Yw.out);have HM6:=hid hm6;clear hm6 Yw;have hgw:w.heap.size+1=g1:=QY.out.symm;have Vd:=hid hgw;clear hgw;by_cases hb0:bn=0
 ·have hbl0:bl=[]:=List.length_eq_zero_iff.1 (by rw[Yc.out];exact hb0);rw[if_pos hbl0]at HC;subst hb0;clear hbl0;go_wp2_with fail
  go_ret;refine⟨_,rfl,by rw[HE6.out,HC.out,List.append_nil,Vd.out];exact Y6.out.1,?_⟩;exact Ql.out.trans (Y6.out.2.1.mono (by have:=Vd.out;omega))
 ·have hbl0:bl≠[]:=fun h=>hb0 (by rw[← Yc.out,h];rfl)
  rw[if_neg hbl0]at HC;obtain⟨f1',f2',f3'⟩:bl.length≤64∧1≤hs∧hs≤8:=by
   rcases Uw.out with h | h
   ·exact absurd h.1 hbl0
   ·exact h.2
  rw[Yc.out]at f1';clear hbl0 Uw;obtain⟨hn,rfl⟩:=Int.eq_ofNat_of_zero_le (show 0≤hs by omega);rw[Int.toNat_natCast]at HC;have hgt:(bn:Int) > 0:=by omega
  have hwr:IntKind.u64.wrap (hn:Int)=(hn:Int):=by rw[IntKind.wrap_u64];omega
  have hwb:IntKind.u64.wrap (bn:Int)=(bn:Int):=by rw[IntKind.wrap_u64];omega
  have e1:leN 1 hn=[hn]:=by
   unfold leN;simp;omega
  have HE7:Hid (b6++RC=b6++leN 1 hn++leN 4 bn++le8 bl):=hid (by rw[HC.out,e1];simp[List.append_assoc]);have HP7:=hid (Zcw g1 _ b6 hn 1 w6 Y6.out.1 Y6.out.2.2 (by omega) (by omega) (by rw[HM6.out];have:=Uy.out;omega));obtain⟨b7,hb7⟩:∃ b7,b6++leN 1 hn=b7:=⟨_,rfl⟩;have VL:Hid (b7.length≤9001):=hid (by rw[← hb7,List.length_append,Zak,HM6.out];have:=Uy.out;omega);rw[hb7]at HP7 HE7;have HP8:=hid (fun(v:Value) (w2:World) (h:OwnB g1 w2 v b7) (hb:g1≤w2.heap.size)=>Zcw g1 v b7 bn 4 w2 h hb (by omega) (by omega) (by have:=VL.out;omega));obtain⟨b8,hb8⟩:∃ b8,b7++leN 4 bn=b8:=⟨_,rfl⟩;have HL8:Hid (b8.length≤9005):=hid (by rw[← hb8,List.length_append,Zak];have:=VL.out;omega);rw[hb8]at HP8 HE7;clear hb7 hb8 e1 VL;go_upto_region 14 with (first
   | (go_at_call_of 75 (Value.int IntKind.i64 1);refine HP7.out.mono ?_;rintro e w7 ⟨r1,rfl,o1,b1,z1',k1⟩;obtain⟨A7,c7,rfl,_⟩:=Zaj o1;have Z4:=hid (Y6.out.step o1 b1 z1');have Jl:=hid (Yo.out w7 Z4.out.2.1);clear o1 b1 z1' k1;obtain⟨d0,d1,d2,d3,d4,d5,d6,d7,d8,d9⟩:=Za5 Jl.out)
   | (go_at_call 75;refine(HP8.out _ w7 Z4.out.1 Z4.out.2.2).mono ?_;rintro e w8 ⟨r1,rfl,o1,b1,z1',k1⟩;obtain⟨A8,c8,rfl,_⟩:=Zaj o1;have Z9:=hid (Z4.out.step o1 b1 z1');have Zb:=hid (Yo.out w8 Z9.out.2.1);clear o1 b1 z1' k1;obtain⟨e0,e1,e2,e3,e4,e5,e6,e7,e8,e9⟩:=Za5 Zb.out))
  go_upto_region 15 with fail
  clear a0 a1 a2 a3 a4 a5 a6 a7 a8 a9 d0 d1 d2 d3 d4 d5 d6 d7 d8 d9 e0 e1 e2 e3 e4 e5 e6 e7 e8 e9 Vb Jl Zb Z4 Y6 HP7 HP8 hwr hwb hgt;obtain⟨m8,hm8⟩:∃ m8,b8.length=m8:=⟨_,rfl⟩;rw[hm8];have HO8':Hid (ZSt g1 w0 w8 (.slice A8 m8 c8) b8):=hid (by rw[← hm8];exact Z9.out);clear Z9;rw[hm8]at HL8;have HM8:=hid hm8;clear hm8;go_loopw [8,61] (fun s i wr=>∃ t:Nat,t≤bn∧i=.int .i64 t∧Hid (ZSt g1 w0 wr s (b8++le8 (bl.take t)))) (fun _ i _=>bn-(intOf i).toNat)
  case atStart=>exact⟨0,by omega,rfl,hid (by rw[List.take_zero];show ZSt g1 w0 w8 (.slice A8 m8 c8) (b8++[]);rw[List.append_nil];exact HO8'.out)⟩
  case round =>
   obtain⟨t,ht,rfl,HS⟩:=hrel;have Yl:Hid ((b8++le8 (bl.take t)).length≤9600):=hid (by rw[List.length_append,Zl7,List.length_take];have:=HL8.out;have:=HM8.out;omega);have YA:Hid (t<bn→b8++le8 (bl.take (t+1))=b8++le8 (bl.take t)++leN 8 (bl.getD t 0)):=hid (fun h=>by
    rw[List.take_succ_eq_append_getElem (by rw[Yc.out];exact h),Zt9,← List.append_assoc];simp[List.getD,show t<bl.length by rw[Yc.out];exact h])
   have VN:Hid (t=bn→b8++le8 (bl.take t)=RES):=hid (fun h=>by rw[List.take_of_length_le (by rw[Yc.out,h];exact Nat.le_refl _),HE6.out,HE7.out]);obtain⟨bt,hbt⟩:∃ bt,b8++le8 (bl.take t)=bt:=⟨_,rfl⟩;rw[hbt]at HS Yl YA VN;clear hbt;obtain⟨At,ct,rfl⟩:=HS.out.1.form;obtain⟨mt,hmt⟩:∃ mt,bt.length=mt:=⟨_,rfl⟩;rw[hmt];have HS':Hid (ZSt g1 w0 wr (.slice At mt ct) bt):=hid (by rw[← hmt];exact HS.out);rw[hmt]at Yl;have HMT:=hid hmt;clear HS hmt;by_cases hlt:t<bn
   ·obtain⟨b,o,rfl,hseg⟩:=(HBL0.out.mono (by rw[QV.out];exact HS'.out.2.1)).at (by omega);have l0:=hseg.word t (by rw[Yc.out];exact hlt);have hx:bl.getD t 0<18446744073709551616:=by
     refine HV.out _ ?_;simp[List.getD,show t<bl.length by rw[Yc.out];exact hlt]
    have hnx:=YA.out hlt;have HP:=hid (Zcw g1 _ bt (bl.getD t 0) 8 wr HS'.out.1 HS'.out.2.2 hx (by omega) (by rw[HMT.out];have:=Yl.out;omega));rw[← hnx]at HP;clear hseg hnx;generalize bl.getD t 0=x at *;obtain⟨bu,hbu⟩:∃ bu,b8++le8 (bl.take (t+1))=bu:=⟨_,rfl⟩;have Qi:=hid hbu;rw[hbu]at HP;clear hbu;go_wp2_with (go_at_call 75;refine HP.out.mono ?_;rintro e w9 ⟨r1,rfl,o1,b1,z1',k1⟩;obtain⟨A9,c9,rfl,_⟩:=Zaj o1;have Zm:=hid (HS'.out.step o1 b1 z1');clear o1 b1 z1' k1)
    go_roundw
    case rel=>exact⟨t+1,by omega,by go_num,hid (by rw[Qi.out];exact Zm.out)⟩
    case measure=>simp[intOf];omega
   ·obtain rfl:t=bn:=by omega
    have hf:=VN.out rfl;go_wp2_with fail
    go_ret;exact⟨_,rfl,by rw[← hf,Vd.out];exact HS'.out.1,Ql.out.trans (HS'.out.2.1.mono (by have:=Vd.out;omega))⟩
def nAt (size p:Nat) (xs:List Nat):Nat:=if Zb9 size p xs.length=true then L.wordOf 8 ((xs.drop p).take size)else 0
def vaOk (k:Int) (p:Nat) (xs:List Nat):Bool:=if k=1 then Zb9 8 p xs.length else Zb9 4 p xs.length&&decide ((nAt 4 p xs:Int)≤(xs.length:Int)-p-4)
def vaC (k:Int) (p:Nat) (xs:List Nat):C3:=if k=1 then ⟨false,Zcf (nAt 8 p xs),ByteArray.empty⟩else if vaOk k p xs=true then ⟨false,0,Zat ((xs.drop (p+4)).take (nAt 4 p xs))⟩else C3.df
def vaN (k:Int) (p:Nat) (xs:List Nat):Nat:=if k=1 then p+8 else if vaOk k p xs=true then p+4+nAt 4 p xs else 0
theorem Zdt {p:Nat} {xs:List Nat} (h:∀ x∈xs,x<256):nAt 4 p xs<4294967296:=by
 unfold nAt
 split
 ·exact Zb2 _ (Zg3 h _ _) (Zgy xs _ _)
 ·omega
theorem Zzz {p:Nat} {xs:List Nat} (h:∀ x∈xs,x<256):nAt 8 p xs<18446744073709551616:=by
 unfold nAt
 split
 ·exact Zfz _ (Zg3 h _ _) (Zgy xs _ _)
 ·omega
theorem Zsz {size p n:Nat} {xs t:List Nat} (hd:xs.drop p=leN size n++t) (hp:p≤xs.length) (hn:n<2^(8*size)):Zb9 size p xs.length=true∧nAt size p xs=n:=by
 have hl:(xs.drop p).length=size+t.length:=by rw[hd,List.length_append,Zak]
 rw[List.length_drop]at hl;have ho:Zb9 size p xs.length=true:=by unfold Zb9;exact decide_eq_true ⟨hp,by omega⟩
 refine⟨ho,?_⟩;unfold nAt;rw[if_pos ho,hd,List.take_left' (Zak size n),Zdf hn]
theorem Zir {p:Nat} {xs a t:List Nat} (hd:xs.drop p=a++t):xs.drop (p+a.length)=t:=by
 rw[← List.drop_drop,hd,List.drop_left]
theorem Zzg {k:Int} {p:Nat} {xs t:List Nat} {c:C3} (hk:Za3 k=true) (hc:Zdx k c=true) (hi:okI c.i) (hd:xs.drop p=Zb3 k c++t) (hp:p≤xs.length):vaOk k p xs=true∧vaC k p xs=c∧vaN k p xs=p+(Zb3 k c).length:=by
 obtain⟨n,i,s⟩:=c;unfold Zdx at hc;rw[Bool.and_eq_true,Bool.not_eq_true']at hc;obtain⟨h1,h2⟩:=hc;simp only at h1 hi;subst h1;unfold ofK at h2;simp only[Bool.false_eq_true,if_false]at h2;by_cases h0:k=2
 ·subst h0;rw[if_neg (by decide),decide_eq_true_eq]at h2;obtain⟨_,rfl,hs⟩:=h2;have eb:Zb3 2 (⟨false,0,s⟩:C3)=leN 4 s.size++sbs s:=rfl;rw[eb,List.append_assoc]at hd;obtain⟨o1,o2⟩:=Zsz hd hp (show s.size<2^(8*4) by rw[p32];omega);have hd4:=Zir hd;rw[Zak]at hd4;have hl4:(xs.drop (p+4)).length=s.size+t.length:=by rw[hd4,List.length_append,Zca]
  rw[List.length_drop]at hl4;have hp4:p+4≤xs.length:=by
   unfold Zb9 at o1;have:=of_decide_eq_true o1;omega
  have hok:vaOk 2 p xs=true:=by
   unfold vaOk;rw[if_neg (by decide),o1,Bool.true_and,o2];exact decide_eq_true (by omega)
  refine⟨hok,?_,?_⟩
  ·unfold vaC;rw[if_neg (by decide),if_pos hok,o2,hd4,List.take_left' (Zca s),Zld]
  ·unfold vaN;rw[if_neg (by decide),if_pos hok,o2,eb,List.length_append,Zak,Zca];omega
 ·have hk1:k=1:=by
   unfold Za3 at hk;rw[decide_eq_true_eq]at hk;omega
  subst hk1;rw[if_pos rfl]at h2;have hse:=Zfg h2;subst hse;have eb:Zb3 1 (⟨false,i,ByteArray.empty⟩:C3)=leN 8 (toU i):=rfl;rw[eb]at hd ⊢;obtain⟨o1,o2⟩:=Zsz hd hp (show toU i<2^(8*8) by rw[p64];exact Zmw i);unfold okI at hi;refine⟨by unfold vaOk;rw[if_pos rfl,o1],by unfold vaC;rw[if_pos rfl,o2,Zpg (by omega)],by unfold vaN;rw[if_pos rfl,Zak]⟩
set_option maxHeartbeats 2000000 in
theorem Zs2 (v:Value) (xs:List Nat) (p:Nat) (k:Int) (w:World) (hv:Rd w v xs.length 1 (u8s xs)) (hb:∀ x∈xs,x<256) (hl:xs.length≤16777216) (hp:p≤33554432) :
  Calls Tryz.prog 134 #[v,.int .i64 p,.int .i64 k] w fun e w'=>e=.returned (.tuple #[(vaC k p xs).v,.int .i64 (vaN k p xs:Nat),.bool (vaOk k p xs)])∧Below w.heap.size w w':=by
 have Qj:Hid (Row (w.alloc (.cells #[.bool false,.int .i64 0,.string ⟨#[]⟩] 36)) w.heap.size 36 [.bool false,.int .i64 0,.string ⟨#[]⟩]):=hid (by unfold Row;rw[heap_alloc_new]);have Ql:=hid ((Zab w).alloc (Nat.le_refl _) (.cells #[.bool false,.int .i64 0,.string ⟨#[]⟩] 36));have HV0:=hid (hv.mono Ql.out);have HX:=hid (And.intro hb hl);obtain⟨A,ca,rfl,hlc,hcm,_⟩:=hv.form;unfold maxLen at hcm;clear hv hb;obtain⟨C,hC⟩:∃ C,vaC k p xs=C:=⟨_,rfl⟩;obtain⟨N,hN⟩:∃ N,vaN k p xs=N:=⟨_,rfl⟩;obtain⟨O,hO⟩:∃ O,vaOk k p xs=O:=⟨_,rfl⟩;rw[hC,hN,hO];unfold vaC at hC;unfold vaN at hN;rw[hO]at hC hN;unfold vaOk at hO;by_cases h1:k=1
 ·subst h1;rw[if_pos rfl]at hC hN hO;have HN:=hid (fun w2 (h:Rd w2 (.slice A xs.length ca) xs.length 1 (u8s xs))=>Zct _ xs p 8 w2 h HX.out.1 HX.out.2 (by omega) (by omega));have hnl:=Zzz (p:=p) HX.out.1;unfold nAt at hC hnl;rw[hO]at HN hC hnl;generalize (if O=true then L.wordOf 8 ((xs.drop p).take 8)else 0)=n at *;have HC:=hid hC;have hcv:IntKind.i64.wrap (n:Int)=Zcf n:=by rw[IntKind.wrap_i64];unfold Zcf wrap64;rfl
  have hnn:(p:Int)+8=(N:Int):=by omega
  clear hC hN hO HX;generalize xs.length=xn at *;generalize Zcf n=iv at *;go_enter Tryz.func134,Tryz.ntmps134;go_upto_region 1 with fail
  generalize w.alloc (.cells #[.bool false,.int .i64 0,.string ⟨#[]⟩] 36)=w1 at *;obtain⟨z0,z1,z2⟩:=Zeq Qj.out;have f0:=Qj.out.frozen 0;have f1:=Qj.out.frozen 1;have f2:=Qj.out.frozen 2;go_wp2_with (go_at_call 91;refine(HN.out w1 HV0.out).mono ?_;rintro e w2 ⟨rfl,hw⟩;replace hw:=hw.symm;subst hw)
  change bodyPost _ _ _ _ _ (Zil w1 w.heap.size [.bool false,.int .i64 iv,.string ByteArray.empty])
  have R0:=Zf0 Qj.out (.bool false) (.int .i64 iv) (.string ByteArray.empty);have hbl:=Zd9 Ql.out w.heap.size (Nat.le_refl _) [.bool false,.int .i64 iv,.string ByteArray.empty];clear z0 z1 z2 f0 f1 f2;generalize Zil w1 w.heap.size [.bool false,.int .i64 iv,.string ByteArray.empty]=w4 at *;obtain⟨q0,q1,q2⟩:=Zeq R0;refine bodyPost_ret (v:=.tuple #[C.v,.int .i64 (N:Nat),.bool O]) ?_ rfl ⟨rfl,hbl⟩;rw[← HC.out];unfold C3.v;simp[results,Tryz.results134,go_sem,q0,q1,q2]
 ·rw[if_neg h1]at hC hN hO;have HN:=hid (fun w2 (h:Rd w2 (.slice A xs.length ca) xs.length 1 (u8s xs))=>Zct _ xs p 4 w2 h HX.out.1 HX.out.2 (by omega) (by omega));have hnl:=Zdt (p:=p) HX.out.1;have JI:Hid (nAt 4 p xs=if Zb9 4 p xs.length=true then L.wordOf 8 ((xs.drop p).take 4)else 0):=hid rfl;rw[← JI.out]at HN;obtain⟨o4,ho4⟩:∃ o4,Zb9 4 p xs.length=o4:=⟨_,rfl⟩;have YY:Hid (o4=true→p+4≤xs.length):=hid (fun h=>by
   rw[h]at ho4;unfold Zb9 at ho4;have:=of_decide_eq_true ho4;omega)
  rw[ho4]at HN hO;clear ho4;generalize nAt 4 p xs=n at *;clear JI;have hcn:IntKind.i64.wrap (n:Int)=(n:Int):=by rw[IntKind.wrap_i64];omega
  have Xb:Hid (Rd (w.alloc (.cells #[.bool false,.int .i64 0,.string ⟨#[]⟩] 36)) (.slice A xs.length ca) xs.length 1 (u8s xs)):=HV0;obtain⟨xn,hxn⟩:∃ xn,xs.length=xn:=⟨_,rfl⟩;have Uz:=hid hxn;rw[hxn]at hO HN HV0 YY hlc hl ⊢;clear hxn;cases O
  ·rw[if_neg (by decide)]at hC hN;subst hC hN;go_enter Tryz.func134,Tryz.ntmps134;go_upto_region 1 with fail
   generalize w.alloc (.cells #[.bool false,.int .i64 0,.string ⟨#[]⟩] 36)=w1 at *;obtain⟨z0,z1,z2⟩:=Zeq Qj.out;have f0:=Qj.out.frozen 0;have f1:=Qj.out.frozen 1;have f2:=Qj.out.frozen 2;go_upto_region 5 with (go_at_call 91;refine(HN.out w1 HV0.out).mono ?_;rintro e w2 ⟨rfl,hw⟩;replace hw:=hw.symm;subst hw)
   go_cut [45]from 34 to 44 (fun s45 wc=>s45=.bool true∧wc=w1)
   case first =>
    cases o4
    ·go_wp2_with fail
     go_meet;exact⟨rfl,rfl⟩
    ·have hgt:(n:Int) > (xn:Int)-(p:Int)-4:=by
      rw[Bool.true_and]at hO;have:=of_decide_eq_false hO;omega
     go_wp2_with fail
     go_meet;exact⟨rfl,rfl⟩
   case rest =>
   obtain⟨rfl,hw⟩:=hcut;replace hw:=hw.symm;subst hw;go_wp2_with fail
   change bodyPost _ _ _ _ _ (Zil w1 w.heap.size [.bool false,.int .i64 0,.string ⟨#[]⟩])
   have R0:=Zf0 Qj.out (.bool false) (.int .i64 0) (.string ⟨#[]⟩);have hbl:=Zd9 Ql.out w.heap.size (Nat.le_refl _) [.bool false,.int .i64 0,.string ⟨#[]⟩];clear z0 z1 z2 f0 f1 f2;generalize Zil w1 w.heap.size [.bool false,.int .i64 0,.string ⟨#[]⟩]=w4 at *;obtain⟨q0,q1,q2⟩:=Zeq R0;refine bodyPost_ret (v:=.tuple #[C3.df.v,.int .i64 0,.bool false]) ?_ rfl ⟨rfl,hbl⟩;unfold C3.v C3.df;simp[results,Tryz.results134,go_sem,q0,q1,q2];rfl
  ·rw[Bool.and_eq_true,decide_eq_true_eq]at hO;obtain⟨ho4,hle⟩:=hO;subst ho4;have hp4:=YY.out rfl;rw[if_pos rfl]at hC hN;obtain⟨q,hq⟩:∃ q,p+4=q:=⟨_,rfl⟩;rw[hq]at hC hN hp4;have hqi:(p:Int)+4=(q:Int):=by omega
   have hqn:(q:Int)+(n:Int)=(N:Int):=by omega
   have hngt:¬ (n:Int) > (xn:Int)-(p:Int)-4:=by omega
   have hqN:(q:Int)≤(N:Int):=by omega
   have hNc:(N:Int)≤(ca:Int):=by omega
   have hNq:N-q=n:=by omega
   have HC:=hid hC;have HNQ:=hid hNq;by_cases hcq:ca=q
   ·have hn0:n=0:=by omega
    have hN0:N=ca:=by omega
    subst hcq;subst hN0;subst hn0;have hcv:=Zfc (xs:=[]) (show Rd (w.alloc (.cells #[.bool false,.int .i64 0,.string ⟨#[]⟩] 36)) (.slice A 0 0) ([]:List Nat).length 1 (u8s [])from Znd _ A);have JX:Hid (C=⟨false,0,Zat []⟩):=hid (by rw[HC.out.symm,List.take_zero]);clear hC hNq HNQ HC;generalize Zat []=sv at *;go_enter Tryz.func134,Tryz.ntmps134;go_upto_region 1 with fail
    generalize w.alloc (.cells #[.bool false,.int .i64 0,.string ⟨#[]⟩] 36)=w1 at *;obtain⟨z0,z1,z2⟩:=Zeq Qj.out;have f0:=Qj.out.frozen 0;have f1:=Qj.out.frozen 1;have f2:=Qj.out.frozen 2;go_wp2_with (go_at_call 91;refine(HN.out w1 HV0.out).mono ?_;rintro e w2 ⟨rfl,hw⟩;replace hw:=hw.symm;subst hw)
    change bodyPost _ _ _ _ _ (Zil w1 w.heap.size [.bool false,.int .i64 0,.string sv])
    have R0:=Zf0 Qj.out (.bool false) (.int .i64 0) (.string sv);have hbl:=Zd9 Ql.out w.heap.size (Nat.le_refl _) [.bool false,.int .i64 0,.string sv];clear z0 z1 z2 f0 f1 f2;generalize Zil w1 w.heap.size [.bool false,.int .i64 0,.string sv]=w4 at *;obtain⟨q0,q1,q2⟩:=Zeq R0;refine bodyPost_ret (v:=.tuple #[C.v,.int .i64 (N:Nat),.bool true]) ?_ rfl ⟨rfl,hbl⟩;rw[JX.out];unfold C3.v;simp[results,Tryz.results134,go_sem,q0,q1,q2]
   ·have hcv:=Zfc (((show Rd _ (.slice A xs.length ca) xs.length 1 (u8s xs)from Xb.out).rear q (by rw[Uz.out];omega) hcq).short (N-q) (by rw[List.length_drop,Uz.out];omega));have JX:Hid (C=⟨false,0,Zat ((xs.drop q).take (N-q))⟩):=hid (by rw[hNq];exact hC.symm);clear hC hNq;generalize Zat ((xs.drop q).take (N-q))=sv at *;go_enter Tryz.func134,Tryz.ntmps134;go_upto_region 1 with fail
    generalize w.alloc (.cells #[.bool false,.int .i64 0,.string ⟨#[]⟩] 36)=w1 at *;obtain⟨z0,z1,z2⟩:=Zeq Qj.out;have f0:=Qj.out.frozen 0;have f1:=Qj.out.frozen 1;have f2:=Qj.out.frozen 2;go_wp2_with (go_at_call 91;refine(HN.out w1 HV0.out).mono ?_;rintro e w2 ⟨rfl,hw⟩;replace hw:=hw.symm;subst hw)
    change bodyPost _ _ _ _ _ (Zil w1 w.heap.size [.bool false,.int .i64 0,.string sv])
    have R0:=Zf0 Qj.out (.bool false) (.int .i64 0) (.string sv);have hbl:=Zd9 Ql.out w.heap.size (Nat.le_refl _) [.bool false,.int .i64 0,.string sv];clear z0 z1 z2 f0 f1 f2;generalize Zil w1 w.heap.size [.bool false,.int .i64 0,.string sv]=w4 at *;obtain⟨q0,q1,q2⟩:=Zeq R0;refine bodyPost_ret (v:=.tuple #[C.v,.int .i64 (N:Nat),.bool true]) ?_ rfl ⟨rfl,hbl⟩;rw[JX.out];unfold C3.v;simp[results,Tryz.results134,go_sem,q0,q1,q2]
set_option maxRecDepth 20000
def rzF (xs:List Nat):Nat:=xs.getD 0 0
def rzR (xs:List Nat):Bool:=decide (rzF xs%2=1)
def rzN (xs:List Nat):Int:=if rzR xs=true then (nAt 4 1 xs:Nat)else 0
def rzP1 (xs:List Nat):Nat:=if rzR xs=true then 5 else 1
def rzD (rows:Int) (xs:List Nat):Bool:=rzR xs&&(Zb9 4 1 xs.length&&decide ((nAt 4 1 xs:Int)≠rows))
def rzQ (k:Int) (xs:List Nat):Nat:=vaN k 5 xs
def rzOk (k:Int) (xs:List Nat):Bool:=vaOk k 5 xs&&vaOk k (rzQ k xs) xs
def rzP2 (k rows:Int) (xs:List Nat):Nat:=if rzD rows xs=true then vaN k (rzQ k xs) xs else rzP1 xs
def rzB (k rows:Int) (xs:List Nat):Bool:=decide (2≤rzF xs)&&decide (rzP2 k rows xs<xs.length)
def Zow (k rows:Int) (xs:List Nat):Nat:=(xs.length-rzP2 k rows xs-5)/8
def rzBl (k rows:Int) (xs:List Nat):List Nat:=if rzB k rows xs=true∧Zau 8 (Zow k rows xs) (rzP2 k rows xs+5) xs.length=true then numL 8 (tk (8*Zow k rows xs) (xs.drop (rzP2 k rows xs+5)))else []
def rzHs (k rows:Int) (xs:List Nat):Int:=if rzB k rows xs=true then (xs.getD (rzP2 k rows xs) 0:Nat)else 0
def Zta (k rows:Int) (xs:List Nat):ZM :=
 ⟨rzR xs,rzN xs,if rzD rows xs=true then vaC k 5 xs else C3.df,if rzD rows xs=true then vaC k (rzQ k xs) xs else C3.df,rzHs k rows xs,rzBl k rows xs⟩
theorem Zv2 {k rows:Int} {z:ZM} (hk:Za3 k=true) (hr:0≤rows∧rows≤65536) (hz:Zjn z) (h:zOk k rows z=true) {xs:List Nat} (hx:zRec k rows z=xs) :
  xs≠[]∧(rzD rows xs=true→rzOk k xs=true)∧Zta k rows xs=z:=by
 obtain⟨hn0,hn1⟩:=Ztz hr h;have hne:xs≠[]:=by rw[← hx];unfold zRec;simp
 have hlen:1≤xs.length:=by
  rcases Nat.eq_zero_or_pos xs.length with h0 | h0
  ·exact absurd (List.length_eq_zero_iff.1 h0) hne
  ·exact h0
 have hF:rzF xs=Zdl z:=by unfold rzF;rw[← hx];unfold zRec;rfl
 have hd1:xs.drop 1=recA z++(recB k rows z++recC z):=by rw[← hx];unfold zRec;simp[List.append_assoc]
 have hR:rzR xs=z.rg:=by
  unfold rzR;rw[hF];have:=Zm9 z;cases hc:z.rg
  ·rw[hc]at this;exact decide_eq_false (fun e=>by simpa using this.1 e)
  ·exact decide_eq_true (this.2 hc)
 have hA:z.rg=true→Zb9 4 1 xs.length=true∧nAt 4 1 xs=z.nu.toNat:=fun hc=>by
  have eA:recA z=leN 4 z.nu.toNat:=by unfold recA;rw[if_pos hc]
  rw[eA]at hd1;exact Zsz hd1 hlen (by rw[p32];omega)
 have hN:rzN xs=z.nu:=by
  unfold rzN;rw[hR];cases hc:z.rg
  ·rw[if_neg (by decide),Ztj h hc]
  ·rw[if_pos rfl,(hA hc).2];omega
 have hP1:xs.drop (rzP1 xs)=recB k rows z++recC z∧rzP1 xs≤xs.length:=by
  unfold rzP1;rw[hR];cases hc:z.rg
  ·have eA:recA z=[]:=by unfold recA;rw[hc];rfl
   rw[eA,List.nil_append]at hd1;exact⟨hd1,hlen⟩
  ·have eA:recA z=leN 4 z.nu.toNat:=by unfold recA;rw[if_pos hc]
   rw[eA]at hd1;have:=Zir hd1;rw[Zak]at this;refine⟨this,?_⟩;have ho:=(hA hc).1;unfold Zb9 at ho;have:=of_decide_eq_true ho;rw[if_pos rfl];omega
 have hD:rzD rows xs=decide (z.rg=true∧z.nu≠rows):=by
  unfold rzD;rw[hR];cases hc:z.rg
  ·simp
  ·obtain⟨h1,h2⟩:=hA hc;rw[h1,h2,Int.toNat_of_nonneg hn0];simp
 have hmid:(rzD rows xs=true→rzOk k xs=true)∧(if rzD rows xs=true then vaC k 5 xs else C3.df)=z.mn∧(if rzD rows xs=true then vaC k (rzQ k xs) xs else C3.df)=z.mx∧xs.drop (rzP2 k rows xs)=recC z∧rzP2 k rows xs≤xs.length:=by
  unfold rzP2;rw[hD];rcases Zmv h with ⟨h1,h2,h3,h4⟩ | ⟨h1,h2,h3⟩
  ·have hc:z.rg=true∧z.nu≠rows:=⟨h1,h2⟩;have eB:recB k rows z=Zb3 k z.mn++Zb3 k z.mx:=by unfold recB;rw[if_pos hc]
   have e5:rzP1 xs=5:=by unfold rzP1;rw[hR,h1];rfl
   rw[e5,eB,List.append_assoc]at hP1;obtain⟨v1,v2,v3⟩:=Zzg hk h3 hz.1 hP1.1 hP1.2;have hd2:=Zir hP1.1;rw[← v3]at hd2;have hl2:(xs.drop 5).length=(Zb3 k z.mn).length+((Zb3 k z.mx).length+(recC z).length):=by rw[hP1.1,List.length_append,List.length_append]
   rw[List.length_drop]at hl2;have hq:rzQ k xs=vaN k 5 xs:=rfl;rw[← hq]at hd2 v3;have hql:rzQ k xs≤xs.length:=by have:=hP1.2;omega
   obtain⟨w1,w2,w3⟩:=Zzg hk h4 hz.2.1 hd2 hql;have hd3:=Zir hd2;rw[← w3]at hd3;rw[decide_eq_true hc,if_pos rfl,if_pos rfl,if_pos rfl];have h5:=hP1.2;refine⟨fun _=>by unfold rzOk;rw[v1,w1];rfl,v2,w2,hd3,by omega⟩
  ·have eB:recB k rows z=[]:=by unfold recB;rw[if_neg h1]
   rw[eB,List.nil_append]at hP1;rw[decide_eq_false h1,if_neg (by decide),if_neg (by decide),if_neg (by decide),h2,h3];exact⟨fun h=>by simp at h,rfl,rfl,hP1.1,hP1.2⟩
 obtain⟨hm1,hm2,hm3,hm4,hm5⟩:=hmid;have hlC:(recC z).length=xs.length-rzP2 k rows xs:=by rw[← hm4,List.length_drop]
 refine⟨hne,hm1,?_⟩;unfold Zta;rw[hm2,hm3,hR,hN];rcases Zfq h with ⟨h1,h2⟩ | ⟨h1,h2,h3,h4⟩
 ·have hB:rzB k rows xs=false:=by
   unfold rzB;rw[hF,decide_eq_false (fun e=>(Zpc z).1 e h1)];rfl
  have e1:rzHs k rows xs=0:=by unfold rzHs;rw[hB];rfl
  have e2:rzBl k rows xs=[]:=by unfold rzBl;rw[if_neg (by rw[hB];simp)]
  rw[e1,e2];obtain⟨a,b,c,d,e,f⟩:=z;simp only at h1 h2;rw[h1,h2]
 ·have eC:recC z=[z.hs.toNat]++leN 4 z.bl.length++le8 z.bl:=by unfold recC;rw[if_neg h1]
  have hC5:(recC z).length=5+8*z.bl.length:=by rw[eC,List.length_append,List.length_append,Zak,Zl7];simp
  have hB:rzB k rows xs=true:=by
   unfold rzB;rw[hF,decide_eq_true ((Zpc z).2 h1),decide_eq_true (by omega)];rfl
  have hcnt:Zow k rows xs=z.bl.length:=by unfold Zow;omega
  have hno:Zau 8 (Zow k rows xs) (rzP2 k rows xs+5) xs.length=true:=by
   unfold Zau;rw[hcnt];exact decide_eq_true (by omega)
  have hg:xs.getD (rzP2 k rows xs) 0=z.hs.toNat:=by
   have:xs.getD (rzP2 k rows xs) 0=(xs.drop (rzP2 k rows xs)).getD 0 0:=by simp[List.getD,List.getElem?_drop]
   rw[this,hm4,eC];rfl
  have hd5:xs.drop (rzP2 k rows xs+5)=le8 z.bl:=by
   rw[← List.drop_drop,hm4,eC];have:([z.hs.toNat]++leN 4 z.bl.length).length=5:=by rw[List.length_append,Zak];rfl
   rw[← this,List.drop_left]
  have e1:rzHs k rows xs=z.hs:=by unfold rzHs;rw[if_pos hB,hg,Int.toNat_of_nonneg (by omega)]
  have e2:rzBl k rows xs=z.bl:=by
   unfold rzBl;rw[if_pos ⟨hB,hno⟩,hcnt,hd5];have ht:tk (8*z.bl.length) (le8 z.bl)=le8 z.bl:=by
    have:=Zhx (8*z.bl.length) (le8 z.bl) [] (Zl7 _)
    rwa [List.append_nil]at this
   have e8:le8 z.bl=z.bl.flatMap (leN 8):=rfl;rw[ht,e8,Zp5 8 (by decide) _ (fun x hx=>by rw[p64];exact hz.2.2 x hx)]
  rw[e1,e2]
end Go.Proofs.YtmcjknjlihgihaaGreatDoor
