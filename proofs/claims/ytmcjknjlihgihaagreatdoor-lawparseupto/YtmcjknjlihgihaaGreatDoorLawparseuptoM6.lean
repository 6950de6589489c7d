/- What comparing a word of lanes sets, as plain mathematics. -/
import Derived.Test.YtmcjknjlihgihaaGreatDoorLawparseuptoM5
set_option linter.unusedVariables false
set_option linter.unusedSimpArgs false
set_option linter.unnecessarySimpa false
set_option maxRecDepth 200000
namespace Go.Proofs.YtmcjknjlihgihaaGreatDoor
open Go.RowKit
theorem Zia (es fs:List Int):∀ a,Zay a (es++fs)=(Zay a es).bind fun l=>Zay l fs:=by
 induction es with
 | nil=>intro a;simp[Zay]
 | cons e r ih =>
         intro a;simp only[List.cons_append,Zay];split
         ·rfl
         ·exact ih e
theorem Ze1 (es:List Int):∀ a l,Zay a es=some l→a≤l:=by
 induction es with
 | nil=>intro a l h;simp[Zay]at h;omega
 | cons e r ih =>
         intro a l h;simp only[Zay]at h;split at h
         ·cases h
         ·have:=ih e l h;omega
theorem Zr9 (es:List Int):∀ a l,Zay a es=some l→l=a∨l∈es:=by
 induction es with
 | nil=>intro a l h;simp[Zay]at h;exact .inl h.symm
 | cons e r ih =>
         intro a l h;simp only[Zay]at h;split at h
         ·cases h
         ·rcases ih e l h with h1 | h1
          ·subst h1;exact .inr (by simp)
          ·exact .inr (by simp[h1])
def cutS (a:Int) (t:List Nat):List Int→List ByteArray
 | []=>[]
 | e :: r=>Zat ((t.drop a.toNat).take (e-a).toNat) :: cutS e t r
theorem Zd0 (t:List Nat) (es:List Int):∀ a,(cutS a t es).length=es.length:=by
 induction es with
 | nil=>intro a;rfl
 | cons e r ih=>intro a;simp[cutS,ih]
theorem Zqq (t:List Nat) (es:List Int):∀(a e l:Int),Zay a es=some l→cutS a t (es++[e])=cutS a t es++[Zat ((t.drop l.toNat).take (e-l).toNat)]:=by
 induction es with
 | nil=>intro a e l h;simp[Zay]at h;subst h;simp[cutS]
 | cons x r ih =>
         intro a e l h;simp only[Zay]at h;split at h
         ·cases h
         ·simp only[List.cons_append,cutS];rw[ih x e l h]
def rdS (c:Nat) (xs:List Nat) (s:Bool):List ByteArray×Bool×List Nat×Bool :=
 let ends:=nI (numL 4 (tk (4*c) xs))
 match Zay 0 ends with
 | none=>([],false,tkL (4*c) xs,tkS (4*c) xs s)
 | some sz =>
  if tkS sz.toNat (tkL (4*c) xs) (tkS (4*c) xs s)=true then ([],false,tkL sz.toNat (tkL (4*c) xs),true)
  else (cutS 0 (tk sz.toNat (tkL (4*c) xs)) ends,true,tkL sz.toNat (tkL (4*c) xs),false)
theorem Zbn (n:Nat) (xs:List Nat):(tkL n xs).length≤xs.length:=by unfold tkL;split<;>simp
theorem Zau {n:Nat} {xs:List Nat} {B:Nat} (h:∀ x∈xs,x<B):∀ x∈tkL n xs,x<B:=by
 intro x hx;unfold tkL at hx;split at hx
 ·exact h x (List.mem_of_mem_drop hx)
 ·cases hx
theorem Tryz.infoStr:(Tryz.prog.info? 9).map (fun i=>(i.zero,i.size,i.bytes))=some (some (.string ByteArray.empty),1,16):=by kernel_rfl
set_option maxHeartbeats 4000000 in
theorem Zgq (w0 w:World) (g:Nat) (xs:List Nat) (s:Bool) (c:Nat) (h:Zaq w0 w g xs s) (hgs:g<w.heap.size) (hv:∀ x∈xs,x<256) (hl:xs.length≤16777216) (hc:c≤4294967296) :
  Calls Tryz.prog 315 #[.agg #[],.pointer (some ⟨g,0,none⟩),.int .i64 c] w fun e w'=>∃ v,e=.returned (.tuple #[v,.bool (rdS c xs s).2.1]) ∧
   w'.ownsRow w.heap.size 9 1 v (rdS c xs s).1.length (strs (rdS c xs s).1)∧Zaq w0 w' g (rdS c xs s).2.2.1 (rdS c xs s).2.2.2∧Chg g g w w':=by
 obtain⟨ys,hys⟩:∃ ys,numL 4 (tk (4*c) xs)=ys:=⟨_,rfl⟩;have hyv:∀ x∈ys,x<4294967296:=by rw[← hys];exact Zod (Zdh hv)
 have hyl:ys.length≤16777216:=by
  rw[← hys,Zan];unfold tk;split
  ·rw[List.length_take];omega
  ·simp
 obtain⟨es,hes⟩:∃ es,nI ys=es:=⟨_,rfl⟩;have hel:ys.length=es.length:=by rw[← hes,Zas]
 have hev:∀ e∈es,0≤e∧e<4294967296:=by
  rw[← hes];intro e he;obtain⟨y,hy,rfl⟩:=List.mem_map.1 he;have:=hyv y hy;omega
 obtain⟨xl,hxl⟩:∃ xl,tkL (4*c) xs=xl:=⟨_,rfl⟩;have hxll:xl.length≤16777216:=by rw[← hxl];exact Nat.le_trans (Zbn _ _) hl
 have hxlv:∀ x∈xl,x<256:=by rw[← hxl];exact Zau hv
 obtain⟨s1,hs1⟩:∃ s1,tkS (4*c) xs s=s1:=⟨_,rfl⟩;have e0:rdS c xs s=match Zay 0 es with
   | none=>([],false,xl,s1)
   | some sz=>if tkS sz.toNat xl s1=true then ([],false,tkL sz.toNat xl,true)else (cutS 0 (tk sz.toNat xl) es,true,tkL sz.toNat xl,false):=by
  rw[← hes,← hys,← hxl,← hs1];rfl
 rw[e0];have HC:Hid (∀(w2:World),Zaq w0 w2 g xs s→g<w2.heap.size→Calls Tryz.prog 227 #[.pointer (some ⟨g,0,none⟩),.int .i64 c] w2 fun e w'=>∃ p,w2.heap.size≤p ∧
   e=.returned (.slice (some ⟨p,0,none⟩) es.length es.length)∧Row w' p 3 (i64s es)∧Zaq w0 w' g xl s1∧Chg g g w2 w'):=by
  intro w2 h2 hg2;have:=Zo6 w0 w2 g xs s c h2 hg2 hv hl hc;rw[hys,hes,hxl,hs1,hel]at this;exact this
 have hesl:es.length≤16777216:=by omega
 have H:=hid h;clear hys hes hxl hs1 e0 h hv hyv hel hyl;obtain⟨B,hB⟩:∃ B,w.heap.size=B:=⟨_,rfl⟩;have HB:=hid hB;rw[hB];clear hB;have hba:Below w.heap.size w (w.alloc (.cells #[] 157)):=(Zab w).alloc (Nat.le_refl _) _;have QK:=hid (HC.out _ (H.out.mono hba) (Nat.lt_of_lt_of_le hgs hba.size));have Zh:=hid hba;clear hba HC H;cases hte:Zay 0 es with
 | none =>
  have ht1:tsz es=0:=by rw[tsz,hte];rfl
  go_enter Tryz.func315,Tryz.ntmps315;go_wp2_with fail
  refine QK.out.mono ?_;rintro e w1 ⟨p,hp,rfl,hrow,hat,hch⟩;have Yd:=hid hat;have Ya:Hid (Chg g g w w1):=hid ((Chg.of_below Zh.out).trans hch);have Qx:=hid (hrow.rd' (n:=es.length) (by simp[i64s]) (by unfold maxLen;omega));clear hrow hat hch;go_wp2_with (go_at_call 316;refine(Zkz _ es _ Qx.out hesl hev).mono ?_;rintro e w2 ⟨rfl,hw⟩;subst hw;rw[hte];dsimp only[Option.isSome])
  go_ret2
  exact⟨_,rfl,World.ownsRow_nil _ _ _ _,Yd.out,Ya.out⟩
 | some sz =>
  have hsz0:=Ze1 es 0 sz hte;have hsz1:sz<4294967296:=by
   rcases Zr9 es 0 sz hte with h1 | h1
   ·omega
   ·exact(hev sz h1).2
  obtain⟨n,rfl⟩:=Int.eq_ofNat_of_zero_le hsz0;have ht1:tsz es=(n:Int):=by rw[tsz,hte];rfl
  simp only[Int.toNat_natCast];obtain⟨s2,hs2⟩:∃ s2,tkS n xl s1=s2:=⟨_,rfl⟩;obtain⟨t,ht⟩:∃ t,tk n xl=t:=⟨_,rfl⟩;rw[hs2,ht];have YK:=hid hs2;have HT:=hid ht;have HTE:=hid hte;clear hs2 ht;go_enter Tryz.func315,Tryz.ntmps315;go_wp2_with fail
  refine QK.out.mono ?_;rintro e w1 ⟨p,hp,rfl,hrow,hat,hch⟩;have Yd:=hid hat;have Ya:Hid (Chg g g w w1):=hid ((Chg.of_below Zh.out).trans hch);have Qq:=hid hrow;have Qx:=hid (hrow.rd' (n:=es.length) (by simp[i64s]) (by unfold maxLen;omega));have hpw:w.heap.size≤p:=Nat.le_trans Zh.out.size hp;have hpg:p≠g:=by omega
  clear hrow hat hch hp QK Zh;go_wp2_with (go_at_call 316;refine(Zkz _ es _ Qx.out hesl hev).mono ?_;rintro e w2 ⟨rfl,hw⟩;subst hw;rw[HTE.out,ht1];dsimp only[Option.isSome])
  refine(Zfs w0 _ g xl s1 n Yd.out hxll (by omega)).mono ?_;rintro e w2 ⟨v,rfl,hrd,hat,hch⟩;rw[HT.out]at hrd;rw[YK.out]at hat;have Qu:=hid hat;have QF:Hid (Chg g g w w2):=hid (Ya.out.trans hch);have hcv:=Zd9 (hrd.mono hat.2.1);have QR:=hid (hch.row Qq.out hpg hpg);clear Yd Ya Qq Qx hrd hat hch;cases s2 with
  | true =>
   go_wp2_with (go_at_call 157;refine(Zd3 w0 _ g _ true Qu.out).mono ?_;rintro e w3 ⟨rfl,hw⟩;subst hw)
   go_ret2
   exact⟨_,rfl,World.ownsRow_nil _ _ _ _,Qu.out,QF.out⟩
  | false =>
   have htn:n≤xl.length∧t=xl.take n:=by
    have h1:=YK.out;have h2:=HT.out;unfold tkS at h1;unfold tk at h2
    split at h1
    ·rename_i hle
     rw[if_pos hle]at h2;exact⟨hle,h2.symm⟩
    ·cases h1
   have htl:t.length=n:=by rw[htn.2,List.length_take];omega
   clear HT YK htn;go_wp2_with (go_at_call 157;refine(Zd3 w0 _ g _ false Qu.out).mono ?_;rintro e w3 ⟨rfl,hw⟩;subst hw)
   refine Zcx 9 (.string ByteArray.empty) 16 Tryz.underlying196 Tryz.infoStr rfl es.length (by omega) (by omega) (by omega) (by unfold maxLen;omega) ?_;intro w4 hrow4 hb4 hsz4;have hg3:g<w3.heap.size:=Nat.lt_of_lt_of_le hgs QF.out.size;have hp3:p<w3.heap.size:=QR.out.lt;have hw3:w.heap.size≤w3.heap.size:=QF.out.size;obtain⟨q,hq⟩:∃ q,w3.heap.size=q:=⟨_,rfl⟩;rw[hq]at hrow4 hb4 hsz4 hg3 hp3 hw3 ⊢;have HROW4:=hid hrow4;have Qz:=hid hb4;obtain⟨S,hS⟩:∃ S,Zat t=S:=⟨_,rfl⟩;have hSs:S.size=n:=by rw[← hS,Zk3,htl]
   have Qv:=hid hS;rw[hS];clear hrow4 hb4 hq hcv hS;go_wp2;go_loopw [13,37] (fun u i wr=>∃(j:Nat) (l:Int),j≤es.length∧i=.int .i64 j∧u=.int .i64 l∧Hid (Zay 0 (es.take j)=some l)∧Row wr q 9 (strs (cutS 0 t (es.take j))++List.replicate (es.length-j) (.string ByteArray.empty))∧Below q w3 wr∧Hid (q<wr.heap.size)) (fun _ i _=>es.length-(intOf i).toNat)
   case atStart=>exact⟨0,0,by omega,rfl,rfl,hid rfl,by simpa [strs,cutS]using HROW4.out,Qz.out,hid (by omega)⟩
   case round =>
    obtain⟨j,l,hj,rfl,rfl,hu,hr,hb,hz⟩:=hrel;by_cases hlt:j<es.length
    ·have hcl:(strs (cutS 0 t (es.take j))).length=j:=by rw[Zlq,Zd0,List.length_take];omega
     have hcell:wr.cell? ⟨q,j,none⟩=some (.string ByteArray.empty):=by
      rw[hr.cell];exact Zfm _ _ _ _ hcl.symm (by omega)
     have hfr:=hr.frozen j;have hrp:Row wr p 3 (i64s es):=QR.out.below hb hp3;have c1:wr.cell? ⟨p,j,none⟩=some (.int .i64 (es.getD j 0)):=by rw[hrp.cell];exact Zgj es j hlt
     have hej:=hev (es.getD j 0) (by simp[List.getD,List.getElem?_eq_getElem hlt]);have htk:es.take (j+1)=es.take j++[es.getD j 0]:=by
      rw[List.take_succ_eq_append_getElem hlt];simp[List.getD,List.getElem?_eq_getElem hlt]
     have hal:=Zia (es.take (j+1)) (es.drop (j+1)) 0;rw[List.take_append_drop,HTE.out,htk,Zfp,hu.out]at hal;have hl0:=Ze1 _ 0 l hu.out;obtain⟨hle,hen,hx1⟩:l≤es.getD j 0∧es.getD j 0≤n∧¬ (es.getD j 0<l∨es.getD j 0-l > 1024):=by
      simp only[Option.bind_some]at hal
      split at hal
      ·cases hal
      ·rename_i hx
       simp only[Option.bind_some]at hal;have:=Ze1 _ _ _ hal.symm;omega
     have YH:Hid (Zay 0 (es.take (j+1))=some (es.getD j 0)):=hid (by rw[htk,Zfp,hu.out];simp only[Option.bind_some];rw[if_neg hx1]);have Vw:Hid (cutS 0 t (es.take (j+1))=cutS 0 t (es.take j)++[S.extract l.toNat (es.getD j 0).toNat]):=by
      refine hid ?_;rw[htk,Zqq t _ 0 _ l hu.out,← Qv.out,Zmm t _ _ (by omega)];congr 5
      omega
     have HR:=hid hr;have Yv:=hid hcl;clear hr hrp hal htk hx1 hcl;generalize es.getD j 0=x at *;go_wp2;go_roundw
     case rel =>
      refine⟨j+1,x,by omega,by go_num,rfl,YH,?_,Zad hb _ _ _ (Nat.le_refl _),?_⟩
      ·have hss:=HR.out.set j (.string (S.extract l.toNat x.toNat));rw[Zfo _ _ _ _ _ Yv.out.symm (by omega)]at hss;rw[Vw.out,Zsk,← Nat.sub_sub es.length j 1];exact hss
      ·refine hid ?_;have:=hz.out;simpa [World.setCell]using this
     case measure=>simp[intOf];omega
    ·obtain rfl:j=es.length:=by omega
     have hat2:Zaq w0 wr g (tkL n xl) false:=by
      obtain⟨h1,h2,v,hr1,hr2⟩:=Qu.out;exact⟨h1,h2.trans (hb.mono (by omega)),v,hr1.below hb hg3,hr2⟩
     have HATF:=hid hat2;have Qo:=hid hr;clear hat2 hr hte ht1 hev hSs Qv htl hsz0 hsz1 HTE hu hj;go_wp2;go_ret2
     have h1:=Qo.out;rw[Nat.sub_self,List.replicate_zero,List.append_nil,List.take_length]at h1;refine⟨_,rfl,?_,HATF.out,QF.out.then_below hb hw3⟩;have h2:=h1.owns (B:=B) (n:=es.length) (by have:=HB.out;omega) (by rw[Zlq,Zd0]) (by unfold maxLen;omega);simpa [Zd0]using h2
def nIs (xs:List Nat):List Value:=i64s (nI xs)
def Za7 (xs:List Nat):List Nat:=numL 8 (tk (8*(xs.length/8)) xs)
theorem Zfj (xs:List Nat):(Za7 xs).length=xs.length/8:=by
 unfold Za7;rw[Zan];unfold tk;rw[if_pos (by omega),List.length_take];omega
set_option maxRecDepth 20000
def Zw3 (op:Int):Bool:=decide (1≤op∧op≤6)
def Zcc (op:Int) (a b:Nat):Bool :=
 if op=1 then decide (a=b)else if op=2 then decide (a≠b)else if op=3 then decide (a<b)else if op=4 then decide (a≤b)else if op=5 then decide (b<a)else decide (b≤a)
theorem Znl (op:Int) (w:World):Calls Tryz.prog 274 #[.int .i64 op] w fun e w'=>e=.returned (.bool (Zw3 op))∧w'=w:=by
 go_enter Tryz.func274,Tryz.ntmps274;go_wp2
 all_goals go_ret
 all_goals refine⟨Zae ?_,rfl⟩
 all_goals unfold Zw3
 all_goals simp only[decide_eq_decide,true_eq_decide_iff,false_eq_decide_iff]
 all_goals omega
theorem Zua (a b:Nat):((a:Int)==(b:Int))=decide (a=b):=by
 by_cases h:a=b
 ·simp[h]
 ·have:¬ (a:Int)=(b:Int):=by omega
  simp[h,this]
theorem Zzs (a b:Nat):((a:Int) != (b:Int))=decide (a≠b):=by
 simp only[bne,Zua];by_cases h:a=b<;>simp[h]
set_option maxHeartbeats 400000 in
theorem Zk6 (a:Nat) (op:Int) (b:Nat) (w:World):Calls Tryz.prog 276 #[.int .u64 a,.int .i64 op,.int .u64 b] w fun e w'=>e=.returned (.bool (Zcc op a b))∧w'=w:=by
 go_enter Tryz.func276,Tryz.ntmps276;go_wp2
 all_goals go_ret
 all_goals refine⟨Zae ?_,rfl⟩
 all_goals simp only[beq_iff_eq,beq_eq_false_iff_ne,ne_eq,bne_iff_ne,bne_eq_false_iff_eq]at *
 all_goals simp[Zcc,Zua,Zzs, *]
theorem Zk7 (n:Nat) (w:World) (hn:n≤65536):Calls Tryz.prog 209 #[.int .i64 n] w fun e w'=>e=.returned (.int .i64 (L.nWords 1 n:Nat))∧w'=w:=by
 go_enter Tryz.func209,Tryz.ntmps209;go_wp2
 all_goals go_ret
 exact⟨Zc0 (by rw[Zj6];omega),rfl⟩
theorem Z1e (a b:Nat) (h:b≤a) (ha:a<18446744073709551616):IntKind.u64.wrap ((a:Int)-(b:Int))=((a-b:Nat):Int):=by rw[IntKind.wrap_u64];omega
theorem Zdj (a b:Nat) (ha:a<18446744073709551616) (hb:b<18446744073709551616):bits .andNot .u64 (a:Int) (b:Int)=((a &&& (L.M64-b):Nat):Int):=u64_andNot_nat a b ha hb
theorem Zn2 (b:Nat):L.M64-b<18446744073709551616:=by unfold L.M64;omega
theorem Zex {a:Nat} (b:Nat) (ha:a<18446744073709551616):a &&& b<18446744073709551616:=Nat.lt_of_le_of_lt Nat.and_le_left ha
theorem Zo5 {a b:Nat} (ha:a<18446744073709551616) (hb:b<18446744073709551616):a ||| b<18446744073709551616:=Nat.or_lt_two_pow (n:=64) ha hb
theorem Zza {a b:Nat} (ha:a<18446744073709551616) (hb:b<18446744073709551616):a ^^^ b<18446744073709551616:=Nat.xor_lt_two_pow (n:=64) ha hb
theorem Zuw (a:Nat) (ha:a<18446744073709551616):bits BinOp.xor IntKind.u64 IntKind.u64.max (a:Int)=((L.M64-a:Nat):Int):=Z04 (a:Int) a rfl ha
theorem Zft (a b t:Nat) (ht:t<18446744073709551616):L.lessN a b t<18446744073709551616:=Nat.lt_of_le_of_lt Nat.and_le_right ht
set_option maxHeartbeats 400000 in
theorem Zez (a b t:Nat) (w:World) (ha:a<18446744073709551616) (hb:b<18446744073709551616) (ht:t<18446744073709551616) (hle:b &&& (L.M64-t)≤a ||| t) :
  Calls Tryz.prog 291 #[.int .u64 a,.int .u64 b,.int .u64 t] w fun e w'=>e=.returned (.int .u64 (L.lessN a b t:Nat))∧w'=w:=by
 go_enter Tryz.func291,Tryz.ntmps291;go_wp2;go_ret;refine⟨Zer ?_,rfl⟩;have h1:=Zo5 ha ht;have h2:=Zza ha hb;rw[u64_or_nat a t ha ht,Zdj b t hb ht,Z1e _ _ hle h1,Zuw a ha,u64_and_nat _ _ (Zn2 a) hb,u64_xor_nat a b ha hb,Zuw _ h2,
  Zdj _ _ (Zn2 _) (by omega),u64_or_nat _ _ (Zex _ (Zn2 _)) (Zex _ (Zn2 _)),u64_and_nat _ _ (Zo5 (Zex _ (Zn2 _)) (Zex _ (Zn2 _))) ht]
 rfl
theorem Zk8 (a b t:Nat) (w:World) (ha:a<18446744073709551616) (hb:b<18446744073709551616) (ht:t<18446744073709551616) (hle:b &&& (L.M64-t)≤a ||| t) (hle2:a &&& (L.M64-t)≤b ||| t) :
  Calls Tryz.prog 290 #[.int .u64 a,.int .u64 b,.int .u64 t] w fun e w'=>e=.returned (.int .u64 (L.lessN a b t ||| L.lessN b a t:Nat))∧w'=w:=by
 have Q4:=hid hle;have Uq:=hid hle2;clear hle hle2;go_enter Tryz.func290,Tryz.ntmps290;go_wp2_with fail
 refine(Zez a b t _ ha hb ht Q4.out).mono ?_;rintro e w' ⟨rfl,rfl⟩;go_wp2_with fail
 refine(Zez b a t _ hb ha ht Uq.out).mono ?_;rintro e w' ⟨rfl,rfl⟩;go_wp2;go_ret;exact⟨Zer (u64_or_nat _ _ (Zft _ _ _ ht) (Zft _ _ _ ht)),rfl⟩
def cmpN (op:Int) (a b t:Nat):Nat :=
 if op=1 then t &&& (L.M64-(L.lessN a b t ||| L.lessN b a t))else if op=2 then L.lessN a b t ||| L.lessN b a t else if op=3 then L.lessN a b t
 else if op=4 then t &&& (L.M64-L.lessN b a t)else if op=5 then L.lessN b a t else t &&& (L.M64-L.lessN a b t)
set_option maxHeartbeats 1000000 in
theorem Zmr (a b t:Nat) (op:Int) (w:World) (ha:a<18446744073709551616) (hb:b<18446744073709551616) (ht:t<18446744073709551616) (hle:b &&& (L.M64-t)≤a ||| t) (hle2:a &&& (L.M64-t)≤b ||| t) :
  Calls Tryz.prog 278 #[.int .u64 a,.int .u64 b,.int .u64 t,.int .i64 op] w fun e w'=>e=.returned (.int .u64 (cmpN op a b t:Nat))∧w'=w:=by
 have Q4:=hid hle;have Uq:=hid hle2;have hx:=Zft a b t ht;have hy:=Zft b a t ht;clear hle hle2;generalize hxx:L.lessN a b t=x at *;generalize hyy:L.lessN b a t=y at *;have H1:=hid (Zez a b t w ha hb ht Q4.out);have H2:=hid (Zez b a t w hb ha ht Uq.out);have H3:=hid (Zk8 a b t w ha hb ht Q4.out Uq.out);rw[hxx]at H1;rw[hyy]at H2;rw[hxx,hyy]at H3;have HC:Hid (cmpN op a b t=if op=1 then t &&& (L.M64-(x ||| y))else if op=2 then x ||| y else if op=3 then x else if op=4 then t &&& (L.M64-y)else if op=5 then y else t &&& (L.M64-x)):=by
  refine hid ?_;rw[cmpN,hxx,hyy]
 clear hxx hyy Q4 Uq;go_enter Tryz.func278,Tryz.ntmps278;by_cases c1:op=1
 ·subst c1;go_wp2_with (first
   | (go_at_call 290;refine H3.out.mono ?_;rintro e w' ⟨rfl,rfl⟩))
  go_ret;exact⟨Zer (by rw[HC.out];exact Zdj _ _ ht (Zo5 hx hy)),rfl⟩
 ·by_cases c2:op=2
  ·subst c2;go_wp2_with (first
    | (go_at_call 290;refine H3.out.mono ?_;rintro e w' ⟨rfl,rfl⟩))
   go_ret;exact⟨Zer (by rw[HC.out];rfl),rfl⟩
  ·by_cases c3:op=3
   ·subst c3;go_wp2_with (first
     | (go_at_call 291;refine H1.out.mono ?_;rintro e w' ⟨rfl,rfl⟩))
    go_ret;exact⟨Zer (by rw[HC.out];rfl),rfl⟩
   ·by_cases c4:op=4
    ·subst c4;go_wp2_with (first
      | (go_at_call 291;refine H2.out.mono ?_;rintro e w' ⟨rfl,rfl⟩))
     go_ret;exact⟨Zer (by rw[HC.out];exact Zdj _ _ ht hy),rfl⟩
    ·by_cases c5:op=5
     ·subst c5;go_wp2_with (first
       | (go_at_call 291;refine H2.out.mono ?_;rintro e w' ⟨rfl,rfl⟩))
      go_ret;exact⟨Zer (by rw[HC.out];rfl),rfl⟩
     ·have d1:(op==1)=false:=by simpa using c1
      have d2:(op==2)=false:=by simpa using c2
      have d3:(op==3)=false:=by simpa using c3
      have d4:(op==4)=false:=by simpa using c4
      have d5:(op==5)=false:=by simpa using c5
      have HE:Hid (cmpN op a b t=t &&& (L.M64-x)):=by refine hid ?_;rw[HC.out];simp[c1,c2,c3,c4,c5]
      clear c1 c2 c3 c4 c5;go_wp2_with (first
       | (go_at_call 291;refine H1.out.mono ?_;rintro e w' ⟨rfl,rfl⟩))
      go_ret;exact⟨Zer (by rw[HE.out];exact Zdj _ _ ht hx),rfl⟩
def Tab (w:World):Prop:=∀ j,j<64→w.cell? ⟨1,j,none⟩=some (.int .u8 ((Lib.deBruijn64tab.getD j 0:Nat):Int))
theorem Tab.mono {w w':World} {B:Nat} (h:Tab w) (hb:Below B w w') (hB:1<B):Tab w':=fun j hj=>by rw[← h j hj];exact hb.cell (p:=⟨1,j,none⟩) hB
theorem Tab.lt {w:World} (h:Tab w):1<w.heap.size:=World.block_lt_of_cell? w _ (h 0 (by omega))
theorem Z01 (x:Nat) (h0:x≠0) (h:x<18446744073709551616):IntKind.u64.wrap (-(x:Int))=((18446744073709551616-x:Nat):Int):=by rw[IntKind.wrap_u64];omega
theorem Z17 (x:Nat) (h0:x≠0) (h:x<18446744073709551616) :
  IntKind.u64.wrap (bits BinOp.and IntKind.u64 (x:Int) (IntKind.u64.wrap (-(x:Int)))*285870213051353865)/288230376151711744 =
   ((2^Lib.ctz 64 x*285870213051353865%18446744073709551616/288230376151711744:Nat):Int):=by
 have hl:=Lib.lowest_bit 64 x h0 h;rw[Z01 x h0 h,u64_and_nat _ _ h (by omega)];rw[show x &&& 18446744073709551616-x=2^Lib.ctz 64 x from hl.1,IntKind.wrap_u64];generalize Lib.ctz 64 x=t;generalize 2^t=y;omega
set_option maxHeartbeats 1000000 in
theorem Z0z (x k idx:Nat) (w:World) (hx0:((x:Int)==0)=false)
  (key:IntKind.u64.wrap (bits BinOp.and IntKind.u64 (x:Int) (IntKind.u64.wrap (-(x:Int)))*285870213051353865)/288230376151711744=(idx:Int))
  (hi:idx<64) (hcell:w.cell? ⟨1,idx,none⟩=some (.int .u8 (k:Int))) (hk:k<64) :
  Calls Tryz.prog 292 #[.int .u64 x] w fun e w'=>e=.returned (.int .i64 (k:Int))∧w'=w:=by
 go_enter Tryz.func292,Tryz.ntmps292;go_wp2_with (simp only[key])
 go_ret;exact⟨rfl,rfl⟩
theorem Zkp (x:Nat) (w:World) (h0:x≠0) (h:x<18446744073709551616) (ht:Tab w) :
  Calls Tryz.prog 292 #[.int .u64 x] w fun e w'=>e=.returned (.int .i64 (Lib.ctz 64 x:Nat))∧w'=w:=by
 have hk:Lib.ctz 64 x<64:=(Lib.lowest_bit 64 x h0 h).2;have hdb:=Lib.deBruijn64_at _ hk;refine Z0z x (Lib.ctz 64 x) _ w (by simpa using h0) (Z17 x h0 h) hdb.1 ?_ hk;rw[ht _ hdb.1,hdb.2]
set_option maxHeartbeats 400000 in
theorem Zvz (g n cap i:Nat) (ys:List Nat) (w:World) (hr:Row w g 73 (u64s ys)) (hn:ys.length=n) (hnc:n≤cap) (hi:i<64*n) (hy:∀ x∈ys,x<18446744073709551616) (hi2:i≤9223372036854775807) :
  Calls Tryz.prog 210 #[.slice (some ⟨g,0,none⟩) n cap,.int .i64 i] w fun e w'=>e=.returned (.tuple #[]) ∧
   Row w' g 73 (u64s (ys.set (i/64) (ys.getD (i/64) 0 ||| 2^(i%64))))∧Below g w w'∧w'.heap.size=w.heap.size∧∀ k,k≠g→w'.heap[k]? = w.heap[k]?:=by
 subst hn;obtain⟨d,hd⟩:∃ d,i/64=d:=⟨_,rfl⟩;obtain⟨r,hr'⟩:∃ r,i%64=r:=⟨_,rfl⟩;have hd':(i:Int)/64=(d:Int):=by omega
 have hrr:(i:Int)%64=(r:Int):=by omega
 have hr64:r<64:=by omega
 have hdl:d<ys.length:=by omega
 have hcell:w.cell? ⟨g,d,none⟩=some (.int .u64 ((ys.getD d 0:Nat):Int)):=by rw[hr.cell];exact Zh5 ys d hdl
 have hfr:=hr.frozen d;have hyd:ys.getD d 0<18446744073709551616:=L.getD_lt (w:=64) (fun a ha=>by have:=hy a ha;omega) d;have Vv:=hid (Zh1 (ys.getD d 0) r hyd hr64);have HS:=hid (hr.set d (.int .u64 ((ys.getD d 0 ||| 2^r:Nat):Int)));rw[hd,hr'];clear hd hr' hr;generalize hq:ys.getD d 0=q at *;clear hq;go_enter Tryz.func210,Tryz.ntmps210;go_wp2;go_end0
 rw[Vv.out];refine⟨rfl,?_,Zad (Below.refl _ _) _ _ _ (Nat.le_refl _),by simp[World.setCell],fun k hk=>heap_setCell_other _ _ k _ hk⟩;rw[← Zpv];exact HS.out
theorem Zjc (wd p:Nat) (w:World) (h0:0<wd) (hk:wd≤64) (hp:64/wd=p) :
  Calls Tryz.prog 277 #[.int .i64 wd] w fun e w'=>e=.returned (.int .u64 (L.wordOf wd (List.replicate p 1):Nat))∧w'=w:=by
 have HP:=hid hp;have hp64:p≤64:=by rw[← hp];exact Nat.div_le_self _ _
 have Vx:Hid (p*wd≤64):=by refine hid ?_;rw[← hp];exact L.per_mul wd
 clear hp;go_enter Tryz.func277,Tryz.ntmps277;go_wp2_with (go_at_call 246;refine(Zdv wd p _ (by omega) (by omega) HP.out).mono ?_;rintro e w' ⟨rfl,rfl⟩)
 go_loop [3,7] (fun u i=>∃ j:Nat,j≤p∧i=.int .i64 j∧u=.int .u64 (L.wordOf wd (List.replicate j 1):Nat)) (fun _ i=>p-(intOf i).toNat)
 case atStart=>exact⟨0,by omega,rfl,rfl⟩
 case round =>
  obtain⟨j,hj,rfl,rfl⟩:=hrel;have h1w:(1:Nat)<2^wd:=Nat.one_lt_two_pow (by omega);have hlt64:L.wordOf wd (List.replicate j 1)<2^(wd*j):=by
   have:=L.wordOf_lt wd (List.replicate j 1) fun x hx=>by rw[List.eq_of_mem_replicate hx];exact h1w
   rwa [List.length_replicate]at this
  by_cases hlt:j<p
  ·have hsn:L.wordOf wd (List.replicate (j+1) 1)=L.wordOf wd (List.replicate j 1)+1*2^(wd*j):=by
    rw[List.replicate_succ',L.wordOf_snoc,List.length_replicate]
   have hjw:(j+1)*wd≤64:=Nat.le_trans (Nat.mul_le_mul_right wd hlt) Vx.out;have hor:=Zw1 (L.wordOf wd (List.replicate j 1)) 1 wd j hlt64 h1w hjw;rw[← hsn]at hor;obtain⟨q,hq⟩:∃ q,j*wd=q:=⟨_,rfl⟩;have hq':(j:Int)*(wd:Int)=(q:Int):=by rw[← hq];simp
   have hq64:q≤64:=by rw[← hq];exact Nat.le_trans (Nat.mul_le_mul_right wd (by omega)) Vx.out
   rw[hq,show ((1:Nat):Int)*2^q=2^q from by simp]at hor;have HO:=hid hor;clear hq hsn hlt64 hor h1w;generalize L.wordOf wd (List.replicate j 1)=a at *;go_wp2;go_round
   case rel=>exact⟨j+1,by omega,by go_num,by rw[HO.out]⟩
   case measure=>simp[intOf];omega
  ·go_wp2;go_ret;rw[show j=p from by omega];exact⟨rfl,rfl⟩
def Zlc (wd first hits i:Nat):Bool:=(List.range 64).any fun p=>hits.testBit p&&decide (first+p/wd=i)
theorem Zv4 (wd first i:Nat):Zlc wd first 0 i=false:=by simp[Zlc]
theorem Ztn (wd first h i:Nat) (h0:h≠0) (hlt:h<18446744073709551616) :
  Zlc wd first h i=(Zlc wd first (h &&& (h-1)) i||decide (i=first+Lib.ctz 64 h/wd)):=by
 have hc:=Zky h h0 hlt;have hk:Lib.ctz 64 h<64:=(Lib.lowest_bit 64 h h0 hlt).2;rw[Bool.eq_iff_iff];simp only[Zlc,Bool.or_eq_true,List.any_eq_true,List.mem_range,Bool.and_eq_true,decide_eq_true_eq];constructor
 ·rintro⟨p,hp,h1,h2⟩;by_cases hpt:p=Lib.ctz 64 h
  ·right;rw[← h2,hpt]
  ·left;exact⟨p,hp,by rw[(hc p).1,h1];simp[hpt],h2⟩
 ·rintro(⟨p,hp,h1,h2⟩ | h2)
  ·rw[(hc p).1]at h1;simp only[Bool.and_eq_true]at h1;exact⟨p,hp,h1.1,h2⟩
  ·exact⟨Lib.ctz 64 h,hk,(hc 0).2.1,h2.symm⟩
set_option maxHeartbeats 2000000 in
theorem Zp0 (g n cap first wd hits:Nat) (ys:List Nat) (w:World) (ht:Tab w) (hgt:1<g) (hr:Row w g 73 (u64s ys)) (hn:ys.length=n) (hnc:n≤cap) (hn2:n≤65536) (hy:∀ x∈ys,x<18446744073709551616)
  (h0:0<wd) (hwd:wd≤64) (hh:hits<18446744073709551616) (hf:first≤65536) (hfit:∀ p,hits.testBit p=true→first+p/wd<64*n) :
  Calls Tryz.prog 279 #[.slice (some ⟨g,0,none⟩) n cap,.int .i64 first,.int .i64 wd,.int .u64 hits] w fun e w'=>e=.returned (.tuple #[]) ∧
   (∃ zs:List Nat,Row w' g 73 (u64s zs)∧zs.length=n∧(∀ x∈zs,x<18446744073709551616)∧∀ i,Zar zs i=(Zar ys i||Zlc wd first hits i))∧Below g w w'∧w'.heap.size=w.heap.size:=by
 have Xn:=hid hfit;have HY:=hid hy;have HR:=hid hr;have HN:=hid hn;have HT:=hid ht;clear hfit hy hr hn ht;go_enter Tryz.func279,Tryz.ntmps279;go_wp2;go_loopw [3] (fun u wr=>∃(h:Nat) (zs:List Nat),u=.int .u64 h∧h<18446744073709551616∧Row wr g 73 (u64s zs)∧zs.length=n∧(∀ x∈zs,x<18446744073709551616) ∧
   (∀ p,h.testBit p=true→hits.testBit p=true)∧(∀ i,(Zar zs i||Zlc wd first h i)=(Zar ys i||Zlc wd first hits i))∧Below g w wr∧Hid (wr.heap.size=w.heap.size)) (fun u _=>(intOf u).toNat)
 case atStart=>exact⟨hits,ys,rfl,hh,HR.out,HN.out,HY.out,fun p h=>h,fun i=>rfl,Below.refl _ _,rfl⟩
 case round =>
  obtain⟨h,zs,rfl,hlt,hr,hzn,hz,hsub,hacc,hb,hsz⟩:=hrel;have Q0:=hid hr;have HZN:=hid hzn;have HZ:=hid hz;have HSUB:=hid hsub;have HACC:=hid hacc;clear hr hzn hz hsub hacc;by_cases hz0:h=0
  ·subst hz0;go_wp2;go_end0
   refine⟨rfl,⟨zs,Q0.out,HZN.out,HZ.out,fun i=>?_⟩,hb,hsz.out⟩;have:=HACC.out i;rw[Zv4,Bool.or_false]at this;exact this
  ·have hc:=Zky h hz0 hlt;have hk:Lib.ctz 64 h<64:=(Lib.lowest_bit 64 h hz0 hlt).2;have HTZ:=hid (Zkp h wr hz0 hlt (HT.out.mono hb hgt));have Yv:=hid (fun i=>Ztn wd first h i hz0 hlt);have hfi:=Xn.out _ (HSUB.out _ (hc 0).2.1);have HC:=hid hc;have hne:((h:Int) != 0)=true:=by rw[bne_iff_ne];omega
   obtain⟨t,htt⟩:∃ t,Lib.ctz 64 h=t:=⟨_,rfl⟩;rw[htt]at hk hfi HTZ Yv HC;obtain⟨d,hd⟩:∃ d,t/wd=d:=⟨_,rfl⟩;have hd':(t:Int)/(wd:Int)=(d:Int):=by rw[← hd];simp
   have hdt:d≤t:=by rw[← hd];exact Nat.div_le_self _ _
   rw[hd]at hfi Yv;have hh1:((h:Int)-1)=((h-1:Nat):Int):=by omega
   have ZJ:Hid (bits BinOp.and IntKind.u64 (h:Int) ((h:Int)-1)=((h &&& (h-1):Nat):Int)):=by refine hid ?_;rw[hh1];exact u64_and_nat _ _ hlt (by omega)
   clear hc htt hd hh1;go_wp2_with (first
    | (go_at_call 292;refine HTZ.out.mono ?_;rintro e w' ⟨rfl,rfl⟩)
    | (go_at_call 210;refine(Zvz g n cap (first+d) zs _ Q0.out HZN.out hnc hfi HZ.out (by omega)).mono ?_;rintro e w2 ⟨rfl,hr2,hb2,hs2,_⟩;have YK:=hid hs2;clear hs2))
   go_roundw
   case rel =>
    refine⟨h &&& (h-1),_,by rw[ZJ.out],Zex _ hlt,hr2,by rw[List.length_set];exact HZN.out,Zuh zs HZ.out _,fun p hp=>?_,fun i=>?_,hb.trans hb2,?_⟩
    ·rw[(HC.out p).1]at hp;simp only[Bool.and_eq_true]at hp;exact HSUB.out p hp.1
    ·rw[← HACC.out i,Zrq zs (first+d) (by rw[HZN.out];exact hfi),Yv.out i];cases Zar zs i<;>cases Zlc wd first (h &&& (h-1)) i<;>cases decide (i=first+d)<;>rfl
    ·show _=_;rw[YK.out];exact hsz.out
   case measure =>
    rw[ZJ.out];simp only[intOf,Int.toNat_natCast];exact(HC.out 0).2.2
end Go.Proofs.YtmcjknjlihgihaaGreatDoor
namespace Go.Proofs.YtmcjknjlihgihaaGreatDoor
open Go.RowKit
theorem Zvw (w c:Nat) (xa:List Nat):L.wordOf w (xa.map (c * ·))=c*L.wordOf w xa:=by
 induction xa with
 | nil=>simp[L.wordOf]
 | cons a xa ih =>
  simp only[List.map_cons,L.wordOf,ih,Nat.mul_add];rw[← Nat.mul_assoc,Nat.mul_comm (2^w) c,Nat.mul_assoc]
theorem Zkg (w n c:Nat):L.wordOf w (List.replicate n c)=c*L.wordOf w (List.replicate n 1):=by
 rw[← Zvw];simp
theorem Zge (w n:Nat) (xa:List Nat) (hl:xa.length=n) (h:∀ a∈xa,a<2^w) (h64:n*w≤64):L.wordOf w xa<18446744073709551616:=by
 have:=L.wordOf_lt w xa h;rw[hl,Nat.mul_comm]at this;have:=Zcw h64;omega
theorem Zml {n c m:Nat} (h:c<m):∀ x∈List.replicate n c,x<m:=fun x hx=>by rw[List.eq_of_mem_replicate hx];exact h
theorem Zlj (n c j:Nat):(List.replicate n c).getD j 0=if j<n then c else 0:=by
 simp only[List.getD,List.getElem?_replicate];split<;>rfl
section
variable {w n : Nat} {xa xb : List Nat}
theorem Zzh (op:Int) (hn1:xa.length=n) (hn2:xb.length=n) (ha:∀ a∈xa,a<2^(w+1)) (hb:∀ b∈xb,b<2^(w+1)) (h64:n*(w+1)≤64) (p:Nat) :
  (cmpN op (L.wordOf (w+1) xa) (L.wordOf (w+1) xb) (L.wordOf (w+1) (List.replicate n (2^w)))).testBit p =
   (decide (p/(w+1)<n∧p%(w+1)=w)&&Zcc op (xa.getD (p/(w+1)) 0) (xb.getD (p/(w+1)) 0)):=by
 have h1:=L.lessN_bit hn1 hn2 ha hb h64 p;have h2:=L.lessN_bit hn2 hn1 hb ha h64 p;have hpw:2^w<2^(w+1):=Nat.pow_lt_pow_right (by omega) (by omega);have hT:=Zge (w+1) n (List.replicate n (2^w)) (by simp) (Zml hpw) h64;have ht:(L.wordOf (w+1) (List.replicate n (2^w))).testBit p=decide (p/(w+1)<n∧p%(w+1)=w):=by
  rw[L.wordOf_testBit (by omega) _ (Zml hpw),Zlj];by_cases hj:p/(w+1)<n
  ·rw[if_pos hj,Nat.testBit_two_pow,decide_eq_decide];omega
  ·rw[if_neg hj];simp[hj]
 have hx64:=Zft (L.wordOf (w+1) xa) (L.wordOf (w+1) xb) _ hT;have hy64:=Zft (L.wordOf (w+1) xb) (L.wordOf (w+1) xa) _ hT;unfold cmpN;generalize L.lessN (L.wordOf (w+1) xa) (L.wordOf (w+1) xb) (L.wordOf (w+1) (List.replicate n (2^w)))=X at *;generalize L.lessN (L.wordOf (w+1) xb) (L.wordOf (w+1) xa) (L.wordOf (w+1) (List.replicate n (2^w)))=Y at *;generalize hTT:L.wordOf (w+1) (List.replicate n (2^w))=T at *;have hp64:(p/(w+1)<n∧p%(w+1)=w)→p<64:=by
  rintro⟨hj,hr⟩;have h1:=Nat.div_add_mod p (w+1);have h3:(p/(w+1)+1)*(w+1)≤n*(w+1):=Nat.mul_le_mul_right _ hj;rw[Nat.add_mul,Nat.one_mul,Nat.mul_comm]at h3;omega
 have hXY:(X ||| Y)<2^64:=Nat.or_lt_two_pow (n:=64) hx64 hy64;generalize xa.getD (p/(w+1)) 0=x at *;generalize xb.getD (p/(w+1)) 0=y at *;unfold Zcc;by_cases hin:p/(w+1)<n∧p%(w+1)=w
 ·have h64':=hp64 hin;simp only[hin,and_self,decide_true,Bool.true_and]at h1 h2 ht ⊢
  split
  ·rw[Nat.testBit_and,L.M64_sub_testBit _ _ hXY,Nat.testBit_or,ht,h1,h2];simp only[h64',decide_true,Bool.true_and];by_cases c1:x<y<;>by_cases c2:y<x<;>simp[c1,c2]<;>omega
  ·split
   ·rw[Nat.testBit_or,h1,h2];by_cases c1:x<y<;>by_cases c2:y<x<;>simp[c1,c2]<;>omega
   ·split
    ·exact h1
    ·split
     ·rw[Nat.testBit_and,L.M64_sub_testBit _ _ hy64,ht,h2];simp only[h64',decide_true,Bool.true_and];by_cases c2:y<x<;>simp[c2]<;>omega
     ·split
      ·exact h2
      ·rw[Nat.testBit_and,L.M64_sub_testBit _ _ hx64,ht,h1];simp only[h64',decide_true,Bool.true_and];by_cases c2:x<y<;>simp[c2]<;>omega
 ·have hd:decide (p/(w+1)<n∧p%(w+1)=w)=false:=decide_eq_false hin;rw[hd,Bool.false_and]at h1 h2 ⊢;rw[hd]at ht
  split
  ·rw[Nat.testBit_and,ht,Bool.false_and]
  ·split
   ·rw[Nat.testBit_or,h1,h2];rfl
   ·split
    ·exact h1
    ·split
     ·rw[Nat.testBit_and,ht,Bool.false_and]
     ·split
      ·exact h2
      ·rw[Nat.testBit_and,ht,Bool.false_and]
theorem Z1h (op:Int) (c first i:Nat) (hn1:xa.length=n) (hn2:xb.length=n) (ha:∀ a∈xa,a<2^(w+1)) (hb:∀ b∈xb,b<2^(w+1)) (h64:n*(w+1)≤64) (hc:c≤n) :
  Zlc (w+1) first (cmpN op (L.wordOf (w+1) xa) (L.wordOf (w+1) xb) (L.wordOf (w+1) (List.replicate n (2^w))) &&& (2^(c*(w+1))-1)) i =
   (decide (first≤i∧i<first+c)&&Zcc op (xa.getD (i-first) 0) (xb.getD (i-first) 0)):=by
 rw[Bool.eq_iff_iff];simp only[Zlc,List.any_eq_true,List.mem_range,Bool.and_eq_true,decide_eq_true_eq,Nat.testBit_and,Nat.testBit_two_pow_sub_one,Zzh op hn1 hn2 ha hb h64];constructor
 ·rintro⟨p,hp,⟨⟨⟨h1,h2⟩,h3⟩,h4⟩,h5⟩;have h6:p/(w+1)<c:=Nat.div_lt_of_lt_mul (by rw[Nat.mul_comm];exact h4);generalize p/(w+1)=q at *;have e:i-first=q:=by omega
  rw[e];exact⟨by omega,h3⟩
 ·rintro⟨⟨h1,h2⟩,h3⟩;have e:((i-first)*(w+1)+w)/(w+1)=i-first:=by
   rw[Nat.mul_comm,Nat.mul_add_div (by omega),Nat.div_eq_of_lt (by omega),Nat.add_zero]
  have e2:((i-first)*(w+1)+w)%(w+1)=w:=by rw[Nat.mul_comm,Nat.mul_add_mod,Nat.mod_eq_of_lt (by omega)]
  have h6:(i-first+1)*(w+1)≤n*(w+1):=Nat.mul_le_mul_right _ (by omega);have h7:(i-first+1)*(w+1)≤c*(w+1):=Nat.mul_le_mul_right _ (by omega);rw[Nat.add_mul,Nat.one_mul]at h6 h7;refine⟨(i-first)*(w+1)+w,by omega,⟨⟨⟨?_,e2⟩,?_⟩,by omega⟩,?_⟩
  ·rw[e];omega
  ·rw[e];exact h3
  ·rw[e];omega
end
def cmpF (wd:Nat) (op:Int) (xs:List Nat) (c:Nat) (i:Nat):Bool:=Zcc op (L.laneOf wd xs i) c
def Zh8 (wd n op:Int) (xs:List Nat):Bool:=Zw3 op&&Za9 wd n xs
def cmpR (wd n op:Int) (xs:List Nat) (c:Nat):List Nat:=if Zh8 wd n op xs=true then bmL ((List.range n.toNat).map (cmpF wd.toNat op xs c))else []
theorem Zlu (fl:List Bool):(bmL fl).length=L.nWords 1 fl.length:=(Zgr fl).1
theorem Zx1 (wd n op:Int) (xs:List Nat) (c:Nat):∀ x∈cmpR wd n op xs c,x<18446744073709551616:=by
 intro x hx;unfold cmpR at hx
 split at hx
 ·exact(Zgr _).2.1 x hx
 ·cases hx
theorem Zt6 (wd n op:Int) (xs:List Nat) (c:Nat):(cmpR wd n op xs c).length≤65536:=by
 unfold cmpR
 split
 ·rename_i h
  simp only[Zh8,Za9,Zj2,Bool.and_eq_true,decide_eq_true_eq]at h;rw[Zlu];have:=L.nWords_le (w:=1) (n:=((List.range n.toNat).map (cmpF wd.toNat op xs c)).length) (by omega);simp at this ⊢;omega
 ·simp
end Go.Proofs.YtmcjknjlihgihaaGreatDoor
