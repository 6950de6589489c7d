/- Package chunk: the entries of the dictionary that stand in some row (integers). -/
import Derived.Shelf.Abstract
import Derived.Shelf.RegionOpen
import Derived.OwnWalkIn
import Derived.TacticsInMore
import Derived.LoopNIn
import Derived.LoopIn
import Derived.Test.YtmcjknjlihgihaaGreatDoorLawparseuptoM22
set_option linter.unusedVariables false
set_option linter.unusedSimpArgs false
set_option linter.unnecessarySimpa false
set_option maxRecDepth 20000
namespace Go.Proofs.YtmcjknjlihgihaaGreatDoor
open Go.RowKit
theorem Zox (w:World) (s:ByteArray) (hs:s.size≤maxLen) :
  Rd (Lib.bytesWorld w 5 s) (.slice (some ⟨w.heap.size,0,none⟩) s.size (grownCap w s.size 0 5)) (sbs s).length 1 (u8s (sbs s))∧Below w.heap.size w (Lib.bytesWorld w 5 s):=by
 refine⟨⟨by rw[Zcm,Nat.mul_one],.inr ⟨w.heap.size,0,_,by rw[Zcb],by rw[Zcb];exact grownCap_ge w _ _ _,grownCap_le_maxLen w _ _ _ hs,?_⟩⟩,?_⟩
 ·intro i v hv;have hi:i<(sbs s).length:=by
   rcases Nat.lt_or_ge i (sbs s).length with h | h
   ·exact h
   ·rw[List.getElem?_eq_none (by rw[Zcm];exact h)]at hv;cases hv
  rw[Zw2 _ i hi]at hv;have hi2:i<s.size:=by rw[← Zcb];exact hi
  rw[Nat.zero_add,Lib.bytesWorld_cell w 5 s i hi2,← Option.some.inj hv];have hi3:i<s.data.toList.length:=by rw[Array.length_toList];exact hi2
  simp only[sbs,List.getD,List.getElem?_map,List.getElem?_eq_getElem hi3,Option.map_some,Option.getD_some]
 ·exact⟨rfl,rfl,rfl,by rw[Lib.bytesWorld_size];omega,fun k hk=>Lib.bytesWorld_at_old w 5 s k hk⟩
def Zg4 (k:Int) (c:C3):List Nat:=if k=2 then sbs c.s else leN 8 (toU c.i)
theorem Zxy (k:Int) (c:C3):∀ x∈Zg4 k c,x<256:=by
 unfold Zg4;split
 ·exact Zz6 _
 ·exact Znv _ _
set_option maxHeartbeats 1000000 in
theorem Zsv (k:Int) (c:C3) (w:World) (hk:k=1∨k=2) (hs:c.s.size≤maxLen) :
  Calls Tryz.prog 151 #[c.v,.int .i64 k] w fun e w'=>∃ r,e=.returned r∧Rd w' r (Zg4 k c).length 1 (u8s (Zg4 k c))∧Below w.heap.size w w':=by
 obtain⟨b,i,s⟩:=c;unfold C3.v Zg4;simp only at *;have HW:=Zuc i;have HP:=hid (fun w2:World=>fun hB:w.heap.size≤w2.heap.size=>Zc3 w.heap.size (.slice none 0 0) [] (toU i) 8 w2 (World.ownsRow_nil _ _ _ _) hB (Znx i) (by omega) (by simp));have HC:=hid (fun w2:World=>Lib.run_convert_string_bytes (P:=Tryz.prog) w2 9 22 5 s Tryz.underlying9 Tryz.underlying22 Tryz.underlying5);rcases hk with rfl | rfl
 ·simp only[show ¬ ((1:Int)=2) by decide,if_false];rw[List.nil_append]at HP;go_enter Tryz.func151,Tryz.ntmps151;go_wp2_with (go_at_call 75;refine(HP.out _ (by simp)).mono ?_;rintro e w1 ⟨r,rfl,ho,hb,hsz⟩;have HO:=hid ho;have HB:=hid hb;clear ho hb hsz)
  go_ret;exact⟨_,rfl,Zba HO.out,Below.trans ((Zab w).alloc (Nat.le_refl _) _) HB.out⟩
 ·simp only[if_true];have hc:=HC.out;clear HC;go_enter Tryz.func151,Tryz.ntmps151;have hrd:=Zox (w.alloc (.cells #[.bool b,.int .i64 i,.string s] 36)) s hs;have hsz:(w.alloc (.cells #[.bool b,.int .i64 i,.string s] 36)).heap.size=w.heap.size+1:=by simp
  rw[hsz]at hrd;have Qx:=hid hrd;clear hrd hsz;go_wp2_with fail
  go_ret;exact⟨_,rfl,Qx.out.1,Below.trans ((Zab w).alloc (Nat.le_refl _) _) (Qx.out.2.mono (by omega))⟩
def Zle (h b:Nat):Nat:=((h ^^^ b)*1099511628211)%18446744073709551616
def Zf0 (bs:List Nat):Nat:=bs.foldl Zle 14695981039346656037
def Zct (h i n:Nat):Nat:=(h%4294967296+i*(h/4294967296 ||| 1))%(64*n)
def Zdg (h k n:Nat):List Nat:=(List.range k).map fun i=>Zct h i n
theorem Zzm (h b:Nat):Zle h b<18446744073709551616:=Nat.mod_lt _ (by decide)
theorem Zjn (bs:List Nat):Zf0 bs<18446744073709551616:=by
 unfold Zf0;have:∀(bs:List Nat) (a:Nat),a<18446744073709551616→bs.foldl Zle a<18446744073709551616:=by
  intro bs;induction bs with
  | nil=>intro a h;exact h
  | cons b r ih=>intro a h;exact ih _ (Zzm a b)
 exact this bs _ (by decide)
theorem Zj3 (bs:List Nat) (b:Nat):Zf0 (bs++[b])=Zle (Zf0 bs) b:=by
 unfold Zf0;rw[List.foldl_append,List.foldl_cons,List.foldl_nil]
set_option maxHeartbeats 400000 in
theorem Zkv (h b:Nat) (w:World) (hh:h<18446744073709551616) (hb:b<256):Calls Tryz.prog 223 #[.int .u64 h,.int .u8 b] w fun e w'=>e=.returned (.int .u64 (Zle h b:Nat))∧w'=w:=by
 go_enter Tryz.func223,Tryz.ntmps223;have hx:bits BinOp.xor IntKind.u64 (h:Int) (b:Int)=((h ^^^ b:Nat):Int):=u64_xor_nat _ _ hh (by omega);have hlt:h ^^^ b<18446744073709551616:=by
  have:=@Nat.xor_lt_two_pow h b 64 (by omega) (by omega);omega
 have hr:((Zle h b:Nat):Int)=(((h ^^^ b:Nat):Int)*1099511628211)%18446744073709551616:=by unfold Zle;omega
 rw[hr];generalize (h ^^^ b:Nat)=y at *;clear hr;go_wp2;go_ret;exact⟨Zer (by simp[IntKind.wrap_u64, *]),rfl⟩
set_option maxHeartbeats 400000 in
theorem Zte (n:Nat) (w:World) (hn:n<18446744073709551616):Calls Tryz.prog 181 #[.int .u64 n] w fun e w'=>e=.returned (.int .u64 (Zf0 (leN 8 n):Nat))∧w'=w:=by
 go_enter Tryz.func181,Tryz.ntmps181;go_wp2;go_loop [3,5] (fun h i=>∃ k:Nat,k≤8∧i=.int .i64 k∧h=.int .u64 (Zf0 ((leN 8 n).take k):Nat)) (fun _ i=>8-(intOf i).toNat)
 case atStart=>exact⟨0,by omega,rfl,rfl⟩
 case round =>
  obtain⟨k,hk,rfl,rfl⟩:=hrel;have hlt:=Zjn ((leN 8 n).take k);by_cases h8:k<8
  ·have HS:Hid (Zf0 ((leN 8 n).take (k+1))=Zle (Zf0 ((leN 8 n).take k)) (n/2^(8*k)%256)):=by
    refine hid ?_;rw[List.take_succ_eq_append_getElem (by simp[leN];omega),Zj3];simp[leN]
   generalize Zf0 ((leN 8 n).take k)=a at *;have HB:=hid (Zkv a (n/2^(8*k)%256) w hlt (by omega));obtain⟨y,hy⟩:∃ y,n/2^(8*k)%256=y:=⟨_,rfl⟩;obtain⟨e,he⟩:∃ e,8*k=e:=⟨_,rfl⟩;have hy2:((n:Int)/2^e)%256=(y:Int):=by rw[← hy,← he];simp
   rw[hy]at HB HS;have he1:(8:Int)*(k:Int)=(e:Int):=by omega
   have he2:e<64:=by omega
   clear hy he;go_wp2_with (go_at_call 223;refine HB.out.mono ?_;rintro e w1 ⟨rfl,hw⟩;replace hw:=hw.symm;subst hw)
   go_round
   case rel=>exact⟨k+1,by omega,by go_num,by rw[HS.out]⟩
   case measure=>simp[intOf];omega
  ·obtain rfl:k=8:=by omega
   have e8:(leN 8 n).take 8=leN 8 n:=List.take_of_length_le (by simp[leN]);rw[e8]at *;clear hlt;go_wp2;go_ret;exact⟨rfl,rfl⟩
set_option maxHeartbeats 400000 in
theorem Ztq (s:ByteArray) (w:World) (hs:s.size≤1024):Calls Tryz.prog 180 #[.string s] w fun e w'=>e=.returned (.int .u64 (Zf0 (sbs s):Nat))∧w'=w:=by
 obtain⟨n,hn⟩:∃ n,s.size=n:=⟨_,rfl⟩;have HN:=hid hn;go_enter Tryz.func180,Tryz.ntmps180;rw[hn]at hs;go_wp2;go_loop [3,7] (fun h i=>∃ k:Nat,k≤n∧i=.int .i64 k∧h=.int .u64 (Zf0 ((sbs s).take k):Nat)) (fun _ i=>n-(intOf i).toNat)
 case atStart=>exact⟨0,by omega,rfl,rfl⟩
 case round =>
  obtain⟨k,hk,rfl,rfl⟩:=hrel;have hlt:=Zjn ((sbs s).take k);by_cases h8:k<n
  ·have hks:k<s.size:=by omega
   have HS:Hid (Zf0 ((sbs s).take (k+1))=Zle (Zf0 ((sbs s).take k)) s[k].toNat):=by
    refine hid ?_;have hg:=Z0o s k hks;have hl:k<(sbs s).length:=by rw[Zcb];exact hks
    rw[List.getElem?_eq_getElem hl]at hg;rw[List.take_succ_eq_append_getElem hl,Zj3,Option.some.inj hg]
   generalize Zf0 ((sbs s).take k)=a at *;have HB:=hid (Zkv a s[k].toNat w hlt s[k].toNat_lt);go_wp2_with (go_at_call 223;refine HB.out.mono ?_;rintro e w1 ⟨rfl,hw⟩;replace hw:=hw.symm;subst hw)
   go_round
   case rel=>exact⟨k+1,by omega,by go_num,by rw[HS.out]⟩
   case measure=>simp[intOf];omega
  ·obtain rfl:k=n:=by omega
   have e8:(sbs s).take k=sbs s:=List.take_of_length_le (by rw[Zcb];omega);rw[e8]at *;clear hlt;go_wp2;go_ret;exact⟨rfl,rfl⟩
def Zhr (k:Int) (c:C3):Nat:=Zf0 (Zg4 k c)
set_option maxHeartbeats 400000 in
theorem Znu (k:Int) (c:C3) (w:World) (hs:c.s.size≤1024):Calls Tryz.prog 149 #[.int .i64 k,c.v] w fun e w'=>e=.returned (.int .u64 (Zhr k c:Nat))∧Below w.heap.size w w':=by
 obtain⟨b,i,s⟩:=c;unfold C3.v Zhr Zg4;simp only at *;have HI:=hid (fun w2:World=>Zte (toU i) w2 (Znx i));have HT:=hid (fun w2:World=>Ztq s w2 hs);have HW:=Zuc i;clear hs;by_cases hk:k=2
 ·simp only[if_pos hk];go_enter Tryz.func149,Tryz.ntmps149;go_wp2_with (go_at_call 180;refine(HT.out _).mono ?_;rintro e w1 ⟨rfl,hw⟩;replace hw:=hw.symm;subst hw)
  go_ret;exact⟨rfl,(Zab w).alloc (Nat.le_refl _) _⟩
 ·simp only[if_neg hk];go_enter Tryz.func149,Tryz.ntmps149;go_wp2_with (go_at_call 181;refine(HI.out _).mono ?_;rintro e w1 ⟨rfl,hw⟩;replace hw:=hw.symm;subst hw)
  go_ret;exact⟨rfl,(Zab w).alloc (Nat.le_refl _) _⟩
theorem Zlz (h i n:Nat) (hn:0<n):Zct h i n<64*n:=Nat.mod_lt _ (by omega)
set_option maxHeartbeats 400000 in
theorem Zp7 (h i n:Nat) (w:World) (hh:h<18446744073709551616) (hi:i≤8) (hn:0<n) (hn2:n≤64):Calls Tryz.prog 179 #[.int .u64 h,.int .i64 i,.int .i64 n] w fun e w'=>e=.returned (.int .i64 (Zct h i n:Nat))∧w'=w:=by
 have hd:h/4294967296<4294967296:=by omega
 have ho:(h/4294967296 ||| 1)<4294967296:=Nat.or_lt_two_pow (n:=32) hd (by decide);have hand:h &&& 4294967295=h%4294967296:=Nat.and_two_pow_sub_one_eq_mod h 32;have h1:bits BinOp.and IntKind.u64 (h:Int) 4294967295=((h%4294967296:Nat):Int):=by rw[← hand];exact u64_and_nat h 4294967295 hh (by decide)
 have h2:bits BinOp.or IntKind.u64 ((h:Int)/4294967296) 1=((h/4294967296 ||| 1:Nat):Int):=by
  have:=u64_or_nat (h/4294967296) 1 (by omega) (by decide);rw[← this];congr 1
 have hp:((Zct h i n:Nat):Int)=(((h%4294967296:Nat):Int)+(i:Int)*((h/4294967296 ||| 1:Nat):Int))%(64*(n:Int)):=by unfold Zct;simp
 rw[hp];clear hp hand;generalize (h/4294967296 ||| 1)=st at *;have hlo2:h%4294967296<4294967296:=by omega
 obtain⟨lo,hlo⟩:∃ lo,h%4294967296=lo:=⟨_,rfl⟩;have hloi:(h:Int)%4294967296=(lo:Int):=by omega
 rw[hlo]at h1 hlo2 ⊢;obtain⟨pr,hpr⟩:∃ pr:Int,(i:Int)*(st:Int)=pr:=⟨_,rfl⟩;have hpr0:0≤pr:=by rw[← hpr];exact Int.mul_nonneg (by omega) (by omega)
 have hpr1:pr≤8*4294967296:=by
  rw[← hpr];have:=Int.mul_le_mul (show (i:Int)≤8 by omega) (show (st:Int)≤4294967296 by omega) (by omega) (by omega);omega
 rw[hpr];clear hd ho hlo hh;go_enter Tryz.func179,Tryz.ntmps179;go_wp2;have hm:((lo:Int)+pr)%(64*(n:Int))<64*(n:Int):=Int.emod_lt_of_pos _ (by omega);have hm0:0≤((lo:Int)+pr)%(64*(n:Int)):=Int.emod_nonneg _ (by omega);go_ret;refine⟨Zc0 ?_,rfl⟩;generalize ((lo:Int)+pr)%(64*(n:Int))=q at *;unfold wrap64;omega
theorem Zwu (x q:Nat) (hx:x<18446744073709551616):(bits BinOp.and IntKind.u64 ((x:Int)/2^q) 1==0)=!x.testBit q:=by
 have h:=Zhy x q hx;have h2:bits BinOp.and IntKind.u64 ((x:Int)/2^q) 1=0∨bits BinOp.and IntKind.u64 ((x:Int)/2^q) 1=1:=by
  have h3:=u64_and_nat (x/2^q) 1 (Nat.lt_of_le_of_lt (Nat.div_le_self _ _) hx) (by decide);have e:((x/2^q:Nat):Int)=(x:Int)/2^q:=by simp
  rw[e]at h3;rw[show ((1:Nat):Int)=1 from rfl]at h3;rw[h3];have:x/2^q &&& 1=x/2^q%2:=Nat.and_two_pow_sub_one_eq_mod _ 1;rw[this];omega
 rcases h2 with h2 | h2
 ·rw[h2]at h ⊢;rw[← h];rfl
 ·rw[h2]at h ⊢;rw[← h];rfl
theorem Zre (h n:Nat):Zdg h 0 n=[]:=rfl
theorem Zg9 (h k n:Nat):Zdg h (k+1) n=Zdg h k n++[Zct h k n]:=by simp[Zdg,List.range_succ]
theorem Zlb (h k n j:Nat):decide (j∈Zdg h (k+1) n)=(decide (j∈Zdg h k n)||decide (j=Zct h k n)):=by
 rw[Zg9];simp
set_option maxHeartbeats 1000000 in
theorem addHash_any (g n cap k h:Nat) (ys:List Nat) (w:World) (hr:Row w g 73 (u64s ys)) (hn:ys.length=n) (hnc:n≤cap) (hn0:0<n) (hn2:n≤64) (hk:k≤8) (hh:h<18446744073709551616) (hy:∀ x∈ys,x<18446744073709551616) :
  Calls Tryz.prog 148 #[.slice (some ⟨g,0,none⟩) n cap,.int .i64 k,.int .u64 h] w fun e w'=>e=.returned (.tuple #[])∧∃ zs:List Nat,Row w' g 73 (u64s zs)∧zs.length=n∧(∀ x∈zs,x<18446744073709551616) ∧
   (∀ j,Zar zs j=(Zar ys j||decide (j∈Zdg h k n)))∧Below g w w'∧w'.heap.size=w.heap.size∧∀ b,b≠g→w'.heap[b]? = w.heap[b]?:=by
 go_enter Tryz.func148,Tryz.ntmps148;have HR:=hid hr;have HN:=hid hn;have HY:=hid hy;clear hr hn hy;go_wp2;go_loopw [9] (fun i wr=>∃(t:Nat) (zs:List Nat),t≤k∧i=.int .i64 t∧Hid (Row wr g 73 (u64s zs))∧Hid (zs.length=n∧∀ x∈zs,x<18446744073709551616)∧Hid (∀ j,Zar zs j=(Zar ys j||decide (j∈Zdg h t n)))∧Hid (Below g w wr∧wr.heap.size=w.heap.size∧∀ b,b≠g→wr.heap[b]? = w.heap[b]?)) (fun i _=>k-(intOf i).toNat)
 case atStart=>exact⟨0,ys,by omega,rfl,HR,hid ⟨HN.out,HY.out⟩,hid (by intro j;simp[Zre]),hid ⟨Below.refl _ _,rfl,fun _ _=>rfl⟩⟩
 case round =>
  obtain⟨t,zs,ht,rfl,hrow,hz,hbits,hbel⟩:=hrel;by_cases hlt:t<k
  ·have HP:=hid (Zp7 h t n wr hh (by omega) hn0 hn2);have hpl:=Zlz h t n hn0;have HB:Hid (∀ j,Zar (zs.set (Zct h t n/64) (zs.getD (Zct h t n/64) 0 ||| 2^(Zct h t n%64))) j=(Zar ys j||decide (j∈Zdg h (t+1) n))):=by
    refine hid fun j=>?_
    rw[Zrq zs _ (by rw[hz.out.1];exact hpl),hbits.out,Zlb,Bool.or_assoc]
   generalize Zct h t n=p at *;obtain⟨d,hd⟩:∃ d,p/64=d:=⟨_,rfl⟩;obtain⟨r,hr'⟩:∃ r,p%64=r:=⟨_,rfl⟩;have hd':(p:Int)/64=(d:Int):=by omega
   have hrr:(p:Int)%64=(r:Int):=by omega
   have hr64:r<64:=by omega
   have hdl:d<zs.length:=by have:=hz.out.1;omega
   have hcell:wr.cell? ⟨g,d,none⟩=some (.int .u64 ((zs.getD d 0:Nat):Int)):=by rw[hrow.out.cell];exact Zh5 zs d hdl
   have hfr:=hrow.out.frozen d;have hyd:zs.getD d 0<18446744073709551616:=L.getD_lt (w:=64) (fun a ha=>by have:=hz.out.2 a ha;omega) d;have Vv:=hid (Zh1 (zs.getD d 0) r hyd hr64);have HS:=hid (hrow.out.set d (.int .u64 ((zs.getD d 0 ||| 2^r:Nat):Int)));have HL:=hid (Zuh zs hz.out.2 p);have Yw:=hid hz.out.1;rw[hd,hr']at HB HL;clear hd hr' hrow hz hbits;generalize hq:zs.getD d 0=q at *;clear hq;have hdn:d<n:=by rw[← Yw.out];exact hdl
   clear hdl;go_wp2_with (go_at_call 179;refine HP.out.mono ?_;rintro e w1 ⟨rfl,hw⟩;replace hw:=hw.symm;subst hw)
   go_roundw
   case rel =>
    rw[Vv.out];refine⟨t+1,zs.set d (q ||| 2^r),by omega,by go_num,hid ?_,hid ⟨by rw[List.length_set];exact Yw.out,HL.out⟩,HB,hid ⟨Zad hbel.out.1 _ _ _ (Nat.le_refl _),by rw[← hbel.out.2.1];simp[World.setCell],fun b hb=>by rw[heap_setCell_other _ _ b _ hb];exact hbel.out.2.2 b hb⟩⟩;rw[← Zpv];exact HS.out
   case measure=>simp[intOf];omega
  ·obtain rfl:t=k:=by omega
   go_wp2;go_end0
   exact⟨rfl,zs,hrow.out,hz.out.1,hz.out.2,hbits.out,hbel.out⟩
def Zfe (xs:List Nat) (h k:Nat):Bool:=(Zdg h k xs.length).all (Zar xs)
theorem Zsb (xs:List Nat) (h k:Nat):Zfe xs h (k+1)=(Zfe xs h k&&Zar xs (Zct h k xs.length)):=by simp[Zfe,Zg9]
theorem Zx5 (xs:List Nat) (h k t:Nat) (ht:t<k) (hb:Zar xs (Zct h t xs.length)=false):Zfe xs h k=false:=by
 rw[← Bool.not_eq_true];intro hp;simp only[Zfe,List.all_eq_true]at hp;have:=hp (Zct h t xs.length) (by simp only[Zdg,List.mem_map,List.mem_range];exact⟨t,ht,rfl⟩);rw[hb]at this;cases this
set_option maxHeartbeats 1000000 in
theorem Zl5 (v:Value) (xs:List Nat) (k h:Nat) (w:World) (hx:Rd w v xs.length 1 (u64s xs)) (hn0:0<xs.length) (hn2:xs.length≤64) (hk:k≤8) (hh:h<18446744073709551616) (hy:∀ x∈xs,x<18446744073709551616) :
  Calls Tryz.prog 160 #[v,.int .i64 k,.int .u64 h] w fun e w'=>e=.returned (.bool (Zfe xs h k))∧w'=w:=by
 obtain⟨A,ca,rfl,hlc,hcm,hA⟩:=hx.form;clear hx;obtain⟨n,hn⟩:∃ n,xs.length=n:=⟨_,rfl⟩;have HN:=hid hn;rw[hn]at hlc hA hn0 hn2 ⊢;clear hn;go_enter Tryz.func160,Tryz.ntmps160;go_wp2;go_loop [10] (fun i=>∃ t:Nat,t≤k∧i=.int .i64 t∧Zfe xs h t=true) (fun i=>k-(intOf i).toNat)
 case atStart=>exact⟨0,by omega,rfl,rfl⟩
 case round =>
  obtain⟨t,ht,rfl,hall⟩:=hrel;have Qs:=hid hall;clear hall;by_cases hlt:t<k
  ·have HP:=hid (Zp7 h t n w hh (by omega) hn0 hn2);have hpl:=Zlz h t n hn0;have Q8:=hid (Zx5 xs h k t hlt);have ZA:=hid (Zsb xs h t);rw[HN.out]at Q8 ZA;generalize Zct h t n=p at *;obtain⟨d,hd⟩:∃ d,p/64=d:=⟨_,rfl⟩;obtain⟨r,hr'⟩:∃ r,p%64=r:=⟨_,rfl⟩;have hd':(p:Int)/64=(d:Int):=by omega
   have hrr:(p:Int)%64=(r:Int):=by omega
   have hr64:r<64:=by omega
   have hdn:d<n:=by omega
   have hdl:d<xs.length:=by rw[HN.out];exact hdn
   obtain⟨b,o,rfl,hs⟩:=hA (by omega);have hcell:=hs.word d hdl;have hyd:xs.getD d 0<18446744073709551616:=L.getD_lt (w:=64) (fun a ha=>by have:=hy a ha;omega) d;have hbt:Zar xs p=(xs.getD d 0).testBit r:=by unfold Zar;rw[hd,hr']
   rw[hbt]at Q8 ZA;have HT:=hid (Zwu (xs.getD d 0) r hyd);generalize xs.getD d 0=x at *;generalize x.testBit r=bt at *;clear hd hr' hs hA hdl hbt hyd;cases bt
   ·have ht0:=HT.out;have ZB:=hid (Q8.out rfl);go_wp2_with (go_at_call 179;refine HP.out.mono ?_;rintro e w1 ⟨rfl,hw⟩;replace hw:=hw.symm;subst hw)
    go_ret;exact⟨Zae ZB.out.symm,rfl⟩
   ·have ht0:=HT.out;go_wp2_with (go_at_call 179;refine HP.out.mono ?_;rintro e w1 ⟨rfl,hw⟩;replace hw:=hw.symm;subst hw)
    go_round
    case rel=>exact⟨t+1,by omega,by go_num,by rw[ZA.out,Qs.out];rfl⟩
    case measure=>simp[intOf];omega
  ·obtain rfl:t=k:=by omega
   go_wp2;go_ret;exact⟨Zae Qs.out.symm,rfl⟩
set_option maxRecDepth 100000
theorem Znw {α : Type} {pre xs:List α} {x : α} (h:pre++[x] <+: xs):x∈xs∧pre.length<xs.length:=by
 obtain⟨t,rfl⟩:=h;constructor
 ·simp
 ·simp
set_option maxRecDepth 20000
theorem Zjr (w:World) (cs:List Value) (e:TypeId):∀ j u,cs[j]? = some u→(w.alloc (.cells cs.toArray e)).cell? ((⟨w.heap.size,0,none⟩:Addr).add j)=some u:=by
 intro j u h;have hr:Row (w.alloc (.cells cs.toArray e)) w.heap.size e cs:=by unfold Row;rw[heap_alloc_new]
 rw[Zdl,hr.cell,Nat.zero_add];exact h
theorem Zch {P:Program} {w:World} {ops:Array Oper} {rest:List Oper} {o:Oper} {a:Act} {Q:Exit→Act→World→Prop} {t:TypeId} {v:Value} {B n:Nat} {xs:List Value} (cs:List Value) (sz:Nat)
  (hgd:o.guard=none) (s r:Operand) (ho:o.op=.call { callee:=.builtin .append,args:=#[s,r],argTypes:=#[t,t] })
  (e:TypeId) (z:Value) (bytes:Nat) (h1:P.underlying t=some (.slice e)) (h2:(P.info? e).map (fun i=>(i.zero,i.size,i.bytes))=some (some z,sz,bytes)) (hz:z.cells.size=sz) (hsz:0<sz) (hcs:cs.length=sz)
  (hs:a.eval s=v) (hx:a.eval r=.slice (some ⟨w.heap.size,0,none⟩) 1 1)
  (hown:w.ownsRow B e sz v n xs) (hB:B≤w.heap.size) (hu:∀ u∈cs,u.oneCell'=true) (hm:n+1≤maxLen) (hby:(n+1)*bytes≤140737488355328)
  (hK:∀ v' w',w'.ownsRow B e sz v' (n+1) (xs++cs)→Below B w w'→w.heap.size≤w'.heap.size→Kp v w w' v'→wpList P ops Q rest (a.put o.dst v') w') :
  wpList P ops Q (o :: rest) a (w.alloc (.cells cs.toArray e)):=by
 refine wpList_plain hgd fun K hK'=>?_
 unfold Oper.wp execOp;simp only[ho,resolve,invoke,builtin,Sem.run_bind,Sem.run_pure,Result.andThen_ok,List.map_toArray,List.map_cons,List.map_nil,hs,hx];obtain⟨i,hi,hz0,hz1,hz2⟩:=info_parts h2;obtain⟨v',w',hr,h3,h4,_⟩:=run_append_own (P:=P) (w:=w.alloc (.cells cs.toArray e)) B t o.type e i z sz bytes h1 hi hz0 hz1 hz2 hz hsz v n xs (hown.alloc _)
  ⟨w.heap.size,0,none⟩ 1 1 cs (by omega) (Zjr w cs e) hu hm hby (by simp;omega)
 obtain⟨v2,w2,hr2,h5⟩:=Zg2 (P:=P) (w:=w.alloc (.cells cs.toArray e)) B t o.type e i z sz bytes h1 hi hz0 hz1 hz2 hz hsz v n xs (hown.alloc _)
  ⟨w.heap.size,0,none⟩ 1 1 cs (by omega) (Zjr w cs e) hu hm hby (by omega)
 rw[hr]at hr2;injection hr2 with e1 e2
 subst e1 e2;have hlt:=hown.lt;refine Ze7 hr (hK' _ _ (hK _ _ h3 ?_ ?_ ⟨?_,?_⟩))
 ·refine(((Below.refl B w).alloc hB _).grown h4 (by simp;omega) ?_);intro k hk;exact(hlt k hk).1
 ·have:=h4.size;simp at this;omega
 ·intro k hk hne;rw[h4.block k (by simp;omega) hne]
  first | exact heap_alloc_old w _ hk | exact heap_alloc_old w _ _ hk
 ·rcases h5 with h5 | ⟨h5,h6⟩
  ·intro k hk;exact .inl (by rw[← h5];exact hk.symm)
  ·intro k hk;rw[h5]at hk;simp at hk;exact .inr (by omega)
theorem Zho {P:Program} {w:World} {ops:Array Oper} {o:Oper} {a:Act} {K:Act→World→Prop} {Q:Exit→Act→World→Prop} {E:Prop} {t:TypeId} {v:Value} {B n:Nat} {xs:List Value} (cs:List Value) (sz:Nat)
  (hgd:o.guard=none) (s r:Operand) (ho:o.op=.call { callee:=.builtin .append,args:=#[s,r],argTypes:=#[t,t] })
  (e:TypeId) (z:Value) (bytes:Nat) (h1:P.underlying t=some (.slice e)) (h2:(P.info? e).map (fun i=>(i.zero,i.size,i.bytes))=some (some z,sz,bytes)) (hz:z.cells.size=sz) (hsz:0<sz) (hcs:cs.length=sz)
  (hs:a.eval s=v) (hx:a.eval r=.slice (some ⟨w.heap.size,0,none⟩) 1 1)
  (hown:w.ownsRow B e sz v n xs) (hB:B≤w.heap.size) (hu:∀ u∈cs,u.oneCell'=true) (hm:n+1≤maxLen) (hby:(n+1)*bytes≤140737488355328)
  (hK:∀ v' w',w'.ownsRow B e sz v' (n+1) (xs++cs)→Below B w w'→w.heap.size≤w'.heap.size→Kp v w w' v'→K (a.put o.dst v') w') :
  if Region.wanted o (yielded ops a.tmps)=true then Oper.wp P o a (w.alloc (.cells cs.toArray e)) K Q else E:=by
 have hw:Region.wanted o (yielded ops a.tmps)=true:=by simp[Region.wanted,hgd]
 rw[if_pos hw];unfold Oper.wp execOp;simp only[ho,resolve,invoke,builtin,Sem.run_bind,Sem.run_pure,Result.andThen_ok,List.map_toArray,List.map_cons,List.map_nil,hs,hx];obtain⟨i,hi,hz0,hz1,hz2⟩:=info_parts h2;obtain⟨v',w',hr,h3,h4,_⟩:=run_append_own (P:=P) (w:=w.alloc (.cells cs.toArray e)) B t o.type e i z sz bytes h1 hi hz0 hz1 hz2 hz hsz v n xs (hown.alloc _)
  ⟨w.heap.size,0,none⟩ 1 1 cs (by omega) (Zjr w cs e) hu hm hby (by simp;omega)
 obtain⟨v2,w2,hr2,h5⟩:=Zg2 (P:=P) (w:=w.alloc (.cells cs.toArray e)) B t o.type e i z sz bytes h1 hi hz0 hz1 hz2 hz hsz v n xs (hown.alloc _)
  ⟨w.heap.size,0,none⟩ 1 1 cs (by omega) (Zjr w cs e) hu hm hby (by omega)
 rw[hr]at hr2;injection hr2 with e1 e2
 subst e1 e2;have hlt:=hown.lt;refine Ze7 hr (hK _ _ h3 ?_ ?_ ⟨?_,?_⟩)
 ·refine(((Below.refl B w).alloc hB _).grown h4 (by simp;omega) ?_);intro k hk;exact(hlt k hk).1
 ·have:=h4.size;simp at this;omega
 ·intro k hk hne;rw[h4.block k (by simp;omega) hne]
  first | exact heap_alloc_old w _ hk | exact heap_alloc_old w _ _ hk
 ·rcases h5 with h5 | ⟨h5,h6⟩
  ·intro k hk;exact .inl (by rw[← h5];exact hk.symm)
  ·intro k hk;rw[h5]at hk;simp at hk;exact .inr (by omega)
theorem Zwh {P:Program} {w:World} {ops:Array Oper} {o:Oper} {a:Act} {K:Act→World→Prop} {Q:Exit→Act→World→Prop} {E:Prop} (f:Nat) (args:Array Operand) (tys:Array TypeId)
  (hw:Region.wanted o (yielded ops a.tmps)=true) (ho:o.op=.call { callee:=.value (.func f),args:=args,argTypes:=tys })
  (he:∀(vs:Array Value) (w2:World),(callFunc f vs).run P w2=.ok (.enter f vs) w2) {R:Ending→World→Prop} (vs:Array Value) (hv:args.toList.map a.eval=vs.toList) (h:Calls P f vs w R) (hR:∀ e w',R e w'→∃ v,e=.returned v)
  (hK:∀ v w',R (.returned v) w'→K (a.put o.dst v) w') :
  if Region.wanted o (yielded ops a.tmps)=true then Oper.wp P o a w K Q else E:=by
 rw[if_pos hw];unfold Oper.wp execOp;simp only[ho,resolve,invoke,Sem.run_bind,Sem.run_pure,Result.andThen_ok];have e0:a.eval (Operand.func f)=.func (.func f) #[] #[]:=rfl;simp only[e0,Deferred.ofValue,Sem.run_pure,Result.andThen_ok,Array.append_empty,Array.empty_append,he];have hv2:args.map a.eval=vs:=by
  apply Array.ext';rw[Array.toList_map];exact hv
 rw[hv2]
 show Calls _ _ _ _ _
 refine Calls.mono h fun e w' hr=>?_
 obtain⟨v,rfl⟩:=hR e w' hr;exact hK v w' hr
theorem Zmf {P:Program} {w:World} {ops:Array Oper} {o:Oper} {a:Act} {K:Act→World→Prop} {Q:Exit→Act→World→Prop} {E:Prop} (f:Nat) (args:Array Operand) (tys:Array TypeId)
  (hgd:o.guard=none) (ho:o.op=.call { callee:=.value (.func f),args:=args,argTypes:=tys })
  (he:∀(vs:Array Value) (w2:World),(callFunc f vs).run P w2=.ok (.enter f vs) w2) {R:Ending→World→Prop} (vs:Array Value) (hv:args.toList.map a.eval=vs.toList) (h:Calls P f vs w R) (hR:∀ e w',R e w'→∃ v,e=.returned v)
  (hK:∀ v w',R (.returned v) w'→K (a.put o.dst v) w') :
  if Region.wanted o (yielded ops a.tmps)=true then Oper.wp P o a w K Q else E :=
 Zwh f args tys (by simp[Region.wanted,hgd]) ho he vs hv h hR hK
theorem Zag {w:World} {B sz:Nat} {e:TypeId} {v:Value} {n:Nat} {cs:List Value} (h:w.ownsRow B e sz v n cs):∃ A cap,v=.slice A n cap:=by
 rcases h.2 with ⟨rfl,rfl⟩ | ⟨g,cap,cur,rfl,_⟩
 ·exact⟨none,0,rfl⟩
 ·exact⟨_,_,rfl⟩
theorem Zby {w:World} {B sz:Nat} {e:TypeId} {v:Value} {n:Nat} {cs:List Value} (h:w.ownsRow B e sz v n cs):Rd w v n sz cs:=by
 refine⟨h.1,?_⟩;rcases h.2 with ⟨rfl,rfl⟩ | ⟨g,cap,cur,rfl,hb,hg,hnc,hcm,hcs,htake⟩
 ·exact .inl ⟨⟨_,rfl⟩,rfl⟩
 ·refine .inr ⟨g,0,cap,rfl,hnc,hcm,?_⟩;intro i v hv;have:=h.cells (g:=g) rfl i v hv
  rwa [Zdl]at this
theorem Zah {w w':World} {B sz:Nat} {e:TypeId} {v:Value} {n:Nat} {cs:List Value} (h:w.ownsRow B e sz v n cs) (hb:Below w.heap.size w w'):w'.ownsRow B e sz v n cs :=
 Za5 h fun k hk=>hb.block k (h.lt k hk).2
theorem Zbc {w:World} {B B' sz:Nat} {e:TypeId} {v:Value} {n:Nat} {cs:List Value} (h:w.ownsRow B e sz v n cs) (hb:B'≤B):w.ownsRow B' e sz v n cs:=by
 refine⟨h.1,?_⟩;rcases h.2 with hn | ⟨g,cap,cur,rfl,hb',r⟩
 ·exact .inl hn
 ·exact .inr ⟨g,cap,cur,rfl,by omega,r⟩
theorem Zcp {w w':World} {B sz a b:Nat} {e:TypeId} {v:Value} {n:Nat} {cs:List Value} (h:w.ownsRow B e sz v n cs) (hc:Chg a b w w') (ha:∀ k,v.ownBlock=some k→k≠a∧k≠b):w'.ownsRow B e sz v n cs :=
 Za5 h fun k hk=>hc.block k (h.lt k hk).2 (ha k hk).1 (ha k hk).2
theorem Zcr {w:World} {B B' sz sz':Nat} {e e':TypeId} {v v':Value} {n n':Nat} {cs cs':List Value} (h:w.ownsRow B e sz v n cs) (h':w.ownsRow B' e' sz' v' n' cs') (hne:e≠e'):∀ k,v.ownBlock=some k→v'.ownBlock≠some k:=by
 intro k hk hk';rcases h.2 with ⟨rfl,_⟩ | ⟨g,cap,cur,rfl,_,hg,_⟩
 ·simp[Value.ownBlock]at hk
 rcases h'.2 with ⟨rfl,_⟩ | ⟨g',cap',cur',rfl,_,hg',_⟩
 ·simp[Value.ownBlock]at hk'
 simp[Value.ownBlock]at hk hk';subst hk hk';rw[hg]at hg';injection hg' with h1
 injection h1 with _ h2
 exact hne h2
theorem Zc5 {w:World} {B sz g:Nat} {e e':TypeId} {v:Value} {n:Nat} {cs ds:List Value} (h:w.ownsRow B e sz v n cs) (hr:Row w g e' ds) (hne:e≠e'):∀ k,v.ownBlock=some k→k≠g:=by
 rintro k hk rfl;rcases h.2 with ⟨rfl,_⟩ | ⟨g',cap,cur,rfl,_,hg,_⟩
 ·simp[Value.ownBlock]at hk
 simp[Value.ownBlock]at hk;subst hk;unfold Row at hr;rw[hr]at hg;injection hg with h1
 injection h1 with _ h2
 exact hne h2.symm
set_option maxRecDepth 100000
def Zdt (f:Nat→Nat) (k i:Nat):Bool:=(List.range k).any fun j=>f j==i
def Zea (f:Nat→Nat) (n k:Nat):List Bool:=(List.range n).map (Zdt f k)
theorem Ziw (f:Nat→Nat) (n k:Nat):(Zea f n k).length=n:=by simp[Zea]
theorem Zpq (f:Nat→Nat) (k i:Nat):Zdt f (k+1) i=(Zdt f k i||(f k==i)):=by simp[Zdt,List.range_succ]
theorem Zrb (f:Nat→Nat) (n k:Nat) (h:f k<n):(Zea f n k).set (f k) true=Zea f n (k+1):=by
 apply List.ext_getElem
 ·simp[Zea]
 ·intro i h1 h2;simp only[List.length_set,Ziw]at h1;rw[List.getElem_set];simp only[Zea,List.getElem_map,List.getElem_range,Zpq];by_cases he:f k=i
  ·rw[if_pos he];simp[he]
  ·rw[if_neg he];simp[he]
def Zdb (f:Nat→Nat) (k:Nat) (list:List Int):Nat→List Int
 | 0=>[]
 | i+1=>Zdb f k list i++(if Zdt f k i=true then [list.getD i dfI]else [])
theorem Zi0 (f:Nat→Nat) (k:Nat) (list:List Int):∀ i,(Zdb f k list i).length≤i
 | 0=>Nat.le_refl _
 | i+1=>by
  have:=Zi0 f k list i;unfold Zdb;rw[List.length_append]
  split
  ·simp;omega
  ·simp;omega
theorem Zsr (fl:List Bool) (i:Nat) (b:Bool):(Zf8 fl).set i (.bool b)=Zf8 (fl.set i b):=by simp[Zf8,List.map_set]
theorem Zl6 (fl:List Bool) (i:Nat) (h:i<fl.length):(Zf8 fl)[i]? = some (.bool (fl.getD i false)):=by simp[Zf8,List.getD,List.getElem?_eq_getElem h]
theorem Ztf (f:Nat→Nat) (n k i:Nat) (h:i<n):(Zea f n k).getD i false=Zdt f k i:=by simp[Zea,List.getD,List.getElem?_range h]
theorem Zu7 (xs:List Int) (x:Int):lstI (xs++[x])=lstI xs++[vI x]:=by simp[lstI,i64s,i64,vI]
set_option maxHeartbeats 4000000 in
theorem Zol (w:World) (g rows codec wd:Nat) (nulls:List Nat) (count:Nat) (list:List Int) (ends:List Nat) (base:Int) (lanes:List Nat) (hk:Ck_I w g rows codec wd nulls count list ends base lanes)
  (hll:list.length≤16777216) (hlv:∀ x∈lanes,x<18446744073709551616) (hwd:wd≤64) (hcn:count≤65536) (hja:∀ j,j<count→L.laneOf wd lanes j<list.length∧(0<wd→j/(64/wd)<lanes.length)) :
  Calls Tryz.prog 203 #[.pointer (some ⟨g,0,none⟩)] w fun e w'=>∃ v,e=.returned v ∧
   w'.ownsRow w.heap.size 2 1 v (Zdb (L.laneOf wd lanes) count list list.length).length (lstI (Zdb (L.laneOf wd lanes) count list list.length))∧Below w.heap.size w w':=by
 have QP:=hid (fun(w1:World) (hb:Below w.heap.size w w1) (j:Nat) (hj:j<count)=>by
  obtain⟨nu,lv,ev,nv,bef,q1,q2,q3,q4,q5,q6⟩:=(hk.mono hb).ex;exact Zxm w1 g rows codec wd nu count lv ev base nv _ bef lanes j q1 q5 hlv hwd (by omega) (hja j hj).2)
 have HJA:=hid (fun j hj=>(hja j hj).1);obtain⟨nu,lv,ev,nv,bef,q1,q2,q3,q4,q5,q6⟩:=hk.ex;have Zf:=hid q1;have Yt:=hid q3;obtain⟨Al,cl,rfl,hlc,hlm,_⟩:=q3.form;unfold maxLen at hlm;clear hk hlv hja q1 q2 q3 q4 q5 q6;obtain⟨m,hm⟩:∃ m,list.length=m:=⟨_,rfl⟩;have HM:=hid hm;simp only[hm]at hll Zf Yt HJA hlc ⊢;clear hm;have XP:=hid (fun(w1:World) (hb:Below w.heap.size w w1)=>(show w1.cell? ⟨g,4,none⟩=some (.int .i64 (count:Nat))∧w1.cell? ⟨g,5,none⟩=some (.slice Al m cl)from by
  have h:=Zf.out.mono hb;exact⟨by rw[h.cell];rfl,by rw[h.cell];rfl⟩))
 generalize L.laneOf wd lanes=f at *;obtain⟨x4,x5⟩:=XP.out w (Zab w);go_enter Tryz.func203,Tryz.ntmps203;go_wp2;refine Zcx 4 (.bool false) 1 Tryz.underlying137 Tryz.infoBool rfl m (by omega) (by omega) (by omega) (by unfold maxLen;omega) ?_;intro w2 hrow hb2 hsz2;have hrow2:Row w2 w.heap.size 4 (Zf8 (Zea f m 0)):=by
  have e:Zf8 (Zea f m 0)=List.replicate m (.bool false):=by
   apply List.ext_getElem
   ·simp[Zf8,Zea]
   ·intro i h1 h2;simp[Zf8,Zea,Zdt]
  rw[e];exact hrow
 have Yb:=hid hrow2;have Qb:=hid hb2;obtain⟨s,hs⟩:∃ s,w.heap.size=s:=⟨_,rfl⟩;have HS:=hid hs;rw[hs]at Yb ⊢;clear hrow hrow2 hb2 hs x4 x5;obtain⟨x4,x5⟩:=XP.out w2 Qb.out;go_upto_region 3 with fail
 go_loopw [18] (fun i wr=>∃ k:Nat,k≤count∧i=.int .i64 k∧Hid (Row wr s 4 (Zf8 (Zea f m k)))∧Hid (Below w.heap.size w wr)) (fun i _=>count-(intOf i).toNat)
 case atStart=>exact⟨0,by omega,rfl,Yb,Qb⟩
 case round =>
  obtain⟨k,hk,rfl,hrw,hbw⟩:=hrel;by_cases hlt:k<count
  ·have ZK:=hid (QP.out wr hbw.out k hlt);have hfl:=HJA.out k hlt;have ZA:=hid (Zrb f m k hfl);have Q4:=hid (Ziw f m k);have cb:=hrw.out.cell (f k);rw[Zl6 _ _ (by rw[Q4.out];exact hfl)]at cb;have fb:=hrw.out.frozen (f k);have hfi:((f k:Nat):Int)<(m:Int):=by omega
   have Qt:=hid (fun n=>(Row.drewN hrw.out n).set (f k) (.bool true));have YA:=hid (fun n=>Zad (Zaf hbw.out n) s (f k) (.bool true) (by rw[HS.out];exact Nat.le_refl _));clear x4 x5;generalize f k=q at *;have cb2:=fun n=>(show (wr.drewN n).cell? ⟨s,q,none⟩=_ from cb)
   go_wp2_with (go_at_call 237;refine ZK.out.mono ?_;rintro e w5 ⟨rfl,nd,rfl⟩)
   go_roundw
   case rel=>exact⟨k+1,by omega,by go_num,hid (by rw[← ZA.out,← Zsr];exact Qt.out nd),YA.out nd⟩
   case measure=>simp[intOf];omega
  ·obtain rfl:k=count:=by omega
   have UQ:=hid hrw.out;have Qe:=hid hbw.out;clear x4 x5;obtain⟨x4,x5⟩:=XP.out wr hbw.out;have Yc:=hid (Yt.out.mono hbw.out);clear hrw hbw Yb Qb QP;go_upto_region 9 with fail
   clear x4 x5;generalize wr=w3 at *;go_loopw [5,32] (fun ev i wr=>∃ t:Nat,t≤m∧i=.int .i64 t∧Hid (wr.ownsRow (s+1) 2 1 ev (Zdb f k list t).length (lstI (Zdb f k list t)))∧Hid (Below (s+1) w3 wr)) (fun _ i _=>m-(intOf i).toNat)
   case atStart=>exact⟨0,by omega,rfl,hid (by simpa [Zdb,lstI,i64s]using World.ownsRow_nil _ _ _ _),hid (Below.refl _ _)⟩
   case round =>
    obtain⟨t,ht,rfl,how,hbw⟩:=hrel;have hbz:Below w.heap.size w wr:=Qe.out.trans (hbw.out.mono (by rw[HS.out];omega));by_cases hlt:t<m
    ·have hrl:=Yt.out.mono hbz;obtain⟨b1,o1,rfl,hs1⟩:=hrl.at (by omega);have x1:=hs1 t _ (Zje list t (by rw[HM.out];exact hlt));unfold vI at x1;have hrs:=UQ.out.below hbw.out (by omega);have y1:=hrs.cell t;rw[Zl6 _ _ (by rw[Ziw];exact hlt),Ztf _ _ _ _ hlt]at y1;have ZA:Hid (Zdb f k list (t+1)=Zdb f k list t++(if Zdt f k t=true then [list.getD t dfI]else [])):=hid rfl;have Q4:=Zi0 f k list t;have hsz3:s+1≤wr.heap.size:=Nat.le_trans UQ.out.lt hbw.out.size;have QI:=hid how.out;have Ql:=hid hbw.out;clear how hbw hrl hs1 hrs hbz;generalize list.getD t dfI=x at *;generalize Zdt f k t=ua at *;generalize Zdb f k list t=L at *;cases ua
     ·go_wp2_with fail
      go_roundw
      case rel=>exact⟨t+1,by omega,by go_num,by rw[ZA.out,if_neg (by simp),List.append_nil];exact QI,Ql⟩
      case measure=>simp[intOf];omega
     ·go_wp2_with (at_builtin;refine Zdp rfl (.tmp 41) (.tmp 43) rfl 2 (.int .i64 0) 8 Tryz.underlying205 Tryz.info64 rfl rfl rfl QI.out hsz3 (by rfl) (by unfold maxLen;omega) (by omega) ?_;intro v' w' ho hb3 _)
      go_roundw
      case rel=>exact⟨t+1,by omega,by go_num,by rw[ZA.out,if_pos rfl,Zu7,List.length_append];exact hid ho,hid (Ql.out.trans hb3)⟩
      case measure=>simp[intOf];omega
    ·obtain rfl:t=m:=by omega
     have QI:=hid how.out;have hbz2:=hid hbz;clear how hbw hbz;go_wp2_with fail
     go_ret;exact⟨_,rfl,Zbc QI.out (by rw[HS.out];omega),hbz2.out⟩
end Go.Proofs.YtmcjknjlihgihaaGreatDoor
