/- Package format: when a zone is in order, and its record. -/
import Derived.WalkLawsBesides
import Derived.Lib.SlicesCompact
import Derived.Sort.Walk0
import Derived.Deep.CutBlock
import Derived.BigRegion
import Derived.Test.YtmcjknjlihgihaaGreatDoorLawfreshlistsuptoM14
set_option linter.unusedVariables false
set_option linter.unusedSimpArgs false
set_option linter.unnecessarySimpa false
set_option maxRecDepth 100000
namespace Go.Proofs.YtmcjknjlihgihaaGreatDoor
open Go.RowKit
def ofK (k:Int) (c:C3):Bool :=
 if c.n=true then Za3 k&&(decide (c.i=0)&&c.s.toList.isEmpty)else if k=1 then c.s.toList.isEmpty else decide (k=2∧c.i=0∧c.s.size≤1024)
set_option maxHeartbeats 1000000 in
theorem Zo0 (c:C3) (k:Int) (w:World):Calls Tryz.prog 70 #[c.v,.int .i64 k] w fun e w'=>e=.returned (.bool (ofK k c))∧Below w.heap.size w w':=by
 obtain⟨b,i,s⟩:=c;unfold C3.v ofK;simp only;go_enter Tryz.func70,Tryz.ntmps70;cases b
 ·by_cases h1:k=1
  ·go_wp2;go_ret;exact⟨Zae (by simp[h1]),(Zab w).alloc (Nat.le_refl _) _⟩
  ·go_wp2<;>(go_ret;exact⟨Zae (by simp[*]<;>omega),(Zab w).alloc (Nat.le_refl _) _⟩)
 ·have HK:=hid (fun w2:World=>Zjm k w2);generalize Za3 k=kk at *;cases kk
  ·go_wp2_with (go_at_call 69;refine(HK.out _).mono ?_;rintro e w1 ⟨rfl,hw⟩;replace hw:=hw.symm;subst hw)
   go_ret;exact⟨Zae (by simp),(Zab w).alloc (Nat.le_refl _) _⟩
  ·go_wp2_with (go_at_call 69;refine(HK.out _).mono ?_;rintro e w1 ⟨rfl,hw⟩;replace hw:=hw.symm;subst hw)
   all_goals (go_ret;exact⟨Zae (by simp[*]),(Zab w).alloc (Nat.le_refl _) _⟩)
set_option maxHeartbeats 1000000 in
theorem Zvc (c:C3) (k:Int) (w:World):Calls Tryz.prog 100 #[.int .i64 k,c.v] w fun e w'=>e=.returned (.bool (ofK k c))∧Below w.heap.size w w':=by
 obtain⟨b,i,s⟩:=c;unfold C3.v ofK;simp only;have HK:=hid (fun w2:World=>Zfw k w2);generalize Za3 k=kk at *;go_enter Tryz.func100,Tryz.ntmps100;cases b
 ·clear HK;by_cases h1:k=1
  ·go_wp2;go_ret;exact⟨Zae (by simp[h1]),(Zab w).alloc (Nat.le_refl _) _⟩
  ·by_cases h2:k=2
   ·subst h2;by_cases h3:i=0
    ·by_cases h4:(s.size:Int)≤1024<;>go_wp2<;>(go_ret;exact⟨Zae (by simp[*];omega),(Zab w).alloc (Nat.le_refl _) _⟩)
    ·go_wp2;go_ret;exact⟨Zae (by simp[*]),(Zab w).alloc (Nat.le_refl _) _⟩
   ·go_wp2;go_ret;exact⟨Zae (by simp[*]),(Zab w).alloc (Nat.le_refl _) _⟩
 ·cases kk
  ·go_wp2_with (go_at_call 96;refine(HK.out _).mono ?_;rintro e w1 ⟨rfl,hw⟩;replace hw:=hw.symm;subst hw)
   go_ret;exact⟨Zae (by simp),(Zab w).alloc (Nat.le_refl _) _⟩
  ·go_wp2_with (go_at_call 96;refine(HK.out _).mono ?_;rintro e w1 ⟨rfl,hw⟩;replace hw:=hw.symm;subst hw)
   all_goals (go_ret;exact⟨Zae (by simp[*]),(Zab w).alloc (Nat.le_refl _) _⟩)
set_option maxRecDepth 512
theorem Zg5:∀ a b c:List UInt8,Op.bytesLess a b=true→Op.bytesLess b c=true→Op.bytesLess a c=true:=by
 intro a
 induction a with
 | nil =>
  intro b c h1 h2;cases b with
  | nil=>simp[Op.bytesLess]at h1
  | cons y b =>
   cases c with
   | nil=>simp[Op.bytesLess]at h2
   | cons z c=>simp[Op.bytesLess]
 | cons x a ih =>
  intro b c h1 h2;cases b with
  | nil=>simp[Op.bytesLess]at h1
  | cons y b =>
   cases c with
   | nil=>simp[Op.bytesLess]at h2
   | cons z c =>
    simp only[Op.bytesLess,Bool.or_eq_true,Bool.and_eq_true,decide_eq_true_eq,beq_iff_eq]at h1 h2 ⊢;rcases h1 with h1 | ⟨h1,h3⟩<;>rcases h2 with h2 | ⟨h2,h4⟩
    ·exact .inl (UInt8.lt_trans h1 h2)
    ·subst h2;exact .inl h1
    ·subst h1;exact .inl h2
    ·subst h1 h2;exact .inr ⟨rfl,ih _ _ h3 h4⟩
theorem Zo5:∀ a b:List UInt8,Op.bytesLess a b=false→a≠b→Op.bytesLess b a=true:=by
 intro a
 induction a with
 | nil =>
  intro b h1 h2;cases b with
  | nil=>exact absurd rfl h2
  | cons y b=>simp[Op.bytesLess]at h1
 | cons x a ih =>
  intro b h1 h2;cases b with
  | nil=>simp[Op.bytesLess]
  | cons y b =>
   rw[← Bool.not_eq_true]at h1;simp only[Op.bytesLess,Bool.or_eq_true,Bool.and_eq_true,decide_eq_true_eq,beq_iff_eq]at h1 ⊢;by_cases hxy:x=y
   ·subst hxy;refine .inr ⟨rfl,ih b ?_ (fun h=>h2 (by rw[h]))⟩;rw[← Bool.not_eq_true];exact fun h=>h1 (.inr ⟨rfl,h⟩)
   ·refine .inl ?_;rcases UInt8.lt_or_lt_of_ne hxy with h | h
    ·exact absurd (.inl h) h1
    ·exact h
theorem Zfr:∀ l:List UInt8,Op.bytesLess l l=false:=by
 intro l
 induction l with
 | nil=>rfl
 | cons a l ih=>rw[Op.bytesLess,ih];simp
set_option maxRecDepth 100000
theorem p64:(2:Nat)^(8*8)=18446744073709551616:=by decide
theorem p32:(2:Nat)^(8*4)=4294967296:=by decide
theorem Zvo (n:Nat):∀ k,L.wordOf 8 (leN k n)=n%2^(8*k):=by
 intro k
 induction k with
 | zero=>simp[leN,L.wordOf,Nat.mod_one]
 | succ k ih =>
  rw[Znk,L.wordOf_snoc,ih,Zak,Nat.mul_succ,Nat.pow_add,Nat.mod_mul,show (2:Nat)^8=256 from rfl];congr 1
  exact Nat.mul_comm _ _
theorem Zdf {k n:Nat} (h:n<2^(8*k)):L.wordOf 8 (leN k n)=n:=by rw[Zvo,Nat.mod_eq_of_lt h]
theorem Zw6 (k:Nat) (xs:List Nat):∀ i,(xs.flatMap (leN k)).drop (k*i)=(xs.drop i).flatMap (leN k):=by
 induction xs with
 | nil=>intro i;simp
 | cons x r ih =>
  intro i;cases i with
  | zero=>simp
  | succ i =>
   rw[List.flatMap_cons,List.drop_succ_cons,← ih i,Nat.mul_succ,Nat.add_comm,← List.drop_drop];congr 1
   exact List.drop_left' (Zak k x)
theorem Zp5 (k:Nat) (hk:0<k) (xs:List Nat) (hx:∀ x∈xs,x<2^(8*k)):numL k (xs.flatMap (leN k))=xs:=by
 have hl:(xs.flatMap (leN k)).length=k*xs.length:=Zlw _ k (Zak k) xs;apply List.ext_getElem
 ·rw[Zal,hl,Nat.mul_div_cancel_left _ hk]
 ·intro i h1 h2;simp only[numL,List.getElem_map,List.getElem_range];rw[Zw6,List.drop_eq_getElem_cons h2,List.flatMap_cons,List.take_left' (Zak k _)];exact Zdf (hx _ (List.getElem_mem h2))
theorem Zhx (n:Nat) (a b:List Nat) (h:a.length=n):tk n (a++b)=a:=by
 unfold tk;rw[if_pos (by rw[List.length_append];omega),List.take_left' h]
def okI (x:Int):Prop:=-9223372036854775808≤x∧x≤9223372036854775807
theorem Zld (s:ByteArray):Zat (sbs s)=s:=by
 unfold Zat sbs;apply ByteArray.ext;rw[List.map_map];have:s.data.toList.map (UInt8.ofNat ∘ UInt8.toNat)=s.data.toList:=by
  rw[List.map_congr_left (g:=id) (fun x _=>by simp),List.map_id]
 rw[this]
def Zdx (k:Int) (c:C3):Bool:=!c.n&&ofK k c
set_option maxHeartbeats 1000000 in
theorem Zlc (c:C3) (k:Int) (w:World):Calls Tryz.prog 184 #[.int .i64 k,c.v] w fun e w'=>e=.returned (.bool (Zdx k c))∧Below w.heap.size w w':=by
 have HK:=hid (fun w2:World=>Zvc c k w2);unfold Zdx;generalize ofK k c=kk at *;obtain⟨b,i,s⟩:=c;unfold C3.v at *;simp only at *;go_enter Tryz.func184,Tryz.ntmps184;cases b
 ·go_wp2_with (go_at_call 100;refine(HK.out _).mono ?_;rintro e w1 ⟨rfl,hb1⟩;have HB:=hid hb1;clear hb1)
  go_ret;exact⟨Zae (by simp),((Zab w).alloc (Nat.le_refl _) _).trans (HB.out.mono (by simp))⟩
 ·go_wp2;go_ret;exact⟨Zae (by simp),(Zab w).alloc (Nat.le_refl _) _⟩
set_option maxHeartbeats 1000000 in
theorem Zft (c:C3) (k:Int) (w:World):Calls Tryz.prog 167 #[c.v,.int .i64 k] w fun e w'=>e=.returned (.bool (Zdx k c))∧Below w.heap.size w w':=by
 have HK:=hid (fun w2:World=>Zo0 c k w2);unfold Zdx;generalize ofK k c=kk at *;obtain⟨b,i,s⟩:=c;unfold C3.v at *;simp only at *;go_enter Tryz.func167,Tryz.ntmps167;cases b
 ·go_wp2_with (go_at_call 70;refine(HK.out _).mono ?_;rintro e w1 ⟨rfl,hb1⟩;have HB:=hid hb1;clear hb1)
  go_ret;exact⟨Zae (by simp),((Zab w).alloc (Nat.le_refl _) _).trans (HB.out.mono (by simp))⟩
 ·go_wp2;go_ret;exact⟨Zae (by simp),(Zab w).alloc (Nat.le_refl _) _⟩
theorem Z1q {w w1:World} {x y z:Value} {e:TypeId} {B:Nat} (h:Below B (w.alloc (.cells #[x,y,z] e)) w1) (hB:w.heap.size<B) :
  w1.cell? ⟨w.heap.size,0,none⟩=some x∧w1.cell? ⟨w.heap.size,1,none⟩=some y∧w1.cell? ⟨w.heap.size,2,none⟩=some z:=by
 have hr:Row (w.alloc (.cells #[x,y,z] e)) w.heap.size e [x,y,z]:=by unfold Row;rw[heap_alloc_new]
 have hr2:=hr.below h hB;exact⟨by rw[hr2.cell];rfl,by rw[hr2.cell];rfl,by rw[hr2.cell];rfl⟩
theorem Zeq {w:World} {g:Nat} {e:TypeId} {a b c:Value} (h:Row w g e [a,b,c]):w.cell? ⟨g,0,none⟩=some a∧w.cell? ⟨g,1,none⟩=some b∧w.cell? ⟨g,2,none⟩=some c:=⟨by rw[h.cell];rfl,by rw[h.cell];rfl,by rw[h.cell];rfl⟩
theorem Zbs {w:World} {C:Array Value} {e:TypeId}:Row (w.alloc (.cells C e)) w.heap.size e C.toList∧Below w.heap.size w (w.alloc (.cells C e)):=by
 refine⟨?_,(Zab w).alloc (Nat.le_refl _) _⟩;unfold Row;rw[heap_alloc_new]
set_option maxRecDepth 20000
structure ZM where
 rg:Bool
 nu:Int
 mn:C3
 mx:C3
 hs:Int
 bl:List Nat
def ZM.df:ZM:=⟨false,0,C3.df,C3.df,0,[]⟩
def isDf (c:C3):Bool:=!c.n&&(decide (c.i=0)&&c.s.toList.isEmpty)
def Zej (n k:Int):Bool:=decide (1≤n∧n≤64∧1≤k∧k≤8)
def filZ (n:Nat) (k:Int):Bool:=decide (n=0∧k=0)||Zej n k
def rgOk (k rows:Int) (z:ZM):Bool :=
 if z.rg=true then (if z.nu=rows then isDf z.mn&&isDf z.mx else decide (0≤z.nu∧z.nu<rows)&&(Zdx k z.mn&&Zdx k z.mx))
 else decide (z.nu=0)&&(isDf z.mn&&isDf z.mx)
def zOk (k rows:Int) (z:ZM):Bool:=rgOk k rows z&&filZ z.bl.length z.hs
def Zb3 (k:Int) (c:C3):List Nat:=if k=2 then leN 4 c.s.size++sbs c.s else leN 8 (toU c.i)
def Zdl (z:ZM):Nat:=(if z.rg=true then 1 else 0)+(if z.bl=[]then 0 else 2)
def recA (z:ZM):List Nat:=if z.rg=true then leN 4 z.nu.toNat else []
def recB (k rows:Int) (z:ZM):List Nat:=if z.rg=true∧z.nu≠rows then Zb3 k z.mn++Zb3 k z.mx else []
def recC (z:ZM):List Nat:=if z.bl=[]then []else [z.hs.toNat]++leN 4 z.bl.length++le8 z.bl
def zRec (k rows:Int) (z:ZM):List Nat:=[Zdl z]++recA z++recB k rows z++recC z
theorem Zxs {x t:ByteArray} (h:x.toList=t.toList):x=t:=by
 rw[ByteArray.toList_eq,ByteArray.toList_eq]at h;obtain⟨x⟩:=x;obtain⟨t⟩:=t;simp only at h;rw[Array.toList_inj.1 h]
theorem Zk6 {c:C3} (h:isDf c=true):c=C3.df:=by
 obtain⟨n,i,s⟩:=c;unfold isDf at h;simp only[Bool.and_eq_true,Bool.not_eq_true',decide_eq_true_eq,List.isEmpty_iff]at h;obtain⟨rfl,rfl,h3⟩:=h;have:s=ByteArray.empty:=Zxs (by rw[h3];decide +kernel);rw[this];rfl
theorem Zfg {s:ByteArray} (h:s.toList.isEmpty=true):s=ByteArray.empty:=Zxs (by rw[List.isEmpty_iff.1 h];decide +kernel)
theorem Zpg {i:Int} (h : -9223372036854775808≤i∧i≤9223372036854775807):Zcf (toU i)=i:=by unfold Zcf toU wrap64;omega
def bdC (k:Int) (xs:List Nat):C3:=if k=2 then ⟨false,0,Zat (tk (L.wordOf 8 (tk 4 xs)) (tkL 4 xs))⟩else ⟨false,Zcf (L.wordOf 8 (tk 8 xs)),ByteArray.empty⟩
def bdL (k:Int) (xs:List Nat):List Nat:=if k=2 then tkL (L.wordOf 8 (tk 4 xs)) (tkL 4 xs)else tkL 8 xs
def pzF (xs:List Nat):Nat:=L.wordOf 8 (tk 1 xs)
def pzR (xs:List Nat):Bool:=decide (pzF xs%2=1)
def pzN (xs:List Nat):Int:=if pzR xs=true then (L.wordOf 8 (tk 4 (tkL 1 xs)):Nat)else 0
def pzX2 (xs:List Nat):List Nat:=if pzR xs=true then tkL 4 (tkL 1 xs)else tkL 1 xs
def pzD (rows:Int) (xs:List Nat):Bool:=pzR xs&&decide (pzN xs≠rows)
def pzX4 (k rows:Int) (xs:List Nat):List Nat:=if pzD rows xs=true then bdL k (bdL k (pzX2 xs))else pzX2 xs
def pzB (xs:List Nat):Bool:=decide (pzF xs/2%2=1)
def Zfs (k rows:Int) (xs:List Nat):ZM :=
 ⟨pzR xs,pzN xs,if pzD rows xs=true then bdC k (pzX2 xs)else C3.df,if pzD rows xs=true then bdC k (bdL k (pzX2 xs))else C3.df,
  if pzB xs=true then (L.wordOf 8 (tk 1 (pzX4 k rows xs)):Nat)else 0,
  if pzB xs=true then numL 8 (tk (8*L.wordOf 8 (tk 4 (tkL 1 (pzX4 k rows xs)))) (tkL 4 (tkL 1 (pzX4 k rows xs))))else []⟩
theorem Zg9 (n:Nat) (a b:List Nat) (h:a.length=n):tkL n (a++b)=b:=by
 unfold tkL;rw[if_pos (by rw[List.length_append];omega),List.drop_left' h]
theorem Zhi (x:Nat):L.wordOf 8 [x]=x:=by simp[L.wordOf]
theorem Zt5 {k:Int} {c:C3} (hk:Za3 k=true) (h:Zdx k c=true) (hi:okI c.i):(∀ t,bdC k (Zb3 k c++t)=c)∧∀ t,bdL k (Zb3 k c++t)=t:=by
 obtain⟨n,i,s⟩:=c;unfold Zdx at h;rw[Bool.and_eq_true,Bool.not_eq_true']at h;obtain⟨h1,h2⟩:=h;simp only at h1 hi;subst h1;unfold ofK at h2;simp only[Bool.false_eq_true,if_false]at h2;by_cases h0:k=2
 ·subst h0;rw[if_neg (by decide),decide_eq_true_eq]at h2;obtain⟨_,rfl,hs⟩:=h2;have hl:(sbs s).length=s.size:=Zca s;have hw:L.wordOf 8 (leN 4 s.size)=s.size:=Zdf (by rw[p32];omega);constructor
  ·intro t;unfold bdC Zb3;rw[if_pos rfl,if_pos rfl,List.append_assoc,Zhx 4 _ _ (Zak _ _),Zg9 4 _ _ (Zak _ _),hw,Zhx _ _ _ hl,Zld]
  ·intro t;unfold bdL Zb3;rw[if_pos rfl,if_pos rfl,List.append_assoc,Zhx 4 _ _ (Zak _ _),Zg9 4 _ _ (Zak _ _),hw,Zg9 _ _ _ hl]
 ·have hk1:k=1:=by
   unfold Za3 at hk;rw[decide_eq_true_eq]at hk;omega
  subst hk1;rw[if_pos rfl]at h2;have hse:=Zfg h2;subst hse;have hw:L.wordOf 8 (leN 8 (toU i))=toU i:=Zdf (by rw[p64];exact Zmw i);unfold okI at hi;constructor
  ·intro t;unfold bdC Zb3;rw[if_neg (by decide),if_neg (by decide),Zhx 8 _ _ (Zak _ _),hw,Zpg (by omega)]
  ·intro t;unfold bdL Zb3;rw[if_neg (by decide),if_neg (by decide),Zg9 8 _ _ (Zak _ _)]
def Zjn (z:ZM):Prop:=okI z.mn.i∧okI z.mx.i∧∀ x∈z.bl,x<18446744073709551616
theorem Zm9 (z:ZM):(Zdl z%2=1)↔z.rg=true:=by
 unfold Zdl;by_cases h:z.bl=[]<;>cases z.rg<;>simp[h]
theorem Zvb (z:ZM):(Zdl z/2%2=1)↔z.bl≠[]:=by
 unfold Zdl;by_cases h:z.bl=[]<;>cases z.rg<;>simp[h]
theorem Zpc (z:ZM):(2≤Zdl z)↔z.bl≠[]:=by
 unfold Zdl;by_cases h:z.bl=[]<;>cases z.rg<;>simp[h]
theorem Zmd (z:ZM):Zdl z<4:=by
 unfold Zdl;by_cases h:z.bl=[]<;>cases z.rg<;>simp[h]
theorem Ztz {k rows:Int} {z:ZM} (hr:0≤rows∧rows≤65536) (h:zOk k rows z=true):0≤z.nu∧z.nu≤65536:=by
 unfold zOk rgOk at h;rw[Bool.and_eq_true]at h;have h1:=h.1
 split at h1
 ·split at h1
  ·omega
  ·rw[Bool.and_eq_true,decide_eq_true_eq]at h1;omega
 ·rw[Bool.and_eq_true,decide_eq_true_eq]at h1;omega
theorem Zfq {k rows:Int} {z:ZM} (h:zOk k rows z=true):(z.bl=[]∧z.hs=0)∨(z.bl≠[]∧z.bl.length≤64∧1≤z.hs∧z.hs≤8):=by
 unfold zOk filZ Zej at h;rw[Bool.and_eq_true,Bool.or_eq_true,decide_eq_true_eq,decide_eq_true_eq]at h;rcases h.2 with ⟨h1,h2⟩ | ⟨h1,h2,h3,h4⟩
 ·left;exact⟨List.length_eq_zero_iff.1 h1,h2⟩
 ·right
  refine⟨fun e=>?_,by omega,h3,h4⟩;rw[e]at h1;simp at h1
theorem Zmv {k rows:Int} {z:ZM} (h:zOk k rows z=true):(z.rg=true∧z.nu≠rows∧Zdx k z.mn=true∧Zdx k z.mx=true)∨(¬ (z.rg=true∧z.nu≠rows)∧z.mn=C3.df∧z.mx=C3.df):=by
 unfold zOk rgOk at h;rw[Bool.and_eq_true]at h;have h1:=h.1
 split at h1
 ·rename_i hr
  split at h1
  ·rename_i hn
   rw[Bool.and_eq_true]at h1;exact .inr ⟨fun h=>h.2 hn,Zk6 h1.1,Zk6 h1.2⟩
  ·rename_i hn
   rw[Bool.and_eq_true,Bool.and_eq_true]at h1;exact .inl ⟨hr,hn,h1.2.1,h1.2.2⟩
 ·rename_i hr
  rw[Bool.and_eq_true,Bool.and_eq_true]at h1;exact .inr ⟨fun h=>hr h.1,Zk6 h1.2.1,Zk6 h1.2.2⟩
theorem Ztj {k rows:Int} {z:ZM} (h:zOk k rows z=true) (hr:z.rg=false):z.nu=0:=by
 unfold zOk rgOk at h;rw[Bool.and_eq_true,hr]at h;have h1:=h.1;simp only[Bool.false_eq_true,if_false,Bool.and_eq_true,decide_eq_true_eq]at h1;exact h1.1
theorem Zv1 {k rows:Int} {z:ZM} (hk:Za3 k=true) (hr:0≤rows∧rows≤65536) (hz:Zjn z) (h:zOk k rows z=true):Zfs k rows (zRec k rows z)=z:=by
 obtain⟨hn0,hn1⟩:=Ztz hr h;have hF:pzF (zRec k rows z)=Zdl z:=by
  unfold pzF zRec;rw[List.append_assoc,List.append_assoc,Zhx 1 _ _ rfl,Zhi]
 have hT:tkL 1 (zRec k rows z)=recA z++(recB k rows z++recC z):=by
  unfold zRec;rw[List.append_assoc,List.append_assoc,Zg9 1 _ _ rfl]
 have hR:pzR (zRec k rows z)=z.rg:=by
  unfold pzR;rw[hF];have:=Zm9 z;cases hc:z.rg
  ·rw[hc]at this;exact decide_eq_false (fun e=>by simpa using this.1 e)
  ·exact decide_eq_true (this.2 hc)
 have hB:pzB (zRec k rows z)=decide (z.bl≠[]):=by
  unfold pzB;rw[hF];exact decide_eq_decide.2 (Zvb z)
 have hN:pzN (zRec k rows z)=z.nu:=by
  unfold pzN;rw[hR,hT];cases hc:z.rg
  ·rw[if_neg (by decide),Ztj h hc]
  ·rw[if_pos rfl];unfold recA;rw[if_pos hc,Zhx 4 _ _ (Zak _ _),Zdf (by rw[p32];omega)];omega
 have hX2:pzX2 (zRec k rows z)=recB k rows z++recC z:=by
  unfold pzX2;rw[hR,hT];unfold recA;cases hc:z.rg
  ·rfl
  ·rw[if_pos rfl,if_pos rfl,Zg9 4 _ _ (Zak _ _)]
 have hD:pzD rows (zRec k rows z)=decide (z.rg=true∧z.nu≠rows):=by
  unfold pzD;rw[hR,hN];cases z.rg<;>simp
 have hparts:(if pzD rows (zRec k rows z)=true then bdC k (pzX2 (zRec k rows z))else C3.df)=z.mn∧(if pzD rows (zRec k rows z)=true then bdC k (bdL k (pzX2 (zRec k rows z)))else C3.df)=z.mx∧pzX4 k rows (zRec k rows z)=recC z:=by
  unfold pzX4;rw[hD,hX2];rcases Zmv h with ⟨h1,h2,h3,h4⟩ | ⟨h1,h2,h3⟩
  ·have hc:z.rg=true∧z.nu≠rows:=⟨h1,h2⟩;obtain⟨b1,b2⟩:=Zt5 hk h3 hz.1;obtain⟨b3,b4⟩:=Zt5 hk h4 hz.2.1;have eB:recB k rows z=Zb3 k z.mn++Zb3 k z.mx:=by unfold recB;rw[if_pos hc]
   rw[decide_eq_true hc,if_pos rfl,if_pos rfl,if_pos rfl,eB,List.append_assoc,b1,b2,b3,b4];exact⟨rfl,rfl,rfl⟩
  ·have eB:recB k rows z=[]:=by unfold recB;rw[if_neg h1]
   rw[decide_eq_false h1,if_neg (by decide),if_neg (by decide),if_neg (by decide),h2,h3,eB];exact⟨rfl,rfl,rfl⟩
 unfold Zfs;rw[hparts.1,hparts.2.1,hparts.2.2,hR,hN,hB];rcases Zfq h with ⟨h1,h2⟩ | ⟨h1,h2,h3,h4⟩
 ·rw[decide_eq_false (by simp[h1]),if_neg (by decide),if_neg (by decide)];obtain⟨a,b,c,d,e,f⟩:=z;simp only at h1 h2;rw[h1,h2]
 ·have eC:recC z=[z.hs.toNat]++(leN 4 z.bl.length++le8 z.bl):=by unfold recC;rw[if_neg h1,List.append_assoc]
  have e8:le8 z.bl=z.bl.flatMap (leN 8):=rfl;rw[decide_eq_true h1,if_pos rfl,if_pos rfl,eC,Zhx 1 _ _ rfl,Zg9 1 _ _ rfl,Zhx 4 _ _ (Zak _ _),Zg9 4 _ _ (Zak _ _),Zhi,Zdf (by rw[p32];omega)];have ht:tk (8*z.bl.length) (le8 z.bl)=le8 z.bl:=by
   have:=Zhx (8*z.bl.length) (le8 z.bl) [] (Zl7 _)
   rwa [List.append_nil]at this
  rw[ht,e8,Zp5 8 (by decide) _ (fun x hx=>by rw[p64];exact hz.2.2 x hx)];obtain⟨a,b,c,d,e,f⟩:=z;simp only at h3 h4 ⊢;rw[Int.toNat_of_nonneg (by omega)]
set_option maxRecDepth 100000
def ZM.vs (z:ZM) (b:Value):List Value:=[.bool z.rg,.int .i64 z.nu,.bool z.mn.n,.int .i64 z.mn.i,.string z.mn.s,.bool z.mx.n,.int .i64 z.mx.i,.string z.mx.s,.int .i64 z.hs,b]
def ZM.v (z:ZM) (b:Value):Value:=.agg #[.bool z.rg,.int .i64 z.nu,.bool z.mn.n,.int .i64 z.mn.i,.string z.mn.s,.bool z.mx.n,.int .i64 z.mx.i,.string z.mx.s,.int .i64 z.hs,b]
theorem Za5 {w:World} {g:Nat} {e:TypeId} {a0 a1 a2 a3 a4 a5 a6 a7 a8 a9:Value} (h:Row w g e [a0,a1,a2,a3,a4,a5,a6,a7,a8,a9]) :
  w.cell? ⟨g,0,none⟩=some a0∧w.cell? ⟨g,1,none⟩=some a1∧w.cell? ⟨g,2,none⟩=some a2∧w.cell? ⟨g,3,none⟩=some a3∧w.cell? ⟨g,4,none⟩=some a4∧w.cell? ⟨g,5,none⟩=some a5∧w.cell? ⟨g,6,none⟩=some a6∧w.cell? ⟨g,7,none⟩=some a7∧w.cell? ⟨g,8,none⟩=some a8∧w.cell? ⟨g,9,none⟩=some a9 :=
 ⟨by rw[h.cell];rfl,by rw[h.cell];rfl,by rw[h.cell];rfl,by rw[h.cell];rfl,by rw[h.cell];rfl,by rw[h.cell];rfl,by rw[h.cell];rfl,by rw[h.cell];rfl,by rw[h.cell];rfl,by rw[h.cell];rfl⟩
theorem Zc7 {w:World} {g:Nat} {e:TypeId} {cs:List Value} (h:Row w g e cs):w.frozen? ⟨g,0,none⟩=false∧w.frozen? ⟨g,1,none⟩=false∧w.frozen? ⟨g,2,none⟩=false∧w.frozen? ⟨g,3,none⟩=false∧w.frozen? ⟨g,4,none⟩=false∧w.frozen? ⟨g,5,none⟩=false∧w.frozen? ⟨g,6,none⟩=false∧w.frozen? ⟨g,7,none⟩=false∧w.frozen? ⟨g,8,none⟩=false∧w.frozen? ⟨g,9,none⟩=false :=
 ⟨h.frozen 0,h.frozen 1,h.frozen 2,h.frozen 3,h.frozen 4,h.frozen 5,h.frozen 6,h.frozen 7,h.frozen 8,h.frozen 9⟩
theorem Zp3 (n k:Int) (w:World):Calls Tryz.prog 147 #[.int .i64 n,.int .i64 k] w fun e w'=>e=.returned (.bool (Zej n k))∧w'=w:=by
 unfold Zej;go_enter Tryz.func147,Tryz.ntmps147;by_cases h1:n ≥ 1<;>by_cases h2:n≤64<;>by_cases h3:k ≥ 1<;>by_cases h4:k≤8<;>go_wp2<;>(go_ret;exact⟨Zae (by simp[*]<;>omega),rfl⟩)
theorem Zix (n:Nat) (k:Int) (w:World):Calls Tryz.prog 140 #[.int .i64 n,.int .i64 k] w fun e w'=>e=.returned (.bool (filZ n k))∧w'=w:=by
 have HF:=hid (fun w2:World=>Zp3 n k w2);unfold filZ;go_enter Tryz.func140,Tryz.ntmps140;by_cases h1:(n:Int)=0
 ·have h1':n=0:=by omega
  subst h1';by_cases h2:k=0
  ·go_wp2;go_ret;exact⟨Zae (by simp[*]),rfl⟩
  ·generalize Zej ((0:Nat):Int) k=R at *;go_wp2_with (go_at_call 147;refine(HF.out _).mono ?_;rintro e w1 ⟨rfl,hw⟩;replace hw:=hw.symm;subst hw)
   go_ret;exact⟨Zae (by simp[*]),rfl⟩
 ·have h1':¬ n=0:=by omega
  generalize Zej (n:Int) k=R at *;go_wp2_with (go_at_call 147;refine(HF.out _).mono ?_;rintro e w1 ⟨rfl,hw⟩;replace hw:=hw.symm;subst hw)
  go_ret;exact⟨Zae (by simp[*]),rfl⟩
set_option maxHeartbeats 8000000 in
theorem Zsx (k rows:Int) (z:ZM) (B:Option Addr) (bn bc:Nat) (w:World):Calls Tryz.prog 153 #[.int .i64 k,.int .i64 rows,z.v (.slice B bn bc)] w fun e w'=>e=.returned (.bool (rgOk k rows z))∧Below w.heap.size w w':=by
 have ZN:=hid (fun w2:World=>Zlc z.mn k w2);have ZJ:=hid (fun w2:World=>Zlc z.mx k w2);obtain⟨R,hR⟩:∃ R,rgOk k rows z=R:=⟨_,rfl⟩;rw[hR];unfold rgOk at hR;obtain⟨q,hq⟩:∃ q,(isDf z.mn&&isDf z.mx)=q:=⟨_,rfl⟩;obtain⟨v1,hv1⟩:∃ v1,Zdx k z.mn=v1:=⟨_,rfl⟩;obtain⟨v2,hv2⟩:∃ v2,Zdx k z.mx=v2:=⟨_,rfl⟩;rw[hq,hv1,hv2]at hR;rw[hv1]at ZN;rw[hv2]at ZJ;clear hv1 hv2;have HQ:=hid hq;have HR:=hid hR;clear hq hR;obtain⟨rg,nu,⟨mnn,mni,mns⟩,⟨mxn,mxi,mxs⟩,hs,bl⟩:=z;unfold ZM.v;unfold C3.v at ZN ZJ;simp only at HQ HR ZN ZJ ⊢;have Ql:=hid ((Zab w).alloc (Nat.le_refl _) (.cells #[.bool rg,.int .i64 nu,.bool mnn,.int .i64 mni,.string mns,.bool mxn,.int .i64 mxi,.string mxs,.int .i64 hs,.slice B bn bc] 39));have Qj:Hid (Row (w.alloc (.cells #[.bool rg,.int .i64 nu,.bool mnn,.int .i64 mni,.string mns,.bool mxn,.int .i64 mxi,.string mxs,.int .i64 hs,.slice B bn bc] 39)) w.heap.size 39 [.bool rg,.int .i64 nu,.bool mnn,.int .i64 mni,.string mns,.bool mxn,.int .i64 mxi,.string mxs,.int .i64 hs,.slice B bn bc]):=hid (by unfold Row;rw[heap_alloc_new]);go_enter Tryz.func153,Tryz.ntmps153;go_upto_region 1 with fail
 generalize w.alloc (.cells #[.bool rg,.int .i64 nu,.bool mnn,.int .i64 mni,.string mns,.bool mxn,.int .i64 mxi,.string mxs,.int .i64 hs,.slice B bn bc] 39)=w0 at *;obtain⟨a0,a1,a2,a3,a4,a5,a6,a7,a8,a9⟩:=Za5 Qj.out;go_cut [7]from 8 to 17 (fun s7 wc=>s7=.bool q∧wc=w0)
 case first =>
  clear HR ZN ZJ;cases mnn
  ·by_cases h1:mni=0
   ·subst h1;by_cases h2:mns.toList=[]
    ·cases mxn
     ·by_cases h3:mxi=0
      ·subst h3;by_cases h4:mxs.toList=[]
       ·go_wp2_with fail
        go_meet;exact⟨by rw[← HQ.out];simp[isDf, *],rfl⟩
       ·go_wp2_with fail
        go_meet;exact⟨by rw[← HQ.out];simp[isDf, *],rfl⟩
      ·go_wp2_with fail
       go_meet;exact⟨by rw[← HQ.out];simp[isDf, *],rfl⟩
     ·go_wp2_with fail
      go_meet;exact⟨by rw[← HQ.out];simp[isDf, *],rfl⟩
    ·go_wp2_with fail
     go_meet;exact⟨by rw[← HQ.out];simp[isDf, *],rfl⟩
   ·go_wp2_with fail
    go_meet;exact⟨by rw[← HQ.out];simp[isDf, *],rfl⟩
  ·go_wp2_with fail
   go_meet;exact⟨by rw[← HQ.out];simp[isDf, *],rfl⟩
 case rest =>
 obtain⟨rfl,hw⟩:=hcut;replace hw:=hw.symm;subst hw;clear HQ;cases rg
 ·rw[if_neg (by decide)]at HR;by_cases h0:nu=0
  ·subst h0;go_wp2_with fail
   go_ret;exact⟨Zae (by rw[← HR.out];simp),Ql.out⟩
  ·go_wp2_with fail
   go_ret;exact⟨Zae (by rw[← HR.out];simp[h0]),Ql.out⟩
 ·rw[if_pos rfl]at HR;by_cases h0:nu=rows
  ·subst h0;rw[if_pos rfl]at HR;go_wp2_with fail
   go_ret;exact⟨Zae (by rw[← HR.out]),Ql.out⟩
  ·rw[if_neg h0]at HR;by_cases h1:nu ≥ 0
   ·by_cases h2:nu<rows
    ·go_wp2_with (first
      | (go_at_call_of 184 (Value.agg #[.bool mnn,.int .i64 mni,.string mns]);refine(ZN.out _).mono ?_;rintro e w3 ⟨rfl,hb3⟩;have Qk:=hid hb3;have Qf:=hid (Qj.out.mono hb3);clear hb3;obtain⟨b0,b1,b2,b3,b4,b5,b6,b7,b8,b9⟩:=Za5 Qf.out)
      | (go_at_call 184;refine(ZJ.out _).mono ?_;rintro e w4 ⟨rfl,hb4⟩;have Q0:=hid hb4;clear hb4))
     ·go_ret;exact⟨Zae (by rw[← HR.out,decide_eq_true (show 0≤nu∧nu<rows from ⟨h1,h2⟩)];simp[*]),Zad (Zad Ql.out Qk.out) Q0.out⟩
     ·go_ret;exact⟨Zae (by rw[← HR.out,decide_eq_true (show 0≤nu∧nu<rows from ⟨h1,h2⟩)];simp[*]),Zad Ql.out Qk.out⟩
    ·go_wp2_with fail
     go_ret;exact⟨Zae (by rw[← HR.out,decide_eq_false (show ¬ (0≤nu∧nu<rows) by omega)];rfl),Ql.out⟩
   ·go_wp2_with fail
    go_ret;exact⟨Zae (by rw[← HR.out,decide_eq_false (show ¬ (0≤nu∧nu<rows) by omega)];rfl),Ql.out⟩
set_option maxHeartbeats 4000000 in
theorem Zu8 (k rows:Int) (z:ZM) (B:Option Addr) (bc:Nat) (w:World):Calls Tryz.prog 124 #[.int .i64 k,.int .i64 rows,z.v (.slice B z.bl.length bc)] w fun e w'=>e=.returned (.bool (zOk k rows z))∧Below w.heap.size w w':=by
 obtain⟨bn,hbn⟩:∃ bn,z.bl.length=bn:=⟨_,rfl⟩;have HI:=hid (fun w2:World=>Zsx k rows z B bn bc w2);have HF:=hid (fun w2:World=>Zix bn z.hs w2);have HZ:Hid (zOk k rows z=(rgOk k rows z&&filZ bn z.hs)):=hid (by rw[← hbn];rfl);rw[hbn,HZ.out];generalize rgOk k rows z=r1 at *;obtain⟨rg,nu,⟨mnn,mni,mns⟩,⟨mxn,mxi,mxs⟩,hs,bl⟩:=z;unfold ZM.v at HI ⊢;simp only at HI HF ⊢;generalize filZ bn hs=r2 at *;clear HZ hbn;have Ql:=hid ((Zab w).alloc (Nat.le_refl _) (.cells #[.bool rg,.int .i64 nu,.bool mnn,.int .i64 mni,.string mns,.bool mxn,.int .i64 mxi,.string mxs,.int .i64 hs,.slice B bn bc] 39));have Qj:Hid (Row (w.alloc (.cells #[.bool rg,.int .i64 nu,.bool mnn,.int .i64 mni,.string mns,.bool mxn,.int .i64 mxi,.string mxs,.int .i64 hs,.slice B bn bc] 39)) w.heap.size 39 [.bool rg,.int .i64 nu,.bool mnn,.int .i64 mni,.string mns,.bool mxn,.int .i64 mxi,.string mxs,.int .i64 hs,.slice B bn bc]):=hid (by unfold Row;rw[heap_alloc_new]);go_enter Tryz.func124,Tryz.ntmps124;go_upto_region 1 with fail
 generalize w.alloc (.cells #[.bool rg,.int .i64 nu,.bool mnn,.int .i64 mni,.string mns,.bool mxn,.int .i64 mxi,.string mxs,.int .i64 hs,.slice B bn bc] 39)=w0 at *;obtain⟨a0,a1,a2,a3,a4,a5,a6,a7,a8,a9⟩:=Za5 Qj.out;cases r1
 ·go_wp2_with (go_at_call 153;refine(HI.out _).mono ?_;rintro e w3 ⟨rfl,hb3⟩;have Qk:=hid hb3;clear hb3)
  go_ret;exact⟨Zae (by simp),Zad Ql.out Qk.out⟩
 ·go_wp2_with (first
   | (go_at_call 153;refine(HI.out _).mono ?_;rintro e w3 ⟨rfl,hb3⟩;have Qk:=hid hb3;have Qf:=hid (Qj.out.mono hb3);clear hb3;obtain⟨b0,b1,b2,b3,b4,b5,b6,b7,b8,b9⟩:=Za5 Qf.out)
   | (go_at_call 140;refine(HF.out _).mono ?_;rintro e w4 ⟨rfl,hw⟩;replace hw:=hw.symm;subst hw))
  go_ret;exact⟨Zae (by simp),Zad Ql.out Qk.out⟩
theorem Ztk {a b:Int} (h:a=b):Ending.returned (.int .u8 a)=.returned (.int .u8 b):=by rw[h]
set_option maxHeartbeats 4000000 in
theorem Znj (z:ZM) (B:Option Addr) (bc:Nat) (w:World):Calls Tryz.prog 107 #[z.v (.slice B z.bl.length bc)] w fun e w'=>e=.returned (.int .u8 (Zdl z:Nat))∧Below w.heap.size w w':=by
 obtain⟨bn,hbn⟩:∃ bn,z.bl.length=bn:=⟨_,rfl⟩;have HZ:Hid (Zdl z=(if z.rg=true then 1 else 0)+(if bn=0 then 0 else 2)):=hid (by
  rw[← hbn];unfold Zdl;by_cases h:z.bl=[]<;>simp[h])
 obtain⟨R,hR⟩:∃ R,Zdl z=R:=⟨_,rfl⟩;rw[hR]at HZ ⊢;rw[hbn];clear hR;obtain⟨rg,nu,⟨mnn,mni,mns⟩,⟨mxn,mxi,mxs⟩,hs,bl⟩:=z;unfold ZM.v;simp only at HZ ⊢;clear hbn;have hb:Below w.heap.size w (w.alloc (.cells #[.bool rg,.int .i64 nu,.bool mnn,.int .i64 mni,.string mns,.bool mxn,.int .i64 mxi,.string mxs,.int .i64 hs,.slice B bn bc] 39)):=(Zab w).alloc (Nat.le_refl _) _;have Ql:=hid hb;clear hb;go_enter Tryz.func107,Tryz.ntmps107;cases rg<;>by_cases h0:bn=0
 ·subst h0;go_wp2_with fail
  go_ret;exact⟨Ztk (by rw[HZ.out];rfl),Ql.out⟩
 ·have h1:(bn:Int) > 0:=by omega
  go_wp2_with fail
  go_ret;exact⟨Ztk (by rw[HZ.out,if_neg h0];rfl),Ql.out⟩
 ·subst h0;go_wp2_with fail
  go_ret;exact⟨Ztk (by rw[HZ.out];rfl),Ql.out⟩
 ·have h1:(bn:Int) > 0:=by omega
  go_wp2_with fail
  go_ret;exact⟨Ztk (by rw[HZ.out,if_neg h0];rfl),Ql.out⟩
set_option maxHeartbeats 4000000 in
theorem Zgw (B:Nat) (v:Value) (bs:List Nat) (k:Int) (c:C3) (w:World) (hown:OwnB B w v bs) (hB:B≤w.heap.size) (hs:c.s.size≤16777216) (hl:bs.length≤1099511627776) :
  Calls Tryz.prog 108 #[v,.int .i64 k,c.v] w fun e w'=>Zpd B v w w' e (bs++Zb3 k c):=by
 obtain⟨cn,ci,cs⟩:=c;unfold C3.v Zb3;simp only at hs ⊢;have Ql:=hid ((Zab w).alloc (Nat.le_refl _) (.cells #[.bool cn,.int .i64 ci,.string cs] 36));have Qj:Hid (Row (w.alloc (.cells #[.bool cn,.int .i64 ci,.string cs] 36)) w.heap.size 36 [.bool cn,.int .i64 ci,.string cs]):=hid (by unfold Row;rw[heap_alloc_new]);have QO:Hid (OwnB B (w.alloc (.cells #[.bool cn,.int .i64 ci,.string cs] 36)) v bs):=hid (Zbt hown Ql.out);have QU:Hid (B≤(w.alloc (.cells #[.bool cn,.int .i64 ci,.string cs] 36)).heap.size):=hid (Nat.le_trans hB Ql.out.size);have Vw:Hid (Kp v w (w.alloc (.cells #[.bool cn,.int .i64 ci,.string cs] 36)) v):=hid (Kp.below Ql.out);have JK:=hid (fun k hk=>(World.ownsRow.lt hown k hk).2);have Qg:=hid hB;obtain⟨A1,c1,rfl⟩:=hown.form;clear hown hB;obtain⟨n1,hn1⟩:∃ n1,bs.length=n1:=⟨_,rfl⟩;by_cases h2:k=2
 ·subst h2;rw[if_pos rfl,← List.append_assoc];have HA:=hid (fun w2 v2 (h:OwnB B w2 v2 bs) (hb:B≤w2.heap.size)=>Zf9 B v2 bs cs.size w2 h hb (by omega) (by omega));have HL:Hid ((bs++leN 4 cs.size).length+cs.size≤17592186044416):=hid (by rw[List.length_append,Zak];omega);obtain⟨b4,hb4⟩:∃ b4,bs++leN 4 cs.size=b4:=⟨_,rfl⟩;rw[hb4]at HA HL ⊢;clear hb4 hl;simp only[hn1]at QO Vw JK ⊢;clear hn1;go_enter Tryz.func108,Tryz.ntmps108;go_upto_region 1 with fail
  generalize w.alloc (.cells #[.bool cn,.int .i64 ci,.string cs] 36)=w0 at *;obtain⟨a0,a1,a2⟩:=Zeq Qj.out;go_upto_region 3 with (go_at_call 67;refine(HA.out w0 _ QO.out QU.out).mono ?_;rintro e w1 ⟨r1,rfl,o1,b1,z1,k1⟩;obtain⟨A2,c2,rfl⟩:=o1.form;have Y1:=hid o1;have Qa:=hid b1;have Qx:=hid z1;have Zc:=hid k1;clear o1 b1 z1 k1)
  have QI:Hid (Row w1 w.heap.size 36 [.bool cn,.int .i64 ci,.string cs]):=hid (by
   have h:=Zc.out.1 w.heap.size Qj.out.lt (fun e=>by have:=JK.out _ e.symm;omega);unfold Row;rw[h];exact Qj.out)
  obtain⟨d0,d1,d2⟩:=Zeq QI.out;have Yi:=hid (Nat.le_trans QU.out Qx.out);clear a0 a1 a2;go_wp2_with (at_builtin;refine Zmp rfl (.tmp 14) (.tmp 16) rfl rfl rfl Y1.out HL.out Yi.out ?_;intro v' w' h1 h2 h3 h4;have H1:=hid h1;have H2:=hid h2;have H3:=hid h3;have H4:=hid h4;clear h1 h2 h3 h4)
  go_ret;exact⟨_,rfl,H1.out,(Ql.out.mono Qg.out).trans (Qa.out.trans H2.out),Nat.le_trans Ql.out.size (Nat.le_trans Qx.out H3.out),(Vw.out.trans Zc.out Ql.out.size).trans H4.out (Nat.le_trans Ql.out.size Qx.out)⟩
 ·rw[if_neg h2];have HA:=hid (fun w2 v2 (h:OwnB B w2 v2 bs) (hb:B≤w2.heap.size)=>Zjj B v2 bs (toU ci) w2 h hb (Zmw ci) (by omega));have hcv:IntKind.u64.wrap ci=((toU ci:Nat):Int):=by rw[IntKind.wrap_u64];unfold toU;omega
  generalize toU ci=xu at *;obtain⟨b4,hb4⟩:∃ b4,bs++leN 8 xu=b4:=⟨_,rfl⟩;rw[hb4]at HA ⊢;clear hb4 hl;simp only[hn1]at QO Vw JK ⊢;clear hn1;go_enter Tryz.func108,Tryz.ntmps108;go_upto_region 1 with fail
  generalize w.alloc (.cells #[.bool cn,.int .i64 ci,.string cs] 36)=w0 at *;obtain⟨a0,a1,a2⟩:=Zeq Qj.out;go_wp2_with (go_at_call 145;refine(HA.out w0 _ QO.out QU.out).mono ?_;rintro e w1 ⟨r1,rfl,o1,b1,z1,k1⟩;obtain⟨A2,c2,rfl⟩:=o1.form;have Y1:=hid o1;have Qa:=hid b1;have Qx:=hid z1;have Zc:=hid k1;clear o1 b1 z1 k1)
  go_ret;exact⟨_,rfl,Y1.out,(Ql.out.mono Qg.out).trans Qa.out,Nat.le_trans Ql.out.size Qx.out,Vw.out.trans Zc.out Ql.out.size⟩
end Go.Proofs.YtmcjknjlihgihaaGreatDoor
