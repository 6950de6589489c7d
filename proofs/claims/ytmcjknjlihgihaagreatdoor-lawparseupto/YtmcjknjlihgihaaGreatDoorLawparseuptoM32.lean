/- Package format: lookBody (integers). -/
import Derived.Test.YtmcjknjlihgihaaGreatDoorLawparseuptoM30
import Derived.Test.YtmcjknjlihgihaaGreatDoorLawparseuptoM31
set_option linter.unusedVariables false
set_option linter.unusedSimpArgs false
set_option linter.unnecessarySimpa false
set_option maxRecDepth 20000
namespace Go.Proofs.YtmcjknjlihgihaaGreatDoor
open Go.RowKit
theorem Z1b {vals:List ByteArray} (h:Zbd geS vals=true):∀ a b,a<b→b<vals.length→ltS (vals.getD a ByteArray.empty) (vals.getD b ByteArray.empty)=true:=by
 have h1:=(Zca geS ByteArray.empty vals).1 h;intro a b hab
 induction b with
 | zero=>omega
 | succ b ih =>
  intro hb;have h2:=h1 b hb;unfold geS at h2;have h3:ltS (vals.getD b ByteArray.empty) (vals.getD (b+1) ByteArray.empty)=true:=by simpa using h2
  by_cases he:a=b
  ·subst he;exact h3
  ·exact Zxx (ih (by omega) (by omega)) h3
theorem Z1y (rows:Nat) (xs:List Nat) (hb:∀ x∈xs,x<256) (hl:xs.length≤16777216) (hrr:rows≤65536) (h:Zcg rows xs=true):FilD_S rows xs:=by
 unfold Zcg Zgu at h;simp only[Bool.and_eq_true,Bool.not_eq_true',decide_eq_true_eq]at h;obtain⟨⟨hpk,hcd⟩,hOb,hOs,hOl⟩:=h;refine⟨hpk,?_⟩;have hx3:(Zaa rows xs).left.length≤16777216:=Nat.le_trans (Zbn _ _) (Nat.le_trans (Zbn _ _) (Nat.le_trans (Zbn _ _) hl));have hb3:∀ x∈(Zaa rows xs).left,x<256:=Zau (Zau (Zau hb));have hk6:Za8 rows (Zaa rows xs).nulls≤65536:=by unfold Za8;omega
 unfold Zaj Zcj at *;generalize Za8 rows (Zaa rows xs).nulls=k at *;generalize (Zaa rows xs).left=x3 at *;generalize (Zaa rows xs).short=t3 at *;generalize (Zaa rows xs).codec=cd at *;generalize (Zaa rows xs).wd=wd at *;have hcdk:1≤cd∧cd≤3:=by
  unfold Zbj at hcd
  split at hcd
  ·omega
  ·simp only[decide_eq_true_eq]at hcd;unfold Zkw at hcd;omega
 unfold Zbq at *;by_cases h1:cd=1
 ·subst h1;rw[if_pos rfl]at *;unfold Zbk at *;simp only[Bool.and_eq_true,decide_eq_true_eq]at *;exact .inl ⟨rfl,Zej hOb.1 hOs,hk6⟩
 by_cases h2:cd=2
 ·subst h2;rw[if_neg (by decide),if_pos rfl]at *;unfold Zbp at *
  split at hOb
  ·cases hOb
  ·rename_i hc
   rw[if_neg hc]at *;have hxl1:(tkL 4 x3).length≤16777216:=Nat.le_trans (Zbn _ _) hx3;have hxb1:∀ x∈tkL 4 x3,x<256:=Zau hb3;have hrb:=(Zem (L.wordOf 8 (tk 4 x3)) (tkL 4 x3) (tkS 4 x3 t3)).2 256 hxb1;have hlb:=(Zem (L.wordOf 8 (tk 4 x3)) (tkL 4 x3) (tkS 4 x3 t3)).1;have hfl:=@Zej (L.wordOf 8 (tk 4 x3)) (tkL 4 x3) (tkS 4 x3 t3);generalize rdS (L.wordOf 8 (tk 4 x3)) (tkL 4 x3) (tkS 4 x3 t3)=R at *;generalize L.wordOf 8 (tk 4 x3)=dd at *;obtain⟨vals,ok,xl,s1⟩:=R;simp only at *
   split at hOb
   ·rename_i hoa
    rw[if_pos hoa]at *;simp only at *;obtain⟨l1,l2,l3,l4⟩:=Zcd hOb;have hs1:=(Zb6 hOs).2;simp only[Bool.and_eq_true]at hoa;have hvl:=hfl hoa.1 hs1;refine .inr (.inr ⟨.inl rfl,by first | trivial | rfl,(Zbl _ l1 l2).2 l3,Zfn hrb,?_,by omega,hk6,fun _=>Z1b hoa.2,fun _ j hj=>?_,?_,fun hh=>absurd rfl hh⟩)
    ·rw[Zfj];omega
    ·have:=l4 j hj;unfold Zcc at this;simp at this;omega
    ·unfold okI;simp
   ·cases hOb
 ·obtain rfl:cd=3:=by omega
  rw[if_neg (by decide),if_neg (by decide)]at *;unfold Zbi at *
  split at hOb
  ·cases hOb
  ·rename_i hc
   rw[if_neg hc]at *;have hfl:=@Zej (L.wordOf 8 (tk 4 x3)) (tkL (4*L.wordOf 8 (tk 4 x3)) (tkL 4 x3)) (tkS (4*L.wordOf 8 (tk 4 x3)) (tkL 4 x3) (tkS 4 x3 t3));have hsh:=Zkd (L.wordOf 8 (tk 4 x3)) (tkL (4*L.wordOf 8 (tk 4 x3)) (tkL 4 x3)) (tkS (4*L.wordOf 8 (tk 4 x3)) (tkL 4 x3) (tkS 4 x3 t3));have hel:tkS (4*L.wordOf 8 (tk 4 x3)) (tkL 4 x3) (tkS 4 x3 t3)=false→(numL 4 (tk (4*L.wordOf 8 (tk 4 x3)) (tkL 4 x3))).length=L.wordOf 8 (tk 4 x3):=fun h=>by
    rw[Zan,Zk1 (Zb6 h).1];omega
   generalize rdS (L.wordOf 8 (tk 4 x3)) (tkL (4*L.wordOf 8 (tk 4 x3)) (tkL 4 x3)) (tkS (4*L.wordOf 8 (tk 4 x3)) (tkL 4 x3) (tkS 4 x3 t3))=R at *;generalize numL 4 (tk (4*L.wordOf 8 (tk 4 x3)) (tkL 4 x3))=es at *;generalize tkS (4*L.wordOf 8 (tk 4 x3)) (tkL 4 x3) (tkS 4 x3 t3)=s2 at *;generalize L.wordOf 8 (tk 4 x3)=dd at *;obtain⟨vals,ok,xl,s1⟩:=R;simp only[Bool.and_eq_true]at *;have hvl:=hfl hOb.1 hOs;have hed:=hel (hsh hOs);have hre:Za1 (nI es) k=true:=by
    cases hx:Za1 (nI es) k with
    | true=>rfl
    | false=>exact absurd (.inr hx) hc
   obtain⟨r1,r2,r3⟩:=Zuq hre hk6;exact .inr (.inl ⟨rfl,by rw[hvl,hed],hk6,r1,r2,r3⟩)
theorem Z2j {rows:Nat} {xs:List Nat} (h:Zcg rows xs=true) (hc:(Zaa rows xs).codec=1∨(Zaa rows xs).codec=3):(Zaa rows xs).wd=0:=by
 unfold Zcg at h;simp only[Bool.and_eq_true]at h;have hb:=h.2.1;unfold Zaj Zbq at hb;rcases hc with e | e
 ·rw[e,if_pos rfl]at hb;unfold Zbk at hb;simp at hb;omega
 ·rw[e,if_neg (by decide),if_neg (by decide)]at hb;unfold Zbi at hb
  split at hb
  ·cases hb
  ·rename_i hc
   simp only[not_or]at hc;omega
theorem Z10 (rows:Nat) (xs:List Nat) (hb:∀ x∈xs,x<256) (hl:xs.length≤16777216) (hrr:rows≤65536) (h:Zcg rows xs=true):(Zaa rows xs).wd≤64:=by
 have hF:=(Z1y rows xs hb hl hrr h).hd;have hw13:=Z2j h;have hk6:Za8 rows (Zaa rows xs).nulls≤65536:=by unfold Za8;omega
 rcases hF with ⟨h1,_⟩ | ⟨h1,_⟩ | h1
 ·rw[hw13 (.inl h1)];decide
 ·rw[hw13 (.inr h1)];decide
 ·have h2:=h1.ok;by_cases hc:0≤((Zaa rows xs).wd:Int)∧((Zaa rows xs).wd:Int)≤64∧0≤((Za8 rows (Zaa rows xs).nulls:Nat):Int)∧((Za8 rows (Zaa rows xs).nulls:Nat):Int)≤65536
  ·omega
  ·rw[Zda _ hc]at h2;cases h2
end Go.Proofs.YtmcjknjlihgihaaGreatDoor
set_option maxRecDepth 512
namespace Go.Proofs.YtmcjknjlihgihaaGreatDoor
open Go
theorem Zyc (t:List Nat) (es:List Int):∀ a l,Zay a es=some l→∀ x∈cutS a t es,x.size≤1024:=by
 induction es with
 | nil=>intro a l _ x hx;simp[cutS]at hx
 | cons e r ih =>
  intro a l h x hx;simp only[Zay]at h
  split at h
  ·cases h
  ·rename_i hc
   unfold cutS at hx;rcases List.mem_cons.1 hx with rfl | hx
   ·rw[Zk3,List.length_take];omega
   ·exact ih e l h x hx
theorem Zwn (c:Nat) (xs:List Nat) (s:Bool):∀ x∈(rdS c xs s).1,x.size≤1024:=by
 intro x hx;unfold rdS at hx;simp only at hx
 split at hx
 ·cases hx
 ·rename_i sz h
  split at hx
  ·cases hx
  ·exact Zyc _ _ _ _ h x hx
theorem Zsj (f:Nat→Nat) (k:Nat) (list:List ByteArray):∀ i,i≤list.length→∀ x∈Zcv f k list i,x∈list:=by
 intro i
 induction i with
 | zero=>intro _ x hx;cases hx
 | succ i ih =>
  intro hi x hx;unfold Zcv at hx;rcases List.mem_append.1 hx with h | h
  ·exact ih (by omega) x h
  ·split at h
   ·rw[List.mem_singleton]at h;rw[h];have hlt:i<list.length:=by omega
    simp[List.getD,List.getElem?_eq_getElem hlt]
   ·cases h
theorem Zup (rows:Nat) (xs:List Nat):∀ x∈(Zaj rows xs).list,x.size≤1024:=by
 intro x hx;unfold Zaj Zbq at hx
 split at hx
 ·unfold Zbk at hx;exact Zwn (Za8 rows (Zaa rows xs).nulls) (Zaa rows xs).left (Zaa rows xs).short x hx
 split at hx
 ·unfold Zbp at hx
  split at hx
  ·cases hx
  ·have hR:=Zwn (L.wordOf 8 (tk 4 (Zaa rows xs).left)) (tkL 4 (Zaa rows xs).left) (tkS 4 (Zaa rows xs).left (Zaa rows xs).short);generalize rdS (L.wordOf 8 (tk 4 (Zaa rows xs).left)) (tkL 4 (Zaa rows xs).left) (tkS 4 (Zaa rows xs).left (Zaa rows xs).short)=R at *;obtain⟨vals,ok,xl,s1⟩:=R;simp only at hx hR
   split at hx
   ·exact hR x hx
   ·exact hR x hx
 ·unfold Zbi at hx
  split at hx
  ·cases hx
  ·have hR:=Zwn (L.wordOf 8 (tk 4 (Zaa rows xs).left)) (tkL (4*L.wordOf 8 (tk 4 (Zaa rows xs).left)) (tkL 4 (Zaa rows xs).left)) (tkS (4*L.wordOf 8 (tk 4 (Zaa rows xs).left)) (tkL 4 (Zaa rows xs).left) (tkS 4 (Zaa rows xs).left (Zaa rows xs).short));generalize rdS (L.wordOf 8 (tk 4 (Zaa rows xs).left)) (tkL (4*L.wordOf 8 (tk 4 (Zaa rows xs).left)) (tkL 4 (Zaa rows xs).left)) (tkS (4*L.wordOf 8 (tk 4 (Zaa rows xs).left)) (tkL 4 (Zaa rows xs).left) (tkS 4 (Zaa rows xs).left (Zaa rows xs).short))=R at *;obtain⟨vals,ok,xl,s1⟩:=R;simp only at hx hR;exact hR x hx
theorem Zmb {list:List ByteArray} (h:∀ x∈list,x.size≤1024) (k:Nat) (hk:k<list.length):(list.getD k dfS).size≤1024:=by
 have:list.getD k dfS∈list:=by simp[List.getD,List.getElem?_eq_getElem hk]
 exact h _ this
theorem Z0c {codec wd:Nat} {list:List ByteArray} {ends:List Nat} {base:Int} {lanes:List Nat} {j:Nat} (hl:∀ x∈list,x.size≤1024) (hok:Zla codec wd list ends lanes j):(vl_S codec wd list ends base lanes j).size≤1024:=by
 unfold Zla ok_S at hok;unfold vl_S Zil;rcases hok with ⟨rfl,h⟩ | ⟨rfl,h,_⟩ | ⟨rfl,h,_⟩
 ·rw[if_pos rfl];exact Zmb hl _ h
 ·rw[if_neg (by decide),if_pos rfl];exact Zmb hl _ h
 ·rw[if_neg (by decide),if_neg (by decide)];exact Zmb hl _ h
theorem Z12 (codec wd:Nat) (list:List ByteArray) (ends:List Nat) (base:Int) (lanes:List Nat) (cnt:Nat) (hl:∀ x∈list,x.size≤1024) (hok:∀ j,j<cnt→Zla codec wd list ends lanes j) :
  ∀ x∈yv_S codec wd list ends base lanes cnt,(vk_S x).s.size≤1024:=by
 intro x hx;unfold yv_S at hx
 show x.size≤1024
 split at hx
 ·exact hl x hx
 split at hx
 ·exact hl x (Zsj _ _ _ _ (Nat.le_refl _) x hx)
 ·rw[List.mem_map]at hx;obtain⟨j,hj,rfl⟩:=hx;exact Z0c hl (hok j (List.mem_range.1 hj))
theorem Z2a (codec wd:Nat) (list:List Int) (ends:List Nat) (base:Int) (lanes:List Nat) (cnt:Nat):∀ x∈yv_I codec wd list ends base lanes cnt,(vk_I x).s.size≤1024:=fun x _=>by
 show ByteArray.empty.size≤1024
 decide
end Go.Proofs.YtmcjknjlihgihaaGreatDoor
namespace Go.Proofs.YtmcjknjlihgihaaGreatDoor
open Go.RowKit
theorem Zbh {b:Nat} {u w:World} (h:Below b u w) (g i:Nat) (v:Value) (hg:b≤g):Below b u (w.setCell ⟨g,i,none⟩ v):=Zad h _ _ _ hg
def Zdn (w:World) (g:Nat) (a0 a1 a2 a3 a4 a5 a6 a7 a8 a9 a10 a11 a12 a13 a14:Value):World :=
 (((((((((((((((w.setCell ⟨g,0,none⟩ a0).setCell ⟨g,1,none⟩ a1).setCell ⟨g,2,none⟩ a2).setCell ⟨g,3,none⟩ a3).setCell ⟨g,4,none⟩ a4).setCell ⟨g,5,none⟩ a5).setCell ⟨g,6,none⟩ a6).setCell ⟨g,7,none⟩ a7).setCell ⟨g,8,none⟩ a8).setCell ⟨g,9,none⟩ a9).setCell ⟨g,10,none⟩ a10).setCell ⟨g,11,none⟩ a11).setCell ⟨g,12,none⟩ a12).setCell ⟨g,13,none⟩ a13).setCell ⟨g,14,none⟩ a14)
theorem Zcy {w:World} {g:Nat} {e:TypeId} {b0 b1 b2 b3 b4 b5 b6 b7 b8 b9 b10 b11 b12 b13 b14:Value} (h:Row w g e [b0,b1,b2,b3,b4,b5,b6,b7,b8,b9,b10,b11,b12,b13,b14]) (a0 a1 a2 a3 a4 a5 a6 a7 a8 a9 a10 a11 a12 a13 a14:Value) :
  Row (Zdn w g a0 a1 a2 a3 a4 a5 a6 a7 a8 a9 a10 a11 a12 a13 a14) g e [a0,a1,a2,a3,a4,a5,a6,a7,a8,a9,a10,a11,a12,a13,a14] :=
 (((((((((((((((h.set 0 a0).set 1 a1).set 2 a2).set 3 a3).set 4 a4).set 5 a5).set 6 a6).set 7 a7).set 8 a8).set 9 a9).set 10 a10).set 11 a11).set 12 a12).set 13 a13).set 14 a14)
theorem Zb2 {b g:Nat} {u w:World} (h:Below b u w) (hg:b≤g) (a0 a1 a2 a3 a4 a5 a6 a7 a8 a9 a10 a11 a12 a13 a14:Value):Below b u (Zdn w g a0 a1 a2 a3 a4 a5 a6 a7 a8 a9 a10 a11 a12 a13 a14) :=
 (Zbh (Zbh (Zbh (Zbh (Zbh (Zbh (Zbh (Zbh (Zbh (Zbh (Zbh (Zbh (Zbh (Zbh (Zbh h g 0 a0 hg) g 1 a1 hg) g 2 a2 hg) g 3 a3 hg) g 4 a4 hg) g 5 a5 hg) g 6 a6 hg) g 7 a7 hg) g 8 a8 hg) g 9 a9 hg) g 10 a10 hg) g 11 a11 hg) g 12 a12 hg) g 13 a13 hg) g 14 a14 hg)
theorem Zcs {w:World} {g:Nat} {e:TypeId} {a0 a1 a2 a3 a4 a5 a6 a7 a8 a9 a10 a11 a12 a13 a14:Value} (h:Row w g e [a0,a1,a2,a3,a4,a5,a6,a7,a8,a9,a10,a11,a12,a13,a14]) :
  w.cell? ⟨g,0,none⟩=some a0∧w.cell? ⟨g,1,none⟩=some a1∧w.cell? ⟨g,2,none⟩=some a2∧w.cell? ⟨g,3,none⟩=some a3∧w.cell? ⟨g,4,none⟩=some a4∧w.cell? ⟨g,5,none⟩=some a5∧w.cell? ⟨g,6,none⟩=some a6∧w.cell? ⟨g,7,none⟩=some a7∧w.cell? ⟨g,8,none⟩=some a8∧w.cell? ⟨g,9,none⟩=some a9∧w.cell? ⟨g,10,none⟩=some a10∧w.cell? ⟨g,11,none⟩=some a11∧w.cell? ⟨g,12,none⟩=some a12∧w.cell? ⟨g,13,none⟩=some a13∧w.cell? ⟨g,14,none⟩=some a14 :=
 ⟨by rw[h.cell];rfl,by rw[h.cell];rfl,by rw[h.cell];rfl,by rw[h.cell];rfl,by rw[h.cell];rfl,by rw[h.cell];rfl,by rw[h.cell];rfl,by rw[h.cell];rfl,by rw[h.cell];rfl,by rw[h.cell];rfl,by rw[h.cell];rfl,by rw[h.cell];rfl,by rw[h.cell];rfl,by rw[h.cell];rfl,by rw[h.cell];rfl⟩
theorem Zgx {w:World} {g:Nat} {e:TypeId} {cs:List Value} (h:Row w g e cs):w.frozen? ⟨g,0,none⟩=false∧w.frozen? ⟨g,1,none⟩=false∧w.frozen? ⟨g,2,none⟩=false∧w.frozen? ⟨g,3,none⟩=false∧w.frozen? ⟨g,4,none⟩=false∧w.frozen? ⟨g,5,none⟩=false∧w.frozen? ⟨g,6,none⟩=false∧w.frozen? ⟨g,7,none⟩=false∧w.frozen? ⟨g,8,none⟩=false∧w.frozen? ⟨g,9,none⟩=false∧w.frozen? ⟨g,10,none⟩=false∧w.frozen? ⟨g,11,none⟩=false∧w.frozen? ⟨g,12,none⟩=false∧w.frozen? ⟨g,13,none⟩=false∧w.frozen? ⟨g,14,none⟩=false :=
 ⟨h.frozen 0,h.frozen 1,h.frozen 2,h.frozen 3,h.frozen 4,h.frozen 5,h.frozen 6,h.frozen 7,h.frozen 8,h.frozen 9,h.frozen 10,h.frozen 11,h.frozen 12,h.frozen 13,h.frozen 14⟩
set_option maxRecDepth 100000
def Zsn (rows:Nat) (xs:List Nat):List Int:=yv_I (Zaa rows xs).codec (Zaa rows xs).wd (Zal rows xs).list (Zal rows xs).ends (Zco rows xs) (Zal rows xs).lanes (Za8 rows (Zaa rows xs).nulls)
def Zqp (rows:Nat) (xs:List Nat) (z:ZM):Bool:=Zce rows xs&&Zts z rows (Za8 rows (Zaa rows xs).nulls) (Zsn rows xs)
theorem Zw7 (rows:Nat) (xs:List Nat) (z:ZM) (hb:∀ x∈xs,x<256) (hl:xs.length≤16777216) (hrr:rows≤65536) (hok:Zce rows xs=true) (w:World) (g:Nat) (B:Option Addr) (bc:Nat)
  (hk:Ck_I w g rows (Zaa rows xs).codec (Zaa rows xs).wd (Zaa rows xs).nulls (Za8 rows (Zaa rows xs).nulls) (Zal rows xs).list (Zal rows xs).ends (Zco rows xs) (Zal rows xs).lanes)
  (hbr:Rd w (.slice B z.bl.length bc) z.bl.length 1 (u64s z.bl)) (hbv:∀ x∈z.bl,x<18446744073709551616) (hbl:z.bl.length≤64) (hhs:0≤z.hs∧z.hs≤8) :
  Calls Tryz.prog 129 #[.iface 159 (.agg #[]),.pointer (some ⟨g,0,none⟩),z.v (.slice B z.bl.length bc)] w fun e w' =>
   e=.returned (.bool (Zts z rows (Za8 rows (Zaa rows xs).nulls) (Zsn rows xs)))∧Below w.heap.size w w':=by
 have hV:=Zoo rows xs hb hl hrr hok;have hw64:=Z15 rows xs hb hl hrr hok;have hk6:Za8 rows (Zaa rows xs).nulls≤65536:=by unfold Za8;omega
 refine Zxt w g rows _ _ _ _ _ _ _ _ z B bc hk hV.el hV.ll hV.lv hw64 hk6 hrr hV.ok (fun h2 j hj=>?_) hbr hbv hbl hhs ?_
 ·have:=hV.ok j hj;rw[h2]at this;unfold Zoh ok_I at this;rcases this with ⟨h9,_⟩ | ⟨h9,_⟩ | ⟨_,h5,_,h6⟩ | ⟨h9,_⟩
  ·omega
  ·omega
  ·exact⟨h5,h6⟩
  ·omega
 ·skip
  exact Z2a _ _ _ _ _ _ _
set_option maxHeartbeats 8000000 in
theorem Zv1 (w:World) (v:Value) (xs:List Nat) (rows:Nat) (o l sm:Int) (cd wd:Int) (z:ZM) (B:Option Addr) (bc:Nat) (hT:Tab w) (hv:Rd w v xs.length 1 (u8s xs)) (hb:∀ x∈xs,x<256) (hl:xs.length≤16777216) (hrr:rows≤65536)
  (hbr:Rd w (.slice B z.bl.length bc) z.bl.length 1 (u64s z.bl)) (hbv:∀ x∈z.bl,x<18446744073709551616) (hbl:z.bl.length≤64) (hhs:0≤z.hs∧z.hs≤8) :
  Calls Tryz.prog 88 #[.iface 159 (.agg #[]),.int .i64 rows,v,.agg #[.int .i64 o,.int .i64 l,.int .u32 sm,.int .i64 cd,.int .i64 wd,.bool z.rg,.int .i64 z.nu,.bool z.mn.n,.int .i64 z.mn.i,.string z.mn.s,.bool z.mx.n,.int .i64 z.mx.i,.string z.mx.s,.int .i64 z.hs,.slice B z.bl.length bc]] w fun e w' =>
   Below w.heap.size w w'∧e=.returned (if Zqp rows xs z=true then .tuple #[.agg #[.int .i64 o,.int .i64 l,.int .u32 sm,.int .i64 (Zaa rows xs).codec,.int .i64 (Zaa rows xs).wd,.bool z.rg,.int .i64 z.nu,.bool z.mn.n,.int .i64 z.mn.i,.string z.mn.s,.bool z.mx.n,.int .i64 z.mx.i,.string z.mx.s,.int .i64 z.hs,.slice B z.bl.length bc],.bool true]
    else .tuple #[.agg #[.int .i64 0,.int .i64 0,.int .u32 0,.int .i64 0,.int .i64 0,.bool false,.int .i64 0,.bool false,.int .i64 0,.string ⟨#[]⟩,.bool false,.int .i64 0,.string ⟨#[]⟩,.int .i64 0,.slice none 0 0],.bool false]):=by
 have Z5:=hid (fun w2 (hb2:Below w.heap.size w w2)=>Zz8 w2 v xs rows (hT.mono hb2 hT.lt) (hv.mono hb2) hb hl hrr);have Ji:=hid (fun(w2:World) (g:Nat) (hb2:Below w.heap.size w w2) (hh:Zce rows xs=true)=>fun hk=>Zw7 rows xs z hb hl hrr hh w2 g B bc hk (hbr.mono hb2) hbv hbl hhs);obtain⟨A0,c0,rfl,_,_,_⟩:=hv.form;have Y1:=hid (fun(w2:World) (nu lv ev nv bef:Value)=>@Zqe w2 rows xs nu lv ev nv bef);unfold Zqp;generalize Zts z rows (Za8 rows (Zaa rows xs).nulls) (Zsn rows xs)=SO at *;generalize Zce rows xs=OK at *;generalize Zal rows xs=O at *;generalize Zco rows xs=bs at *;generalize Zaa rows xs=H at *;obtain⟨rg,nu,mn,mx,hs,bl⟩:=z;simp only at Ji;unfold ZM.v at Ji;simp only at Ji ⊢;generalize bl.length=bn at *;clear hT hv hbr hbv hbl hhs;obtain⟨ANS,hANS⟩:∃ ANS,(if (OK&&SO)=true then Value.tuple #[.agg #[.int .i64 o,.int .i64 l,.int .u32 sm,.int .i64 H.codec,.int .i64 H.wd,.bool rg,.int .i64 nu,.bool mn.n,.int .i64 mn.i,.string mn.s,.bool mx.n,.int .i64 mx.i,.string mx.s,.int .i64 hs,.slice B bn bc],.bool true]
    else .tuple #[.agg #[.int .i64 0,.int .i64 0,.int .u32 0,.int .i64 0,.int .i64 0,.bool false,.int .i64 0,.bool false,.int .i64 0,.string ⟨#[]⟩,.bool false,.int .i64 0,.string ⟨#[]⟩,.int .i64 0,.slice none 0 0],.bool false])=ANS:=⟨_,rfl⟩
 rw[hANS];have Qj:=hid hANS;clear hANS;go_enter Tryz.func88,Tryz.ntmps88;go_upto_region 1 with fail
 obtain⟨w1,hw1⟩:∃ w1,(w.alloc (.cells #[.int .i64 o,.int .i64 l,.int .u32 sm,.int .i64 cd,.int .i64 wd,.bool rg,.int .i64 nu,.bool mn.n,.int .i64 mn.i,.string mn.s,.bool mx.n,.int .i64 mx.i,.string mx.s,.int .i64 hs,.slice B bn bc] 41)).alloc (.cells #[.int .i64 0,.int .i64 0,.int .u32 0,.int .i64 0,.int .i64 0,.bool false,.int .i64 0,.bool false,.int .i64 0,.string ⟨#[]⟩,.bool false,.int .i64 0,.string ⟨#[]⟩,.int .i64 0,.slice none 0 0] 41)=w1:=⟨_,rfl⟩;obtain⟨s,hsz⟩:∃ s,w.heap.size=s:=⟨_,rfl⟩;have HR:Hid (Row w1 s 41 [.int .i64 o,.int .i64 l,.int .u32 sm,.int .i64 cd,.int .i64 wd,.bool rg,.int .i64 nu,.bool mn.n,.int .i64 mn.i,.string mn.s,.bool mx.n,.int .i64 mx.i,.string mx.s,.int .i64 hs,.slice B bn bc]∧Row w1 (s+1) 41 [.int .i64 0,.int .i64 0,.int .u32 0,.int .i64 0,.int .i64 0,.bool false,.int .i64 0,.bool false,.int .i64 0,.string ⟨#[]⟩,.bool false,.int .i64 0,.string ⟨#[]⟩,.int .i64 0,.slice none 0 0]∧Below w.heap.size w w1∧w1.heap.size=s+2):=hid (by
  have f1:=Zbe (w:=w) (C:=#[.int .i64 o,.int .i64 l,.int .u32 sm,.int .i64 cd,.int .i64 wd,.bool rg,.int .i64 nu,.bool mn.n,.int .i64 mn.i,.string mn.s,.bool mx.n,.int .i64 mx.i,.string mx.s,.int .i64 hs,.slice B bn bc]) (e:=41);have f2:=Zbe (w:=w.alloc (.cells #[.int .i64 o,.int .i64 l,.int .u32 sm,.int .i64 cd,.int .i64 wd,.bool rg,.int .i64 nu,.bool mn.n,.int .i64 mn.i,.string mn.s,.bool mx.n,.int .i64 mx.i,.string mx.s,.int .i64 hs,.slice B bn bc] 41)) (C:=#[.int .i64 0,.int .i64 0,.int .u32 0,.int .i64 0,.int .i64 0,.bool false,.int .i64 0,.bool false,.int .i64 0,.string ⟨#[]⟩,.bool false,.int .i64 0,.string ⟨#[]⟩,.int .i64 0,.slice none 0 0]) (e:=41);rw[hw1]at f2;have r1:=f1.1.mono f2.2;have r2:=f2.1;simp only[World.size_alloc,hsz]at r1 r2;refine⟨r1,r2,Zac f1.2 f2.2,?_⟩;rw[← hw1];simp[hsz])
 rw[hw1];have Yh:=hid hsz;clear hw1;rw[hsz];clear hsz;have Vs:=hid (Z5.out w1 HR.out.2.2.1);clear Z5;go_wp2_with fail
 refine Vs.out.mono ?_;rintro e w2 ⟨hb2,⟨rfl,rfl⟩ | ⟨rfl,nu2,lv,ev,nv,bef,rfl,h1,h2,h3,h4,h5⟩⟩
 ·have hb3:Below w2.heap.size w2 (w2.alloc (.cells Za0.toArray 207)):=(Zab w2).alloc (Nat.le_refl _) _;have hz1:=HR.out.2.2.2;have hz2:=hb2.size;have R2:=(HR.out.2.1.mono hb2).mono hb3;have Ys:=hid (Zac (Zac HR.out.2.2.1 hb2) hb3);have HA:Hid (ANS=.tuple #[.agg #[.int .i64 0,.int .i64 0,.int .u32 0,.int .i64 0,.int .i64 0,.bool false,.int .i64 0,.bool false,.int .i64 0,.string ⟨#[]⟩,.bool false,.int .i64 0,.string ⟨#[]⟩,.int .i64 0,.slice none 0 0],.bool false]):=hid (by rw[← Qj.out];simp);clear hb2 hb3 Ji Y1 Qj Vs;unfold Za0 i64 nilS at *;go_upto_region 2 with fail
  generalize w2.alloc (.cells #[.int .i64 0,.int .i64 0,.int .i64 0,.slice none 0 0,.int .i64 0,.slice none 0 0,.slice none 0 0,.int .i64 0,.slice none 0 0,.nilIface,.slice none 0 0] 207)=w3 at *;obtain⟨y0,y1,y2,y3,y4,y5,y6,y7,y8,y9,y10,y11,y12,y13,y14⟩:=Zcs R2;obtain⟨f0,f1,f2,f3,f4,f5,f6,f7,f8,f9,f10,f11,f12,f13,f14⟩:=Zgx R2;have Qm:=hid R2;clear R2;go_wp2_with fail
  change bodyPost _ _ _ _ _ (Zdn w3 (s+1) (.int .i64 0) (.int .i64 0) (.int .u32 0) (.int .i64 0) (.int .i64 0) (.bool false) (.int .i64 0) (.bool false) (.int .i64 0) (.string ⟨#[]⟩) (.bool false) (.int .i64 0) (.string ⟨#[]⟩) (.int .i64 0) (.slice none 0 0))
  have R9:=Zcy Qm.out (.int .i64 0) (.int .i64 0) (.int .u32 0) (.int .i64 0) (.int .i64 0) (.bool false) (.int .i64 0) (.bool false) (.int .i64 0) (.string ⟨#[]⟩) (.bool false) (.int .i64 0) (.string ⟨#[]⟩) (.int .i64 0) (.slice none 0 0);have hbl:=Zb2 Ys.out (show w.heap.size≤s+1 by rw[Yh.out];omega) (.int .i64 0) (.int .i64 0) (.int .u32 0) (.int .i64 0) (.int .i64 0) (.bool false) (.int .i64 0) (.bool false) (.int .i64 0) (.string ⟨#[]⟩) (.bool false) (.int .i64 0) (.string ⟨#[]⟩) (.int .i64 0) (.slice none 0 0);clear y0 y1 y2 y3 y4 y5 y6 y7 y8 y9 y10 y11 y12 y13 y14 f0 f1 f2 f3 f4 f5 f6 f7 f8 f9 f10 f11 f12 f13 f14;generalize Zdn w3 (s+1) (.int .i64 0) (.int .i64 0) (.int .u32 0) (.int .i64 0) (.int .i64 0) (.bool false) (.int .i64 0) (.bool false) (.int .i64 0) (.string ⟨#[]⟩) (.bool false) (.int .i64 0) (.string ⟨#[]⟩) (.int .i64 0) (.slice none 0 0)=wz at *;obtain⟨q0,q1,q2,q3,q4,q5,q6,q7,q8,q9,q10,q11,q12,q13,q14⟩:=Zcs R9;refine bodyPost_ret (v:=.tuple #[.agg #[.int .i64 0,.int .i64 0,.int .u32 0,.int .i64 0,.int .i64 0,.bool false,.int .i64 0,.bool false,.int .i64 0,.string ⟨#[]⟩,.bool false,.int .i64 0,.string ⟨#[]⟩,.int .i64 0,.slice none 0 0],.bool false]) ?_ rfl ?_
  ·simp[results,Tryz.results88,go_sem,q0,q1,q2,q3,q4,q5,q6,q7,q8,q9,q10,q11,q12,q13,q14]
  ·exact⟨hbl,by rw[HA.out]⟩
 ·obtain⟨A1,c1,rfl,_,_,_⟩:=(Zba h1).form;obtain⟨A2,c2,rfl,_,_,_⟩:=h2.form;obtain⟨A3,c3,rfl,_,_,_⟩:=h3.form;obtain⟨A4,c4,rfl,_,_,_⟩:=h4.form;obtain⟨A5,c5,rfl,_,_,_⟩:=h5.form;have Yj:=hid (Y1.out w2 _ _ _ _ _ (Zba h1) h2 h3 h4 h5);have Qb:=hid (Zac HR.out.2.2.1 hb2);have Qd:=hid (Zbe (w:=w2) (C:=(ck_I rows H.codec H.wd (.slice A1 H.nulls.length c1) (Za8 rows H.nulls) (.slice A2 O.list.length c2) (.slice A3 O.ends.length c3) bs (.slice A4 O.lanes.length c4) Zbg (.slice A5 H.nulls.length c5)).toArray) (e:=207));have hz1:=HR.out.2.2.2;have hz2:=hb2.size;have ZF:=hid hz2;have QH:=hid (HR.out.1.mono hb2);have Zk:=hid (HR.out.2.1.mono hb2);clear h1 h2 h3 h4 h5 hb2 Y1 Vs;have J3:=hid (Ji.out _ w2.heap.size (Zac Qb.out Qd.out.2) rfl Yj.out);clear Ji;generalize Za8 rows H.nulls=kk at *;unfold ck_I i64 Zbg at *;go_upto_region 2 with fail
  have Qe:=hid (Zac Qb.out Qd.out.2);have Yx:=hid (QH.out.mono Qd.out.2);have QT:=hid (Zk.out.mono Qd.out.2);have X5:=hid Qd.out.1;clear Qd Yj QH Zk Qb;generalize w2.alloc (.cells #[.int .i64 rows,.int .i64 H.codec,.int .i64 H.wd,.slice A1 H.nulls.length c1,.int .i64 kk,.slice A2 O.list.length c2,.slice A3 O.ends.length c3,.int .i64 bs,.slice A4 O.lanes.length c4,.iface 159 (.agg #[]),.slice A5 H.nulls.length c5] 207)=w3 at *;obtain⟨y0,y1,y2,y3,y4,y5,y6,y7,y8,y9,y10,y11,y12,y13,y14⟩:=Zcs Yx.out;have HPS:Hid (s+1<w2.heap.size):=hid (by omega);clear hz1 hz2;cases SO
  ·have HA:Hid (ANS=.tuple #[.agg #[.int .i64 0,.int .i64 0,.int .u32 0,.int .i64 0,.int .i64 0,.bool false,.int .i64 0,.bool false,.int .i64 0,.string ⟨#[]⟩,.bool false,.int .i64 0,.string ⟨#[]⟩,.int .i64 0,.slice none 0 0],.bool false]):=hid (by rw[← Qj.out];rfl);clear Qj;go_wp2_with (go_at_call 129;refine J3.out.mono ?_;rintro e w4 ⟨rfl,hb4⟩;have Qz:=hid hb4;have Yn:=hid (QT.out.mono hb4);clear hb4 y0 y1 y2 y3 y4 y5 y6 y7 y8 y9 y10 y11 y12 y13 y14;obtain⟨y0,y1,y2,y3,y4,y5,y6,y7,y8,y9,y10,y11,y12,y13,y14⟩:=Zcs Yn.out;obtain⟨f0,f1,f2,f3,f4,f5,f6,f7,f8,f9,f10,f11,f12,f13,f14⟩:=Zgx Yn.out)
   change bodyPost _ _ _ _ _ (Zdn w4 (s+1) (.int .i64 0) (.int .i64 0) (.int .u32 0) (.int .i64 0) (.int .i64 0) (.bool false) (.int .i64 0) (.bool false) (.int .i64 0) (.string ⟨#[]⟩) (.bool false) (.int .i64 0) (.string ⟨#[]⟩) (.int .i64 0) (.slice none 0 0))
   have R9:=Zcy Yn.out (.int .i64 0) (.int .i64 0) (.int .u32 0) (.int .i64 0) (.int .i64 0) (.bool false) (.int .i64 0) (.bool false) (.int .i64 0) (.string ⟨#[]⟩) (.bool false) (.int .i64 0) (.string ⟨#[]⟩) (.int .i64 0) (.slice none 0 0);have hbl:=Zb2 (Zac Qe.out Qz.out) (show w.heap.size≤s+1 by rw[Yh.out];omega) (.int .i64 0) (.int .i64 0) (.int .u32 0) (.int .i64 0) (.int .i64 0) (.bool false) (.int .i64 0) (.bool false) (.int .i64 0) (.string ⟨#[]⟩) (.bool false) (.int .i64 0) (.string ⟨#[]⟩) (.int .i64 0) (.slice none 0 0);clear y0 y1 y2 y3 y4 y5 y6 y7 y8 y9 y10 y11 y12 y13 y14 f0 f1 f2 f3 f4 f5 f6 f7 f8 f9 f10 f11 f12 f13 f14;generalize Zdn w4 (s+1) (.int .i64 0) (.int .i64 0) (.int .u32 0) (.int .i64 0) (.int .i64 0) (.bool false) (.int .i64 0) (.bool false) (.int .i64 0) (.string ⟨#[]⟩) (.bool false) (.int .i64 0) (.string ⟨#[]⟩) (.int .i64 0) (.slice none 0 0)=wz at *;obtain⟨q0,q1,q2,q3,q4,q5,q6,q7,q8,q9,q10,q11,q12,q13,q14⟩:=Zcs R9;refine bodyPost_ret (v:=.tuple #[.agg #[.int .i64 0,.int .i64 0,.int .u32 0,.int .i64 0,.int .i64 0,.bool false,.int .i64 0,.bool false,.int .i64 0,.string ⟨#[]⟩,.bool false,.int .i64 0,.string ⟨#[]⟩,.int .i64 0,.slice none 0 0],.bool false]) ?_ rfl ?_
   ·simp[results,Tryz.results88,go_sem,q0,q1,q2,q3,q4,q5,q6,q7,q8,q9,q10,q11,q12,q13,q14]
   ·exact⟨hbl,by rw[HA.out]⟩
  ·have HA:Hid (ANS=.tuple #[.agg #[.int .i64 o,.int .i64 l,.int .u32 sm,.int .i64 H.codec,.int .i64 H.wd,.bool rg,.int .i64 nu,.bool mn.n,.int .i64 mn.i,.string mn.s,.bool mx.n,.int .i64 mx.i,.string mx.s,.int .i64 hs,.slice B bn bc],.bool true]):=hid (by rw[← Qj.out];rfl);clear Qj;go_upto_region 4 with (go_at_call 129;refine J3.out.mono ?_;rintro e w4 ⟨rfl,hb4⟩;have Qz:=hid hb4;have Zd:=hid (Yx.out.mono hb4);have Yn:=hid (QT.out.mono hb4);have YV:=hid (X5.out.mono hb4);clear hb4)
   clear y0 y1 y2 y3 y4 y5 y6 y7 y8 y9 y10 y11 y12 y13 y14;obtain⟨y0,y1,y2,y3,y4,y5,y6,y7,y8,y9,y10,y11,y12,y13,y14⟩:=Zcs Zd.out;obtain⟨f0,f1,f2,f3,f4,f5,f6,f7,f8,f9,f10,f11,f12,f13,f14⟩:=Zgx Zd.out;have k1:=YV.out.cell 1;have k2:=YV.out.cell 2;simp only[List.getElem?_cons_zero,List.getElem?_cons_succ]at k1 k2;go_region
   have V0:Hid (Row ((w4.setCell ⟨s,3,none⟩ (.int .i64 H.codec)).setCell ⟨s,4,none⟩ (.int .i64 H.wd)).drew s 41 [.int .i64 o,.int .i64 l,.int .u32 sm,.int .i64 H.codec,.int .i64 H.wd,.bool rg,.int .i64 nu,.bool mn.n,.int .i64 mn.i,.string mn.s,.bool mx.n,.int .i64 mx.i,.string mx.s,.int .i64 hs,.slice B bn bc]):=hid (((Zd.out.set 3 (.int .i64 H.codec)).set 4 (.int .i64 H.wd)).mono (Zaf (Zab _) 1));have JS:Hid (Row ((w4.setCell ⟨s,3,none⟩ (.int .i64 H.codec)).setCell ⟨s,4,none⟩ (.int .i64 H.wd)).drew (s+1) 41 [.int .i64 0,.int .i64 0,.int .u32 0,.int .i64 0,.int .i64 0,.bool false,.int .i64 0,.bool false,.int .i64 0,.string ⟨#[]⟩,.bool false,.int .i64 0,.string ⟨#[]⟩,.int .i64 0,.slice none 0 0]):=hid ((Zam (w:=w4.setCell ⟨s,3,none⟩ (.int .i64 H.codec)) (i:=4) (v:=.int .i64 H.wd) (Zam (w:=w4) (i:=3) (v:=.int .i64 H.codec) Yn.out (show s+1≠s by omega)) (show s+1≠s by omega)).mono (Zaf (Zab _) 1));have Q1:Hid (Below w.heap.size w ((w4.setCell ⟨s,3,none⟩ (.int .i64 H.codec)).setCell ⟨s,4,none⟩ (.int .i64 H.wd)).drew):=hid (Zaf (Zbh (Zbh (Zac Qe.out Qz.out) s 3 (.int .i64 H.codec) (by rw[Yh.out];exact Nat.le_refl _)) s 4 (.int .i64 H.wd) (by rw[Yh.out];exact Nat.le_refl _)) 1);clear y0 y1 y2 y3 y4 y5 y6 y7 y8 y9 y10 y11 y12 y13 y14 f0 f1 f2 f3 f4 f5 f6 f7 f8 f9 f10 f11 f12 f13 f14 k1 k2;generalize ((w4.setCell ⟨s,3,none⟩ (.int .i64 H.codec)).setCell ⟨s,4,none⟩ (.int .i64 H.wd)).drew=w5 at *;obtain⟨y0,y1,y2,y3,y4,y5,y6,y7,y8,y9,y10,y11,y12,y13,y14⟩:=Zcs V0.out;obtain⟨e0,e1,e2,e3,e4,e5,e6,e7,e8,e9,e10,e11,e12,e13,e14⟩:=Zcs JS.out;obtain⟨f0,f1,f2,f3,f4,f5,f6,f7,f8,f9,f10,f11,f12,f13,f14⟩:=Zgx JS.out;go_wp2_with fail
   change bodyPost _ _ _ _ _ (Zdn w5 (s+1) (.int .i64 o) (.int .i64 l) (.int .u32 sm) (.int .i64 H.codec) (.int .i64 H.wd) (.bool rg) (.int .i64 nu) (.bool mn.n) (.int .i64 mn.i) (.string mn.s) (.bool mx.n) (.int .i64 mx.i) (.string mx.s) (.int .i64 hs) (.slice B bn bc))
   have R9:=Zcy JS.out (.int .i64 o) (.int .i64 l) (.int .u32 sm) (.int .i64 H.codec) (.int .i64 H.wd) (.bool rg) (.int .i64 nu) (.bool mn.n) (.int .i64 mn.i) (.string mn.s) (.bool mx.n) (.int .i64 mx.i) (.string mx.s) (.int .i64 hs) (.slice B bn bc);have hbl:=Zb2 Q1.out (show w.heap.size≤s+1 by rw[Yh.out];omega) (.int .i64 o) (.int .i64 l) (.int .u32 sm) (.int .i64 H.codec) (.int .i64 H.wd) (.bool rg) (.int .i64 nu) (.bool mn.n) (.int .i64 mn.i) (.string mn.s) (.bool mx.n) (.int .i64 mx.i) (.string mx.s) (.int .i64 hs) (.slice B bn bc);clear y0 y1 y2 y3 y4 y5 y6 y7 y8 y9 y10 y11 y12 y13 y14 f0 f1 f2 f3 f4 f5 f6 f7 f8 f9 f10 f11 f12 f13 f14 e0 e1 e2 e3 e4 e5 e6 e7 e8 e9 e10 e11 e12 e13 e14;generalize Zdn w5 (s+1) (.int .i64 o) (.int .i64 l) (.int .u32 sm) (.int .i64 H.codec) (.int .i64 H.wd) (.bool rg) (.int .i64 nu) (.bool mn.n) (.int .i64 mn.i) (.string mn.s) (.bool mx.n) (.int .i64 mx.i) (.string mx.s) (.int .i64 hs) (.slice B bn bc)=wz at *;obtain⟨q0,q1,q2,q3,q4,q5,q6,q7,q8,q9,q10,q11,q12,q13,q14⟩:=Zcs R9;refine bodyPost_ret (v:=.tuple #[.agg #[.int .i64 o,.int .i64 l,.int .u32 sm,.int .i64 H.codec,.int .i64 H.wd,.bool rg,.int .i64 nu,.bool mn.n,.int .i64 mn.i,.string mn.s,.bool mx.n,.int .i64 mx.i,.string mx.s,.int .i64 hs,.slice B bn bc],.bool true]) ?_ rfl ?_
   ·simp[results,Tryz.results88,go_sem,q0,q1,q2,q3,q4,q5,q6,q7,q8,q9,q10,q11,q12,q13,q14]
   ·exact⟨hbl,by rw[HA.out]⟩
end Go.Proofs.YtmcjknjlihgihaaGreatDoor
