/- A block of fifteen cells written over. -/
import Derived.Test.YtmcjknjlihgihaaGreatDoorLawfreshlistsuptoM21
set_option linter.unusedVariables false
set_option linter.unusedSimpArgs false
set_option linter.unnecessarySimpa false
set_option maxRecDepth 20000
namespace Go.Proofs.YtmcjknjlihgihaaGreatDoor
open Go.RowKit
def iC (xs:List Nat):Nat:=nAt 4 4 xs
def iG (xs:List Nat):Nat:=nAt 4 8 xs
def iR (xs:List Nat):Nat:=nAt 4 12 xs
def iD (C G:Nat):Nat:=16+C+G*(4+16*C)
def Zf6 (xs:List Nat):Bool :=
 decide (16≤xs.length)&&(decide (nAt 4 0 xs=826889027)&&(decide (1≤iC xs∧iC xs≤16)&&(decide (iG xs≤256)&&(decide (iR xs≤65536)&&decide (iD (iC xs) (iG xs)≤xs.length)))))
def iKs (C:Nat) (xs:List Nat):List Nat:=(xs.drop 16).take C
def Zgr (C:Nat) (xs:List Nat):Bool:=(iKs C xs).all fun k=>Za3 (k:Int)
structure En where
 off:Nat
 len:Nat
 sum:Nat
 zl:Nat
def gP (C g:Nat):Nat:=16+C+g*(4+16*C)
def eP (C g c:Nat):Nat:=gP C g+4+16*c
def Za4 (C:Nat) (xs:List Nat) (g:Nat):Nat:=nAt 4 (gP C g) xs
def enAt (xs:List Nat) (p:Nat):En:=⟨nAt 4 p xs,nAt 4 (p+4) xs,nAt 4 (p+8) xs,nAt 4 (p+12) xs⟩
def eN (C:Nat) (xs:List Nat) (g c:Nat):En:=enAt xs (eP C g c)
def sumR (C:Nat) (xs:List Nat):Nat→Nat
 | 0=>0
 | g+1=>sumR C xs g+Za4 C xs g
def eI (C:Nat) (xs:List Nat) (i:Nat):En:=eN C xs (i/C) (i%C)
def eAt (C D:Nat) (xs:List Nat):Nat→Nat
 | 0=>D
 | i+1=>eAt C D xs i+((eI C xs i).len+(eI C xs i).zl)
def laid (C D:Nat) (xs:List Nat) (n:Nat):Bool:=(List.range n).all fun i=>decide ((eI C xs i).off=eAt C D xs i)
def Zde (C G R:Nat) (xs:List Nat):Bool:=laid C (iD C G) xs (G*C)&&(decide (sumR C xs G=R)&&decide (eAt C (iD C G) xs (G*C)=xs.length))
def Zf3 (xs:List Nat):Bool:=Zf6 xs&&(Zgr (iC xs) xs&&Zde (iC xs) (iG xs) (iR xs) xs)
theorem Zp8 (C D:Nat) (xs:List Nat) (n:Nat):laid C D xs (n+1)=(laid C D xs n&&decide ((eI C xs n).off=eAt C D xs n)):=by
 unfold laid;rw[List.range_succ,List.all_append];simp
theorem Zxc {C D:Nat} {xs:List Nat} {i n:Nat} (hi:i<n) (h:(eI C xs i).off≠eAt C D xs i):laid C D xs n=false:=by
 rw[← Bool.not_eq_true];intro h2;unfold laid at h2;rw[List.all_eq_true]at h2;have:=h2 i (List.mem_range.2 hi);simp only[decide_eq_true_eq]at this;exact h this
theorem Ztc (C D:Nat) (xs:List Nat):∀ i d,eAt C D xs i≤eAt C D xs (i+d)
 | _,0=>Nat.le_refl _
 | i,d+1=>Nat.le_trans (Ztc C D xs i d) (by show _≤eAt C D xs (i+d)+_;omega)
theorem Zvt {C:Nat} {xs:List Nat} {g c:Nat} (hc:c<C):eI C xs (g*C+c)=eN C xs g c:=by
 have h0:0<C:=by omega
 unfold eI;rw[Nat.mul_comm,Nat.mul_add_div h0,Nat.mul_add_mod,Nat.div_eq_of_lt hc,Nat.mod_eq_of_lt hc,Nat.add_zero]
theorem Zvz {C:Nat} {xs:List Nat} (hx:∀ x∈xs,x<256) (g c:Nat):(eN C xs g c).off<4294967296∧(eN C xs g c).len<4294967296∧(eN C xs g c).sum<4294967296∧(eN C xs g c).zl<4294967296 :=
 ⟨Zdt hx,Zdt hx,Zdt hx,Zdt hx⟩
theorem Zwu {C D:Nat} {xs:List Nat} (hx:∀ x∈xs,x<256):∀ i,eAt C D xs i≤D+i*8589934592
 | 0=>by simp[eAt]
 | i+1=>by
  have:=Zwu (C:=C) (D:=D) hx i;have h:=Zvz (C:=C) hx (i/C) (i%C)
  show eAt C D xs i+((eI C xs i).len+(eI C xs i).zl)≤_
  unfold eI;omega
theorem Zrd {C:Nat} {xs:List Nat} (hx:∀ x∈xs,x<256):∀ g,sumR C xs g≤g*4294967296
 | 0=>by simp[sumR]
 | g+1=>by
  have:=Zrd (C:=C) hx g;have h:Za4 C xs g<4294967296:=Zdt hx
  show sumR C xs g+Za4 C xs g≤_
  omega
theorem Zqu (C:Nat) (xs:List Nat):∀ i d,sumR C xs i≤sumR C xs (i+d)
 | _,0=>Nat.le_refl _
 | i,d+1=>Nat.le_trans (Zqu C xs i d) (by show _≤sumR C xs (i+d)+_;omega)
theorem Zxh {xs:List Nat} (h:Zf6 xs=true):16≤xs.length∧nAt 4 0 xs=826889027∧(1≤iC xs∧iC xs≤16)∧iG xs≤256∧iR xs≤65536∧iD (iC xs) (iG xs)≤xs.length:=by
 unfold Zf6 at h;simp only[Bool.and_eq_true,decide_eq_true_eq]at h;exact h
theorem Z07 {C G g:Nat} (hg:g<G):gP C g+4+16*C≤iD C G:=by
 unfold gP iD;have:(g+1)*(4+16*C)≤G*(4+16*C):=Nat.mul_le_mul_right _ hg;rw[Nat.add_mul]at this;omega
theorem Z0c (C g:Nat):gP C (g+1)=gP C g+4+16*C:=by unfold gP;rw[Nat.add_mul];omega
theorem Zzp (C:Nat):gP C 0=16+C:=by unfold gP;omega
theorem Z00 {C G:Nat} (hC:C≤16) (hG:G≤256):iD C G≤66592:=by
 unfold iD;have:G*(4+16*C)≤256*260:=Nat.mul_le_mul hG (by omega);omega
theorem Zes {xs:List Nat} {p size:Nat} (h:p+size≤xs.length):L.wordOf 8 (tk size (xs.drop p))=nAt size p xs∧tkL size (xs.drop p)=xs.drop (p+size):=by
 have hl:size≤(xs.drop p).length:=by rw[List.length_drop];omega
 refine⟨?_,?_⟩
 ·unfold tk nAt Zb9;rw[if_pos hl,if_pos (decide_eq_true ⟨by omega,by omega⟩)]
 ·unfold tkL;rw[if_pos hl,List.drop_drop]
theorem Zqa {xs:List Nat} {p size:Nat} {s:Bool} (h:p+size≤xs.length):tkS size (xs.drop p) s=s:=by
 unfold tkS;rw[if_pos (by rw[List.length_drop];omega)]
theorem Z0f {xs:List Nat} {p:Nat} (h:p<xs.length):nAt 1 p xs=xs.getD p 0:=by
 unfold nAt Zb9;rw[if_pos (decide_eq_true ⟨by omega,by omega⟩)];rw[show (xs.drop p).take 1=[xs.getD p 0] by
  rw[List.drop_eq_getElem_cons h,List.take_succ_cons,List.take_zero];simp[List.getD,List.getElem?_eq_getElem h]]
 exact Zhi _
theorem Zwk (x:Nat):okI (Zcf x):=by unfold okI Zcf wrap64;omega
theorem Zor (k rows:Int) {xs:List Nat} (hb:∀ x∈xs,x<256):Zjn (Zfs k rows xs):=by
 have h0:okI (0:Int):=by unfold okI;omega
 have hd:∀ ys:List Nat,okI (bdC k ys).i:=fun ys=>by
  unfold bdC;split
  ·exact h0
  ·exact Zwk _
 unfold Zjn Zfs;refine⟨?_,?_,?_⟩
 ·simp only;split
  ·exact hd _
  ·exact h0
 ·simp only;split
  ·exact hd _
  ·exact h0
 ·simp only;split
  ·refine Zdu (Zc8 (Zas (Zas ?_))) (by omega);unfold pzX4 pzX2
   split
   ·refine Zt1 (Zt1 ?_)
    split
    ·exact Zas (Zas hb)
    ·exact Zas hb
   ·split
    ·exact Zas (Zas hb)
    ·exact Zas hb
  ·intro x hx;cases hx
theorem Z0r (k rows:Int) {xs:List Nat} (hb:∀ x∈xs,x<256):Zjn (Zta k rows xs):=by
 have h0:okI (0:Int):=by unfold okI;omega
 have hd:∀ p:Nat,okI (vaC k p xs).i:=fun p=>by
  unfold vaC;split
  ·exact Zwk _
  ·split
   ·exact h0
   ·exact h0
 have hbl:∀ x∈rzBl k rows xs,x<18446744073709551616:=by
  unfold rzBl;split
  ·exact Zdu (Zc8 (fun x hx=>hb x (List.mem_of_mem_drop hx))) (by omega)
  ·intro x hx;cases hx
 unfold Zjn Zta;refine⟨?_,?_,?_⟩
 ·simp only;split
  ·exact hd _
  ·exact h0
 ·simp only;split
  ·exact hd _
  ·exact h0
 ·simp only;exact hbl
def zOkZ (k rows:Int) (xs:List Nat):Bool:=decide (zOk k rows (Zfs k rows xs)=true∧zRec k rows (Zfs k rows xs)=xs)
def ZGot (k rows:Int) (xs:List Nat) (w:World) (e:Ending) (w':World):Prop:=Below w.heap.size w w' ∧
 ∃ z B c,e=.returned (.tuple #[z.v (.slice B z.bl.length c),.bool (zOkZ k rows xs)])∧w'.ownsRow w.heap.size 73 1 (.slice B z.bl.length c) z.bl.length (u64s z.bl)∧(zOkZ k rows xs=true→z=Zfs k rows xs)
theorem Zs6 {k rows:Int} {xs:List Nat} {w w':World} {e:Ending} (h:ZAns k rows xs w e w'):ZGot k rows xs w e w':=by
 obtain⟨hb,ok,z,B,he,ho,h⟩:=h;obtain⟨A,c,rfl⟩:=Zah ho;refine⟨hb,z,A,c,?_,ho,?_⟩
 ·rcases h with ⟨rfl,rfl,h1,h2⟩ | ⟨rfl,rfl,h1⟩
  ·rw[show zOkZ k rows xs=true from decide_eq_true ⟨h1,h2⟩];exact he
  ·rw[show zOkZ k rows xs=false from decide_eq_false h1];exact he
 ·rcases h with ⟨rfl,h0,h1,h2⟩ | ⟨rfl,h0,h1⟩
  ·exact fun _=>h0
  ·intro hh;unfold zOkZ at hh;rw[decide_eq_true_eq]at hh;exact absurd hh h1
theorem Zyp {k rows:Int} {xs:List Nat} {w w':World} {e:Ending} (hk:Za3 k=true) (hr:0≤rows∧rows≤65536) (hb:∀ x∈xs,x<256) (h:RAns k rows xs w e w'):ZGot k rows xs w e w':=by
 refine Zs6 ?_;obtain⟨hb2,ok,z,B,he,ho,h⟩:=h;refine⟨hb2,ok,z,B,he,ho,?_⟩;rcases h with ⟨h0,h3,h1,h2⟩ | ⟨h0,h3,h1⟩
 ·have hp:=Zv1 hk hr (h3 ▸ Z0r k rows hb) h1;rw[h2]at hp;exact .inl ⟨h0,hp.symm,h1,h2⟩
 ·exact .inr ⟨h0,h3,fun hh=>h1 _ (Zor k rows hb) hh.1 hh.2⟩
def Zam (xs:List Nat) (en:En):List Nat:=(xs.drop en.off).take en.len
def recE (xs:List Nat) (en:En):List Nat:=(xs.drop (en.off+en.len)).take en.zl
def zE (kd rows:Nat) (xs:List Nat) (en:En):ZM:=Zfs kd rows (recE xs en)
def sOkE (kd rows:Nat) (ys:List Nat) (z:ZM):Bool:=rOk kd rows ys&&sndR z kd rows (cA (rWs rows ys)) (cB (rWs rows ys) (rPay kd rows ys).2) (cC (rWs rows ys) (rPay kd rows ys).2)
def Zhp (kd rows:Nat) (xs:List Nat) (en:En):Bool:=zOkZ kd rows (recE xs en)&&(decide (crc (Zam xs en)=en.sum)&&sOkE kd rows (Zam xs en) (zE kd rows xs en))
def ckVs (o l s cd wd:Nat) (z:ZM):List Value:=[.int .i64 (o:Nat),.int .i64 (l:Nat),.int .u32 (s:Nat),.int .i64 (cd:Nat),.int .i64 (wd:Nat),.bool z.rg,.int .i64 z.nu,.bool z.mn.n,.int .i64 z.mn.i,.string z.mn.s,.bool z.mx.n,.int .i64 z.mx.i,.string z.mx.s,.int .i64 z.hs]
def ckVE (kd rows:Nat) (xs:List Nat) (en:En):List Value:=ckVs en.off en.len en.sum ((Zam xs en).getD 0 0) ((Zam xs en).getD 1 0) (zE kd rows xs en)
theorem Zye (kd rows:Nat) (xs:List Nat) (en:En):(ckVE kd rows xs en).length=14:=rfl
def Zid (kd rows:Nat) (xs:List Nat) (en:En) (w:World) (e:Ending) (w':World):Prop:=Below w.heap.size w w' ∧
 ((Zhp kd rows xs en=true∧∃ B c,e=.returned (.tuple #[.agg (ckVE kd rows xs en++[Value.slice B (zE kd rows xs en).bl.length c]).toArray,.bool true])∧w'.ownsRow w.heap.size 73 1 (.slice B (zE kd rows xs en).bl.length c) (zE kd rows xs en).bl.length (u64s (zE kd rows xs en).bl)) ∨
 (Zhp kd rows xs en=false∧e=.returned (.tuple #[.agg #[.int .i64 0,.int .i64 0,.int .u32 0,.int .i64 0,.int .i64 0,.bool false,.int .i64 0,.bool false,.int .i64 0,.string ⟨#[]⟩,.bool false,.int .i64 0,.string ⟨#[]⟩,.int .i64 0,.slice none 0 0],.bool false])))
abbrev Ent:=List Value×Value
def Ent.df:Ent:=([],undef)
def entV (es:List Ent):List Value:=es.flatMap fun p=>p.1++[p.2]
theorem Zpj (es:List Ent) (p:Ent):entV (es++[p])=entV es++(p.1++[p.2]):=by simp[entV]
theorem Zei (es:List Ent) (p:Ent) (i:Nat):(es++[p]).getD i Ent.df=if i<es.length then es.getD i Ent.df else if i=es.length then p else Ent.df:=by
 by_cases h:i<es.length
 ·rw[if_pos h];simp[List.getD,List.getElem?_append_left h]
 ·rw[if_neg h];by_cases h2:i=es.length
  ·subst h2;simp[List.getD]
  ·rw[if_neg h2];simp[List.getD,List.getElem?_eq_none (l:=es++[p]) (i:=i) (by simp;omega)]
structure Nest (w:World) (B:Nat) (e:TypeId) (sz:Nat) (v:Value) (es:List Ent) (e':TypeId) (sz':Nat) (N:Nat→Nat) (X:Nat→List Value):Prop where
 own:w.ownsRow B e sz v es.length (entV es)
 inn:∀ i,i<es.length→w.ownsRow B e' sz' (es.getD i Ent.df).2 (N i) (X i)
 apart:∀ i j,i<j→j<es.length→∀ k,(es.getD i Ent.df).2.ownBlock=some k→(es.getD j Ent.df).2.ownBlock≠some k
theorem Nest.nil (w:World) (B:Nat) (e:TypeId) (sz:Nat) (e':TypeId) (sz':Nat) (N:Nat→Nat) (X:Nat→List Value):Nest w B e sz (.slice none 0 0) [] e' sz' N X :=
 ⟨by simpa [entV]using World.ownsRow_nil _ _ _ _,fun i h=>(by cases h),fun i j _ h=>(by cases h)⟩
theorem Nest.form {w:World} {B sz sz':Nat} {e e':TypeId} {v:Value} {es:List Ent} {N:Nat→Nat} {X:Nat→List Value} (h:Nest w B e sz v es e' sz' N X):∃ A cap,v=.slice A es.length cap:=Zah h.own
theorem Nest.keep {w w':World} {B sz sz':Nat} {e e':TypeId} {v:Value} {es:List Ent} {N:Nat→Nat} {X:Nat→List Value} (h:Nest w B e sz v es e' sz' N X)
  (hv:∀ k,v.ownBlock=some k→w'.heap[k]? = w.heap[k]?) (hi:∀ i,i<es.length→∀ k,(es.getD i Ent.df).2.ownBlock=some k→w'.heap[k]? = w.heap[k]?):Nest w' B e sz v es e' sz' N X :=
 ⟨Zav h.own hv,fun i hl=>Zav (h.inn i hl) (hi i hl),h.apart⟩
theorem Nest.mono {w w':World} {B sz sz':Nat} {e e':TypeId} {v:Value} {es:List Ent} {N:Nat→Nat} {X:Nat→List Value} (h:Nest w B e sz v es e' sz' N X) (hb:Below w.heap.size w w'):Nest w' B e sz v es e' sz' N X :=
 h.keep (fun k hk=>hb.block k (h.own.lt k hk).2) (fun i hi k hk=>hb.block k ((h.inn i hi).lt k hk).2)
theorem Nest.low {w w':World} {B sz sz' a b:Nat} {e e':TypeId} {v:Value} {es:List Ent} {N:Nat→Nat} {X:Nat→List Value} (h:Nest w B e sz v es e' sz' N X) (hc:Chg a b w w') (ha:a<B) (hb:b<B):Nest w' B e sz v es e' sz' N X :=
 h.keep (fun k hk=>by have:=h.own.lt k hk;exact hc.block k this.2 (by omega) (by omega)) (fun i hi k hk=>by have:=(h.inn i hi).lt k hk;exact hc.block k this.2 (by omega) (by omega))
theorem Nest.push {w0 w w':World} {B sz sz' n:Nat} {e e':TypeId} {v v' u:Value} {es:List Ent} {N:Nat→Nat} {X:Nat→List Value} {hd:List Value} {x:List Value}
  (h:Nest w B e sz v es e' sz' N X) (hne:e≠e') (hw:w0.heap.size≤w.heap.size) (hold:∀ i,i<es.length→∀ k,(es.getD i Ent.df).2.ownBlock=some k→k<w0.heap.size) (hB:B≤w0.heap.size)
  (hu:w.ownsRow w0.heap.size e' sz' u n x) (hN:N es.length=n) (hX:X es.length=x)
  (ho:w'.ownsRow B e sz v' (es.length+1) (entV es++(hd++[u]))) (hk:Kp v w w' v'):Nest w' B e sz v' (es++[(hd,u)]) e' sz' N X:=by
 have hlen:(es++[(hd,u)]).length=es.length+1:=by simp
 have key:∀(B2:Nat) (z:Value) (m:Nat) (cs:List Value),w.ownsRow B2 e' sz' z m cs→w'.ownsRow B2 e' sz' z m cs:=fun B2 z m cs hz =>
  Zav hz fun k hv=>hk.1 k (hz.lt k hv).2 fun he=>Zcd hz h.own (fun x=>hne x.symm) k hv he.symm
 refine⟨by rw[hlen,Zpj];exact ho,fun i hi=>?_,fun i j hij hj k hi hjk=>?_⟩
 ·rw[Zei];by_cases h1:i<es.length
  ·rw[if_pos h1];exact key _ _ _ _ (h.inn i h1)
  ·rw[if_neg h1,if_pos (by omega)];obtain rfl:i=es.length:=by omega
   rw[hN,hX];exact key _ _ _ _ (Za7 hu hB)
 ·rw[Zei]at hi hjk;rw[if_pos (by omega)]at hi;by_cases h1:j<es.length
  ·rw[if_pos h1]at hjk;exact h.apart i j hij h1 k hi hjk
  ·rw[if_neg h1,if_pos (by omega)]at hjk;have:=hold i (by omega) k hi;have:=(hu.lt k hjk).1;omega
theorem Zi3 {sz:Nat} (es:List Ent) (hsz:∀ p∈es,p.1.length+1=sz):∀ i,i<es.length→∀ j,j<sz→(entV es)[i*sz+j]? = ((es.getD i Ent.df).1++[(es.getD i Ent.df).2])[j]?:=by
 induction es with
 | nil=>intro i hi;cases hi
 | cons p r ih =>
  intro i hi j hj;have hp:=hsz p (by simp);rw[show entV (p :: r)=(p.1++[p.2])++entV r by simp[entV]];cases i with
  | zero =>
   rw[Nat.zero_mul,Nat.zero_add,List.getElem?_append_left (by simp;omega)];rfl
  | succ i =>
   rw[List.getElem?_append_right (by simp;rw[Nat.succ_mul];omega)];have e1:(i+1)*sz+j-(p.1++[p.2]).length=i*sz+j:=by simp;rw[Nat.succ_mul];omega
   rw[e1,ih (fun q hq=>hsz q (by simp[hq])) i (by simpa using hi) j hj];rfl
def kdX (xs:List Nat) (c:Nat):Nat:=xs.getD (16+c) 0
def Zdg (C:Nat) (xs:List Nat) (g c:Nat):List Nat:=(zE (kdX xs c) (Za4 C xs g) xs (eN C xs g c)).bl
def ckX (C:Nat) (xs:List Nat) (g c:Nat):List Value:=ckVE (kdX xs c) (Za4 C xs g) xs (eN C xs g c)
def Zeu (C:Nat) (xs:List Nat) (g c:Nat):Bool:=Zhp (kdX xs c) (Za4 C xs g) xs (eN C xs g c)
structure CkN (w:World) (b:Nat) (cv:Value) (ces:List Ent) (C:Nat) (xs:List Nat) (g:Nat):Prop where
 n:Nest w b 41 15 cv ces 73 1 (fun c=>(Zdg C xs g c).length) (fun c=>u64s (Zdg C xs g c))
 hd:∀ c,c<ces.length→(ces.getD c Ent.df).1=ckX C xs g c
theorem CkN.nil (w:World) (b:Nat) (C:Nat) (xs:List Nat) (g:Nat):CkN w b (.slice none 0 0) [] C xs g:=⟨Nest.nil _ _ _ _ _ _ _ _,fun c h=>by cases h⟩
theorem CkN.below {w w':World} {b T:Nat} {cv:Value} {ces:List Ent} {C:Nat} {xs:List Nat} {g:Nat} (h:CkN w b cv ces C xs g) (hb:Below w.heap.size w w'):CkN w' b cv ces C xs g:=⟨h.n.mono hb,h.hd⟩
theorem CkN.keep {w w':World} {b:Nat} {cv:Value} {ces:List Ent} {C:Nat} {xs:List Nat} {g:Nat} (h:CkN w b cv ces C xs g)
  (hv:∀ k,cv.ownBlock=some k→w'.heap[k]? = w.heap[k]?) (hi:∀ i,i<ces.length→∀ k,(ces.getD i Ent.df).2.ownBlock=some k→w'.heap[k]? = w.heap[k]?):CkN w' b cv ces C xs g:=⟨h.n.keep hv hi,h.hd⟩
theorem CkN.push {w0 w w':World} {b:Nat} {cv v' u:Value} {ces:List Ent} {C:Nat} {xs:List Nat} {g:Nat} (h0:CkN w0 b cv ces C xs g) (hb:Below w0.heap.size w0 w) (hB:b≤w0.heap.size)
  (hu:w.ownsRow w0.heap.size 73 1 u (Zdg C xs g ces.length).length (u64s (Zdg C xs g ces.length)))
  (ho:w'.ownsRow b 41 15 v' (ces.length+1) (entV ces++(ckX C xs g ces.length++[u]))) (hk:Kp cv w w' v'):CkN w' b v' (ces++[(ckX C xs g ces.length,u)]) C xs g:=by
 refine⟨(h0.n.mono hb).push (w0:=w0) (by decide) hb.size (fun i hi k hk=>((h0.n.inn i hi).lt k hk).2) hB hu rfl rfl ho hk,fun c hc=>?_⟩;rw[Zei];by_cases h1:c<ces.length
 ·rw[if_pos h1];exact h0.hd c h1
 ·rw[if_neg h1];have h2:c=ces.length:=by simp at hc;omega
  rw[if_pos h2,h2]
structure Gr (w:World) (B:Nat) (gv:Value) (es:List Ent) (ces:Nat→List Ent) (lo:Nat→Nat) (C:Nat) (xs:List Nat):Prop where
 own:w.ownsRow B 33 2 gv es.length (entV es)
 hd:∀ i,i<es.length→(es.getD i Ent.df).1=[.int .i64 (Za4 C xs i:Nat)]
 inn:∀ i,i<es.length→CkN w (lo i) (es.getD i Ent.df).2 (ces i) C xs i∧(ces i).length=C
 low:∀ i,i≤es.length→B≤lo i
 asc:∀ i,i<es.length→lo i≤lo (i+1)
 up:∀ i,i<es.length→∀ k,(es.getD i Ent.df).2.ownBlock=some k→k<lo (i+1)
 up2:∀ i,i<es.length→∀ j,j<(ces i).length→∀ k,((ces i).getD j Ent.df).2.ownBlock=some k→k<lo (i+1)
 top:lo es.length≤w.heap.size
theorem Gr.nil (w:World) (B C:Nat) (xs:List Nat) (ces:Nat→List Ent) (lo:Nat→Nat) (h1:B≤lo 0) (h2:lo 0≤w.heap.size):Gr w B (.slice none 0 0) [] ces lo C xs :=
 ⟨by simpa [entV]using World.ownsRow_nil _ _ _ _,fun i h=>(by cases h),fun i h=>(by cases h),fun i h=>by obtain rfl:i=0:=Nat.le_zero.1 h;exact h1,fun i h=>(by cases h),fun i h=>(by cases h),fun i h=>(by cases h),h2⟩
theorem Gr.keep {w w':World} {B:Nat} {gv:Value} {es:List Ent} {ces:Nat→List Ent} {lo:Nat→Nat} {C:Nat} {xs:List Nat} (h:Gr w B gv es ces lo C xs)
  (hv:∀ k,gv.ownBlock=some k→w'.heap[k]? = w.heap[k]?)
  (h1:∀ i,i<es.length→∀ k,(es.getD i Ent.df).2.ownBlock=some k→w'.heap[k]? = w.heap[k]?)
  (h2:∀ i,i<es.length→∀ j,j<(ces i).length→∀ k,((ces i).getD j Ent.df).2.ownBlock=some k→w'.heap[k]? = w.heap[k]?) (hs:w.heap.size≤w'.heap.size):Gr w' B gv es ces lo C xs :=
 ⟨Zav h.own hv,h.hd,fun i hi=>⟨(h.inn i hi).1.keep (h1 i hi) (h2 i hi),(h.inn i hi).2⟩,h.low,h.asc,h.up,h.up2,Nat.le_trans h.top hs⟩
theorem Gr.mono {w w':World} {B:Nat} {gv:Value} {es:List Ent} {ces:Nat→List Ent} {lo:Nat→Nat} {C:Nat} {xs:List Nat} (h:Gr w B gv es ces lo C xs) (hb:Below w.heap.size w w'):Gr w' B gv es ces lo C xs :=
 h.keep (fun k hk=>hb.block k (h.own.lt k hk).2) (fun i hi k hk=>hb.block k ((h.inn i hi).1.n.own.lt k hk).2) (fun i hi j hj k hk=>hb.block k (((h.inn i hi).1.n.inn j hj).lt k hk).2) hb.size
def Fr (t:TypeId) (w w':World):Prop:=w.heap.size≤w'.heap.size∧∀ k,k<w.heap.size→(∀ cs fl,w.heap[k]?≠some (.cells cs t fl))→w'.heap[k]? = w.heap[k]?
theorem Fr.below {t:TypeId} {w w':World} (h:Below w.heap.size w w'):Fr t w w':=⟨h.size,fun k hk _=>h.block k hk⟩
theorem Zqd {w:World} {B sz n:Nat} {e:TypeId} {v:Value} {cs:List Value} (h:w.ownsRow B e sz v n cs) (k:Nat) (hk:v.ownBlock=some k):∃ ds fl,w.heap[k]? = some (.cells ds e fl):=by
 rcases h.2 with ⟨rfl,_⟩ | ⟨g,cap,cur,rfl,_,hg,_⟩
 ·simp[Value.ownBlock]at hk
 ·simp[Value.ownBlock]at hk;subst hk;exact⟨_,_,hg⟩
theorem Zn0 {w w':World} {B sz n:Nat} {e t:TypeId} {v:Value} {cs:List Value} (h:w.ownsRow B e sz v n cs) (hf:Fr t w w') (hne:e≠t) (k:Nat) (hk:v.ownBlock=some k):w'.heap[k]? = w.heap[k]?:=by
 refine hf.2 k (h.lt k hk).2 fun ds fl he=>?_
 obtain⟨ds2,fl2,h2⟩:=Zqd h k hk;rw[h2]at he;injection he with h3
 injection h3 with _ h4
 exact hne h4
theorem Gr.fr {w w':World} {B:Nat} {gv:Value} {es:List Ent} {ces:Nat→List Ent} {lo:Nat→Nat} {C:Nat} {xs:List Nat} {t:TypeId} (h:Gr w B gv es ces lo C xs) (hf:Fr t w w') (h1:33≠t) (h2:41≠t) (h3:73≠t):Gr w' B gv es ces lo C xs :=
 h.keep (fun k hk=>Zn0 h.own hf h1 k hk) (fun i hi k hk=>Zn0 (h.inn i hi).1.n.own hf h2 k hk) (fun i hi j hj k hk=>Zn0 ((h.inn i hi).1.n.inn j hj) hf h3 k hk) hf.1
theorem Gr.push {w w':World} {B:Nat} {gv v' cv:Value} {es:List Ent} {ces:Nat→List Ent} {lo:Nat→Nat} {C:Nat} {xs:List Nat} {cs:List Ent} (h:Gr w B gv es ces lo C xs)
  (hc:CkN w (lo es.length) cv cs C xs es.length) (hl:cs.length=C)
  (ho:w'.ownsRow B 33 2 v' (es.length+1) (entV es++([Value.int .i64 (Za4 C xs es.length:Nat)]++[cv]))) (hk:Kp gv w w' v') (hs:w.heap.size≤w'.heap.size) :
  Gr w' B v' (es++[([Value.int .i64 (Za4 C xs es.length:Nat)],cv)]) (fun i=>if i=es.length then cs else ces i) (fun i=>if i=es.length+1 then w.heap.size else lo i) C xs:=by
 have hlen:(es++[([Value.int .i64 (Za4 C xs es.length:Nat)],cv)]).length=es.length+1:=by simp
 have key:∀(B2:Nat) (z:Value) (e2:TypeId) (sz m:Nat) (ds:List Value),w.ownsRow B2 e2 sz z m ds→e2≠33→∀ k,z.ownBlock=some k→w'.heap[k]? = w.heap[k]?:=fun B2 z e2 sz m ds hz hne k hv =>
  hk.1 k (hz.lt k hv).2 fun he=>Zcd hz h.own hne k hv he.symm
 have ckk:∀(b:Nat) (c:Value) (ds:List Ent) (g:Nat),CkN w b c ds C xs g→CkN w' b c ds C xs g:=fun b c ds g hh =>
  hh.keep (fun k hv=>key _ _ _ _ _ _ hh.n.own (by decide) k hv) (fun i hi k hv=>key _ _ _ _ _ _ (hh.n.inn i hi) (by decide) k hv)
 refine⟨by rw[hlen,Zpj];exact ho,fun i hi=>?_,fun i hi=>?_,fun i hi=>?_,fun i hi=>?_,fun i hi k hv=>?_,fun i hi j hj k hv=>?_,?_⟩
 ·rw[Zei];by_cases h1:i<es.length
  ·rw[if_pos h1];exact h.hd i h1
  ·have h2:i=es.length:=by omega
   rw[if_neg h1,if_pos h2,h2]
 ·rw[Zei]
  try simp only
  by_cases h1:i<es.length
  ·rw[if_pos h1,if_neg (by omega),if_neg (by omega)];exact⟨ckk _ _ _ _ (h.inn i h1).1,(h.inn i h1).2⟩
  ·have h2:i=es.length:=by omega
   rw[if_neg h1,if_pos h2,if_neg (by omega),if_pos h2,h2];exact⟨ckk _ _ _ _ hc,hl⟩
 ·try simp only
  split
  ·exact Nat.le_trans (h.low es.length (Nat.le_refl _)) h.top
  ·exact h.low i (by omega)
 ·try simp only
  by_cases h1:i<es.length
  ·rw[if_neg (by omega),if_neg (by omega)];exact h.asc i h1
  ·have h2:i=es.length:=by omega
   rw[if_neg (by omega),if_pos (by omega),h2];exact h.top
 ·try simp only
  rw[Zei]at hv;by_cases h1:i<es.length
  ·rw[if_pos h1]at hv;rw[if_neg (by omega)];exact h.up i h1 k hv
  ·have h2:i=es.length:=by omega
   rw[if_neg h1,if_pos h2]at hv;rw[if_pos (by omega)];exact(hc.n.own.lt k hv).2
 ·try simp only at hj hv ⊢
  by_cases h1:i<es.length
  ·rw[if_neg (by omega)]at hj hv;rw[if_neg (by omega)];exact h.up2 i h1 j hj k hv
  ·have h2:i=es.length:=by omega
   rw[if_pos h2]at hj hv;rw[if_pos (by omega)];exact((hc.n.inn j hj).lt k hv).2
 ·rw[hlen];simp only[if_true];exact hs
def Zgn (w:World) (B:Nat) (kv gv:Value) (xs:List Nat):Prop :=
 w.ownsRow B 3 1 kv (iC xs) (i64s (nI (iKs (iC xs) xs)))∧∃ es ces lo,es.length=iG xs∧Gr w B gv es ces lo (iC xs) xs
def Zd2 (xs:List Nat):Bool:=Zf3 xs&&(List.range (iG xs)).all fun g=>(List.range (iC xs)).all fun c=>Zeu (iC xs) xs g c
theorem Tryz.infoCkA:(Tryz.prog.info? 41).map (fun i=>(i.zero,i.size,i.bytes))=some (some (.agg [.int .i64 0,.int .i64 0,.int .u32 0,.int .i64 0,.int .i64 0,.bool false,.int .i64 0,.bool false,.int .i64 0,.string ⟨#[]⟩,.bool false,.int .i64 0,.string ⟨#[]⟩,.int .i64 0,.slice none 0 0].toArray),15,152):=by kernel_rfl
theorem Tryz.infoGrA:(Tryz.prog.info? 33).map (fun i=>(i.zero,i.size,i.bytes))=some (some (.agg [.int .i64 0,.slice none 0 0].toArray),2,32):=by kernel_rfl
theorem Tryz.infoCeA:(Tryz.prog.info? 78).map (fun i=>(i.zero,i.size,i.bytes))=some (some (.slice none 0 0),1,24):=by kernel_rfl
theorem CkN.weak {w:World} {b b':Nat} {cv:Value} {ces:List Ent} {C:Nat} {xs:List Nat} {g:Nat} (h:CkN w b cv ces C xs g) (hb:b'≤b):CkN w b' cv ces C xs g :=
 ⟨⟨Za7 h.n.own hb,fun i hi=>Za7 (h.n.inn i hi) hb,h.n.apart⟩,h.hd⟩
theorem Fr.low {t:TypeId} {w w1 w2:World} (h:Fr t w w1) (hk:∀ k,k<w.heap.size→w2.heap[k]? = w1.heap[k]?) (hs:w1.heap.size≤w2.heap.size):Fr t w w2 :=
 ⟨Nat.le_trans h.1 hs,fun k hl hn=>(hk k hl).trans (h.2 k hl hn)⟩
theorem Fr.trans {t:TypeId} {w w1 w2:World} (h:Fr t w w1) (h2:Fr t w1 w2):Fr t w w2 :=
 ⟨Nat.le_trans h.1 h2.1,fun k hl hn=>(h2.2 k (Nat.lt_of_lt_of_le hl h.1) (by rw[h.2 k hl hn];exact hn)).trans (h.2 k hl hn)⟩
theorem Fr.then {t:TypeId} {w w1 w2:World} (h:Fr t w w1) (hb:Below w1.heap.size w1 w2):Fr t w w2:=h.trans (Fr.below hb)
theorem Fr.row {t e:TypeId} {w w':World} {g:Nat} {cs:List Value} (h:Fr t w w') (hr:Row w g e cs) (hne:e≠t):Row w' g e cs:=by
 unfold Row;rw[h.2 g hr.lt (fun ds fl he=>by
  unfold Row at hr;rw[hr]at he;injection he with h1
  injection h1 with _ h2
  exact hne h2)]
 exact hr
theorem Fr.owns {t e:TypeId} {w w':World} {B sz n:Nat} {v:Value} {cs:List Value} (h:Fr t w w') (ho:w.ownsRow B e sz v n cs) (hne:e≠t):w'.ownsRow B e sz v n cs:=Zav ho fun k hk=>Zn0 ho h hne k hk
theorem Fr.kp {t:TypeId} {w w1 w2:World} {B sz n:Nat} {v r:Value} {cs:List Value} (h:Fr t w w1) (ho:w1.ownsRow B t sz v n cs) (hk:Kp v w1 w2 r) (hs:w1.heap.size≤w2.heap.size):Fr t w w2:=by
 refine⟨Nat.le_trans h.1 hs,fun k hl hn=>?_⟩;rw[hk.1 k (Nat.lt_of_lt_of_le hl h.1) (fun he=>?_)]
 ·exact h.2 k hl hn
 ·obtain⟨ds,fl,h2⟩:=Zqd ho k he.symm;rw[h.2 k hl hn]at h2;exact hn _ _ h2
structure CeN (w:World) (B:Nat) (u:Value) (L:List Value) (C:Nat) (xs:List Nat):Prop where
 own:w.ownsRow B 78 1 u L.length L
 inn:∀ i,i<L.length→w.ownsRow B 36 3 (L.getD i undef) (Za4 C xs (i/C)) (Zhs (kdX xs (i%C)) (Za4 C xs (i/C)) (Zam xs (eI C xs i)))
theorem CeN.nil (w:World) (B C:Nat) (xs:List Nat):CeN w B (.slice none 0 0) [] C xs:=⟨World.ownsRow_nil _ _ _ _,fun i h=>by cases h⟩
theorem CeN.keep {w w':World} {B:Nat} {u:Value} {L:List Value} {C:Nat} {xs:List Nat} (h:CeN w B u L C xs) (h1:∀ k,u.ownBlock=some k→w'.heap[k]? = w.heap[k]?)
  (h2:∀ i,i<L.length→∀ k,(L.getD i undef).ownBlock=some k→w'.heap[k]? = w.heap[k]?):CeN w' B u L C xs:=⟨Zav h.own h1,fun i hi=>Zav (h.inn i hi) (h2 i hi)⟩
theorem CeN.mono {w w':World} {B:Nat} {u:Value} {L:List Value} {C:Nat} {xs:List Nat} (h:CeN w B u L C xs) (hb:Below w.heap.size w w'):CeN w' B u L C xs :=
 h.keep (fun k hk=>hb.block k (h.own.lt k hk).2) (fun i hi k hk=>hb.block k ((h.inn i hi).lt k hk).2)
theorem CeN.kp {w w':World} {B B2 sz n:Nat} {u v r:Value} {L ds:List Value} {C:Nat} {xs:List Nat} {t:TypeId} (h:CeN w B u L C xs) (ho:w.ownsRow B2 t sz v n ds) (h1:78≠t) (h2:36≠t) (hk:Kp v w w' r):CeN w' B u L C xs :=
 h.keep (fun k hv=>hk.1 k (h.own.lt k hv).2 (fun he=>Zcd h.own ho h1 k hv he.symm)) (fun i hi k hv=>hk.1 k ((h.inn i hi).lt k hv).2 (fun he=>Zcd (h.inn i hi) ho h2 k hv he.symm))
theorem CeN.var {w:World} {B g i:Nat} {u v:Value} {L ds:List Value} {C:Nat} {xs:List Nat} {t:TypeId} (h:CeN w B u L C xs) (hr:Row w g t ds) (h1:78≠t) (h2:36≠t):CeN (w.setCell ⟨g,i,none⟩ v) B u L C xs :=
 h.keep (fun k hk=>heap_setCell_other _ _ _ _ (by simpa using Zdj h.own hr h1 k hk)) (fun j hj k hk=>heap_setCell_other _ _ _ _ (by simpa using Zdj (h.inn j hj) hr h2 k hk))
theorem CeN.push {w w':World} {B:Nat} {u u' x:Value} {L:List Value} {C:Nat} {xs:List Nat} (h:CeN w B u L C xs)
  (hx:w.ownsRow B 36 3 x (Za4 C xs (L.length/C)) (Zhs (kdX xs (L.length%C)) (Za4 C xs (L.length/C)) (Zam xs (eI C xs L.length))))
  (ho:w'.ownsRow B 78 1 u' (L.length+1) (L++[x])) (hk:Kp u w w' u'):CeN w' B u' (L++[x]) C xs:=by
 have hlen:(L++[x]).length=L.length+1:=by simp
 have key:∀(z:Value) (m:Nat) (cs:List Value),w.ownsRow B 36 3 z m cs→w'.ownsRow B 36 3 z m cs:=fun z m cs hz =>
  Zav hz fun k hv=>hk.1 k (hz.lt k hv).2 fun he=>Zcd hz h.own (by decide) k hv he.symm
 refine⟨by rw[hlen];exact ho,fun i hi=>?_⟩;by_cases h1:i<L.length
 ·have e:(L++[x]).getD i undef=L.getD i undef:=by simp[List.getD,List.getElem?_append_left h1]
  rw[e];exact key _ _ _ (h.inn i h1)
 ·obtain rfl:i=L.length:=by omega
  have e:(L++[x]).getD L.length undef=x:=by simp[List.getD]
  rw[e];exact key _ _ _ hx
structure InS (w wr:World) (p0 pim pg C:Nat) (xs:List Nat) (j:Nat) (cv u:Value) (cs:List Ent) (L:List Value) (wv:World):Prop where
 fr:Fr 78 wr wv
 g:Row wv pg 33 [.int .i64 (Za4 C xs j:Nat),cv]
 ck:CkN wv (pg+1) cv cs C xs j
 ce:CeN wv (pim+1) u L C xs
 len:L.length=j*C+cs.length
 all:∀ c,c<cs.length→Zeu C xs j c=true
 bel:Below p0 w wv
 h1:wr.heap.size≤pg
 h2:pg<wv.heap.size
 h3:p0<pim
 h4:pim<wr.heap.size
theorem InS.mono {w wr wv wq:World} {p0 pim pg C:Nat} {xs:List Nat} {j:Nat} {cv u:Value} {cs:List Ent} {L:List Value} (h:InS w wr p0 pim pg C xs j cv u cs L wv) (hb:Below wv.heap.size wv wq):InS w wr p0 pim pg C xs j cv u cs L wq:=by
 have h1:=h.h1;have h2:=h.h2;have h3:=h.h3;have h4:=h.h4;have h5:=h.fr.1;exact⟨h.fr.then hb,h.g.mono hb,h.ck.below (T:=0) hb,h.ce.mono hb,h.len,h.all,h.bel.trans (hb.mono (by omega)),h1,Nat.lt_of_lt_of_le h2 hb.size,h3,h4⟩
theorem InS.chunk {w wr wv w1 w3:World} {p0 pim pg C:Nat} {xs:List Nat} {j:Nat} {cv u v' bv:Value} {cs:List Ent} {L:List Value} (h:InS w wr p0 pim pg C xs j cv u cs L wv) (hb:Below wv.heap.size wv w1) (hok:Zeu C xs j cs.length=true)
  (hbv:w1.ownsRow wv.heap.size 73 1 bv (Zdg C xs j cs.length).length (u64s (Zdg C xs j cs.length)))
  (ho:w3.ownsRow (pg+1) 41 15 v' (cs.length+1) (entV cs++(ckX C xs j cs.length++[bv]))) (h3:Below (pg+1) w1 w3) (hs:w1.heap.size≤w3.heap.size) (hk:Kp cv w1 w3 v') :
  Fr 78 wr (w3.setCell ⟨pg,1,none⟩ v')∧Row (w3.setCell ⟨pg,1,none⟩ v') pg 33 [.int .i64 (Za4 C xs j:Nat),v'] ∧
   CkN (w3.setCell ⟨pg,1,none⟩ v') (pg+1) v' (cs++[(ckX C xs j cs.length,bv)]) C xs j∧CeN (w3.setCell ⟨pg,1,none⟩ v') (pim+1) u L C xs ∧
   (∀ c,c<(cs++[(ckX C xs j cs.length,bv)]).length→Zeu C xs j c=true)∧Below p0 w (w3.setCell ⟨pg,1,none⟩ v'):=by
 have e1:=h.h1;have e2:=h.h2;have e3:=h.h3;have e4:=h.h4;have e5:=h.fr.1;have hm:=h.mono hb;have hg3:Row w3 pg 33 [.int .i64 (Za4 C xs j:Nat),cv]:=hm.g.below h3 (by omega);have hcn:CkN w3 (pg+1) v' (cs++[(ckX C xs j cs.length,bv)]) C xs j:=h.ck.push hb (by omega) hbv ho hk;have hce:=hm.ce.kp hm.ck.n.own (by decide) (by decide) hk;refine⟨(hm.fr.low (fun k hk=>h3.block k (by omega)) hs).low (fun k hk=>heap_setCell_other _ _ _ _ (by simp;omega)) (by simp),hg3.set 1 v',?_,hce.var hg3 (by decide) (by decide),fun c hc=>?_,Zac (hm.bel.trans (h3.mono (by omega))) _ _ _ (by omega)⟩
 ·exact hcn.keep (fun k hk=>heap_setCell_other _ _ _ _ (by simpa using Zdj hcn.n.own hg3 (by decide) k hk)) (fun i hi k hk=>heap_setCell_other _ _ _ _ (by simpa using Zdj (hcn.n.inn i hi) hg3 (by decide) k hk))
 ·by_cases hc2:c<cs.length
  ·exact h.all c hc2
  ·have:c=cs.length:=by simp at hc;omega
   rw[this];exact hok
theorem InS.cells {w wr wA w2:World} {p0 pim pg C:Nat} {xs:List Nat} {j:Nat} {v' u u' x:Value} {cs:List Ent} {L:List Value} (hf:Fr 78 wr wA) (hg:Row wA pg 33 [.int .i64 (Za4 C xs j:Nat),v'])
  (hc:CkN wA (pg+1) v' cs C xs j) (he:CeN wA (pim+1) u L C xs) (hall:∀ c,c<cs.length→Zeu C xs j c=true) (hbel:Below p0 w wA) (hlen:L.length+1=j*C+cs.length)
  (h1:wr.heap.size≤pg) (h3:p0<pim) (h4:pim<wr.heap.size) (hx:wA.ownsRow (pim+1) 36 3 x (Za4 C xs (L.length/C)) (Zhs (kdX xs (L.length%C)) (Za4 C xs (L.length/C)) (Zam xs (eI C xs L.length))))
  (ho:w2.ownsRow (pim+1) 78 1 u' (L.length+1) (L++[x])) (hb:Below (pim+1) wA w2) (hs:wA.heap.size≤w2.heap.size) (hk:Kp u wA w2 u'):InS w wr p0 pim pg C xs j v' u' cs (L++[x]) w2:=by
 refine⟨hf.kp he.own hk hs,?_,hc.keep (fun k hv=>hk.1 k (hc.n.own.lt k hv).2 (fun e=>Zcd hc.n.own he.own (by decide) k hv e.symm)) (fun i hi k hv=>hk.1 k ((hc.n.inn i hi).lt k hv).2 (fun e=>Zcd (hc.n.inn i hi) he.own (by decide) k hv e.symm)),he.push hx ho hk,by simp;omega,hall,hbel.trans (hb.mono (by omega)),h1,Nat.lt_of_lt_of_le hg.lt hs,h3,h4⟩;unfold Row;rw[hk.1 pg hg.lt (fun e=>Zdj he.own hg (by decide) pg e.symm rfl)];exact hg
theorem Gr.under {w w':World} {B:Nat} {gv:Value} {es:List Ent} {ces:Nat→List Ent} {lo:Nat→Nat} {C:Nat} {xs:List Nat} (h:Gr w B gv es ces lo C xs) (hk:∀ k,B≤k→k<w.heap.size→w'.heap[k]? = w.heap[k]?) (hs:w.heap.size≤w'.heap.size):Gr w' B gv es ces lo C xs :=
 h.keep (fun k hv=>hk k (h.own.lt k hv).1 (h.own.lt k hv).2)
  (fun i hi k hv=>by
   have h1:=(h.inn i hi).1.n.own.lt k hv;have h2:=h.low i (Nat.le_of_lt hi);exact hk k (by omega) h1.2)
  (fun i hi j hj k hv=>by
   have h1:=((h.inn i hi).1.n.inn j hj).lt k hv;have h2:=h.low i (Nat.le_of_lt hi);exact hk k (by omega) h1.2) hs
structure WhS (w:World) (p0 pim C:Nat) (xs:List Nat) (kv gv u:Value) (es:List Ent) (ces:Nat→List Ent) (lo:Nat→Nat) (L:List Value) (wr:World):Prop where
 res:Row wr p0 26 [.slice none 0 0,.slice none 0 0]
 im:Row wr pim 26 [kv,gv]
 kin:wr.ownsRow (pim+1) 3 1 kv C (i64s (nI (iKs C xs)))
 gs:Gr wr (pim+1) gv es ces lo C xs
 ce:CeN wr (pim+1) u L C xs
 bel:Below p0 w wr
 len:L.length=es.length*C
 all:∀ g,g<es.length→∀ c,c<C→Zeu C xs g c=true
 h1:p0<pim
 h2:pim<wr.heap.size
theorem WhS.inner {w:World} {p0 pim C:Nat} {xs:List Nat} {kv gv u:Value} {es:List Ent} {ces:Nat→List Ent} {lo:Nat→Nat} {L:List Value} {wr:World} (h:WhS w p0 pim C xs kv gv u es ces lo L wr) :
  InS w wr p0 pim wr.heap.size C xs es.length (.slice none 0 0) u [] L (wr.alloc (.cells #[.int .i64 (Za4 C xs es.length:Nat),.slice none 0 0] 33)):=by
 have hf:=Zbs (w:=wr) (C:=#[.int .i64 (Za4 C xs es.length:Nat),.slice none 0 0]) (e:=33);have h1:=h.h1;have h2:=h.h2;exact⟨Fr.below hf.2,hf.1,CkN.nil _ _ _ _ _,h.ce.mono hf.2,by simpa using h.len,fun c hc=>(by cases hc),h.bel.trans (hf.2.mono (by omega)),Nat.le_refl _,by simp,h1,h2⟩
theorem WhS.group {w:World} {p0 pim pg C:Nat} {xs:List Nat} {kv gv u u' v' cv:Value} {es cs:List Ent} {ces:Nat→List Ent} {lo:Nat→Nat} {L L':List Value} {wr wv w3:World} (h:WhS w p0 pim C xs kv gv u es ces lo L wr)
  (hi:InS w wr p0 pim pg C xs es.length cv u' cs L' wv) (hl:cs.length=C)
  (ho:w3.ownsRow (pim+1) 33 2 v' (es.length+1) (entV es++([Value.int .i64 (Za4 C xs es.length:Nat)]++[cv]))) (hb:Below (pim+1) wv w3) (hs:wv.heap.size≤w3.heap.size) (hk:Kp gv wv w3 v') :
  ∃ es2 ces2 lo2,es2.length=es.length+1∧WhS w p0 pim C xs kv v' u' es2 ces2 lo2 L' (w3.setCell ⟨pim,1,none⟩ v'):=by
 have h1:=h.h1;have h2:=h.h2;have e1:=hi.h1;have e2:=hi.h2;have e5:=hi.fr.1;have gsv:=h.gs.fr hi.fr (by decide) (by decide) (by decide);have hlo:lo es.length≤pg+1:=by have:=h.gs.top;omega
 have hp:=gsv.push (hi.ck.weak hlo) hl ho hk hs;have imv:=hi.fr.row h.im (by decide);have resv:=hi.fr.row h.res (by decide);have im3:=imv.below hb (by omega);have res3:=resv.below hb (by omega);have kinv:=hi.fr.owns h.kin (by decide);have kin3:w3.ownsRow (pim+1) 3 1 kv C (i64s (nI (iKs C xs))):=Zav kinv fun k hv=>hk.1 k (kinv.lt k hv).2 (fun he=>Zcd kinv gsv.own (by decide) k hv he.symm)
 have ce3:=hi.ce.kp gsv.own (by decide) (by decide) hk;refine⟨_,_,_,by simp,⟨Zbg res3 (by omega),im3.set 1 v',?_,hp.under (fun k h3 h4=>heap_setCell_other _ _ _ _ (by simp;omega)) (by simp),ce3.var im3 (by decide) (by decide),?_,?_,?_,h1,?_⟩⟩
 ·exact Zav kin3 fun k hv=>heap_setCell_other _ _ _ _ (by have:=(kin3.lt k hv).1;simp;omega)
 ·exact Zac (hi.bel.trans (hb.mono (by omega))) _ _ _ (by omega)
 ·rw[hi.len,hl];simp[Nat.add_mul]
 ·intro g hg c hc;by_cases hgl:g<es.length
  ·exact h.all g hgl c hc
  ·have:g=es.length:=by simp at hg;omega
   rw[this];exact hi.all c (by omega)
 ·simp;omega
structure KdS (w:World) (p0 pim:Nat) (xs:List Nat) (k:Nat) (kv:Value) (wr:World):Prop where
 res:Row wr p0 26 [.slice none 0 0,.slice none 0 0]
 im:Row wr pim 26 [kv,.slice none 0 0]
 kin:wr.ownsRow (pim+1) 3 1 kv k (i64s (nI ((xs.drop 16).take k)))
 bel:Below p0 w wr
 h1:p0<pim
 h2:pim<wr.heap.size
theorem KdS.mono {w wr wq:World} {p0 pim:Nat} {xs:List Nat} {k:Nat} {kv:Value} (h:KdS w p0 pim xs k kv wr) (hb:Below wr.heap.size wr wq):KdS w p0 pim xs k kv wq :=
 ⟨h.res.mono hb,h.im.mono hb,Zai h.kin hb,h.bel.trans (hb.mono (by have:=h.h1;have:=h.h2;omega)),h.h1,Nat.lt_of_lt_of_le h.h2 hb.size⟩
theorem KdS.push {w wq w9:World} {p0 pim:Nat} {xs:List Nat} {k kd:Nat} {kv v9:Value} (h:KdS w p0 pim xs k kv wq) (hb:Below (pim+1) wq w9)
  (ho:w9.ownsRow (pim+1) 3 1 v9 (k+1) (i64s (nI ((xs.drop 16).take k))++[.int .i64 (kd:Nat)])) (hk:(xs.drop 16).take (k+1)=(xs.drop 16).take k++[kd]):KdS w p0 pim xs (k+1) v9 (w9.setCell ⟨pim,0,none⟩ v9):=by
 have h1:=h.h1;have h2:=h.h2;have im9:=(h.im.below hb (by omega)).set 0 v9;refine⟨Zbg (h.res.below hb (by omega)) (by omega),im9,?_,Zac (h.bel.trans (hb.mono (by omega))) _ _ _ (by omega),h1,im9.lt⟩;rw[hk,Zeo,Zfe];exact Zav ho fun k2 hv=>heap_setCell_other _ _ _ _ (by have:=(ho.lt k2 hv).1;simp;omega)
theorem KdS.start {w wr:World} {p0 pim C:Nat} {xs:List Nat} {kv:Value} (h:KdS w p0 pim xs C kv wr) (hk:(xs.drop 16).take C=iKs C xs) (ces:Nat→List Ent):WhS w p0 pim C xs kv (.slice none 0 0) (.slice none 0 0) [] ces (fun _=>pim+1) [] wr:=by
 have h1:=h.h1;have h2:=h.h2;exact⟨h.res,h.im,by rw[← hk];exact h.kin,Gr.nil _ _ _ _ _ _ (Nat.le_refl _) (by omega),CeN.nil _ _ _ _,h.bel,by simp,fun g hg=>(by cases hg),h1,h2⟩
theorem Zoa (C:Nat) (xs:List Nat) (g c:Nat):∃(o l s cd wd:Nat) (z:ZM),ckX C xs g c=ckVs o l s cd wd z∧ckVE (kdX xs c) (Za4 C xs g) xs (eN C xs g c)=ckVs o l s cd wd z∧zE (kdX xs c) (Za4 C xs g) xs (eN C xs g c)=z∧Zdg C xs g c=z.bl:=⟨_,_,_,_,_,_,rfl,rfl,rfl,rfl⟩
theorem Gr.weak {w:World} {B B':Nat} {gv:Value} {es:List Ent} {ces:Nat→List Ent} {lo:Nat→Nat} {C:Nat} {xs:List Nat} (h:Gr w B gv es ces lo C xs) (hb:B'≤B):Gr w B' gv es ces lo C xs :=
 ⟨Za7 h.own hb,h.hd,h.inn,fun i hi=>Nat.le_trans hb (h.low i hi),h.asc,h.up,h.up2,h.top⟩
theorem CeN.weak {w:World} {B B':Nat} {u:Value} {L:List Value} {C:Nat} {xs:List Nat} (h:CeN w B u L C xs) (hb:B'≤B):CeN w B' u L C xs:=⟨Za7 h.own hb,fun i hi=>Za7 (h.inn i hi) hb⟩
theorem WhS.fin {w:World} {p0 pim C:Nat} {xs:List Nat} {kv gv u:Value} {es:List Ent} {ces:Nat→List Ent} {lo:Nat→Nat} {L:List Value} {wr:World} (h:WhS w p0 pim C xs kv gv u es ces lo L wr) (b:Nat) (hb:b≤p0) (a1 a2:Value) :
  ((wr.setCell ⟨p0,0,none⟩ a1).setCell ⟨p0,1,none⟩ a2).ownsRow b 3 1 kv C (i64s (nI (iKs C xs)))∧Gr ((wr.setCell ⟨p0,0,none⟩ a1).setCell ⟨p0,1,none⟩ a2) b gv es ces lo C xs∧CeN ((wr.setCell ⟨p0,0,none⟩ a1).setCell ⟨p0,1,none⟩ a2) b u L C xs ∧
   Below p0 w ((wr.setCell ⟨p0,0,none⟩ a1).setCell ⟨p0,1,none⟩ a2)∧Row ((wr.setCell ⟨p0,0,none⟩ a1).setCell ⟨p0,1,none⟩ a2) p0 26 [a1,a2]:=by
 have h1:=h.h1;have key:∀ k,pim+1≤k→((wr.setCell ⟨p0,0,none⟩ a1).setCell ⟨p0,1,none⟩ a2).heap[k]? = wr.heap[k]?:=fun k hk=>by
  rw[heap_setCell_other _ _ _ _ (by simp;omega),heap_setCell_other _ _ _ _ (by simp;omega)]
 refine⟨Za7 (Zav h.kin fun k hv=>key k (h.kin.lt k hv).1) (by omega),(h.gs.under (fun k hk _=>key k hk) (by simp)).weak (by omega),?_,Zac (Zac h.bel _ _ _ (Nat.le_refl _)) _ _ _ (Nat.le_refl _),(h.res.set 0 a1).set 1 a2⟩;exact(h.ce.keep (fun k hv=>key k (h.ce.own.lt k hv).1) (fun i hi k hv=>key k ((h.ce.inn i hi).lt k hv).1)).weak (by omega)
set_option maxRecDepth 512
theorem Zbf {b:Nat} {u w:World} (h:Below b u w) (g i:Nat) (v:Value) (hg:b≤g):Below b u (w.setCell ⟨g,i,none⟩ v):=Zac h _ _ _ hg
def Zar (w:World) (g:Nat) (a0 a1 a2 a3 a4 a5 a6 a7 a8 a9 a10 a11 a12 a13 a14:Value):World :=
 (((((((((((((((w.setCell ⟨g,0,none⟩ a0).setCell ⟨g,1,none⟩ a1).setCell ⟨g,2,none⟩ a2).setCell ⟨g,3,none⟩ a3).setCell ⟨g,4,none⟩ a4).setCell ⟨g,5,none⟩ a5).setCell ⟨g,6,none⟩ a6).setCell ⟨g,7,none⟩ a7).setCell ⟨g,8,none⟩ a8).setCell ⟨g,9,none⟩ a9).setCell ⟨g,10,none⟩ a10).setCell ⟨g,11,none⟩ a11).setCell ⟨g,12,none⟩ a12).setCell ⟨g,13,none⟩ a13).setCell ⟨g,14,none⟩ a14)
theorem Zci {w:World} {g:Nat} {e:TypeId} {b0 b1 b2 b3 b4 b5 b6 b7 b8 b9 b10 b11 b12 b13 b14:Value} (h:Row w g e [b0,b1,b2,b3,b4,b5,b6,b7,b8,b9,b10,b11,b12,b13,b14]) (a0 a1 a2 a3 a4 a5 a6 a7 a8 a9 a10 a11 a12 a13 a14:Value) :
  Row (Zar w g a0 a1 a2 a3 a4 a5 a6 a7 a8 a9 a10 a11 a12 a13 a14) g e [a0,a1,a2,a3,a4,a5,a6,a7,a8,a9,a10,a11,a12,a13,a14] :=
 (((((((((((((((h.set 0 a0).set 1 a1).set 2 a2).set 3 a3).set 4 a4).set 5 a5).set 6 a6).set 7 a7).set 8 a8).set 9 a9).set 10 a10).set 11 a11).set 12 a12).set 13 a13).set 14 a14)
theorem Zbr {b g:Nat} {u w:World} (h:Below b u w) (hg:b≤g) (a0 a1 a2 a3 a4 a5 a6 a7 a8 a9 a10 a11 a12 a13 a14:Value):Below b u (Zar w g a0 a1 a2 a3 a4 a5 a6 a7 a8 a9 a10 a11 a12 a13 a14) :=
 (Zbf (Zbf (Zbf (Zbf (Zbf (Zbf (Zbf (Zbf (Zbf (Zbf (Zbf (Zbf (Zbf (Zbf (Zbf h g 0 a0 hg) g 1 a1 hg) g 2 a2 hg) g 3 a3 hg) g 4 a4 hg) g 5 a5 hg) g 6 a6 hg) g 7 a7 hg) g 8 a8 hg) g 9 a9 hg) g 10 a10 hg) g 11 a11 hg) g 12 a12 hg) g 13 a13 hg) g 14 a14 hg)
theorem Zch {w:World} {g:Nat} {e:TypeId} {a0 a1 a2 a3 a4 a5 a6 a7 a8 a9 a10 a11 a12 a13 a14:Value} (h:Row w g e [a0,a1,a2,a3,a4,a5,a6,a7,a8,a9,a10,a11,a12,a13,a14]) :
  w.cell? ⟨g,0,none⟩=some a0∧w.cell? ⟨g,1,none⟩=some a1∧w.cell? ⟨g,2,none⟩=some a2∧w.cell? ⟨g,3,none⟩=some a3∧w.cell? ⟨g,4,none⟩=some a4∧w.cell? ⟨g,5,none⟩=some a5∧w.cell? ⟨g,6,none⟩=some a6∧w.cell? ⟨g,7,none⟩=some a7∧w.cell? ⟨g,8,none⟩=some a8∧w.cell? ⟨g,9,none⟩=some a9∧w.cell? ⟨g,10,none⟩=some a10∧w.cell? ⟨g,11,none⟩=some a11∧w.cell? ⟨g,12,none⟩=some a12∧w.cell? ⟨g,13,none⟩=some a13∧w.cell? ⟨g,14,none⟩=some a14 :=
 ⟨by rw[h.cell];rfl,by rw[h.cell];rfl,by rw[h.cell];rfl,by rw[h.cell];rfl,by rw[h.cell];rfl,by rw[h.cell];rfl,by rw[h.cell];rfl,by rw[h.cell];rfl,by rw[h.cell];rfl,by rw[h.cell];rfl,by rw[h.cell];rfl,by rw[h.cell];rfl,by rw[h.cell];rfl,by rw[h.cell];rfl,by rw[h.cell];rfl⟩
theorem Zf4 {w:World} {g:Nat} {e:TypeId} {cs:List Value} (h:Row w g e cs):w.frozen? ⟨g,0,none⟩=false∧w.frozen? ⟨g,1,none⟩=false∧w.frozen? ⟨g,2,none⟩=false∧w.frozen? ⟨g,3,none⟩=false∧w.frozen? ⟨g,4,none⟩=false∧w.frozen? ⟨g,5,none⟩=false∧w.frozen? ⟨g,6,none⟩=false∧w.frozen? ⟨g,7,none⟩=false∧w.frozen? ⟨g,8,none⟩=false∧w.frozen? ⟨g,9,none⟩=false∧w.frozen? ⟨g,10,none⟩=false∧w.frozen? ⟨g,11,none⟩=false∧w.frozen? ⟨g,12,none⟩=false∧w.frozen? ⟨g,13,none⟩=false∧w.frozen? ⟨g,14,none⟩=false :=
 ⟨h.frozen 0,h.frozen 1,h.frozen 2,h.frozen 3,h.frozen 4,h.frozen 5,h.frozen 6,h.frozen 7,h.frozen 8,h.frozen 9,h.frozen 10,h.frozen 11,h.frozen 12,h.frozen 13,h.frozen 14⟩
end Go.Proofs.YtmcjknjlihgihaaGreatDoor
