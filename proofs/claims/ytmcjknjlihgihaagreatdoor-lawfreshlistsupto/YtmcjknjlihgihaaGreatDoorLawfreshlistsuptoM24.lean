/- The law's own test that lists of chunks share no memory. -/
import Derived.Test.YtmcjknjlihgihaaGreatDoorLawfreshlistsuptoM23
set_option linter.unusedVariables false
set_option linter.unusedSimpArgs false
set_option linter.unnecessarySimpa false
set_option maxRecDepth 20000
namespace Go.Proofs.YtmcjknjlihgihaaGreatDoor
open Go.RowKit
theorem Zy2 {C:Nat} {xs:List Nat} {g c:Nat} (h:Zeu C xs g c=true):(Zdg C xs g c).length≤64:=by
 unfold Zeu Zhp zOkZ at h;rw[Bool.and_eq_true,decide_eq_true_eq]at h;have h1:=h.1.1;unfold zOk filZ Zej at h1;simp only[Bool.and_eq_true,Bool.or_eq_true,decide_eq_true_eq]at h1;have e:Zdg C xs g c=(Zfs (kdX xs c) (Za4 C xs g) (recE xs (eN C xs g c))).bl:=rfl;rw[e];omega
theorem Gr.lo_le {w:World} {B:Nat} {gv:Value} {es:List Ent} {ces:Nat→List Ent} {lo:Nat→Nat} {C:Nat} {xs:List Nat} (h:Gr w B gv es ces lo C xs) (a:Nat):∀ b,a≤b→b≤es.length→lo a≤lo b:=by
 intro b hab
 induction b with
 | zero=>intro _;rw[Nat.le_zero.1 hab];exact Nat.le_refl _
 | succ b ih =>
  intro hb;by_cases h1:a≤b
  ·exact Nat.le_trans (ih h1 (by omega)) (h.asc b (by omega))
  ·have:a=b+1:=by omega
   rw[this];exact Nat.le_refl _
def blAt (ces:Nat→List Ent) (C j:Nat):Value:=((ces (j/C)).getD (j%C) Ent.df).2
theorem Zpv {G C j:Nat} (h:j<G*C):j/C<G∧j%C<C:=by
 have hC:0<C:=by
  rcases Nat.eq_zero_or_pos C with h0 | h0
  ·rw[h0,Nat.mul_zero]at h;cases h
  ·exact h0
 exact⟨(Nat.div_lt_iff_lt_mul hC).2 h,Nat.mod_lt _ hC⟩
theorem Gr.bloom {w:World} {B:Nat} {gv:Value} {es:List Ent} {ces:Nat→List Ent} {lo:Nat→Nat} {C:Nat} {xs:List Nat} (h:Gr w B gv es ces lo C xs) (j:Nat) (hj:j<es.length*C) :
  w.ownsRow (lo (j/C)) 73 1 (blAt ces C j) (Zdg C xs (j/C) (j%C)).length (u64s (Zdg C xs (j/C) (j%C))):=by
 obtain⟨h1,h2⟩:=Zpv hj;obtain⟨hc,hl⟩:=h.inn (j/C) h1;exact hc.n.inn (j%C) (by rw[hl];exact h2)
theorem Gr.bloom_own {w:World} {B:Nat} {gv:Value} {es:List Ent} {ces:Nat→List Ent} {lo:Nat→Nat} {C:Nat} {xs:List Nat} (h:Gr w B gv es ces lo C xs) (j:Nat) (hj:j<es.length*C) :
  w.ownsRow B 73 1 (blAt ces C j) (Zdg C xs (j/C) (j%C)).length (u64s (Zdg C xs (j/C) (j%C))) :=
 Za7 (h.bloom j hj) (h.low _ (Nat.le_of_lt (Zpv hj).1))
theorem Gr.bloom_sep {w:World} {B:Nat} {gv:Value} {es:List Ent} {ces:Nat→List Ent} {lo:Nat→Nat} {C:Nat} {xs:List Nat} (h:Gr w B gv es ces lo C xs) (i j:Nat) (hij:i<j) (hj:j<es.length*C) (k:Nat)
  (hk:(blAt ces C i).ownBlock=some k):(blAt ces C j).ownBlock≠some k:=by
 obtain⟨i1,i2⟩:=Zpv (Nat.lt_trans hij hj);obtain⟨j1,j2⟩:=Zpv hj;have hle:i/C≤j/C:=Nat.div_le_div_right (Nat.le_of_lt hij);by_cases he:i/C=j/C
 ·obtain⟨hc,hl⟩:=h.inn (j/C) j1;have hm:i%C<j%C:=by
   have a1:=Nat.div_add_mod i C;have a2:=Nat.div_add_mod j C;rw[he]at a1;omega
  unfold blAt at hk ⊢;rw[he]at hk;exact hc.n.apart (i%C) (j%C) hm (by rw[hl];exact j2) k hk
 ·intro hk2;have h1:=h.up2 (i/C) i1 (i%C) (by rw[(h.inn (i/C) i1).2];exact i2) k hk;have h2:=h.lo_le (i/C+1) (j/C) (by omega) (by omega);have h3:=((h.bloom j hj).lt k hk2).1;omega
theorem Gr.list_own {w:World} {B:Nat} {gv:Value} {es:List Ent} {ces:Nat→List Ent} {lo:Nat→Nat} {C:Nat} {xs:List Nat} (h:Gr w B gv es ces lo C xs) (j:Nat) (hj:j<es.length) :
  w.ownsRow B 41 15 (es.getD j Ent.df).2 C (entV (ces j)):=by
 obtain⟨hc,hl⟩:=h.inn j hj;have:=hc.n.own;rw[hl]at this;exact Za7 this (h.low j (Nat.le_of_lt hj))
theorem Gr.list_sep {w:World} {B:Nat} {gv:Value} {es:List Ent} {ces:Nat→List Ent} {lo:Nat→Nat} {C:Nat} {xs:List Nat} (h:Gr w B gv es ces lo C xs) (i j:Nat) (hij:i<j) (hj:j<es.length) (k:Nat)
  (hk:(es.getD i Ent.df).2.ownBlock=some k):(es.getD j Ent.df).2.ownBlock≠some k:=by
 intro hk2;have h1:=h.up i (by omega) k hk;have h2:=h.lo_le (i+1) j (by omega) (by omega);have h3:=((h.inn j hj).1.n.own.lt k hk2).1;omega
theorem Gr.list_cell {w:World} {B:Nat} {gv:Value} {es:List Ent} {ces:Nat→List Ent} {lo:Nat→Nat} {C:Nat} {xs:List Nat} (h:Gr w B gv es ces lo C xs) (j:Nat) (hj:j<es.length) :
  (entV es)[j*2+1]? = some (es.getD j Ent.df).2:=by
 have hes:∀ p∈es,p.1.length+1=2:=fun p hp=>by
  obtain⟨k,hk,rfl⟩:=List.getElem_of_mem hp;have:=h.hd k hk;simp only[List.getD,List.getElem?_eq_getElem hk,Option.getD_some]at this;rw[this];rfl
 have hg:=Zi3 es hes j hj 1 (by omega);rw[h.hd j hj]at hg;exact hg
structure BlS (w0:World) (C:Nat) (ces:Nat→List Ent) (bv:Value) (L:List Value) (w:World):Prop where
 own:w.ownsRow w0.heap.size 37 1 bv L.length L
 bel:Below w0.heap.size w0 w
 ent:∀ j,j<L.length→L.getD j undef=blAt ces C j
theorem BlS.nil (w0:World) (C:Nat) (ces:Nat→List Ent):BlS w0 C ces (.slice none 0 0) [] w0:=⟨World.ownsRow_nil _ _ _ _,Zab w0,fun j h=>by cases h⟩
theorem BlS.mono {w0 w w':World} {C:Nat} {ces:Nat→List Ent} {bv:Value} {L:List Value} (h:BlS w0 C ces bv L w) (hb:Below w.heap.size w w'):BlS w0 C ces bv L w' :=
 ⟨Zai h.own hb,Zad h.bel hb,h.ent⟩
theorem BlS.push {w0 w w':World} {C:Nat} {ces:Nat→List Ent} {bv bv' x:Value} {L:List Value} (h:BlS w0 C ces bv L w) (ho:w'.ownsRow w0.heap.size 37 1 bv' (L.length+1) (L++[x])) (hb:Below w0.heap.size w w') (hx:x=blAt ces C L.length) :
  BlS w0 C ces bv' (L++[x]) w':=by
 refine⟨by simpa using ho,h.bel.trans hb,fun j hj=>?_⟩;by_cases h1:j<L.length
 ·rw[show (L++[x]).getD j undef=L.getD j undef by simp[List.getD,List.getElem?_append_left h1]];exact h.ent j h1
 ·have h2:j=L.length:=by simp at hj;omega
  subst h2;rw[show (L++[x]).getD L.length undef=x by simp[List.getD]];exact hx
theorem Zw5 {w0 w:World} {B G C:Nat} {gv bv:Value} {es:List Ent} {ces:Nat→List Ent} {lo:Nat→Nat} {xs:List Nat} {L:List Value} (h0:Gr w0 B gv es ces lo C xs) (hs:BlS w0 C ces bv L w) (hl:L.length=es.length*C) (hok:∀ g,g<es.length→∀ c,c<C→Zeu C xs g c=true) (hB:B≤w0.heap.size) (hG:es.length≤256) (hC:C≤16) (r:Int) :
  Calls Tryz.prog 9 #[bv,.int .i64 r] w fun e w'=>e=.returned (.bool true)∧Below B w w'∧w.heap.size≤w'.heap.size∧(∀ k,k<w.heap.size→(∀ j,j<L.length→(L.getD j undef).ownBlock≠some k)→w'.heap[k]? = w.heap[k]?):=by
 have hm:=h0.mono hs.bel;have hlen:L.length≤4096:=by
  rw[hl];exact Nat.le_trans (Nat.mul_le_mul hG hC) (by decide)
 refine(Zkj B bv L (fun j=>if j<L.length then (Zdg C xs (j/C) (j%C)).length else 0) (fun j=>u64s (Zdg C xs (j/C) (j%C))) r w (Zb5 hs.own) (Nat.le_trans hB hs.bel.size) (by omega) (fun j=>?_) (fun j hj=>?_) (fun i j hij hj k hk=>?_) (fun k hk j hj=>?_)).mono fun e w' h=>⟨h.1,h.2.1,h.2.1.size,h.2.2⟩
 ·split
  ·rename_i hj
   rw[hl]at hj;obtain⟨h1,h2⟩:=Zpv hj;have:=Zy2 (hok _ h1 _ h2);omega
  ·omega
 ·rw[hs.ent j hj];rw[if_pos hj];exact hm.bloom_own j (by rw[← hl];exact hj)
 ·rw[hs.ent i (by omega)]at hk;rw[hs.ent j hj];exact h0.bloom_sep i j hij (by rw[← hl];exact hj) k hk
 ·rw[hs.ent j hj];intro hk2;have h1:=(hs.own.lt k hk).1;have h2:=((h0.bloom_own j (by rw[← hl];exact hj)).lt k hk2).2;omega
def mkZ (c:List Value) (n:Nat):List Value:=(List.replicate n c).flatten
theorem Zz4 (c:List Value) (n:Nat):(mkZ c n).length=n*c.length:=by
 induction n with
 | zero=>simp[mkZ]
 | succ n ih =>
  rw[show mkZ c (n+1)=c++mkZ c n by simp[mkZ,List.replicate_succ],List.length_append,ih,Nat.succ_mul];omega
theorem Zxl (c:List Value) (a b:Nat):mkZ c (a+b)=mkZ c a++mkZ c b:=by
 unfold mkZ;rw[← List.replicate_append_replicate,List.flatten_append]
theorem Ztq (c:List Value) (n:Nat):mkZ c n++c=mkZ c (n+1):=by rw[Zxl];simp[mkZ]
theorem Zwo (c:List Value) (n:Nat):∀ t,t<n→∀ j,j<c.length→(mkZ c n)[t*c.length+j]? = c[j]?:=by
 induction n with
 | zero=>intro t h;cases h
 | succ n ih =>
  intro t h j hj;rw[show mkZ c (n+1)=c++mkZ c n by simp[mkZ,List.replicate_succ]];cases t with
  | zero=>rw[Nat.zero_mul,Nat.zero_add,List.getElem?_append_left hj]
  | succ t =>
   rw[List.getElem?_append_right (by rw[Nat.succ_mul];omega),show (t+1)*c.length+j-c.length=t*c.length+j by rw[Nat.succ_mul];omega];exact ih t (by omega) j hj
theorem Zyu {w w':World} {B u m cd sz:Nat} {D:Option Addr} {e:TypeId} {v':Value} {c:List Value} (hD:∀ k,(Value.slice D u cd).ownBlock=some k→D=some ⟨k,0,none⟩) (hr:Rd w (.slice D u cd) u sz (mkZ c u))
  (ho:w'.ownsRow B e sz v' m (mkZ c m)) (hum:u≤m) (hk:∀ k,(Value.slice D u cd).ownBlock=some k→v'.ownBlock=some k∨w'.heap[k]? = w.heap[k]?):Rd w' (.slice D u cd) u sz (mkZ c u):=by
 refine⟨hr.1,?_⟩;rcases hr.2 with h | ⟨b,o,cap,he,h1,h2,h3⟩
 ·exact .inl h
 ·injection he with e1 e2 e3
  subst e1;subst e3;have h0:=hD b rfl;injection h0 with h0
  injection h0 with _ ho0
  subst ho0;refine .inr ⟨b,0,cd,rfl,h1,h2,?_⟩;intro i x hx;rcases hk b rfl with hb | hb
  ·have hc:=ho.cells hb i x (by
    obtain⟨r,rfl⟩:=Nat.exists_eq_add_of_le hum;rw[Zxl,List.getElem?_append_left (by
     rcases Nat.lt_or_ge i (mkZ c u).length with h | h
     ·exact h
     ·rw[List.getElem?_eq_none h]at hx;cases hx)]
    exact hx)
   rwa [Zdn]at hc
  ·rw[← h3 i x hx];exact World.cell?_of_block hb
theorem Zs0 {w:World} {B n cd sz:Nat} {D:Option Addr} {e:TypeId} {xs:List Value} (h:w.ownsRow B e sz (.slice D n cd) n xs):∀ k,(Value.slice D n cd).ownBlock=some k→D=some ⟨k,0,none⟩:=by
 intro k hk;rcases h.2 with ⟨he,_⟩ | ⟨g,cap,cur,he,_⟩
 ·injection he with e1 e2 e3
  subst e1;simp[Value.ownBlock]at hk
 ·injection he with e1 e2 e3
  subst e1;simp[Value.ownBlock]at hk;subst hk;rfl
theorem Zy7 {w:World} {B n cd sz:Nat} {D:Option Addr} {e:TypeId} {xs:List Value} (h:w.ownsRow B e sz (.slice D n cd) n xs) (h0:0<n):∃ g,D=some ⟨g,0,none⟩∧B≤g∧g<w.heap.size∧(∀ j,j<n*sz→w.cell? ⟨g,j,none⟩=xs[j]?)∧∀ j,w.frozen? ⟨g,j,none⟩=false:=by
 rcases h.2 with ⟨he,rfl⟩ | ⟨g,cap,cur,he,hb,hg,r⟩
 ·exact absurd h0 (Nat.lt_irrefl 0)
 ·have h':=h;rw[he]at h';injection he with e1 e2 e3
  exact⟨g,e1,hb,(Array.getElem?_eq_some_iff.1 hg).1,fun j hj=>h'.cellAt j hj,fun j=>h'.frozenAt j⟩
structure OwZ (B s:Nat) (e:TypeId) (sz:Nat) (e2:TypeId) (mk:Nat→List Value) (v:Value) (n szv:Nat) (cells:List Value) (L:Nat→Value) (N:Nat→Nat) (X:Nat→List Value) (w0:World) (i:Nat) (vl:Value) (ls:List Value) (w:World):Prop where
 rdv:Rd w v n szv cells
 lon:w.ownsRow w0.heap.size e2 1 vl i ls
 mine:∀ j,i≤j→j<n→w.ownsRow B e sz (L j) (N j) (X j)
 done:∀ j,j<i→Rd w (L j) (N j) sz (mkZ (mk j) (N j))∧Rd w (ls.getD j undef) (N j+s) sz (mkZ (mk j) (N j+s))
 apart:∀ j,j<i→∀ k,(L j).ownBlock=some k∨(ls.getD j undef).ownBlock=some k→k<w.heap.size∧vl.ownBlock≠some k∧∀ j',i≤j'→j'<n→(L j').ownBlock≠some k
 bel:Below B w0 w
 size:w0.heap.size≤w.heap.size
 els:∀ k,k<w0.heap.size→(∀ j,j<n→(L j).ownBlock≠some k)→w.heap[k]? = w0.heap[k]?
theorem OwZ.step {B s sz n szv:Nat} {e e2:TypeId} {mk:Nat→List Value} {v:Value} {cells:List Value} {L:Nat→Value} {N:Nat→Nat} {X:Nat→List Value} {w0 wa wc w':World} {t u cd cd7:Nat} {D D7:Option Addr} {vl vl':Value} {ls:List Value}
  (h:OwZ B s e sz e2 mk v n szv cells L N X w0 t vl ls wa) (ht:t<n) (hLt:L t=.slice D u cd) (hm:N t=u) (hsz:wa.heap.size≤wc.heap.size)
  (hel:∀ k,k<wa.heap.size→(Value.slice D u cd).ownBlock≠some k→wc.heap[k]? = wa.heap[k]?)
  (hrd:Rd wc (.slice D u cd) u sz (mkZ (mk t) u)) (ho7:wc.ownsRow B e sz (.slice D7 (u+s) cd7) (u+s) (mkZ (mk t) (u+s)))
  (hw7:∀ k,(Value.slice D7 (u+s) cd7).ownBlock=some k→(Value.slice D u cd).ownBlock=some k∨wa.heap.size≤k)
  (hlon:w'.ownsRow w0.heap.size e2 1 vl' (t+1) (ls++[.slice D7 (u+s) cd7])) (hsz':wc.heap.size≤w'.heap.size)
  (hk':∀ k,k<wc.heap.size→some k≠vl.ownBlock→w'.heap[k]? = wc.heap[k]?)
  (hw':vl'.ownBlock=vl.ownBlock∨((∀ k,vl'.ownBlock=some k→wc.heap.size≤k)∧∀ k,k<wc.heap.size→w'.heap[k]? = wc.heap[k]?)) (hbel:Below B w0 w')
  (hLT:∀ j,j<n→∀ k,(L j).ownBlock=some k→k<w0.heap.size) (hSEP:∀ i j,i<j→j<n→∀ k,(L i).ownBlock=some k→(L j).ownBlock≠some k)
  (hV:∀ k,v.ownBlock=some k→∀ j,j<n→(L j).ownBlock≠some k) (hvlt:∀ k,v.ownBlock=some k→k<w0.heap.size) :
  OwZ B s e sz e2 mk v n szv cells L N X w0 (t+1) vl' (ls++[.slice D7 (u+s) cd7]) w':=by
 have h0:=h.size;have hll:ls.length=t:=by have:=h.lon.1;omega
 have hvl:∀ k,vl.ownBlock=some k→w0.heap.size≤k∧k<wa.heap.size:=h.lon.lt;have hvl':∀ k,vl'.ownBlock=some k→w0.heap.size≤k∧k<w'.heap.size:=hlon.lt;have key:∀ k,k<wa.heap.size→(Value.slice D u cd).ownBlock≠some k→vl.ownBlock≠some k→w'.heap[k]? = wa.heap[k]?:=fun k h1 h2 h3 =>
  (hk' k (Nat.lt_of_lt_of_le h1 hsz) (fun e=>h3 e.symm)).trans (hel k h1 h2)
 have hLtk:∀ k,(Value.slice D u cd).ownBlock=some k→k<w0.heap.size:=fun k hk=>hLT t ht k (by rw[hLt];exact hk)
 have hold:∀ k,k<w0.heap.size→vl.ownBlock≠some k:=fun k hk e=>by have:=(hvl k e).1;omega
 have hold':∀ k,k<w0.heap.size→vl'.ownBlock≠some k:=fun k hk e=>by have:=(hvl' k e).1;omega
 have hin':∀ k,k<wc.heap.size→vl.ownBlock≠some k→vl'.ownBlock≠some k:=fun k hk hne e=>by
  rcases hw' with h' | ⟨h',_⟩
  ·exact hne (h'.symm.trans e)
  ·have:=h' k e;omega
 refine⟨?_,hlon,?_,?_,?_,hbel,by omega,fun k hk hne=>(key k (by omega) (by rw[← hLt];exact hne t ht) (hold k hk)).trans (h.els k hk hne)⟩
 ·refine h.rdv.keep fun k hk=>?_
  have hkl:=hvlt k hk;exact key k (by omega) (fun e=>hV k hk t ht (by rw[hLt];exact e)) (hold k hkl)
 ·intro j hj hjl;refine Zav (h.mine j (by omega) hjl) fun k hk=>?_
  have hkl:=hLT j hjl k hk;exact key k (by omega) (fun e=>hSEP t j (by omega) hjl k (by rw[hLt];exact e) hk) (hold k hkl)
 ·intro j hj;by_cases hjt:j<t
  ·obtain⟨d1,d2⟩:=h.done j hjt;have ap:=h.apart j hjt;rw[Zfh _ _ _ (by omega)];constructor
   ·refine d1.keep fun k hk=>?_
    obtain⟨p1,p2,p3⟩:=ap k (.inl hk);exact key k p1 (by rw[← hLt];exact p3 t (Nat.le_refl _) ht) p2
   ·refine d2.keep fun k hk=>?_
    obtain⟨p1,p2,p3⟩:=ap k (.inr hk);exact key k p1 (by rw[← hLt];exact p3 t (Nat.le_refl _) ht) p2
  ·obtain rfl:j=t:=by omega
   rw[Zfj _ _ _ hll.symm,hLt,hm];constructor
   ·refine hrd.keep fun k hk=>?_
    have hkl:=hLtk k hk;exact hk' k (by omega) (fun e=>hold k hkl e.symm)
   ·refine(Zb5 ho7).keep fun k hk=>?_
    have hk2:=(ho7.lt k hk).2;refine hk' k hk2 fun e=>?_
    rcases hw7 k hk with h1 | h1
    ·exact hold k (hLtk k h1) e.symm
    ·have:=(hvl k e.symm).2;omega
 ·intro j hj k hk;by_cases hjt:j<t
  ·rw[Zfh _ _ _ (by omega)]at hk;obtain⟨p1,p2,p3⟩:=h.apart j hjt k hk;exact⟨by omega,hin' k (by omega) p2,fun j' h1 h2=>p3 j' (by omega) h2⟩
  ·obtain rfl:j=t:=by omega
   rw[Zfj _ _ _ hll.symm,hLt]at hk;have hcase:(Value.slice D u cd).ownBlock=some k∨(wa.heap.size≤k∧k<wc.heap.size):=by
    rcases hk with hk | hk
    ·exact .inl hk
    ·rcases hw7 k hk with h1 | h1
     ·exact .inl h1
     ·exact .inr ⟨h1,(ho7.lt k hk).2⟩
   rcases hcase with h1 | ⟨h1,h2⟩
   ·have hkl:=hLtk k h1;exact⟨by omega,hold' k hkl,fun j' hj' hl'=>hSEP j j' (by omega) hl' k (by rw[hLt];exact h1)⟩
   ·refine⟨by omega,hin' k h2 (fun e=>by have:=(hvl k e).2;omega),fun j' hj' hl' e=>?_⟩;have:=hLT j' hl' k e;omega
theorem Zlv {P:Program} {w:World} {ops:Array Oper} {rest:List Oper} {o:Oper} {a:Act} {Q:Exit→Act→World→Prop} {t:TypeId} {v:Value} {B n:Nat} {xs:List Value} (cs:List Value) (sz:Nat)
  (hgd:o.guard=none) (s r:Operand) (ho:o.op=.call { callee:=.builtin .append,args:=#[s,r],argTypes:=#[t,t] })
  (e:TypeId) (z:Value) (bytes:Nat) (h1:P.underlying t=some (.slice e)) (h2:(P.info? e).map (fun i=>(i.zero,i.size,i.bytes))=some (some z,sz,bytes)) (hz:z.cells.size=sz) (hsz:0<sz) (hcs:cs.length=sz)
  (hs:a.eval s=v) (hx:a.eval r=.slice (some ⟨w.heap.size,0,none⟩) 1 1)
  (hown:w.ownsRow B e sz v n xs) (hB:B≤w.heap.size) (hu:∀ u∈cs,u.oneCell'=true) (hm:n+1≤maxLen) (hby:(n+1)*bytes≤140737488355328)
  (hK:∀ v' w',w'.ownsRow B e sz v' (n+1) (xs++cs)→Below B w w'→w.heap.size≤w'.heap.size→(∀ k,k<w.heap.size→some k≠v.ownBlock→w'.heap[k]? = w.heap[k]?) →
   (v'.ownBlock=v.ownBlock∨((∀ k,v'.ownBlock=some k→w.heap.size≤k)∧∀ k,k<w.heap.size→w'.heap[k]? = w.heap[k]?))→wpList P ops Q rest (a.put o.dst v') w') :
  wpList P ops Q (o :: rest) a (w.alloc (.cells cs.toArray e)):=by
 refine wpList_plain hgd fun K hK'=>?_
 unfold Oper.wp execOp;simp only[ho,resolve,invoke,builtin,Sem.run_bind,Sem.run_pure,Result.andThen_ok,List.map_toArray,List.map_cons,List.map_nil,hs,hx];obtain⟨i,hi,hz0,hz1,hz2⟩:=info_parts h2;obtain⟨v',w',hr,h3,h4,_⟩:=run_append_own (P:=P) (w:=w.alloc (.cells cs.toArray e)) B t o.type e i z sz bytes h1 hi hz0 hz1 hz2 hz hsz v n xs (hown.alloc _)
  ⟨w.heap.size,0,none⟩ 1 1 cs (by omega) (Zf1 w cs e) hu hm hby (by simp;omega)
 obtain⟨v2,w2,hr2,h5⟩:=Zfn (P:=P) (w:=w.alloc (.cells cs.toArray e)) B t o.type e i z sz bytes h1 hi hz0 hz1 hz2 hz hsz v n xs (hown.alloc _)
  ⟨w.heap.size,0,none⟩ 1 1 cs (by omega) (Zf1 w cs e) hu hm hby (by omega)
 rw[hr]at hr2;injection hr2 with e1 e2
 subst e1 e2;have hlt:=hown.lt;refine Zh1 hr (hK' _ _ (hK _ _ h3 ?_ ?_ ?_ ?_))
 ·refine(((Below.refl B w).alloc hB _).grown h4 (by simp;omega) ?_);intro k hk;exact(hlt k hk).1
 ·have:=h4.size;simp at this;omega
 ·intro k hk hne;rw[h4.block k (by simp;omega) hne]
  first | exact heap_alloc_old w _ hk | exact heap_alloc_old w _ _ hk
 ·rcases h5 with h5 | ⟨h5,h6⟩
  ·exact .inl h5
  ·refine .inr ⟨fun k hk=>?_,fun k hk=>?_⟩
   ·rw[h5]at hk;simp at hk;omega
   ·rw[h6 k (by simp;omega)];first | exact heap_alloc_old w _ hk | exact heap_alloc_old w _ _ hk
def Zjo (w:World) (g k:Nat) (a0 a1 a2 a3 a4 a5 a6 a7 a8 a9 a10 a11 a12 a13 a14:Value):World :=
 (((((((((((((((w.setCell ⟨g,k*15,none⟩ a0).setCell ⟨g,k*15+1,none⟩ a1).setCell ⟨g,k*15+2,none⟩ a2).setCell ⟨g,k*15+3,none⟩ a3).setCell ⟨g,k*15+4,none⟩ a4).setCell ⟨g,k*15+5,none⟩ a5).setCell ⟨g,k*15+6,none⟩ a6).setCell ⟨g,k*15+7,none⟩ a7).setCell ⟨g,k*15+8,none⟩ a8).setCell ⟨g,k*15+9,none⟩ a9).setCell ⟨g,k*15+10,none⟩ a10).setCell ⟨g,k*15+11,none⟩ a11).setCell ⟨g,k*15+12,none⟩ a12).setCell ⟨g,k*15+13,none⟩ a13).setCell ⟨g,k*15+14,none⟩ a14)
theorem Zdy (P l:List Value) (i j:Nat) (v:Value) (h:i=P.length+j):(P++l).set i v=P++l.set j v:=by subst h;simp
theorem Zvw {w:World} {B g cap n k:Nat} {e:TypeId} {P R:List Value} {b0 b1 b2 b3 b4 b5 b6 b7 b8 b9 b10 b11 b12 b13 b14:Value} (a0 a1 a2 a3 a4 a5 a6 a7 a8 a9 a10 a11 a12 a13 a14:Value) (h:w.ownsRow B e 15 (.slice (some ⟨g,0,none⟩) n cap) n (P++([b0,b1,b2,b3,b4,b5,b6,b7,b8,b9,b10,b11,b12,b13,b14]++R))) (hP:P.length=k*15) :
  (Zjo w g k a0 a1 a2 a3 a4 a5 a6 a7 a8 a9 a10 a11 a12 a13 a14).ownsRow B e 15 (.slice (some ⟨g,0,none⟩) n cap) n (P++([a0,a1,a2,a3,a4,a5,a6,a7,a8,a9,a10,a11,a12,a13,a14]++R)):=by
 have h1:=(h.stored (k*15) a0).1;have h2:=(h1.stored (k*15+1) a1).1;have h3:=(h2.stored (k*15+2) a2).1;have h4:=(h3.stored (k*15+3) a3).1;have h5:=(h4.stored (k*15+4) a4).1;have h6:=(h5.stored (k*15+5) a5).1;have h7:=(h6.stored (k*15+6) a6).1;have h8:=(h7.stored (k*15+7) a7).1;have h9:=(h8.stored (k*15+8) a8).1;have h10:=(h9.stored (k*15+9) a9).1;have h11:=(h10.stored (k*15+10) a10).1;have h12:=(h11.stored (k*15+11) a11).1;have h13:=(h12.stored (k*15+12) a12).1;have h14:=(h13.stored (k*15+13) a13).1;have h15:=(h14.stored (k*15+14) a14).1;rw[Zdy P _ _ 0 _ (by omega),Zdy P _ _ 1 _ (by omega),Zdy P _ _ 2 _ (by omega),Zdy P _ _ 3 _ (by omega),Zdy P _ _ 4 _ (by omega),Zdy P _ _ 5 _ (by omega),Zdy P _ _ 6 _ (by omega),Zdy P _ _ 7 _ (by omega),Zdy P _ _ 8 _ (by omega),Zdy P _ _ 9 _ (by omega),Zdy P _ _ 10 _ (by omega),Zdy P _ _ 11 _ (by omega),Zdy P _ _ 12 _ (by omega),Zdy P _ _ 13 _ (by omega),Zdy P _ _ 14 _ (by omega)]at h15;exact h15
theorem Zo4 (w:World) (g k:Nat) (a0 a1 a2 a3 a4 a5 a6 a7 a8 a9 a10 a11 a12 a13 a14:Value) (q:Nat) (hq:q≠g):(Zjo w g k a0 a1 a2 a3 a4 a5 a6 a7 a8 a9 a10 a11 a12 a13 a14).heap[q]? = w.heap[q]?:=by
 unfold Zjo
 repeat rw[heap_setCell_other _ _ _ _ (by exact hq)]
theorem Zpi (w:World) (g k:Nat) (a0 a1 a2 a3 a4 a5 a6 a7 a8 a9 a10 a11 a12 a13 a14:Value):(Zjo w g k a0 a1 a2 a3 a4 a5 a6 a7 a8 a9 a10 a11 a12 a13 a14).heap.size=w.heap.size:=by
 unfold Zjo;simp
theorem Zno {b:Nat} {u w:World} (h:Below b u w) (g k:Nat) (hg:b≤g) (a0 a1 a2 a3 a4 a5 a6 a7 a8 a9 a10 a11 a12 a13 a14:Value):Below b u (Zjo w g k a0 a1 a2 a3 a4 a5 a6 a7 a8 a9 a10 a11 a12 a13 a14) :=
 Zac (Zac (Zac (Zac (Zac (Zac (Zac (Zac (Zac (Zac (Zac (Zac (Zac (Zac (Zac h _ _ _ hg) _ _ _ hg) _ _ _ hg) _ _ _ hg) _ _ _ hg) _ _ _ hg) _ _ _ hg) _ _ _ hg) _ _ _ hg) _ _ _ hg) _ _ _ hg) _ _ _ hg) _ _ _ hg) _ _ _ hg) _ _ _ hg
theorem Z0z (l:List Value) (h:15≤l.length):∃ a0 a1 a2 a3 a4 a5 a6 a7 a8 a9 a10 a11 a12 a13 a14 r,l=[a0,a1,a2,a3,a4,a5,a6,a7,a8,a9,a10,a11,a12,a13,a14]++r:=by
 rcases l with _ | ⟨a0,_ | ⟨a1,_ | ⟨a2,_ | ⟨a3,_ | ⟨a4,_ | ⟨a5,_ | ⟨a6,_ | ⟨a7,_ | ⟨a8,_ | ⟨a9,_ | ⟨a10,_ | ⟨a11,_ | ⟨a12,_ | ⟨a13,_ | ⟨a14,r⟩⟩⟩⟩⟩⟩⟩⟩⟩⟩⟩⟩⟩⟩⟩
 all_goals first | (simp at h;done) | exact⟨_,_,_,_,_,_,_,_,_,_,_,_,_,_,_,_,rfl⟩ | (simp at h;omega)
set_option maxRecDepth 100000
theorem Tryz.infoCkB:(Tryz.prog.info? 41).map (fun i=>(i.zero,i.size,i.bytes))=some (some (.agg [.int .i64 0,.int .i64 0,.int .u32 0,.int .i64 0,.int .i64 0,.bool false,.int .i64 0,.bool false,.int .i64 0,.string ⟨#[]⟩,.bool false,.int .i64 0,.string ⟨#[]⟩,.int .i64 0,.slice none 0 0].toArray),15,152):=by kernel_rfl
theorem Tryz.infoCs:(Tryz.prog.info? 31).map (fun i=>(i.zero,i.size,i.bytes))=some (some (.slice none 0 0),1,24):=by kernel_rfl
def ckm (i:Nat):List Value:=[.int .i64 (-501-(i:Int)),.int .i64 0,.int .u32 0,.int .i64 0,.int .i64 0,.bool false,.int .i64 0,.bool false,.int .i64 0,.string ⟨#[]⟩,.bool false,.int .i64 0,.string ⟨#[]⟩,.int .i64 0,.slice none 0 0]
theorem Zsi (i:Nat):(ckm i).length=15:=rfl
theorem Zzy (i:Nat):∀ u∈ckm i,u.oneCell'=true:=by simp[ckm,Value.oneCell']
theorem Zyz {X:List Value} {t u m:Nat} (hX:X.length=m*15) (hu:u<m):∃ b0 b1 b2 b3 b4 b5 b6 b7 b8 b9 b10 b11 b12 b13 b14,X.drop (u*15)=[b0,b1,b2,b3,b4,b5,b6,b7,b8,b9,b10,b11,b12,b13,b14]++X.drop ((u+1)*15):=by
 have hle:(u+1)*15≤m*15:=Nat.mul_le_mul_right _ hu;obtain⟨b0,b1,b2,b3,b4,b5,b6,b7,b8,b9,b10,b11,b12,b13,b14,r,h⟩:=Z0z (X.drop (u*15)) (by rw[List.length_drop];omega);refine⟨b0,b1,b2,b3,b4,b5,b6,b7,b8,b9,b10,b11,b12,b13,b14,?_⟩;have h2:X.drop ((u+1)*15)=(X.drop (u*15)).drop 15:=by rw[List.drop_drop];congr 1;omega
 rw[h2,h];rfl
set_option maxHeartbeats 16000000 in
theorem Zi5 (B:Nat) (v:Value) (n:Nat) (cells:List Value) (L:Nat→Value) (N:Nat→Nat) (X:Nat→List Value) (r:Int) (w:World) (hx:Rd w v n 2 cells) (hB:B≤w.heap.size) (hnL:n≤1048576) (hN:∀ j,N j≤1048576)
  (hL:∀ j,j<n→cells[j*2+1]? = some (L j))
  (hown:∀ j,j<n→w.ownsRow B 41 15 (L j) (N j) (X j))
  (hsep:∀ i j,i<j→j<n→∀ k,(L i).ownBlock=some k→(L j).ownBlock≠some k)
  (hv:∀ k,v.ownBlock=some k→∀ j,j<n→(L j).ownBlock≠some k) :
  Calls Tryz.prog 10 #[v,.int .i64 r] w fun e w'=>e=.returned (.bool true)∧Below B w w':=by
 obtain⟨s,hs⟩:∃ s,Zng r n=s:=⟨_,rfl⟩;have hs2:s≤1024:=by rw[← hs];exact Zpk _ _
 have ZH:Hid (∀ w2:World,Calls Tryz.prog 28 #[.int .i64 r,.int .i64 (n:Int)] w2 fun e w'=>e=.returned (.int .i64 (s:Nat))∧∃ m,w'=w2.drewN m):=hid (fun w2=>by have:=Zpt r n w2 hnL;rw[hs]at this;exact this);have hvlt:Hid (0<n→∀ k,v.ownBlock=some k→k<w.heap.size):=hid (fun h0 k hk=>by
  obtain⟨A,cap,rfl,_,_,hA⟩:=hx.form;obtain⟨b,o,rfl,hseg⟩:=hA h0;simp[Value.ownBlock]at hk;subst hk;exact World.block_lt_of_cell? w _ (hseg (0*2+1) _ (hL 0 h0)))
 have QV:Hid (OwZ B s 41 15 31 ckm v n 2 cells L N X w 0 (.slice none 0 0) [] w):=hid ⟨hx,World.ownsRow_nil _ _ _ _,fun j _ h=>hown j h,fun j h=>absurd h (Nat.not_lt_zero j),fun j h=>absurd h (Nat.not_lt_zero j),Below.refl _ _,Nat.le_refl _,fun k _ _=>rfl⟩;have Yl:Hid (∀ j,j<n→∀ k,(L j).ownBlock=some k→k<w.heap.size):=hid (fun j hj k hk=>((hown j hj).lt k hk).2);have V2:=hid hsep;have HV:=hid hv;have HN:=hid hN;have HLC:=hid hL;have HXL:Hid (∀ j,j<n→(X j).length=N j*15):=hid (fun j hj=>(hown j hj).1);obtain⟨A,cap,rfl,hlc,hcm,_⟩:=hx.form;clear hx hown hsep hv hN hs hL;unfold maxLen at hcm;go_enter Tryz.func10,Tryz.ntmps10;go_wp2_with fail
 go_loopw [5,17] (fun v5 i wr=>∃(t:Nat) (ls:List Value),t≤n∧i=.int .i64 t∧Hid (OwZ B s 41 15 31 ckm (.slice A n cap) n 2 cells L N X w t v5 ls wr)) (fun _ i _=>n-(intOf i).toNat)
 case atStart=>exact⟨0,[],by omega,rfl,QV⟩
 case round =>
  obtain⟨t,ls,ht,rfl,hst⟩:=hrel;clear QV;generalize wr=wa at *;by_cases hlt:t<n
  ·have hrd:=hst.out.rdv;obtain⟨b,o,rfl,hseg⟩:=hrd.at (by omega);have hcell:wa.cell? ⟨b,o+t*2+1,none⟩=some (L t):=hseg (t*2+1) _ (HLC.out t hlt);have Qd:=hid (hst.out.mine t (Nat.le_refl _) hlt);have HX0:=hid (HXL.out t hlt);clear hrd hseg;generalize hLt:L t=Lt at *;have HLt:=hid hLt;obtain⟨D,cd,rfl⟩:=Zah Qd.out;have hNt:=HN.out t;generalize hm:N t=m at *;have HMm:=hid hm;clear hLt hm;go_wp2_with fail
   go_loopw [27] (fun i wv=>∃ u:Nat,u≤m∧i=.int .i64 u∧Hid (wv.ownsRow B 41 15 (.slice D m cd) m (mkZ (ckm t) u++(X t).drop (u*15)))∧Hid (∀ k,(Value.slice D m cd).ownBlock≠some k→wv.heap[k]? = wa.heap[k]?)∧Hid (wv.heap.size=wa.heap.size)∧Hid (Below B w wv)) (fun i _=>m-(intOf i).toNat)
   case atStart=>exact⟨0,by omega,rfl,hid (by simpa [mkZ]using Qd.out),hid (fun _ _=>rfl),hid rfl,hid hst.out.bel⟩
   case round =>
    obtain⟨u,hu,rfl,how,hkp,hsz,hbl⟩:=hrel;by_cases hlu:u<m
    ·obtain⟨g,rfl,hBg,hgs,hc,hf⟩:=Zy7 how.out (by omega);obtain⟨b0,b1,b2,b3,b4,b5,b6,b7,b8,b9,b10,b11,b12,b13,b14,hnx⟩:=Zyz (t:=t) HX0.out hlu;have hpl:(mkZ (ckm t) u).length=u*15:=by rw[Zz4,Zsi]
     have HW:=how.out;rw[hnx]at HW hc;have hcell15:∀ j,j<15→wr.cell? ⟨g,0+(u*15+j),none⟩=[b0,b1,b2,b3,b4,b5,b6,b7,b8,b9,b10,b11,b12,b13,b14][j]?:=fun j hj=>by
      have hle:(u+1)*15≤m*15:=Nat.mul_le_mul_right _ hlu;rw[Nat.zero_add,hc (u*15+j) (by omega),List.getElem?_append_right (by omega),List.getElem?_append_left (by simp;omega)];congr 1;omega
     obtain⟨c0,c1,c2,c3,c4,c5,c6,c7,c8,c9,c10,c11,c12,c13,c14⟩:=Zj7 hcell15;simp only[Nat.zero_add]at c0 c1 c2 c3 c4 c5 c6 c7 c8 c9 c10 c11 c12 c13 c14;have f0:=hf (u*15);have f1:=hf (u*15+1);have f2:=hf (u*15+2);have f3:=hf (u*15+3);have f4:=hf (u*15+4);have f5:=hf (u*15+5);have f6:=hf (u*15+6);have f7:=hf (u*15+7);have f8:=hf (u*15+8);have f9:=hf (u*15+9);have f10:=hf (u*15+10);have f11:=hf (u*15+11);have f12:=hf (u*15+12);have f13:=hf (u*15+13);have f14:=hf (u*15+14);have QE:=hid (Zvw (.int .i64 (-501-(t:Int))) (.int .i64 0) (.int .u32 0) (.int .i64 0) (.int .i64 0) (.bool false) (.int .i64 0) (.bool false) (.int .i64 0) (.string ⟨#[]⟩) (.bool false) (.int .i64 0) (.string ⟨#[]⟩) (.int .i64 0) (.slice none 0 0) HW hpl);clear hc hf hcell15 hnx hpl HW;go_wp2_with fail
     go_roundw
     case rel =>
      refine⟨u+1,by omega,by go_num,hid ?_,hid (fun k hk=>?_),hid ?_,hid ?_⟩
      ·rw[← Ztq,List.append_assoc];exact QE.out
      ·exact(Zo4 _ _ _ _ _ _ _ _ _ _ _ _ _ _ _ _ _ _ k (fun e=>hk (by simp[Value.ownBlock,e]))).trans (hkp.out k hk)
      ·exact(Zpi _ _ _ _ _ _ _ _ _ _ _ _ _ _ _ _ _ _).trans hsz.out
      ·exact Zno hbl.out _ _ hBg _ _ _ _ _ _ _ _ _ _ _ _ _ _ _
     case measure=>simp[intOf];omega
    ·obtain rfl:u=m:=by omega
     have hdr:(X t).drop (u*15)=[]:=List.drop_of_length_le (by rw[HX0.out];exact Nat.le_refl _);rw[hdr,List.append_nil]at how;clear hdr;generalize wr=wb at *;have JA:=hid (Zs0 how.out);have Zt:Hid (∀ k,(Value.slice D u cd).ownBlock=some k→k<wb.heap.size):=hid (fun k hk=>(how.out.lt k hk).2);go_wp2_with fail
     go_loopw [7,9] (fun v7 i wv=>∃ c:Nat,c≤s∧i=.int .i64 c∧Hid (wv.ownsRow B 41 15 v7 (u+c) (mkZ (ckm t) (u+c)))∧Hid (Rd wv (.slice D u cd) u 15 (mkZ (ckm t) u))∧Hid (∀ k,k<wb.heap.size→(Value.slice D u cd).ownBlock≠some k→wv.heap[k]? = wb.heap[k]?)∧Hid (wb.heap.size≤wv.heap.size)∧Hid (∀ k,v7.ownBlock=some k→(Value.slice D u cd).ownBlock=some k∨wb.heap.size≤k)∧Hid (Below B w wv)) (fun _ i _=>s-(intOf i).toNat)
     case atStart=>exact⟨0,by omega,rfl,how,hid (Zb5 how.out),hid (fun _ _ _=>rfl),hid (Nat.le_refl _),hid (fun k hk=>.inl hk),hbl⟩
     case round =>
      obtain⟨c,hc,rfl,ho7,hr7,hk7,hs7,hw7,hb7⟩:=hrel;by_cases hlc7:c<s
      ·have Yi:Hid (B≤wr.heap.size):=hid (Nat.le_trans hB hb7.out.size);go_wp2_with (first
        | (go_at_call 28;refine(ZH.out _).mono ?_;rintro e w' ⟨rfl,nd,rfl⟩)
        | (at_builtin;refine Zlv (ckm t) 15 rfl (.tmp 45) (.tmp 49) rfl 41 (.agg [.int .i64 0,.int .i64 0,.int .u32 0,.int .i64 0,.int .i64 0,.bool false,.int .i64 0,.bool false,.int .i64 0,.string ⟨#[]⟩,.bool false,.int .i64 0,.string ⟨#[]⟩,.int .i64 0,.slice none 0 0].toArray) 152 Tryz.underlying31 Tryz.infoCkB rfl (by decide) rfl rfl rfl (Zav (w':=wr.drewN nd) ho7.out (fun _ _=>rfl)) Yi.out (Zzy t) (by unfold maxLen;omega) (by omega) ?_;intro v' w' ho hb3 hsz3 hk3 hw3;have HO:=hid ho;have Qk:=hid hb3;have Jr:=hid hsz3;have Z8:=hid hk3;have Ua:=hid hw3;clear ho hb3 hsz3 hk3 hw3))
       go_roundw
       case rel =>
        have ho9:w'.ownsRow B 41 15 v' (u+c+1) (mkZ (ckm t) (u+c+1)):=by
         have h:=HO.out;rw[Ztq]at h;exact h
        refine⟨c+1,by omega,by go_num,hid ho9,hid (Zyu JA.out hr7.out ho9 (by omega) ?_),hid ?_,hid (Nat.le_trans hs7.out Jr.out),hid ?_,hid (hb7.out.trans ((Go.below_drewN (Below.refl B wr) nd).trans Qk.out))⟩
        ·intro k hk;have hkl:=Zt.out k hk;rcases Ua.out with h | ⟨_,h⟩
         ·by_cases hu7:u7.ownBlock=some k
          ·exact .inl (by rw[h];exact hu7)
          ·exact .inr (Z8.out k (Nat.lt_of_lt_of_le hkl hs7.out) (fun e=>hu7 e.symm))
         ·exact .inr (h k (Nat.lt_of_lt_of_le hkl hs7.out))
        ·intro k hk hne;have hne7:some k≠u7.ownBlock:=fun e=>by
          rcases hw7.out k e.symm with h | h
          ·exact hne h
          ·omega
         rw[← hk7.out k hk hne];exact Z8.out k (Nat.lt_of_lt_of_le hk hs7.out) hne7
        ·intro k hk;rcases Ua.out with h | ⟨h,_⟩
         ·exact hw7.out k (h.symm.trans hk)
         ·exact .inr (Nat.le_trans hs7.out (h k hk))
       case measure=>simp[intOf];omega
      ·obtain rfl:c=s:=by omega
       generalize wr=wc at *;have Zd:=hid hst.out.lon;have HWS:Hid (w.heap.size≤wa.heap.size):=hid hst.out.size;have UF:Hid (wa.heap.size=wb.heap.size):=hid hsz.out.symm;have J3:Hid (∀ k,k<wb.heap.size→(Value.slice D u cd).ownBlock≠some k→wc.heap[k]? = wa.heap[k]?):=hid (fun k hk hne=>(hk7.out k hk hne).trans (hkp.out k hne));have HNL:Hid (∀ k,u5.ownBlock=some k→(Value.slice D u cd).ownBlock≠some k):=hid (fun k hk e=>by
        have h1:=(Zd.out.lt k hk).1;have h2:=Yl.out t hlt k (by rw[HLt.out];exact e);omega)
       have HLC2:Hid (wc.ownsRow w.heap.size 31 1 u5 t ls):=hid (Zav Zd.out (fun k hk=>J3.out k (by have:=(Zd.out.lt k hk).2;have:=UF.out;omega) (HNL.out k hk)));have HWC:Hid (w.heap.size≤wc.heap.size):=hid (by have:=HWS.out;have:=UF.out;have:=hs7.out;omega);obtain⟨D7,cd7,rfl⟩:=Zah ho7.out;go_wp2_with (first
        | (go_at_call 28;refine(ZH.out _).mono ?_;rintro e w' ⟨rfl,nd,rfl⟩)
        | (at_builtin;refine Zcp rfl (.tmp 51) (.tmp 53) rfl 31 (.slice none 0 0) 24 Tryz.underlying75 Tryz.infoCs rfl rfl rfl (Zav (w':=wc.drewN nd) HLC2.out (fun _ _=>rfl)) HWC.out (by rfl) (by unfold maxLen;omega) (by omega) ?_;intro v' w' ho hb3 hsz3 hk3 hw3;have HO:=hid ho;have Qk:=hid hb3;have Jr:=hid hsz3;have Z8:=hid hk3;have Ua:=hid hw3;clear ho hb3 hsz3 hk3 hw3))
       go_roundw
       case rel =>
        refine⟨t+1,ls++[.slice D7 (u+c) cd7],by omega,by go_num,hid ?_⟩;exact hst.out.step hlt HLt.out HMm.out (by have:=UF.out;have:=hs7.out;omega) (fun k hk hne=>J3.out k (by have:=UF.out;omega) hne) hr7.out ho7.out (fun k hk=>by rw[UF.out];exact hw7.out k hk) HO.out Jr.out Z8.out Ua.out ((Go.below_drewN hb7.out nd).trans (Qk.out.mono hB)) Yl.out V2.out HV.out (hvlt.out (by omega))
       case measure=>simp[intOf];omega
  ·obtain rfl:t=n:=by omega
   have XA:=hid hst.out.done;have UG:=hid hst.out.rdv;have UZ:=hid hst.out.lon;have Ya:=hid hst.out.bel;have HSI:=hid hst.out.size;obtain⟨A5,c5,rfl⟩:=Zah UZ.out;clear hst;go_wp2_with fail
   go_loopw [58] (fun i wv=>∃ q:Nat,q≤t∧i=.int .i64 q∧Hid (Below wa.heap.size wa wv)) (fun i _=>t-(intOf i).toNat)
   case atStart=>exact⟨0,by omega,rfl,hid (Zab wa)⟩
   case round =>
    obtain⟨q,hq,rfl,hbw⟩:=hrel;generalize wr=wd at *;by_cases hlq:q<t
    ·obtain⟨hd1,hd2⟩:=XA.out q hlq;have JA:=hid (hd1.mono hbw.out);have HD2:=hid (hd2.mono hbw.out);obtain⟨b,o,rfl,hseg⟩:=(UG.out.mono hbw.out).at (by omega);have hcell:wd.cell? ⟨b,o+q*2+1,none⟩=some (L q):=hseg (q*2+1) _ (HLC.out q hlq);obtain⟨b5,o5,rfl,hseg5⟩:=((Zba UZ.out).mono hbw.out).at (by omega);have hlsl:ls.length=t:=by have:=UZ.out.1;omega
     have hcell5:wd.cell? ⟨b5,o5+q,none⟩=some (ls.getD q undef):=hseg5 q _ (by rw[List.getElem?_eq_getElem (by omega)];simp[List.getD,List.getElem?_eq_getElem (show q<ls.length by omega)]);have ZK:=hid hcell5;clear hseg hseg5 hd1 hd2 hlsl hcell5;generalize L q=Lq at *;generalize ls.getD q undef=lq at *;have hNq:=HN.out q;generalize N q=m at *;obtain⟨D,cd,rfl,_,_,hf1⟩:=JA.out.form;obtain⟨E,ce,rfl,_,_,hf2⟩:=HD2.out.form;have hzz:((-501-(q:Int)) != (-501-(q:Int)))=false:=by simp
     go_wp2_with fail
     go_loopw [67] (fun i wv=>∃ u:Nat,u≤m∧i=.int .i64 u∧Hid (Below wd.heap.size wd wv)) (fun i _=>m-(intOf i).toNat)
     case atStart=>exact⟨0,by omega,rfl,hid (Zab wd)⟩
     case round =>
      obtain⟨u,hu,rfl,hbv⟩:=hrel;generalize wr=we at *;by_cases hlu:u<m
      ·obtain⟨g,o1,rfl,hs1⟩:=hf1 (by omega);have hcc:∀ j,j<15→we.cell? ⟨g,o1+(u*15+j),none⟩=(ckm q)[j]?:=fun j hj=>by
        have h0:=Zwo (ckm q) m u hlu j hj;rw[Zsi,List.getElem?_eq_getElem (show j<(ckm q).length from hj)]at h0;rw[List.getElem?_eq_getElem (show j<(ckm q).length from hj)];have h1:=hs1 _ _ h0;exact(hbv.out.cell (World.block_lt_of_cell? wd _ h1)).trans h1
       obtain⟨c0,c1,c2,c3,c4,c5,c6,c7,c8,c9,c10,c11,c12,c13,c14⟩:=Zj7 hcc;clear hf1 hf2 hs1 hcc;go_upto_region 23 with fail
       have hfr:=Zbs (w:=we) (C:=#[.int .i64 (-501-(q:Int)),.int .i64 0,.int .u32 0,.int .i64 0,.int .i64 0,.bool false,.int .i64 0,.bool false,.int .i64 0,.string ⟨#[]⟩,.bool false,.int .i64 0,.string ⟨#[]⟩,.int .i64 0,.slice none 0 0]) (e:=41);have QM:=hid hfr.2;have k0:=hfr.1.cell 0;simp only[List.getElem?_cons_zero]at k0;clear hfr c0 c1 c2 c3 c4 c5 c6 c7 c8 c9 c10 c11 c12 c13 c14;generalize we.alloc (.cells #[.int .i64 (-501-(q:Int)),.int .i64 0,.int .u32 0,.int .i64 0,.int .i64 0,.bool false,.int .i64 0,.bool false,.int .i64 0,.string ⟨#[]⟩,.bool false,.int .i64 0,.string ⟨#[]⟩,.int .i64 0,.slice none 0 0] 41)=w7 at *;go_wp2_with fail
       go_roundw
       case rel=>exact⟨u+1,by omega,by go_num,hid (Zad hbv.out QM.out)⟩
       case measure=>simp[intOf];omega
      ·obtain rfl:u=m:=by omega
       clear hf1;have hcell5:we.cell? ⟨b5,o5+q,none⟩=some (.slice E (u+s) ce):=(hbv.out.cell (World.block_lt_of_cell? wd _ ZK.out)).trans ZK.out;go_wp2_with fail
       clear hcell5;go_loopw [82] (fun i wv=>∃ u2:Nat,u2≤u+s∧i=.int .i64 u2∧Hid (Below wd.heap.size wd wv)) (fun i _=>u+s-(intOf i).toNat)
       case atStart=>exact⟨0,by omega,rfl,hbv⟩
       case round =>
        clear hbv;obtain⟨u2,hu2,rfl,hbv⟩:=hrel;generalize wr=we at *;by_cases hlu2:u2<u+s
        ·obtain⟨g,o1,rfl,hs1⟩:=hf2 (by omega);have hcc:∀ j,j<15→we.cell? ⟨g,o1+(u2*15+j),none⟩=(ckm q)[j]?:=fun j hj=>by
          have h0:=Zwo (ckm q) (u+s) u2 hlu2 j hj;rw[Zsi,List.getElem?_eq_getElem (show j<(ckm q).length from hj)]at h0;rw[List.getElem?_eq_getElem (show j<(ckm q).length from hj)];have h1:=hs1 _ _ h0;exact(hbv.out.cell (World.block_lt_of_cell? wd _ h1)).trans h1
         obtain⟨c0,c1,c2,c3,c4,c5,c6,c7,c8,c9,c10,c11,c12,c13,c14⟩:=Zj7 hcc;have hi:(u2:Int)<(u:Int)+(s:Int):=by omega
         clear hf2 hs1 hcc;go_upto_region 29 with fail
         have hfr:=Zbs (w:=we) (C:=#[.int .i64 (-501-(q:Int)),.int .i64 0,.int .u32 0,.int .i64 0,.int .i64 0,.bool false,.int .i64 0,.bool false,.int .i64 0,.string ⟨#[]⟩,.bool false,.int .i64 0,.string ⟨#[]⟩,.int .i64 0,.slice none 0 0]) (e:=41);have QM:=hid hfr.2;have k0:=hfr.1.cell 0;simp only[List.getElem?_cons_zero]at k0;clear hfr c0 c1 c2 c3 c4 c5 c6 c7 c8 c9 c10 c11 c12 c13 c14;generalize we.alloc (.cells #[.int .i64 (-501-(q:Int)),.int .i64 0,.int .u32 0,.int .i64 0,.int .i64 0,.bool false,.int .i64 0,.bool false,.int .i64 0,.string ⟨#[]⟩,.bool false,.int .i64 0,.string ⟨#[]⟩,.int .i64 0,.slice none 0 0] 41)=w7 at *;go_wp2_with fail
         go_roundw
         case rel=>exact⟨u2+1,by omega,by go_num,hid (Zad hbv.out QM.out)⟩
         case measure=>simp[intOf];omega
        ·obtain rfl:u2=u+s:=by omega
         clear hf2;go_wp2_with fail
         go_roundw
         case rel=>exact⟨q+1,by omega,by go_num,hid (Zad hbw.out hbv.out)⟩
         case measure=>simp[intOf];omega
    ·obtain rfl:q=t:=by omega
     go_wp2_with fail
     go_ret;exact⟨rfl,Ya.out.trans (hbw.out.mono (Nat.le_trans hB HSI.out))⟩
end Go.Proofs.YtmcjknjlihgihaaGreatDoor
