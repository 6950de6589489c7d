/- The state of the plain walk over an image's groups. -/
import Derived.Test.YtmcjknjlihgihaaGreatDoorLawparseuptoM33
import Derived.Test.YtmcjknjlihgihaaGreatDoorLawparseuptoM35
import Derived.Test.YtmcjknjlihgihaaGreatDoorLawparseuptoM36
set_option linter.unusedVariables false
set_option linter.unusedSimpArgs false
set_option linter.unnecessarySimpa false
set_option maxRecDepth 20000
namespace Go.Proofs.YtmcjknjlihgihaaGreatDoor
open Go.RowKit
def kdX (xs:List Nat) (c:Nat):Nat:=xs.getD (16+c) 0
def Zfq (C:Nat) (xs:List Nat) (g c:Nat):List Nat:=(zE (kdX xs c) (Zap C xs g) xs (eN C xs g c)).bl
def ckX (C:Nat) (xs:List Nat) (g c:Nat):List Value:=ckVE (kdX xs c) (Zap C xs g) xs (eN C xs g c)
def Ze9 (C:Nat) (xs:List Nat) (g c:Nat):Bool:=Zh9 (kdX xs c) (Zap C xs g) xs (eN C xs g c)
structure CkN (w:World) (b:Nat) (cv:Value) (ces:List Ent) (C:Nat) (xs:List Nat) (g:Nat):Prop where
 n:Nest w b 41 15 cv ces 73 1 (fun c=>(Zfq C xs g c).length) (fun c=>u64s (Zfq C xs g c))
 hd:∀ c,c<ces.length→(ces.getD c Ent.df).1=ckX C xs g c
theorem CkN.nil (w:World) (b:Nat) (C:Nat) (xs:List Nat) (g:Nat):CkN w b (.slice none 0 0) [] C xs g:=⟨Nest.nil _ _ _ _ _ _ _ _,fun c h=>by cases h⟩
theorem CkN.below {w w':World} {b T:Nat} {cv:Value} {ces:List Ent} {C:Nat} {xs:List Nat} {g:Nat} (h:CkN w b cv ces C xs g) (hb:Below w.heap.size w w'):CkN w' b cv ces C xs g:=⟨h.n.mono hb,h.hd⟩
theorem CkN.keep {w w':World} {b:Nat} {cv:Value} {ces:List Ent} {C:Nat} {xs:List Nat} {g:Nat} (h:CkN w b cv ces C xs g)
  (hv:∀ k,cv.ownBlock=some k→w'.heap[k]? = w.heap[k]?) (hi:∀ i,i<ces.length→∀ k,(ces.getD i Ent.df).2.ownBlock=some k→w'.heap[k]? = w.heap[k]?):CkN w' b cv ces C xs g:=⟨h.n.keep hv hi,h.hd⟩
theorem CkN.push {w0 w w':World} {b:Nat} {cv v' u:Value} {ces:List Ent} {C:Nat} {xs:List Nat} {g:Nat} (h0:CkN w0 b cv ces C xs g) (hb:Below w0.heap.size w0 w) (hB:b≤w0.heap.size)
  (hu:w.ownsRow w0.heap.size 73 1 u (Zfq C xs g ces.length).length (u64s (Zfq C xs g ces.length)))
  (ho:w'.ownsRow b 41 15 v' (ces.length+1) (entV ces++(ckX C xs g ces.length++[u]))) (hk:Kp cv w w' v'):CkN w' b v' (ces++[(ckX C xs g ces.length,u)]) C xs g:=by
 refine⟨(h0.n.mono hb).push (w0:=w0) (by decide) hb.size (fun i hi k hk=>((h0.n.inn i hi).lt k hk).2) hB hu rfl rfl ho hk,fun c hc=>?_⟩;rw[Zeb];by_cases h1:c<ces.length
 ·rw[if_pos h1];exact h0.hd c h1
 ·rw[if_neg h1];have h2:c=ces.length:=by simp at hc;omega
  rw[if_pos h2,h2]
structure Gr (w:World) (B:Nat) (gv:Value) (es:List Ent) (ces:Nat→List Ent) (lo:Nat→Nat) (C:Nat) (xs:List Nat):Prop where
 own:w.ownsRow B 33 2 gv es.length (entV es)
 hd:∀ i,i<es.length→(es.getD i Ent.df).1=[.int .i64 (Zap C xs i:Nat)]
 inn:∀ i,i<es.length→CkN w (lo i) (es.getD i Ent.df).2 (ces i) C xs i∧(ces i).length=C
 low:∀ i,i≤es.length→B≤lo i
 asc:∀ i,i<es.length→lo i≤lo (i+1)
 up:∀ i,i<es.length→∀ k,(es.getD i Ent.df).2.ownBlock=some k→k<lo (i+1)
 up2:∀ i,i<es.length→∀ j,j<(ces i).length→∀ k,((ces i).getD j Ent.df).2.ownBlock=some k→k<lo (i+1)
 top:lo es.length≤w.heap.size
theorem Gr.nil (w:World) (B C:Nat) (xs:List Nat) (ces:Nat→List Ent) (lo:Nat→Nat) (h1:B≤lo 0) (h2:lo 0≤w.heap.size):Gr w B (.slice none 0 0) [] ces lo C xs :=
 ⟨by simpa [entV]using World.ownsRow_nil _ _ _ _,fun i h=>(by cases h),fun i h=>(by cases h),fun i h=>by obtain rfl:i=0:=Nat.le_zero.1 h;exact h1,fun i h=>(by cases h),fun i h=>(by cases h),fun i h=>(by cases h),h2⟩
theorem Gr.keep {w w':World} {B:Nat} {gv:Value} {es:List Ent} {ces:Nat→List Ent} {lo:Nat→Nat} {C:Nat} {xs:List Nat} (h:Gr w B gv es ces lo C xs)
  (hv:∀ k,gv.ownBlock=some k→w'.heap[k]? = w.heap[k]?)
  (h1:∀ i,i<es.length→∀ k,(es.getD i Ent.df).2.ownBlock=some k→w'.heap[k]? = w.heap[k]?)
  (h2:∀ i,i<es.length→∀ j,j<(ces i).length→∀ k,((ces i).getD j Ent.df).2.ownBlock=some k→w'.heap[k]? = w.heap[k]?) (hs:w.heap.size≤w'.heap.size):Gr w' B gv es ces lo C xs :=
 ⟨Za5 h.own hv,h.hd,fun i hi=>⟨(h.inn i hi).1.keep (h1 i hi) (h2 i hi),(h.inn i hi).2⟩,h.low,h.asc,h.up,h.up2,Nat.le_trans h.top hs⟩
theorem Gr.mono {w w':World} {B:Nat} {gv:Value} {es:List Ent} {ces:Nat→List Ent} {lo:Nat→Nat} {C:Nat} {xs:List Nat} (h:Gr w B gv es ces lo C xs) (hb:Below w.heap.size w w'):Gr w' B gv es ces lo C xs :=
 h.keep (fun k hk=>hb.block k (h.own.lt k hk).2) (fun i hi k hk=>hb.block k ((h.inn i hi).1.n.own.lt k hk).2) (fun i hi j hj k hk=>hb.block k (((h.inn i hi).1.n.inn j hj).lt k hk).2) hb.size
def Fr (t:TypeId) (w w':World):Prop:=w.heap.size≤w'.heap.size∧∀ k,k<w.heap.size→(∀ cs fl,w.heap[k]?≠some (.cells cs t fl))→w'.heap[k]? = w.heap[k]?
theorem Fr.below {t:TypeId} {w w':World} (h:Below w.heap.size w w'):Fr t w w':=⟨h.size,fun k hk _=>h.block k hk⟩
theorem Zjl {w:World} {B sz n:Nat} {e:TypeId} {v:Value} {cs:List Value} (h:w.ownsRow B e sz v n cs) (k:Nat) (hk:v.ownBlock=some k):∃ ds fl,w.heap[k]? = some (.cells ds e fl):=by
 rcases h.2 with ⟨rfl,_⟩ | ⟨g,cap,cur,rfl,_,hg,_⟩
 ·simp[Value.ownBlock]at hk
 ·simp[Value.ownBlock]at hk;subst hk;exact⟨_,_,hg⟩
theorem Zo9 {w w':World} {B sz n:Nat} {e t:TypeId} {v:Value} {cs:List Value} (h:w.ownsRow B e sz v n cs) (hf:Fr t w w') (hne:e≠t) (k:Nat) (hk:v.ownBlock=some k):w'.heap[k]? = w.heap[k]?:=by
 refine hf.2 k (h.lt k hk).2 fun ds fl he=>?_
 obtain⟨ds2,fl2,h2⟩:=Zjl h k hk;rw[h2]at he;injection he with h3
 injection h3 with _ h4
 exact hne h4
theorem Gr.fr {w w':World} {B:Nat} {gv:Value} {es:List Ent} {ces:Nat→List Ent} {lo:Nat→Nat} {C:Nat} {xs:List Nat} {t:TypeId} (h:Gr w B gv es ces lo C xs) (hf:Fr t w w') (h1:33≠t) (h2:41≠t) (h3:73≠t):Gr w' B gv es ces lo C xs :=
 h.keep (fun k hk=>Zo9 h.own hf h1 k hk) (fun i hi k hk=>Zo9 (h.inn i hi).1.n.own hf h2 k hk) (fun i hi j hj k hk=>Zo9 ((h.inn i hi).1.n.inn j hj) hf h3 k hk) hf.1
theorem Gr.push {w w':World} {B:Nat} {gv v' cv:Value} {es:List Ent} {ces:Nat→List Ent} {lo:Nat→Nat} {C:Nat} {xs:List Nat} {cs:List Ent} (h:Gr w B gv es ces lo C xs)
  (hc:CkN w (lo es.length) cv cs C xs es.length) (hl:cs.length=C)
  (ho:w'.ownsRow B 33 2 v' (es.length+1) (entV es++([Value.int .i64 (Zap C xs es.length:Nat)]++[cv]))) (hk:Kp gv w w' v') (hs:w.heap.size≤w'.heap.size) :
  Gr w' B v' (es++[([Value.int .i64 (Zap C xs es.length:Nat)],cv)]) (fun i=>if i=es.length then cs else ces i) (fun i=>if i=es.length+1 then w.heap.size else lo i) C xs:=by
 have hlen:(es++[([Value.int .i64 (Zap C xs es.length:Nat)],cv)]).length=es.length+1:=by simp
 have key:∀(B2:Nat) (z:Value) (e2:TypeId) (sz m:Nat) (ds:List Value),w.ownsRow B2 e2 sz z m ds→e2≠33→∀ k,z.ownBlock=some k→w'.heap[k]? = w.heap[k]?:=fun B2 z e2 sz m ds hz hne k hv =>
  hk.1 k (hz.lt k hv).2 fun he=>Zcr hz h.own hne k hv he.symm
 have ckk:∀(b:Nat) (c:Value) (ds:List Ent) (g:Nat),CkN w b c ds C xs g→CkN w' b c ds C xs g:=fun b c ds g hh =>
  hh.keep (fun k hv=>key _ _ _ _ _ _ hh.n.own (by decide) k hv) (fun i hi k hv=>key _ _ _ _ _ _ (hh.n.inn i hi) (by decide) k hv)
 refine⟨by rw[hlen,Zq3];exact ho,fun i hi=>?_,fun i hi=>?_,fun i hi=>?_,fun i hi=>?_,fun i hi k hv=>?_,fun i hi j hj k hv=>?_,?_⟩
 ·rw[Zeb];by_cases h1:i<es.length
  ·rw[if_pos h1];exact h.hd i h1
  ·have h2:i=es.length:=by omega
   rw[if_neg h1,if_pos h2,h2]
 ·rw[Zeb]
  try simp only
  by_cases h1:i<es.length
  ·rw[if_pos h1,if_neg (by omega),if_neg (by omega)];exact⟨ckk _ _ _ _ (h.inn i h1).1,(h.inn i h1).2⟩
  ·have h2:i=es.length:=by omega
   rw[if_neg h1,if_pos h2,if_neg (by omega),if_pos h2,h2];exact⟨ckk _ _ _ _ hc,hl⟩
 ·try simp only
  split
  ·exact Nat.le_trans (h.low es.length (Nat.le_refl _)) h.top
  ·exact h.low i (by omega)
 ·try simp only
  by_cases h1:i<es.length
  ·rw[if_neg (by omega),if_neg (by omega)];exact h.asc i h1
  ·have h2:i=es.length:=by omega
   rw[if_neg (by omega),if_pos (by omega),h2];exact h.top
 ·try simp only
  rw[Zeb]at hv;by_cases h1:i<es.length
  ·rw[if_pos h1]at hv;rw[if_neg (by omega)];exact h.up i h1 k hv
  ·have h2:i=es.length:=by omega
   rw[if_neg h1,if_pos h2]at hv;rw[if_pos (by omega)];exact(hc.n.own.lt k hv).2
 ·try simp only at hj hv ⊢
  by_cases h1:i<es.length
  ·rw[if_neg (by omega)]at hj hv;rw[if_neg (by omega)];exact h.up2 i h1 j hj k hv
  ·have h2:i=es.length:=by omega
   rw[if_pos h2]at hj hv;rw[if_pos (by omega)];exact((hc.n.inn j hj).lt k hv).2
 ·rw[hlen];simp only[if_true];exact hs
def Zgh (w:World) (B:Nat) (kv gv:Value) (xs:List Nat):Prop :=
 w.ownsRow B 3 1 kv (iC xs) (i64s (nI (iKs (iC xs) xs)))∧∃ es ces lo,es.length=iG xs∧Gr w B gv es ces lo (iC xs) xs
def Zcu (xs:List Nat):Bool:=Zf6 xs&&(List.range (iG xs)).all fun g=>(List.range (iC xs)).all fun c=>Ze9 (iC xs) xs g c
abbrev Zig:Value:=.agg #[.int .i64 0,.int .i64 0,.int .u32 0,.int .i64 0,.int .i64 0,.bool false,.int .i64 0,.bool false,.int .i64 0,.string ⟨#[]⟩,.bool false,.int .i64 0,.string ⟨#[]⟩,.int .i64 0,.slice none 0 0]
theorem Zjh {w:World} {A:Option Addr} {ca:Nat} {xs:List Nat} (h:Rd w (.slice A xs.length ca) xs.length 1 (u8s xs)) (p n:Nat) (hp:p+n≤xs.length) (hca:ca≠p) :
  Rd w (.slice (A.map fun x=>x.add p) n (ca-p)) ((xs.drop p).take n).length 1 (u8s ((xs.drop p).take n)):=by
 have h1:=(h.rear p (by omega) hca);have h2:=h1.short n (by rw[List.length_drop];omega);have hl:((xs.drop p).take n).length=n:=by rw[List.length_take,List.length_drop];omega
 rw[hl]at h2 ⊢;exact h2
theorem Zg3 {w:World} {A:Option Addr} {xs:List Nat} {p n:Nat} (hp:p+n≤xs.length) (hca:xs.length≤p):Rd w (.slice A 0 0) ((xs.drop p).take n).length 1 (u8s ((xs.drop p).take n)):=by
 have h0:(xs.drop p).take n=[]:=by rw[List.drop_of_length_le hca];simp
 rw[h0];exact Znp w A
theorem Zwt {xs:List Nat} {en:En} (h:en.off+en.len≤xs.length):(Zak xs en).length=en.len:=by unfold Zak;rw[List.length_take,List.length_drop];omega
theorem Z0h {kd rows:Nat} {xs:List Nat} (h:rOk kd rows xs=true):2≤xs.length:=by
 unfold rOk rHd at h;simp only[Bool.and_eq_true]at h;have h2:=h.1.1.1;unfold Zav at h2;rw[decide_eq_true_eq]at h2;omega
theorem Zyb {kd rows:Nat} (hk:kd=1∨kd=2) (hr:rows≤65536) (xs:List Nat):Zcl kd rows xs=if rOk kd rows xs=true then 0 else 1:=by
 unfold Zcl;have h1:Zax (kd:Int)=true:=by unfold Zax;rcases hk with rfl | rfl<;>rfl
 have h2:Zen (rows:Int)=true:=by unfold Zen;exact decide_eq_true (by omega)
 rw[h1,h2,if_pos (by rfl),Int.toNat_natCast,Int.toNat_natCast]
theorem Zfa {xs:List Nat} (hb:∀ x∈xs,x<256) (p n:Nat):∀ x∈(xs.drop p).take n,x<256:=fun x hx=>hb x (List.mem_of_mem_drop (List.mem_of_mem_take hx))
theorem Zxb {kd:Nat} (hk:kd=1∨kd=2):Zax (kd:Int)=true:=by unfold Zax;rcases hk with rfl | rfl<;>rfl
theorem Zl7 (w:World) (g:Nat) (a0 a1 a2 a3 a4 a5 a6 a7 a8 a9 a10 a11 a12 a13 a14:Value):Chg g g w (Zdn w g a0 a1 a2 a3 a4 a5 a6 a7 a8 a9 a10 a11 a12 a13 a14):=((((((((((((((((Chg.refl g g w).setCell g 0 a0 (.inl rfl)).setCell g 1 a1 (.inl rfl)).setCell g 2 a2 (.inl rfl)).setCell g 3 a3 (.inl rfl)).setCell g 4 a4 (.inl rfl)).setCell g 5 a5 (.inl rfl)).setCell g 6 a6 (.inl rfl)).setCell g 7 a7 (.inl rfl)).setCell g 8 a8 (.inl rfl)).setCell g 9 a9 (.inl rfl)).setCell g 10 a10 (.inl rfl)).setCell g 11 a11 (.inl rfl)).setCell g 12 a12 (.inl rfl)).setCell g 13 a13 (.inl rfl)).setCell g 14 a14 (.inl rfl))
theorem Zvi (w:World) (g q:Nat) (a0 a1 a2 a3 a4 a5 a6 a7 a8 a9 a10 a11 a12 a13 a14:Value) (h:q≠g):(Zdn w g a0 a1 a2 a3 a4 a5 a6 a7 a8 a9 a10 a11 a12 a13 a14).heap[q]? = w.heap[q]?:=by
 unfold Zdn
 iterate 15 rw[heap_setCell_other _ _ _ _ (by simpa using h)]
theorem Zh7 (w:World) (g q i:Nat) (a0 a1 a2 a3 a4 a5 a6 a7 a8 a9 a10 a11 a12 a13 a14:Value) (h:q≠g):(Zdn w g a0 a1 a2 a3 a4 a5 a6 a7 a8 a9 a10 a11 a12 a13 a14).cell? ⟨q,i,none⟩=w.cell? ⟨q,i,none⟩:=World.cell?_of_block (Zvi w g q a0 a1 a2 a3 a4 a5 a6 a7 a8 a9 a10 a11 a12 a13 a14 h)
theorem Zko (n:Nat) (h:n<256):IntKind.i64.wrap (n:Int)=(n:Int):=by rw[IntKind.wrap_i64];omega
set_option maxRecDepth 100000
theorem Zlk {kd rows:Nat} {xs:List Nat} (h:rOk kd rows xs=true):(Zaa rows xs).codec=xs.getD 0 0∧(Zaa rows xs).wd=xs.getD 1 0:=by
 unfold rOk rHd at h;simp only[Bool.and_eq_true]at h;have h2:=Zm2 rows xs h.1.1.1;exact⟨h2.1,h2.2.1⟩
def lbV (kd rows o l s:Nat) (xs:List Nat) (z:ZM) (b:Value):Value :=
 if sOkE kd rows xs z=true then .tuple #[.agg (ckVs o l s (xs.getD 0 0) (xs.getD 1 0) z++[b]).toArray,.bool true]else .tuple #[Zig,.bool false]
theorem Zm0 (w:World) (v:Value) (xs:List Nat) (rows o l s:Nat) (cd wd:Int) (z:ZM) (B:Option Addr) (bc:Nat) (hT:Tab w) (hv:Rd w v xs.length 1 (u8s xs)) (hb:∀ x∈xs,x<256) (hl:xs.length≤16777216) (hrr:rows≤65536)
  (hz:zOk 1 rows z=true) (hbr:Rd w (.slice B z.bl.length bc) z.bl.length 1 (u64s z.bl)) (hbv:∀ x∈z.bl,x<18446744073709551616) :
  Calls Tryz.prog 88 #[.iface 159 (.agg #[]),.int .i64 rows,v,.agg #[.int .i64 (o:Nat),.int .i64 (l:Nat),.int .u32 (s:Nat),.int .i64 cd,.int .i64 wd,.bool z.rg,.int .i64 z.nu,.bool z.mn.n,.int .i64 z.mn.i,.string z.mn.s,.bool z.mx.n,.int .i64 z.mx.i,.string z.mx.s,.int .i64 z.hs,.slice B z.bl.length bc]] w fun e w' =>
   Below w.heap.size w w'∧e=.returned (lbV 1 rows o l s xs z (.slice B z.bl.length bc)):=by
 have hf:z.bl.length≤64∧(0≤z.hs∧z.hs≤8):=by
  rcases Zfx hz with ⟨h1,h2⟩ | ⟨_,h2,h3,h4⟩
  ·rw[h1,h2];simp
  ·exact⟨h2,by omega,h4⟩
 refine(Zv1 w v xs rows o l s cd wd z B bc hT hv hb hl hrr hbr hbv hf.1 hf.2).mono ?_;rintro e w' ⟨h1,rfl⟩;refine⟨h1,?_⟩;have hm:=Zxw rows xs z hb hl hrr hz;have hm2:Zqp rows xs z=sOkE 1 rows xs z:=hm;unfold lbV;rw[hm2];cases h:sOkE 1 rows xs z
 ·rfl
 ·have h3:rOk 1 rows xs=true:=by unfold sOkE at h;simp only[Bool.and_eq_true]at h;exact h.1
  rw[(Zlk h3).1,(Zlk h3).2];rfl
theorem Zmx (w:World) (v:Value) (xs:List Nat) (rows o l s:Nat) (cd wd:Int) (z:ZM) (B:Option Addr) (bc:Nat) (hT:Tab w) (hv:Rd w v xs.length 1 (u8s xs)) (hb:∀ x∈xs,x<256) (hl:xs.length≤16777216) (hrr:rows≤65536)
  (hz:zOk 2 rows z=true) (hbr:Rd w (.slice B z.bl.length bc) z.bl.length 1 (u64s z.bl)) (hbv:∀ x∈z.bl,x<18446744073709551616) :
  Calls Tryz.prog 87 #[.iface 157 (.agg #[]),.int .i64 rows,v,.agg #[.int .i64 (o:Nat),.int .i64 (l:Nat),.int .u32 (s:Nat),.int .i64 cd,.int .i64 wd,.bool z.rg,.int .i64 z.nu,.bool z.mn.n,.int .i64 z.mn.i,.string z.mn.s,.bool z.mx.n,.int .i64 z.mx.i,.string z.mx.s,.int .i64 z.hs,.slice B z.bl.length bc]] w fun e w' =>
   Below w.heap.size w w'∧e=.returned (lbV 2 rows o l s xs z (.slice B z.bl.length bc)):=by
 have hf:z.bl.length≤64∧(0≤z.hs∧z.hs≤8):=by
  rcases Zfx hz with ⟨h1,h2⟩ | ⟨_,h2,h3,h4⟩
  ·rw[h1,h2];simp
  ·exact⟨h2,by omega,h4⟩
 refine(Zv7 w v xs rows o l s cd wd z B bc hT hv hb hl hrr hbr hbv hf.1 hf.2).mono ?_;rintro e w' ⟨h1,rfl⟩;refine⟨h1,?_⟩;have hm:=Zwr rows xs z hb hl hrr hz;have hm2:Zql rows xs z=sOkE 2 rows xs z:=hm;unfold lbV;rw[hm2];cases h:sOkE 2 rows xs z
 ·rfl
 ·have h3:rOk 2 rows xs=true:=by unfold sOkE at h;simp only[Bool.and_eq_true]at h;exact h.1
  rw[(Zlk h3).1,(Zlk h3).2];rfl
set_option maxHeartbeats 4000000 in
theorem Zkn (A:Option Addr) (ca:Nat) (xs:List Nat) (eo el:Nat) (sm cd wd:Int) (z:ZM) (B:Option Addr) (bn bc:Nat) (w:World) (hv:Rd w (.slice A xs.length ca) xs.length 1 (u8s xs)) (hl:xs.length≤16777216) (hfit:eo+el≤xs.length) :
  Calls Tryz.prog 55 #[.slice A xs.length ca,.agg #[.int .i64 (eo:Nat),.int .i64 (el:Nat),.int .u32 sm,.int .i64 cd,.int .i64 wd,.bool z.rg,.int .i64 z.nu,.bool z.mn.n,.int .i64 z.mn.i,.string z.mn.s,.bool z.mx.n,.int .i64 z.mx.i,.string z.mx.s,.int .i64 z.hs,.slice B bn bc]] w fun e w' =>
   ∃ D dc,e=.returned (.slice D el dc)∧Rd w (.slice D el dc) ((xs.drop eo).take el).length 1 (u8s ((xs.drop eo).take el))∧Below w.heap.size w w':=by
 have VE:=hid (fun(hca:ca≠eo)=>Zjh hv eo el hfit hca);have JJ:=hid (fun(hca:xs.length≤eo)=>(Zg3 (A:=A) (w:=w) hfit hca));generalize ((xs.drop eo).take el)=bx at *;obtain⟨A',ca',he,hlc,hcm,_⟩:=hv.form;injection he with e1 e2 e3
 subst e1 e3;have hca2:eo+el≤ca:=by omega
 have HHC:=hid (show (eo:Int)+(el:Int)=((eo+el:Nat):Int) by omega);obtain⟨q,hq⟩:∃ q,eo+el=q:=⟨_,rfl⟩;rw[hq]at HHC hca2 hfit;have hqq:eo≤q:=by omega
 have hqe:q-eo=el:=by omega
 have hqi:(eo:Int)+(el:Int)=(q:Int):=HHC.out;obtain⟨rg,nu,⟨mnn,mni,mns⟩,⟨mxn,mxi,mxs⟩,hs,bl⟩:=z;simp only;obtain⟨xn,hxn⟩:∃ xn,xs.length=xn:=⟨_,rfl⟩;rw[hxn]at hfit hl hlc JJ ⊢;have hQE:=hid hqe;have hb0:Below w.heap.size w (w.alloc (.cells #[.int .i64 (eo:Nat),.int .i64 (el:Nat),.int .u32 sm,.int .i64 cd,.int .i64 wd,.bool rg,.int .i64 nu,.bool mnn,.int .i64 mni,.string mns,.bool mxn,.int .i64 mxi,.string mxs,.int .i64 hs,.slice B bn bc] 41)):=(Zab w).alloc (Nat.le_refl _) _;have HB:=hid hb0;have hce:ca=eo∨ca≠eo:=by omega
 clear hv hxn hq hb0 HHC hqe;rcases hce with hce | hce
 ·have h0:el=0:=by have:=hQE.out;omega
  have HP:=hid (JJ.out (by have:=hQE.out;omega));subst hce h0;clear VE JJ;go_enter Tryz.func55,Tryz.ntmps55;go_wp2_with fail
  go_ret;exact⟨_,_,rfl,HP.out,HB.out⟩
 ·have HP:=hid (VE.out hce);clear VE JJ;go_enter Tryz.func55,Tryz.ntmps55;go_wp2_with fail
  go_ret;exact⟨_,_,by rw[hQE.out];rfl,HP.out,HB.out⟩
set_option maxRecDepth 20000
theorem Tryz.infoCkA:(Tryz.prog.info? 41).map (fun i=>(i.zero,i.size,i.bytes))=some (some (.agg [.int .i64 0,.int .i64 0,.int .u32 0,.int .i64 0,.int .i64 0,.bool false,.int .i64 0,.bool false,.int .i64 0,.string ⟨#[]⟩,.bool false,.int .i64 0,.string ⟨#[]⟩,.int .i64 0,.slice none 0 0].toArray),15,152):=by kernel_rfl
theorem Tryz.infoGrA:(Tryz.prog.info? 33).map (fun i=>(i.zero,i.size,i.bytes))=some (some (.agg [.int .i64 0,.slice none 0 0].toArray),2,32):=by kernel_rfl
theorem Tryz.infoCeA:(Tryz.prog.info? 78).map (fun i=>(i.zero,i.size,i.bytes))=some (some (.slice none 0 0),1,24):=by kernel_rfl
theorem CkN.weak {w:World} {b b':Nat} {cv:Value} {ces:List Ent} {C:Nat} {xs:List Nat} {g:Nat} (h:CkN w b cv ces C xs g) (hb:b'≤b):CkN w b' cv ces C xs g :=
 ⟨⟨Zbc h.n.own hb,fun i hi=>Zbc (h.n.inn i hi) hb,h.n.apart⟩,h.hd⟩
theorem Fr.low {t:TypeId} {w w1 w2:World} (h:Fr t w w1) (hk:∀ k,k<w.heap.size→w2.heap[k]? = w1.heap[k]?) (hs:w1.heap.size≤w2.heap.size):Fr t w w2 :=
 ⟨Nat.le_trans h.1 hs,fun k hl hn=>(hk k hl).trans (h.2 k hl hn)⟩
theorem Fr.trans {t:TypeId} {w w1 w2:World} (h:Fr t w w1) (h2:Fr t w1 w2):Fr t w w2 :=
 ⟨Nat.le_trans h.1 h2.1,fun k hl hn=>(h2.2 k (Nat.lt_of_lt_of_le hl h.1) (by rw[h.2 k hl hn];exact hn)).trans (h.2 k hl hn)⟩
theorem Fr.then {t:TypeId} {w w1 w2:World} (h:Fr t w w1) (hb:Below w1.heap.size w1 w2):Fr t w w2:=h.trans (Fr.below hb)
theorem Fr.row {t e:TypeId} {w w':World} {g:Nat} {cs:List Value} (h:Fr t w w') (hr:Row w g e cs) (hne:e≠t):Row w' g e cs:=by
 unfold Row;rw[h.2 g hr.lt (fun ds fl he=>by
  unfold Row at hr;rw[hr]at he;injection he with h1
  injection h1 with _ h2
  exact hne h2)]
 exact hr
theorem Fr.owns {t e:TypeId} {w w':World} {B sz n:Nat} {v:Value} {cs:List Value} (h:Fr t w w') (ho:w.ownsRow B e sz v n cs) (hne:e≠t):w'.ownsRow B e sz v n cs:=Za5 ho fun k hk=>Zo9 ho h hne k hk
theorem Fr.kp {t:TypeId} {w w1 w2:World} {B sz n:Nat} {v r:Value} {cs:List Value} (h:Fr t w w1) (ho:w1.ownsRow B t sz v n cs) (hk:Kp v w1 w2 r) (hs:w1.heap.size≤w2.heap.size):Fr t w w2:=by
 refine⟨Nat.le_trans h.1 hs,fun k hl hn=>?_⟩;rw[hk.1 k (Nat.lt_of_lt_of_le hl h.1) (fun he=>?_)]
 ·exact h.2 k hl hn
 ·obtain⟨ds,fl,h2⟩:=Zjl ho k he.symm;rw[h.2 k hl hn]at h2;exact hn _ _ h2
structure CeN (w:World) (B:Nat) (u:Value) (L:List Value) (C:Nat) (xs:List Nat):Prop where
 own:w.ownsRow B 78 1 u L.length L
 inn:∀ i,i<L.length→w.ownsRow B 36 3 (L.getD i undef) (Zap C xs (i/C)) (Zd7 (kdX xs (i%C)) (Zap C xs (i/C)) (Zak xs (eI C xs i)))
theorem CeN.nil (w:World) (B C:Nat) (xs:List Nat):CeN w B (.slice none 0 0) [] C xs:=⟨World.ownsRow_nil _ _ _ _,fun i h=>by cases h⟩
theorem CeN.keep {w w':World} {B:Nat} {u:Value} {L:List Value} {C:Nat} {xs:List Nat} (h:CeN w B u L C xs) (h1:∀ k,u.ownBlock=some k→w'.heap[k]? = w.heap[k]?)
  (h2:∀ i,i<L.length→∀ k,(L.getD i undef).ownBlock=some k→w'.heap[k]? = w.heap[k]?):CeN w' B u L C xs:=⟨Za5 h.own h1,fun i hi=>Za5 (h.inn i hi) (h2 i hi)⟩
theorem CeN.mono {w w':World} {B:Nat} {u:Value} {L:List Value} {C:Nat} {xs:List Nat} (h:CeN w B u L C xs) (hb:Below w.heap.size w w'):CeN w' B u L C xs :=
 h.keep (fun k hk=>hb.block k (h.own.lt k hk).2) (fun i hi k hk=>hb.block k ((h.inn i hi).lt k hk).2)
theorem CeN.kp {w w':World} {B B2 sz n:Nat} {u v r:Value} {L ds:List Value} {C:Nat} {xs:List Nat} {t:TypeId} (h:CeN w B u L C xs) (ho:w.ownsRow B2 t sz v n ds) (h1:78≠t) (h2:36≠t) (hk:Kp v w w' r):CeN w' B u L C xs :=
 h.keep (fun k hv=>hk.1 k (h.own.lt k hv).2 (fun he=>Zcr h.own ho h1 k hv he.symm)) (fun i hi k hv=>hk.1 k ((h.inn i hi).lt k hv).2 (fun he=>Zcr (h.inn i hi) ho h2 k hv he.symm))
theorem CeN.var {w:World} {B g i:Nat} {u v:Value} {L ds:List Value} {C:Nat} {xs:List Nat} {t:TypeId} (h:CeN w B u L C xs) (hr:Row w g t ds) (h1:78≠t) (h2:36≠t):CeN (w.setCell ⟨g,i,none⟩ v) B u L C xs :=
 h.keep (fun k hk=>heap_setCell_other _ _ _ _ (by simpa using Zc5 h.own hr h1 k hk)) (fun j hj k hk=>heap_setCell_other _ _ _ _ (by simpa using Zc5 (h.inn j hj) hr h2 k hk))
theorem CeN.push {w w':World} {B:Nat} {u u' x:Value} {L:List Value} {C:Nat} {xs:List Nat} (h:CeN w B u L C xs)
  (hx:w.ownsRow B 36 3 x (Zap C xs (L.length/C)) (Zd7 (kdX xs (L.length%C)) (Zap C xs (L.length/C)) (Zak xs (eI C xs L.length))))
  (ho:w'.ownsRow B 78 1 u' (L.length+1) (L++[x])) (hk:Kp u w w' u'):CeN w' B u' (L++[x]) C xs:=by
 have hlen:(L++[x]).length=L.length+1:=by simp
 have key:∀(z:Value) (m:Nat) (cs:List Value),w.ownsRow B 36 3 z m cs→w'.ownsRow B 36 3 z m cs:=fun z m cs hz =>
  Za5 hz fun k hv=>hk.1 k (hz.lt k hv).2 fun he=>Zcr hz h.own (by decide) k hv he.symm
 refine⟨by rw[hlen];exact ho,fun i hi=>?_⟩;by_cases h1:i<L.length
 ·have e:(L++[x]).getD i undef=L.getD i undef:=by simp[List.getD,List.getElem?_append_left h1]
  rw[e];exact key _ _ _ (h.inn i h1)
 ·obtain rfl:i=L.length:=by omega
  have e:(L++[x]).getD L.length undef=x:=by simp[List.getD]
  rw[e];exact key _ _ _ hx
structure InS (w wr:World) (p0 pim pg C:Nat) (xs:List Nat) (j:Nat) (cv u:Value) (cs:List Ent) (L:List Value) (wv:World):Prop where
 fr:Fr 78 wr wv
 g:Row wv pg 33 [.int .i64 (Zap C xs j:Nat),cv]
 ck:CkN wv (pg+1) cv cs C xs j
 ce:CeN wv (pim+1) u L C xs
 len:L.length=j*C+cs.length
 all:∀ c,c<cs.length→Ze9 C xs j c=true
 bel:Below p0 w wv
 h1:wr.heap.size≤pg
 h2:pg<wv.heap.size
 h3:p0<pim
 h4:pim<wr.heap.size
theorem InS.mono {w wr wv wq:World} {p0 pim pg C:Nat} {xs:List Nat} {j:Nat} {cv u:Value} {cs:List Ent} {L:List Value} (h:InS w wr p0 pim pg C xs j cv u cs L wv) (hb:Below wv.heap.size wv wq):InS w wr p0 pim pg C xs j cv u cs L wq:=by
 have h1:=h.h1;have h2:=h.h2;have h3:=h.h3;have h4:=h.h4;have h5:=h.fr.1;exact⟨h.fr.then hb,h.g.mono hb,h.ck.below (T:=0) hb,h.ce.mono hb,h.len,h.all,h.bel.trans (hb.mono (by omega)),h1,Nat.lt_of_lt_of_le h2 hb.size,h3,h4⟩
theorem InS.chunk {w wr wv w1 w3:World} {p0 pim pg C:Nat} {xs:List Nat} {j:Nat} {cv u v' bv:Value} {cs:List Ent} {L:List Value} (h:InS w wr p0 pim pg C xs j cv u cs L wv) (hb:Below wv.heap.size wv w1) (hok:Ze9 C xs j cs.length=true)
  (hbv:w1.ownsRow wv.heap.size 73 1 bv (Zfq C xs j cs.length).length (u64s (Zfq C xs j cs.length)))
  (ho:w3.ownsRow (pg+1) 41 15 v' (cs.length+1) (entV cs++(ckX C xs j cs.length++[bv]))) (h3:Below (pg+1) w1 w3) (hs:w1.heap.size≤w3.heap.size) (hk:Kp cv w1 w3 v') :
  Fr 78 wr (w3.setCell ⟨pg,1,none⟩ v')∧Row (w3.setCell ⟨pg,1,none⟩ v') pg 33 [.int .i64 (Zap C xs j:Nat),v'] ∧
   CkN (w3.setCell ⟨pg,1,none⟩ v') (pg+1) v' (cs++[(ckX C xs j cs.length,bv)]) C xs j∧CeN (w3.setCell ⟨pg,1,none⟩ v') (pim+1) u L C xs ∧
   (∀ c,c<(cs++[(ckX C xs j cs.length,bv)]).length→Ze9 C xs j c=true)∧Below p0 w (w3.setCell ⟨pg,1,none⟩ v'):=by
 have e1:=h.h1;have e2:=h.h2;have e3:=h.h3;have e4:=h.h4;have e5:=h.fr.1;have hm:=h.mono hb;have hg3:Row w3 pg 33 [.int .i64 (Zap C xs j:Nat),cv]:=hm.g.below h3 (by omega);have hcn:CkN w3 (pg+1) v' (cs++[(ckX C xs j cs.length,bv)]) C xs j:=h.ck.push hb (by omega) hbv ho hk;have hce:=hm.ce.kp hm.ck.n.own (by decide) (by decide) hk;refine⟨(hm.fr.low (fun k hk=>h3.block k (by omega)) hs).low (fun k hk=>heap_setCell_other _ _ _ _ (by simp;omega)) (by simp),hg3.set 1 v',?_,hce.var hg3 (by decide) (by decide),fun c hc=>?_,Zad (hm.bel.trans (h3.mono (by omega))) _ _ _ (by omega)⟩
 ·exact hcn.keep (fun k hk=>heap_setCell_other _ _ _ _ (by simpa using Zc5 hcn.n.own hg3 (by decide) k hk)) (fun i hi k hk=>heap_setCell_other _ _ _ _ (by simpa using Zc5 (hcn.n.inn i hi) hg3 (by decide) k hk))
 ·by_cases hc2:c<cs.length
  ·exact h.all c hc2
  ·have:c=cs.length:=by simp at hc;omega
   rw[this];exact hok
theorem InS.cells {w wr wA w2:World} {p0 pim pg C:Nat} {xs:List Nat} {j:Nat} {v' u u' x:Value} {cs:List Ent} {L:List Value} (hf:Fr 78 wr wA) (hg:Row wA pg 33 [.int .i64 (Zap C xs j:Nat),v'])
  (hc:CkN wA (pg+1) v' cs C xs j) (he:CeN wA (pim+1) u L C xs) (hall:∀ c,c<cs.length→Ze9 C xs j c=true) (hbel:Below p0 w wA) (hlen:L.length+1=j*C+cs.length)
  (h1:wr.heap.size≤pg) (h3:p0<pim) (h4:pim<wr.heap.size) (hx:wA.ownsRow (pim+1) 36 3 x (Zap C xs (L.length/C)) (Zd7 (kdX xs (L.length%C)) (Zap C xs (L.length/C)) (Zak xs (eI C xs L.length))))
  (ho:w2.ownsRow (pim+1) 78 1 u' (L.length+1) (L++[x])) (hb:Below (pim+1) wA w2) (hs:wA.heap.size≤w2.heap.size) (hk:Kp u wA w2 u'):InS w wr p0 pim pg C xs j v' u' cs (L++[x]) w2:=by
 refine⟨hf.kp he.own hk hs,?_,hc.keep (fun k hv=>hk.1 k (hc.n.own.lt k hv).2 (fun e=>Zcr hc.n.own he.own (by decide) k hv e.symm)) (fun i hi k hv=>hk.1 k ((hc.n.inn i hi).lt k hv).2 (fun e=>Zcr (hc.n.inn i hi) he.own (by decide) k hv e.symm)),he.push hx ho hk,by simp;omega,hall,hbel.trans (hb.mono (by omega)),h1,Nat.lt_of_lt_of_le hg.lt hs,h3,h4⟩;unfold Row;rw[hk.1 pg hg.lt (fun e=>Zc5 he.own hg (by decide) pg e.symm rfl)];exact hg
theorem Gr.under {w w':World} {B:Nat} {gv:Value} {es:List Ent} {ces:Nat→List Ent} {lo:Nat→Nat} {C:Nat} {xs:List Nat} (h:Gr w B gv es ces lo C xs) (hk:∀ k,B≤k→k<w.heap.size→w'.heap[k]? = w.heap[k]?) (hs:w.heap.size≤w'.heap.size):Gr w' B gv es ces lo C xs :=
 h.keep (fun k hv=>hk k (h.own.lt k hv).1 (h.own.lt k hv).2)
  (fun i hi k hv=>by
   have h1:=(h.inn i hi).1.n.own.lt k hv;have h2:=h.low i (Nat.le_of_lt hi);exact hk k (by omega) h1.2)
  (fun i hi j hj k hv=>by
   have h1:=((h.inn i hi).1.n.inn j hj).lt k hv;have h2:=h.low i (Nat.le_of_lt hi);exact hk k (by omega) h1.2) hs
structure WhS (w:World) (p0 pim C:Nat) (xs:List Nat) (kv gv u:Value) (es:List Ent) (ces:Nat→List Ent) (lo:Nat→Nat) (L:List Value) (wr:World):Prop where
 res:Row wr p0 26 [.slice none 0 0,.slice none 0 0]
 im:Row wr pim 26 [kv,gv]
 kin:wr.ownsRow (pim+1) 3 1 kv C (i64s (nI (iKs C xs)))
 gs:Gr wr (pim+1) gv es ces lo C xs
 ce:CeN wr (pim+1) u L C xs
 bel:Below p0 w wr
 len:L.length=es.length*C
 all:∀ g,g<es.length→∀ c,c<C→Ze9 C xs g c=true
 h1:p0<pim
 h2:pim<wr.heap.size
theorem WhS.inner {w:World} {p0 pim C:Nat} {xs:List Nat} {kv gv u:Value} {es:List Ent} {ces:Nat→List Ent} {lo:Nat→Nat} {L:List Value} {wr:World} (h:WhS w p0 pim C xs kv gv u es ces lo L wr) :
  InS w wr p0 pim wr.heap.size C xs es.length (.slice none 0 0) u [] L (wr.alloc (.cells #[.int .i64 (Zap C xs es.length:Nat),.slice none 0 0] 33)):=by
 have hf:=Zbe (w:=wr) (C:=#[.int .i64 (Zap C xs es.length:Nat),.slice none 0 0]) (e:=33);have h1:=h.h1;have h2:=h.h2;exact⟨Fr.below hf.2,hf.1,CkN.nil _ _ _ _ _,h.ce.mono hf.2,by simpa using h.len,fun c hc=>(by cases hc),h.bel.trans (hf.2.mono (by omega)),Nat.le_refl _,by simp,h1,h2⟩
theorem WhS.group {w:World} {p0 pim pg C:Nat} {xs:List Nat} {kv gv u u' v' cv:Value} {es cs:List Ent} {ces:Nat→List Ent} {lo:Nat→Nat} {L L':List Value} {wr wv w3:World} (h:WhS w p0 pim C xs kv gv u es ces lo L wr)
  (hi:InS w wr p0 pim pg C xs es.length cv u' cs L' wv) (hl:cs.length=C)
  (ho:w3.ownsRow (pim+1) 33 2 v' (es.length+1) (entV es++([Value.int .i64 (Zap C xs es.length:Nat)]++[cv]))) (hb:Below (pim+1) wv w3) (hs:wv.heap.size≤w3.heap.size) (hk:Kp gv wv w3 v') :
  ∃ es2 ces2 lo2,es2.length=es.length+1∧WhS w p0 pim C xs kv v' u' es2 ces2 lo2 L' (w3.setCell ⟨pim,1,none⟩ v'):=by
 have h1:=h.h1;have h2:=h.h2;have e1:=hi.h1;have e2:=hi.h2;have e5:=hi.fr.1;have gsv:=h.gs.fr hi.fr (by decide) (by decide) (by decide);have hlo:lo es.length≤pg+1:=by have:=h.gs.top;omega
 have hp:=gsv.push (hi.ck.weak hlo) hl ho hk hs;have imv:=hi.fr.row h.im (by decide);have resv:=hi.fr.row h.res (by decide);have im3:=imv.below hb (by omega);have res3:=resv.below hb (by omega);have kinv:=hi.fr.owns h.kin (by decide);have kin3:w3.ownsRow (pim+1) 3 1 kv C (i64s (nI (iKs C xs))):=Za5 kinv fun k hv=>hk.1 k (kinv.lt k hv).2 (fun he=>Zcr kinv gsv.own (by decide) k hv he.symm)
 have ce3:=hi.ce.kp gsv.own (by decide) (by decide) hk;refine⟨_,_,_,by simp,⟨Zam res3 (by omega),im3.set 1 v',?_,hp.under (fun k h3 h4=>heap_setCell_other _ _ _ _ (by simp;omega)) (by simp),ce3.var im3 (by decide) (by decide),?_,?_,?_,h1,?_⟩⟩
 ·exact Za5 kin3 fun k hv=>heap_setCell_other _ _ _ _ (by have:=(kin3.lt k hv).1;simp;omega)
 ·exact Zad (hi.bel.trans (hb.mono (by omega))) _ _ _ (by omega)
 ·rw[hi.len,hl];simp[Nat.add_mul]
 ·intro g hg c hc;by_cases hgl:g<es.length
  ·exact h.all g hgl c hc
  ·have:g=es.length:=by simp at hg;omega
   rw[this];exact hi.all c (by omega)
 ·simp;omega
structure KdS (w:World) (p0 pim:Nat) (xs:List Nat) (k:Nat) (kv:Value) (wr:World):Prop where
 res:Row wr p0 26 [.slice none 0 0,.slice none 0 0]
 im:Row wr pim 26 [kv,.slice none 0 0]
 kin:wr.ownsRow (pim+1) 3 1 kv k (i64s (nI ((xs.drop 16).take k)))
 bel:Below p0 w wr
 h1:p0<pim
 h2:pim<wr.heap.size
theorem KdS.mono {w wr wq:World} {p0 pim:Nat} {xs:List Nat} {k:Nat} {kv:Value} (h:KdS w p0 pim xs k kv wr) (hb:Below wr.heap.size wr wq):KdS w p0 pim xs k kv wq :=
 ⟨h.res.mono hb,h.im.mono hb,Zah h.kin hb,h.bel.trans (hb.mono (by have:=h.h1;have:=h.h2;omega)),h.h1,Nat.lt_of_lt_of_le h.h2 hb.size⟩
theorem KdS.push {w wq w9:World} {p0 pim:Nat} {xs:List Nat} {k kd:Nat} {kv v9:Value} (h:KdS w p0 pim xs k kv wq) (hb:Below (pim+1) wq w9)
  (ho:w9.ownsRow (pim+1) 3 1 v9 (k+1) (i64s (nI ((xs.drop 16).take k))++[.int .i64 (kd:Nat)])) (hk:(xs.drop 16).take (k+1)=(xs.drop 16).take k++[kd]):KdS w p0 pim xs (k+1) v9 (w9.setCell ⟨pim,0,none⟩ v9):=by
 have h1:=h.h1;have h2:=h.h2;have im9:=(h.im.below hb (by omega)).set 0 v9;refine⟨Zam (h.res.below hb (by omega)) (by omega),im9,?_,Zad (h.bel.trans (hb.mono (by omega))) _ _ _ (by omega),h1,im9.lt⟩;rw[hk,Zek,Ze5];exact Za5 ho fun k2 hv=>heap_setCell_other _ _ _ _ (by have:=(ho.lt k2 hv).1;simp;omega)
theorem KdS.start {w wr:World} {p0 pim C:Nat} {xs:List Nat} {kv:Value} (h:KdS w p0 pim xs C kv wr) (hk:(xs.drop 16).take C=iKs C xs) (ces:Nat→List Ent):WhS w p0 pim C xs kv (.slice none 0 0) (.slice none 0 0) [] ces (fun _=>pim+1) [] wr:=by
 have h1:=h.h1;have h2:=h.h2;exact⟨h.res,h.im,by rw[← hk];exact h.kin,Gr.nil _ _ _ _ _ _ (Nat.le_refl _) (by omega),CeN.nil _ _ _ _,h.bel,by simp,fun g hg=>(by cases hg),h1,h2⟩
theorem Zpj (C:Nat) (xs:List Nat) (g c:Nat):∃(o l s cd wd:Nat) (z:ZM),ckX C xs g c=ckVs o l s cd wd z∧ckVE (kdX xs c) (Zap C xs g) xs (eN C xs g c)=ckVs o l s cd wd z∧zE (kdX xs c) (Zap C xs g) xs (eN C xs g c)=z∧Zfq C xs g c=z.bl:=⟨_,_,_,_,_,_,rfl,rfl,rfl,rfl⟩
theorem Gr.weak {w:World} {B B':Nat} {gv:Value} {es:List Ent} {ces:Nat→List Ent} {lo:Nat→Nat} {C:Nat} {xs:List Nat} (h:Gr w B gv es ces lo C xs) (hb:B'≤B):Gr w B' gv es ces lo C xs :=
 ⟨Zbc h.own hb,h.hd,h.inn,fun i hi=>Nat.le_trans hb (h.low i hi),h.asc,h.up,h.up2,h.top⟩
theorem CeN.weak {w:World} {B B':Nat} {u:Value} {L:List Value} {C:Nat} {xs:List Nat} (h:CeN w B u L C xs) (hb:B'≤B):CeN w B' u L C xs:=⟨Zbc h.own hb,fun i hi=>Zbc (h.inn i hi) hb⟩
theorem WhS.fin {w:World} {p0 pim C:Nat} {xs:List Nat} {kv gv u:Value} {es:List Ent} {ces:Nat→List Ent} {lo:Nat→Nat} {L:List Value} {wr:World} (h:WhS w p0 pim C xs kv gv u es ces lo L wr) (b:Nat) (hb:b≤p0) (a1 a2:Value) :
  ((wr.setCell ⟨p0,0,none⟩ a1).setCell ⟨p0,1,none⟩ a2).ownsRow b 3 1 kv C (i64s (nI (iKs C xs)))∧Gr ((wr.setCell ⟨p0,0,none⟩ a1).setCell ⟨p0,1,none⟩ a2) b gv es ces lo C xs∧CeN ((wr.setCell ⟨p0,0,none⟩ a1).setCell ⟨p0,1,none⟩ a2) b u L C xs ∧
   Below p0 w ((wr.setCell ⟨p0,0,none⟩ a1).setCell ⟨p0,1,none⟩ a2)∧Row ((wr.setCell ⟨p0,0,none⟩ a1).setCell ⟨p0,1,none⟩ a2) p0 26 [a1,a2]:=by
 have h1:=h.h1;have key:∀ k,pim+1≤k→((wr.setCell ⟨p0,0,none⟩ a1).setCell ⟨p0,1,none⟩ a2).heap[k]? = wr.heap[k]?:=fun k hk=>by
  rw[heap_setCell_other _ _ _ _ (by simp;omega),heap_setCell_other _ _ _ _ (by simp;omega)]
 refine⟨Zbc (Za5 h.kin fun k hv=>key k (h.kin.lt k hv).1) (by omega),(h.gs.under (fun k hk _=>key k hk) (by simp)).weak (by omega),?_,Zad (Zad h.bel _ _ _ (Nat.le_refl _)) _ _ _ (Nat.le_refl _),(h.res.set 0 a1).set 1 a2⟩;exact(h.ce.keep (fun k hv=>key k (h.ce.own.lt k hv).1) (fun i hi k hv=>key k ((h.ce.inn i hi).lt k hv).1)).weak (by omega)
end Go.Proofs.YtmcjknjlihgihaaGreatDoor
