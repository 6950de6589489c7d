/- Package chunk: neighbours of a list of values, both kinds. -/
import Derived.Deep.RegionWith
import Derived.Laws.Cover1
import Derived.Test.YtmcjknjlihgihaaGreatDoorLawfreshlistsuptoM0
set_option linter.unusedVariables false
set_option linter.unusedSimpArgs false
set_option linter.unnecessarySimpa false
set_option maxRecDepth 512
namespace Go.Proofs.YtmcjknjlihgihaaGreatDoor
open Go.RowKit
def u8 (n:Nat):Value:=.int .u8 (n:Int)
def u8s (xs:List Nat):List Value:=xs.map u8
theorem Zdz (xs:List Nat):(u8s xs).length=xs.length:=by simp[u8s]
theorem Zxy (xs:List Nat) (i:Nat) (h:i<xs.length):(u8s xs)[i]? = some (.int .u8 ((xs.getD i 0:Nat):Int)):=by
 simp[u8s,u8,List.getElem?_eq_getElem h,List.getD]
theorem Znc (xs ys:List Nat):u8s (xs++ys)=u8s xs++u8s ys:=by simp[u8s]
theorem Seg.byte {w:World} {b o:Nat} {xs:List Nat} (h:Seg w b o (u8s xs)) (i:Nat) (hi:i<xs.length):w.cell? ⟨b,o+i,none⟩=some (.int .u8 ((xs.getD i 0:Nat):Int)) :=
 h i _ (Zxy xs i hi)
structure Chg (a b:Nat) (w w':World):Prop where
 os:w'.os=w.os
 tape:w'.tape=w.tape
 output:w'.output=w.output
 size:w.heap.size≤w'.heap.size
 block:∀ k,k<w.heap.size→k≠a→k≠b→w'.heap[k]? = w.heap[k]?
theorem Chg.refl (a b:Nat) (w:World):Chg a b w w:=⟨rfl,rfl,rfl,Nat.le_refl _,fun _ _ _ _=>rfl⟩
theorem Chg.trans {a b:Nat} {x y z:World} (h:Chg a b x y) (k:Chg a b y z):Chg a b x z :=
 ⟨k.os.trans h.os,k.tape.trans h.tape,k.output.trans h.output,Nat.le_trans h.size k.size,fun i hi h1 h2=>(k.block i (Nat.lt_of_lt_of_le hi h.size) h1 h2).trans (h.block i hi h1 h2)⟩
theorem Chg.of_below {a b:Nat} {w w':World} (h:Below w.heap.size w w'):Chg a b w w':=⟨h.os,h.tape,h.output,h.size,fun k hk _ _=>h.block k hk⟩
theorem Chg.drewN {a b:Nat} {w w':World} (h:Chg a b w w') (n:Nat):Chg a b w (w'.drewN n):=h.trans (Chg.of_below (Zag (Zab w') n))
theorem Chg.setCell {a b:Nat} {w w':World} (h:Chg a b w w') (g o:Nat) (v:Value) (hg:g=a∨g=b):Chg a b w (w'.setCell ⟨g,o,none⟩ v) :=
 ⟨by rw[← h.os];rfl,by rw[← h.tape];rfl,by rw[← h.output];rfl,by simpa [World.setCell]using h.size,fun k hk h1 h2=>by
  rw[heap_setCell_other w' ⟨g,o,none⟩ k v (by rcases hg with rfl | rfl<;>simpa)];exact h.block k hk h1 h2⟩
theorem Chg.wide {a b:Nat} {w w':World} (h:Chg a a w w'):Chg a b w w':=⟨h.os,h.tape,h.output,h.size,fun k hk h1 _=>h.block k hk h1 h1⟩
theorem Chg.wide' {a b:Nat} {w w':World} (h:Chg b b w w'):Chg a b w w':=⟨h.os,h.tape,h.output,h.size,fun k hk _ h1=>h.block k hk h1 h1⟩
theorem Chg.below {a b B:Nat} {w0 w w':World} (h:Chg a b w w') (h0:Below B w0 w) (hB:B≤w.heap.size) (ha:B≤a) (hb:B≤b):Below B w0 w' :=
 h0.trans ⟨h.os,h.tape,h.output,h.size,fun k hk=>h.block k (by omega) (by omega) (by omega)⟩
theorem Chg.then_below {a b p:Nat} {x y z:World} (h:Chg a b x y) (k:Below p y z) (hp:x.heap.size≤p):Chg a b x z :=
 ⟨k.os.trans h.os,k.tape.trans h.tape,k.output.trans h.output,Nat.le_trans h.size k.size,fun i hi h1 h2=>(k.block i (Nat.lt_of_lt_of_le hi hp)).trans (h.block i hi h1 h2)⟩
theorem Chg.row {a b:Nat} {w w':World} (h:Chg a b w w') {k:Nat} {e:TypeId} {cs:List Value} (hr:Row w k e cs) (h1:k≠a) (h2:k≠b):Row w' k e cs:=by
 unfold Row;rw[h.block k hr.lt h1 h2];exact hr
theorem Chg.cell {a b:Nat} {w w':World} (h:Chg a b w w') (k o:Nat) (hk:k<w.heap.size) (h1:k≠a) (h2:k≠b):w'.cell? ⟨k,o,none⟩=w.cell? ⟨k,o,none⟩ :=
 World.cell?_of_block (w:=w) (h.block k hk h1 h2)
theorem Row.drewN {w:World} {g:Nat} {e:TypeId} {cs:List Value} (h:Row w g e cs) (n:Nat):Row (w.drewN n) g e cs:=h.mono (Zag (Zab w) n)
set_option maxHeartbeats 400000 in
theorem Zf7 (v:Value) (xs:List Nat) (w:World) (hx:Rd w v xs.length 1 (u8s xs)) (hl:xs.length≤8) (hv:∀ x∈xs,x<256) :
  Calls Tryz.prog 121 #[v] w fun e w'=>e=.returned (.int .u64 (L.wordOf 8 xs:Nat))∧w'=w:=by
 obtain⟨A,ca,rfl,hlc,hcm,hA⟩:=hx.form;clear hx;go_enter Tryz.func121,Tryz.ntmps121;go_wp2;go_loop [3,8] (fun u i=>∃ j:Nat,j≤xs.length∧i=.int .i64 j∧u=.int .u64 (L.wordOf 8 (xs.take j):Nat)) (fun _ i=>xs.length-(intOf i).toNat)
 case atStart=>exact⟨0,by omega,rfl,by simp[L.wordOf]⟩
 case round =>
  obtain⟨j,hj,rfl,rfl⟩:=hrel;have hlt64:L.wordOf 8 (xs.take j)<2^(8*j):=by
   have:=L.wordOf_lt 8 (xs.take j) fun x hx=>hv x (List.mem_of_mem_take hx)
   rwa [List.length_take,Nat.min_eq_left hj]at this
  by_cases hlt:j<xs.length
  ·obtain⟨b,o,rfl,hs⟩:=hA (by omega);have c1:=hs.byte j hlt;have hvj:xs.getD j 0<2^8:=hv _ (by simp[List.getD,List.getElem?_eq_getElem hlt]);have hsn:L.wordOf 8 (xs.take (j+1))=L.wordOf 8 (xs.take j)+xs.getD j 0*2^(8*j):=by
    rw[List.take_succ_eq_append_getElem hlt,L.wordOf_snoc,List.length_take,Nat.min_eq_left hj];simp[List.getD,List.getElem?_eq_getElem hlt]
   have HO:=hid (Zxf (L.wordOf 8 (xs.take j)) (xs.getD j 0) 8 j hlt64 hvj (by omega));rw[← hsn]at HO;obtain⟨q,hq⟩:∃ q,8*j=q:=⟨_,rfl⟩;have hq':(8:Int)*(j:Int)=(q:Int):=by rw[← hq];simp
   have hq64:q≤64:=by omega
   rw[Nat.mul_comm j 8,hq]at HO;have hvj':xs.getD j 0<256:=hvj;clear hq hsn hA hs hv hvj hlt64;generalize xs.getD j 0=p at *;generalize L.wordOf 8 (xs.take j)=a at *;go_wp2;go_round
   case rel=>exact⟨j+1,by omega,by go_num,by rw[HO.out]⟩
   case measure=>simp[intOf];omega
  ·go_wp2;go_ret;rw[show j=xs.length from by omega,List.take_length];exact⟨rfl,rfl⟩
def tk (n:Nat) (xs:List Nat):List Nat:=if n≤xs.length then xs.take n else []
def tkL (n:Nat) (xs:List Nat):List Nat:=if n≤xs.length then xs.drop n else []
def tkS (n:Nat) (xs:List Nat) (s:Bool):Bool:=if n≤xs.length then s else true
set_option maxRecDepth 20000
def Zap (w0 w:World) (g:Nat) (xs:List Nat) (s:Bool):Prop :=
 w0.heap.size≤g∧Below w0.heap.size w0 w∧∃ v,Row w g 189 [v,.bool s]∧Rd w0 v xs.length 1 (u8s xs)
theorem Zap.row {w0 w:World} {g:Nat} {xs:List Nat} {s:Bool} (h:Zap w0 w g xs s):∃ v,Row w g 189 [v,.bool s]∧Rd w0 v xs.length 1 (u8s xs):=h.2.2
theorem Zap.mono {w0 w w':World} {g:Nat} {xs:List Nat} {s:Bool} (h:Zap w0 w g xs s) (hb:Below w.heap.size w w'):Zap w0 w' g xs s:=by
 obtain⟨h1,h2,v,hr,hv⟩:=h;exact⟨h1,Zad h2 hb,v,hr.mono hb,hv⟩
theorem Zap.chg {w0 w w':World} {g a b:Nat} {xs:List Nat} {s:Bool} (h:Zap w0 w g xs s) (hc:Chg a b w w') (h1:g≠a) (h2:g≠b) (ha:w0.heap.size≤a) (hb:w0.heap.size≤b):Zap w0 w' g xs s:=by
 obtain⟨h3,h4,v,hr,hv⟩:=h;exact⟨h3,hc.below h4 h4.size ha hb,v,hc.row hr h1 h2,hv⟩
theorem Zap.lt {w0 w:World} {g:Nat} {xs:List Nat} {s:Bool} (h:Zap w0 w g xs s):g<w.heap.size:=by
 obtain⟨_,_,v,hr,_⟩:=h;exact hr.lt
theorem Zny (xs:List Nat) (n:Nat):(u8s xs).take n=u8s (xs.take n):=by simp[u8s,List.map_take]
theorem Ztn (xs:List Nat) (n:Nat):(u8s xs).drop n=u8s (xs.drop n):=by simp[u8s,List.map_drop]
theorem Znd (w:World) (A:Option Addr):Rd w (.slice A 0 0) 0 1 []:=⟨rfl,.inl ⟨⟨A,rfl⟩,rfl⟩⟩
theorem Rd.front {w:World} {A:Option Addr} {ca:Nat} {xs:List Nat} (h:Rd w (.slice A xs.length ca) xs.length 1 (u8s xs)) (n:Nat) (hn:n≤xs.length) :
  Rd w (.slice A n n) (xs.take n).length 1 (u8s (xs.take n)):=by
 have hl:(xs.take n).length=n:=by rw[List.length_take];omega
 rw[hl];refine⟨by rw[Zdz,hl];omega,?_⟩;rcases h.2 with ⟨⟨A',e⟩,h0⟩ | ⟨b,o,cap,e,h1,h2,hs⟩
 ·obtain rfl:n=0:=by omega
  exact .inl ⟨⟨A,rfl⟩,rfl⟩
 ·cases e;refine .inr ⟨b,o,n,rfl,Nat.le_refl _,by omega,fun i v hv=>hs i v ?_⟩;rw[← Zny,List.getElem?_take]at hv
  split at hv
  ·exact hv
  ·cases hv
theorem Rd.rear {w:World} {A:Option Addr} {ca:Nat} {xs:List Nat} (h:Rd w (.slice A xs.length ca) xs.length 1 (u8s xs)) (n:Nat) (hn:n≤xs.length) (hne:ca≠n) :
  Rd w (.slice (A.map fun x=>x.add n) (xs.length-n) (ca-n)) (xs.drop n).length 1 (u8s (xs.drop n)):=by
 have hl:(xs.drop n).length=xs.length-n:=by simp
 rw[hl];refine⟨by rw[Zdz,hl];omega,?_⟩;rcases h.2 with ⟨⟨A',e⟩,h0⟩ | ⟨b,o,cap,e,h1,h2,hs⟩
 ·simp only[Value.slice.injEq]at e;omega
 ·cases e;refine .inr ⟨b,o+n,ca-n,by simp[Zdn],by omega,by omega,fun i v hv=>?_⟩;rw[← Ztn,List.getElem?_drop]at hv;have:=hs (n+i) v hv
  rwa [← Nat.add_assoc]at this
theorem Rd.rear0 {w:World} {A:Option Addr} {ca:Nat} {xs:List Nat} (h:Rd w (.slice A xs.length ca) xs.length 1 (u8s xs)) (n:Nat) (hn:n≤xs.length) (hle:xs.length≤ca) (hne:ca=n) :
  Rd w (.slice A (xs.length-n) (ca-n)) (xs.drop n).length 1 (u8s (xs.drop n)):=by
 have hl:xs.length-n=0:=by omega
 have hl2:ca-n=0:=by omega
 rw[hl,hl2,List.drop_of_length_le (by omega)];exact Znd w A
set_option maxHeartbeats 1000000 in
theorem Zfl (w0 w:World) (g:Nat) (xs:List Nat) (s:Bool) (n:Nat) (h:Zap w0 w g xs s) (hl:xs.length≤16777216) (hn:n≤1099511627776) :
  Calls Tryz.prog 80 #[.pointer (some ⟨g,0,none⟩),.int .i64 n] w fun e w'=>∃ t,e=.returned t∧Rd w0 t (tk n xs).length 1 (u8s (tk n xs)) ∧
   Zap w0 w' g (tkL n xs) (tkS n xs s)∧Chg g g w w':=by
 obtain⟨hg,hb,v,hr,hv⟩:=h;obtain⟨A,ca,rfl,hlc,hcm,hA⟩:=hv.form;unfold maxLen at hcm;have c0:w.cell? ⟨g,0,none⟩=some (.slice A xs.length ca):=by rw[hr.cell];rfl
 have c1:w.cell? ⟨g,0+1,none⟩=some (.bool s):=by rw[hr.cell];rfl
 have f0:=hr.frozen 0;have f1:=hr.frozen (0+1);have HR:=hid hr;have HV:=hid hv;have HB:=hid hb;clear hr hv hb;go_enter Tryz.func80,Tryz.ntmps80;by_cases hlt:xs.length<n
 ·have e1:¬ n≤xs.length:=by omega
  have e2:(n:Int) > (xs.length:Int):=by omega
  clear hA;go_wp2;go_ret;refine⟨_,rfl,by rw[tk,if_neg e1];exact Znd _ _,⟨hg,Zac (Zac HB.out _ _ _ hg) _ _ _ hg,_,by rw[tkS,if_neg e1];exact(HR.out.set 0 _).set (0+1) _,by rw[tkL,if_neg e1];exact Znd _ _⟩,
   ((Chg.refl g g w).setCell g 0 _ (.inl rfl)).setCell g _ _ (.inl rfl)⟩
 ·have e1:n≤xs.length:=by omega
  have e2:¬ (n:Int) > (xs.length:Int):=by omega
  clear hA;go_wp2
  ·go_ret;refine⟨_,rfl,by rw[tk,if_pos e1];exact HV.out.front n e1,⟨hg,Zac HB.out _ _ _ hg,_,by rw[tkS,if_pos e1];exact HR.out.set 0 _,by rw[tkL,if_pos e1];have h2:=HV.out.rear0 n e1 hlc (by assumption);rw[show ca-n=0 by omega]at h2;exact h2⟩,
    (Chg.refl g g w).setCell g 0 _ (.inl rfl)⟩
  ·go_ret;refine⟨_,rfl,by rw[tk,if_pos e1];exact HV.out.front n e1,⟨hg,Zac HB.out _ _ _ hg,_,by rw[tkS,if_pos e1];exact HR.out.set 0 _,by rw[tkL,if_pos e1];exact HV.out.rear n e1 (by assumption)⟩,
    (Chg.refl g g w).setCell g 0 _ (.inl rfl)⟩
theorem Zib (n:Nat) (xs:List Nat):(tk n xs).length≤n:=by unfold tk;split<;>simp[List.length_take,Nat.min_le_left]
theorem Zc8 {n:Nat} {xs:List Nat} {B:Nat} (h:∀ x∈xs,x<B):∀ x∈tk n xs,x<B:=by
 intro x hx;unfold tk at hx;split at hx
 ·exact h x (List.mem_of_mem_take hx)
 ·cases hx
theorem Zfz (xs:List Nat) (h:∀ x∈xs,x<256) (hl:xs.length≤8):L.wordOf 8 xs<18446744073709551616:=by
 have h1:=L.wordOf_lt 8 xs h;have h2:=Zcr (show 8*xs.length≤64 by omega);omega
theorem Zb2 (xs:List Nat) (h:∀ x∈xs,x<256) (hl:xs.length≤4):L.wordOf 8 xs<4294967296:=by
 have h1:=L.wordOf_lt 8 xs h;have h2:2^(8*xs.length)≤2^32:=Nat.pow_le_pow_right (by omega) (by omega);omega
set_option maxHeartbeats 1000000 in
theorem Zgd (w0 w:World) (g:Nat) (xs:List Nat) (s:Bool) (h:Zap w0 w g xs s) (hv:∀ x∈xs,x<256) (hl:xs.length≤16777216) :
  Calls Tryz.prog 82 #[.pointer (some ⟨g,0,none⟩)] w fun e w'=>e=.returned (.int .i64 (L.wordOf 8 (tk 1 xs):Nat))∧Zap w0 w' g (tkL 1 xs) (tkS 1 xs s)∧Chg g g w w':=by
 have hn:L.wordOf 8 (tk 1 xs)<4294967296:=Zb2 _ (Zc8 hv) (Nat.le_trans (Zib 1 xs) (by omega));obtain⟨m,hm⟩:∃ m,L.wordOf 8 (tk 1 xs)=m:=⟨_,rfl⟩;rw[hm]at hn ⊢;have HM:=hid hm;clear hm;go_enter Tryz.func82,Tryz.ntmps82;go_wp2_with (first
  | (go_at_call 80;refine(Zfl w0 _ g xs s 1 h hl (by omega)).mono ?_;rintro e w1 ⟨t,rfl,hrd,hat,hch⟩;have QX:=hid hat;have QQ:=hid hch;have Qu:=hid (hrd.mono (hat.2.1)))
  | (go_at_call 121;refine(Zf7 _ (tk 1 xs) _ Qu.out (Nat.le_trans (Zib 1 xs) (by omega)) (Zc8 hv)).mono ?_;rintro e w2 ⟨rfl,hw⟩;subst hw;rw[HM.out]))
 go_ret;exact⟨by go_num,QX.out,QQ.out⟩
set_option maxHeartbeats 1000000 in
theorem Zfa (w0 w:World) (g:Nat) (xs:List Nat) (s:Bool) (h:Zap w0 w g xs s) (hv:∀ x∈xs,x<256) (hl:xs.length≤16777216) :
  Calls Tryz.prog 81 #[.pointer (some ⟨g,0,none⟩)] w fun e w'=>e=.returned (.int .i64 (L.wordOf 8 (tk 4 xs):Nat))∧Zap w0 w' g (tkL 4 xs) (tkS 4 xs s)∧Chg g g w w':=by
 have hn:L.wordOf 8 (tk 4 xs)<4294967296:=Zb2 _ (Zc8 hv) (Nat.le_trans (Zib 4 xs) (by omega));obtain⟨m,hm⟩:∃ m,L.wordOf 8 (tk 4 xs)=m:=⟨_,rfl⟩;rw[hm]at hn ⊢;have HM:=hid hm;clear hm;go_enter Tryz.func81,Tryz.ntmps81;go_wp2_with (first
  | (go_at_call 80;refine(Zfl w0 _ g xs s 4 h hl (by omega)).mono ?_;rintro e w1 ⟨t,rfl,hrd,hat,hch⟩;have QX:=hid hat;have QQ:=hid hch;have Qu:=hid (hrd.mono (hat.2.1)))
  | (go_at_call 121;refine(Zf7 _ (tk 4 xs) _ Qu.out (Nat.le_trans (Zib 4 xs) (by omega)) (Zc8 hv)).mono ?_;rintro e w2 ⟨rfl,hw⟩;subst hw;rw[HM.out]))
 go_ret;exact⟨by go_num,QX.out,QQ.out⟩
set_option maxHeartbeats 1000000 in
theorem Zwj (w0 w:World) (g:Nat) (xs:List Nat) (s:Bool) (h:Zap w0 w g xs s) (hv:∀ x∈xs,x<256) (hl:xs.length≤16777216) :
  Calls Tryz.prog 152 #[.pointer (some ⟨g,0,none⟩)] w fun e w'=>e=.returned (.int .u64 (L.wordOf 8 (tk 8 xs):Nat))∧Zap w0 w' g (tkL 8 xs) (tkS 8 xs s)∧Chg g g w w':=by
 go_enter Tryz.func152,Tryz.ntmps152;go_wp2_with (first
  | (go_at_call 80;refine(Zfl w0 _ g xs s 8 h hl (by omega)).mono ?_;rintro e w1 ⟨t,rfl,hrd,hat,hch⟩;have QX:=hid hat;have QQ:=hid hch;have Qu:=hid (hrd.mono (hat.2.1)))
  | (go_at_call 121;refine(Zf7 _ (tk 8 xs) _ Qu.out (Nat.le_trans (Zib 8 xs) (by omega)) (Zc8 hv)).mono ?_;rintro e w2 ⟨rfl,hw⟩;subst hw))
 go_ret;exact⟨rfl,QX.out,QQ.out⟩
theorem Zd3 (w0 w:World) (g:Nat) (xs:List Nat) (s:Bool) (h:Zap w0 w g xs s) :
  Calls Tryz.prog 157 #[.pointer (some ⟨g,0,none⟩)] w fun e w'=>e=.returned (.bool s)∧w'=w:=by
 obtain⟨v,hr,hv⟩:=h.row;have c1:w.cell? ⟨g,0+1,none⟩=some (.bool s):=by rw[hr.cell];rfl
 clear hr hv h;go_enter Tryz.func157,Tryz.ntmps157;go_wp2;go_ret;exact⟨rfl,rfl⟩
theorem Zhc (w0 w:World) (g:Nat) (xs:List Nat) (s:Bool) (h:Zap w0 w g xs s) (hl:xs.length≤16777216) :
  Calls Tryz.prog 158 #[.pointer (some ⟨g,0,none⟩)] w fun e w'=>e=.returned (.int .i64 xs.length)∧w'=w:=by
 obtain⟨v,hr,hv⟩:=h.row;obtain⟨A,ca,rfl,hlc,hcm,hA⟩:=hv.form;have c1:w.cell? ⟨g,0,none⟩=some (.slice A xs.length ca):=by rw[hr.cell];rfl
 clear hr hv h hA;go_enter Tryz.func158,Tryz.ntmps158;go_wp2;go_ret;exact⟨rfl,rfl⟩
set_option maxHeartbeats 1000000 in
theorem Zew (w:World) (v:Value) (xs:List Nat) (hv:Rd w v xs.length 1 (u8s xs)) :
  Calls Tryz.prog 79 #[v] w fun e w'=>e=.returned (.pointer (some ⟨w.heap.size,0,none⟩))∧Zap w w' w.heap.size xs false∧Below w.heap.size w w'∧w'.heap.size=w.heap.size+1:=by
 obtain⟨A,ca,rfl,hlc,hcm,hA⟩:=hv.form;have HV:=hid hv;clear hv hA;go_enter Tryz.func79,Tryz.ntmps79;go_wp2;go_ret;have hb:Below w.heap.size w (w.alloc (.cells #[.slice A xs.length ca,.bool false] 189 (0,0))):=(Zab w).alloc (Nat.le_refl _) _;exact⟨rfl,⟨Nat.le_refl _,hb,_,by unfold Row;rw[heap_alloc_new],HV.out⟩,hb,by simp⟩
def Zsg (r:Int):Nat:=(min (max r 0) 1024).toNat
theorem Ztr (r:Int):Zsg r≤1024:=by unfold Zsg;omega
theorem Zyk (r:Int) (w:World) :
  Calls Tryz.prog 29 #[.int .i64 r] w fun e w'=>e=.returned (.int .i64 (Zsg r:Nat))∧w'=w:=by
 go_enter Tryz.func29,Tryz.ntmps29;go_wp2
 all_goals go_ret
 all_goals refine⟨?_,rfl⟩
 all_goals simp[Zsg]
 all_goals omega
theorem Tryz.info45:(Tryz.prog.info? 73).map (fun i=>(i.zero,i.size,i.bytes))=some (some (.int .u64 0),1,8):=by kernel_rfl
theorem Zv3 (xs ys:List Nat) (k:Nat) (h:xs.length=ys.length) (hp:xs.take k=ys.take k) (hk:k<xs.length) (he:xs.getD k 0=ys.getD k 0):xs.take (k+1)=ys.take (k+1):=by
 rw[List.take_succ_eq_append_getElem hk,List.take_succ_eq_append_getElem (h ▸ hk),hp];simp only[List.getD,List.getElem?_eq_getElem hk,List.getElem?_eq_getElem (h ▸ hk),Option.getD_some]at he;rw[he]
set_option maxHeartbeats 400000 in
theorem Zop (x y:Value) (xs ys:List Nat) (w:World) (hx:Rd w x xs.length 1 (u64s xs)) (hy:Rd w y ys.length 1 (u64s ys)) (hl:xs.length≤maxLen) (hl2:ys.length≤maxLen) :
  Calls Tryz.prog 95 #[x,y] w fun e w'=>e=.returned (.bool (decide (xs=ys)))∧∃ n,w'=w.drewN n:=by
 unfold maxLen at hl hl2;obtain⟨A,ca,rfl,hlc,hcm,hA⟩:=hx.form;obtain⟨B,cb,rfl,hlc2,hcm2,hB⟩:=hy.form;clear hx hy;go_enter Tryz.func95,Tryz.ntmps95;by_cases hne:xs.length=ys.length
 ·have e1:(((xs.length:Int)) != (ys.length:Int))=false:=by rw[hne];simp
  have HN:=hid hne;clear hne;go_wp2;go_loopw [13] (fun i wr=>(∃ k:Nat,k≤xs.length∧i=.int .i64 k∧xs.take k=ys.take k)∧∃ n,wr=w.drewN n) (fun i _=>xs.length-(intOf i).toNat)
  case atStart=>exact⟨⟨0,by omega,rfl,rfl⟩,0,rfl⟩
  case round =>
   obtain⟨⟨k,hk,rfl,hp⟩,n,rfl⟩:=hrel;have HP:=hid hp;clear hp;by_cases hlt:k<xs.length
   ·obtain⟨b,o,rfl,hs⟩:=hA (by omega);obtain⟨b',o',rfl,hs'⟩:=hB (by have:=HN.out;omega);have hlt':k<ys.length:=by have:=HN.out;omega
    have c1:=hs.word k hlt;have c2:=hs'.word k hlt';have HE:Hid (xs.getD k 0=ys.getD k 0→xs.take (k+1)=ys.take (k+1)):=Zv3 xs ys k HN.out HP.out hlt;have HF:Hid (xs.getD k 0≠ys.getD k 0→xs≠ys):=fun h e=>h (by rw[e])
    generalize xs.getD k 0=p at *;generalize ys.getD k 0=q at *;clear hA hB hs hs';go_wp2;go_quiet (fail)
    go_wp2
    ·rename_i h
     go_ret;have:xs≠ys:=HF.out (by rw[bne_iff_ne]at h;omega);exact⟨by simp[this],_,by simp;rfl⟩
    ·rename_i h
     go_roundw
     case rel=>exact⟨⟨k+1,by omega,by go_num,HE.out (by rw[bne_eq_false_iff_eq]at h;omega)⟩,_,rfl⟩
     case measure=>simp[intOf];omega
   ·go_wp2;go_ret;have hk':k=xs.length:=by omega
    subst hk';refine⟨?_,n,rfl⟩;have hp:=HP.out;rw[List.take_length,HN.out,List.take_length]at hp;simp[hp]
 ·have e1:(((xs.length:Int)) != (ys.length:Int))=true:=by rw[bne_iff_ne];omega
  go_wp2;go_ret;refine⟨?_,0,rfl⟩;have:xs≠ys:=fun h=>hne (by rw[h])
  simp[this]
theorem Zmj (x y:Value) (xs:List Nat) (w:World) (hx:Rd w x xs.length 1 (u64s xs)) (hy:Rd w y xs.length 1 (u64s xs)) (hl:xs.length≤maxLen) :
  Calls Tryz.prog 95 #[x,y] w fun e w'=>e=.returned (.bool true)∧∃ n,w'=w.drewN n :=
 (Zop x y xs xs w hx hy hl hl).mono fun e w' h=>by simpa using h
def i64s (xs:List Int):List Value:=xs.map (Value.int .i64)
theorem Zfe (a b:List Int):i64s (a++b)=i64s a++i64s b:=by simp[i64s]
theorem Znn (xs:List Int) (i:Nat) (h:i<xs.length):(i64s xs)[i]? = some (.int .i64 (xs.getD i 0)):=by
 simp[i64s,List.getElem?_eq_getElem h,List.getD]
theorem Seg.int {w:World} {b o:Nat} {xs:List Int} (h:Seg w b o (i64s xs)) (i:Nat) (hi:i<xs.length):w.cell? ⟨b,o+i,none⟩=some (.int .i64 (xs.getD i 0)) :=
 h i _ (Znn xs i hi)
theorem Tryz.infoI64:(Tryz.prog.info? 3).map (fun i=>(i.zero,i.size,i.bytes))=some (some (.int .i64 0),1,8):=by kernel_rfl
set_option maxHeartbeats 400000 in
theorem Zjh (x y:Value) (xs:List Int) (w:World) (hx:Rd w x xs.length 1 (i64s xs)) (hy:Rd w y xs.length 1 (i64s xs)) (hl:xs.length≤maxLen) :
  Calls Tryz.prog 24 #[x,y] w fun e w'=>e=.returned (.bool true)∧∃ n,w'=w.drewN n:=by
 unfold maxLen at hl;obtain⟨A,ca,rfl,hlc,hcm,hA⟩:=hx.form;obtain⟨B,cb,rfl,hlc2,hcm2,hB⟩:=hy.form;clear hx hy;go_enter Tryz.func24,Tryz.ntmps24;have e1:(((xs.length:Int)) != (xs.length:Int))=false:=by simp
 go_wp2;go_loopw [13] (fun i wr=>(∃ k:Nat,k≤xs.length∧i=.int .i64 k)∧∃ n,wr=w.drewN n) (fun i _=>xs.length-(intOf i).toNat)
 case atStart=>exact⟨⟨0,by omega,rfl⟩,0,rfl⟩
 case round =>
  obtain⟨⟨k,hk,rfl⟩,n,rfl⟩:=hrel;by_cases hlt:k<xs.length
  ·obtain⟨b,o,rfl,hs⟩:=hA (by omega);obtain⟨b',o',rfl,hs'⟩:=hB (by omega);have c1:=hs.int k hlt;have c2:=hs'.int k hlt;generalize xs.getD k 0=p at *;clear hA hB hs hs';have e2:(p != p)=false:=by simp
   go_wp2;go_quiet (fail)
   go_wp2;go_roundw
   case rel=>exact⟨⟨k+1,by omega,by go_num⟩,_,rfl⟩
   case measure=>simp[intOf];omega
  ·go_wp2;go_ret;exact⟨rfl,n,rfl⟩
def numL (k:Nat) (bs:List Nat):List Nat:=(List.range (bs.length/k)).map fun i=>L.wordOf 8 ((bs.drop (k*i)).take k)
theorem Zal (k:Nat) (bs:List Nat):(numL k bs).length=bs.length/k:=by simp[numL]
theorem Zg3 {bs:List Nat} (h:∀ x∈bs,x<256) (a b:Nat):∀ x∈(bs.drop a).take b,x<256:=fun x hx=>h x (List.mem_of_mem_drop (List.mem_of_mem_take hx))
theorem Zgy (bs:List Nat) (a b:Nat):((bs.drop a).take b).length≤b:=by rw[List.length_take];exact Nat.min_le_left _ _
theorem Zdu {k:Nat} {bs:List Nat} (h:∀ x∈bs,x<256) (hk:k≤8):∀ x∈numL k bs,x<18446744073709551616:=by
 intro x hx;obtain⟨i,_,rfl⟩:=List.mem_map.1 hx;exact Zfz _ (Zg3 h _ _) (Nat.le_trans (Zgy bs _ _) hk)
theorem Znw {bs:List Nat} (h:∀ x∈bs,x<256):∀ x∈numL 4 bs,x<4294967296:=by
 intro x hx;obtain⟨i,_,rfl⟩:=List.mem_map.1 hx;exact Zb2 _ (Zg3 h _ _) (Zgy bs _ _)
def nI (xs:List Nat):List Int:=xs.map fun x:Nat=>(x:Int)
theorem Zaq (xs:List Nat):(nI xs).length=xs.length:=by simp[nI]
theorem Zeo (xs ys:List Nat):nI (xs++ys)=nI xs++nI ys:=by simp[nI]
theorem Ztm {w:World} {b o n cap:Nat} {xs:List Nat} (h:Seg w b o (u8s xs)) (l m:Nat) (hl:xs.length=n) (hlm:l+m≤n) (hc:n≤cap) (hm:cap≤maxLen) :
  Rd w (.slice (some ⟨b,o+l,none⟩) m (cap-l)) ((xs.drop l).take m).length 1 (u8s ((xs.drop l).take m)):=by
 have:=Rd.part h l m (by rw[Zdz];exact hl) hlm (by omega) hm;rw[Ztn,Zny]at this;have e:((xs.drop l).take m).length=m:=by rw[List.length_take,List.length_drop];omega
 rw[e];exact this
set_option maxHeartbeats 2000000 in
theorem Zhh (w0 w:World) (g:Nat) (xs:List Nat) (s:Bool) (c:Nat) (h:Zap w0 w g xs s) (hgs:g<w.heap.size) (hv:∀ x∈xs,x<256) (hl:xs.length≤16777216) (hc:c≤4294967296) :
  Calls Tryz.prog 123 #[.pointer (some ⟨g,0,none⟩),.int .i64 c] w fun e w'=>∃ p,w.heap.size≤p ∧
   e=.returned (.slice (some ⟨p,0,none⟩) (numL 8 (tk (8*c) xs)).length (numL 8 (tk (8*c) xs)).length)∧Row w' p 73 (u64s (numL 8 (tk (8*c) xs))) ∧
   Zap w0 w' g (tkL (8*c) xs) (tkS (8*c) xs s)∧Chg g g w w':=by
 obtain⟨ys,hys⟩:∃ ys,tk (8*c) xs=ys:=⟨_,rfl⟩;have hyl:ys.length≤16777216:=by rw[← hys];unfold tk;split<;>simp<;>omega
 have hyv:∀ x∈ys,x<256:=by rw[← hys];exact Zc8 hv
 have HY:=hid hys;obtain⟨m,hm⟩:∃ m,ys.length/8=m:=⟨_,rfl⟩;rw[hys,Zal,hm];have HM:=hid hm;have hm8:8*m≤ys.length:=by omega
 clear hys hm;go_enter Tryz.func123,Tryz.ntmps123;go_wp2_with (go_at_call 80;refine(Zfl w0 _ g xs s (8*c) h hl (by omega)).mono ?_;rintro e w1 ⟨t,rfl,hrd,hat,hch⟩;rw[HY.out]at hrd;have QX:=hid hat;have QQ:=hid hch;have Qu:=hid (hrd.mono (hat.2.1));obtain⟨A,ca,rfl,hlc,hcm,hA⟩:=hrd.form;have HA:=hid hA;clear hA hrd hat hch)
 refine Zda 73 (.int .u64 0) 8 Tryz.underlying37 Tryz.info45 rfl m (by have:=HM.out;omega) (by have:=HM.out;omega) (by omega) (by unfold maxLen;omega) ?_;intro w2 hrow hb2 hsz2;have QC:Hid (Chg g g w w2):=hid (QQ.out.trans (Chg.of_below hb2));have hg1:g<w1.heap.size:=Nat.lt_of_lt_of_le hgs QQ.out.size;have HP:Hid (w.heap.size≤w1.heap.size):=hid QQ.out.size;have Qv:Hid (Zap w0 w2 g (tkL (8*c) xs) (tkS (8*c) xs s)):=hid (QX.out.mono hb2);have Yh:=hid (Qu.out.mono hb2);have Q3:=hid hrow;have Qc:=hid hb2;have hp2:w1.heap.size<w2.heap.size:=by omega
 clear QQ QX hrow hb2 Qu;generalize w1.heap.size=p at *;go_wp2;go_loopw [18] (fun i wr=>∃ j:Nat,j≤m∧i=.int .i64 j∧Row wr p 73 (u64s ((List.range j).map fun i=>L.wordOf 8 ((ys.drop (8*i)).take 8))++List.replicate (m-j) (.int .u64 0))∧Below p w2 wr∧Hid (wr.heap.size=w2.heap.size)) (fun i _=>m-(intOf i).toNat)
 case atStart=>exact⟨0,by omega,rfl,by simpa [u64s]using Q3.out,Below.refl _ _,rfl⟩
 case round =>
  obtain⟨j,hj,rfl,hr,hb,hz⟩:=hrel;by_cases hlt:j<m
  ·have hcell:wr.cell? ⟨p,j,none⟩=some (.int .u64 0):=by
    rw[hr.cell];exact Zhd _ _ _ _ (by simp[u64s]) (by omega)
   have hfr:=hr.frozen j;have Yo:=hid hr;have hHA:=HA.out (by omega);obtain⟨b,o,rfl,hs⟩:=hHA;have hsw:Seg wr b o (u8s ys):=hs.mono (Qv.out.2.1.trans (hb.mono (by have:=Qv.out.1;have:=hgs;have:=HP.out;omega)));have Ub:=hid (Ztm hsw (8*j) 8 rfl (by omega) hlc hcm);clear hr hs HA hsw;have hw8:=Zfz _ (Zg3 hyv (8*j) 8) (Zgy ys (8*j) 8);obtain⟨x,hx⟩:∃ x,L.wordOf 8 ((ys.drop (8*j)).take 8)=x:=⟨_,rfl⟩;rw[hx]at hw8;have HX:=hid hx;clear hx;go_wp2_with (go_at_call 121;refine(Zf7 _ ((ys.drop (8*j)).take 8) _ Ub.out (Nat.le_trans (Zgy ys _ _) (by omega)) (Zg3 hyv _ _)).mono ?_;rintro e w3 ⟨rfl,hw⟩;subst hw;rw[HX.out])
   go_roundw
   case rel =>
    refine⟨j+1,by omega,by go_num,?_,Zac hb _ _ _ (Nat.le_refl _),?_⟩
    ·have hss:=Yo.out.set j (.int .u64 (x:Nat));rw[Zhj _ _ _ _ _ (by simp[u64s]) (by omega)]at hss;rw[List.range_succ,List.map_append,Ze4,List.map_singleton,HX.out,← Nat.sub_sub m j 1];exact hss
    ·show _=_;rw[← hz.out];simp[World.setCell]
   case measure=>simp[intOf];omega
  ·obtain rfl:j=m:=by omega
   go_wp2;go_ret;refine⟨p,HP.out,rfl,?_,⟨Qv.out.1,?_,?_⟩,?_⟩
   ·have:=hr;rw[Nat.sub_self,List.replicate_zero,List.append_nil]at this;unfold numL;rw[HM.out];exact this
   ·exact Qv.out.2.1.trans (hb.mono (by have:=Qv.out.1;have:=HP.out;omega))
   ·obtain⟨v,hv1,hv2⟩:=Qv.out.row;exact⟨v,by unfold Row;rw[hb.block g hg1];exact hv1,hv2⟩
   ·exact QC.out.then_below hb HP.out
set_option maxHeartbeats 2000000 in
theorem Znr (w0 w:World) (g:Nat) (xs:List Nat) (s:Bool) (c:Nat) (h:Zap w0 w g xs s) (hgs:g<w.heap.size) (hv:∀ x∈xs,x<256) (hl:xs.length≤16777216) (hc:c≤4294967296) :
  Calls Tryz.prog 227 #[.pointer (some ⟨g,0,none⟩),.int .i64 c] w fun e w'=>∃ p,w.heap.size≤p ∧
   e=.returned (.slice (some ⟨p,0,none⟩) (numL 4 (tk (4*c) xs)).length (numL 4 (tk (4*c) xs)).length)∧Row w' p 3 (i64s (nI (numL 4 (tk (4*c) xs)))) ∧
   Zap w0 w' g (tkL (4*c) xs) (tkS (4*c) xs s)∧Chg g g w w':=by
 obtain⟨ys,hys⟩:∃ ys,tk (4*c) xs=ys:=⟨_,rfl⟩;have hyl:ys.length≤16777216:=by rw[← hys];unfold tk;split<;>simp<;>omega
 have hyv:∀ x∈ys,x<256:=by rw[← hys];exact Zc8 hv
 have HY:=hid hys;obtain⟨m,hm⟩:∃ m,ys.length/4=m:=⟨_,rfl⟩;rw[hys,Zal,hm];have HM:=hid hm;have hm8:4*m≤ys.length:=by omega
 clear hys hm;go_enter Tryz.func227,Tryz.ntmps227;go_wp2_with (go_at_call 80;refine(Zfl w0 _ g xs s (4*c) h hl (by omega)).mono ?_;rintro e w1 ⟨t,rfl,hrd,hat,hch⟩;rw[HY.out]at hrd;have QX:=hid hat;have QQ:=hid hch;have Qu:=hid (hrd.mono (hat.2.1));obtain⟨A,ca,rfl,hlc,hcm,hA⟩:=hrd.form;have HA:=hid hA;clear hA hrd hat hch)
 refine Zda 3 (.int .i64 0) 8 Tryz.underlying23 Tryz.infoI64 rfl m (by have:=HM.out;omega) (by have:=HM.out;omega) (by omega) (by unfold maxLen;omega) ?_;intro w2 hrow hb2 hsz2;have QC:Hid (Chg g g w w2):=hid (QQ.out.trans (Chg.of_below hb2));have hg1:g<w1.heap.size:=Nat.lt_of_lt_of_le hgs QQ.out.size;have HP:Hid (w.heap.size≤w1.heap.size):=hid QQ.out.size;have Qv:Hid (Zap w0 w2 g (tkL (4*c) xs) (tkS (4*c) xs s)):=hid (QX.out.mono hb2);have Yh:=hid (Qu.out.mono hb2);have Q3:=hid hrow;have Qc:=hid hb2;have hp2:w1.heap.size<w2.heap.size:=by omega
 clear QQ QX hrow hb2 Qu;generalize w1.heap.size=p at *;go_wp2;go_loopw [18] (fun i wr=>∃ j:Nat,j≤m∧i=.int .i64 j∧Row wr p 3 (i64s (nI ((List.range j).map fun i=>L.wordOf 8 ((ys.drop (4*i)).take 4)))++List.replicate (m-j) (.int .i64 0))∧Below p w2 wr∧Hid (wr.heap.size=w2.heap.size)) (fun i _=>m-(intOf i).toNat)
 case atStart=>exact⟨0,by omega,rfl,by simpa [i64s,nI]using Q3.out,Below.refl _ _,rfl⟩
 case round =>
  obtain⟨j,hj,rfl,hr,hb,hz⟩:=hrel;by_cases hlt:j<m
  ·have hcell:wr.cell? ⟨p,j,none⟩=some (.int .i64 0):=by
    rw[hr.cell];exact Zhd _ _ _ _ (by simp[i64s,nI]) (by omega)
   have hfr:=hr.frozen j;have Yo:=hid hr;have hHA:=HA.out (by omega);obtain⟨b,o,rfl,hs⟩:=hHA;have hsw:Seg wr b o (u8s ys):=hs.mono (Qv.out.2.1.trans (hb.mono (by have:=Qv.out.1;have:=hgs;have:=HP.out;omega)));have Ub:=hid (Ztm hsw (4*j) 4 rfl (by omega) hlc hcm);clear hr hs HA hsw;have hw8:=Zb2 _ (Zg3 hyv (4*j) 4) (Zgy ys (4*j) 4);obtain⟨x,hx⟩:∃ x,L.wordOf 8 ((ys.drop (4*j)).take 4)=x:=⟨_,rfl⟩;rw[hx]at hw8;have HX:=hid hx;clear hx;go_wp2_with (go_at_call 121;refine(Zf7 _ ((ys.drop (4*j)).take 4) _ Ub.out (Nat.le_trans (Zgy ys _ _) (by omega)) (Zg3 hyv _ _)).mono ?_;rintro e w3 ⟨rfl,hw⟩;subst hw;rw[HX.out])
   go_roundw
   case rel =>
    refine⟨j+1,by omega,by go_num,?_,Zac hb _ _ _ (Nat.le_refl _),?_⟩
    ·have hss:=Yo.out.set j (.int .i64 (x:Nat));rw[Zhj _ _ _ _ _ (by simp[i64s,nI]) (by omega)]at hss;rw[List.range_succ,List.map_append,List.map_singleton,Zeo,Zfe,HX.out,← Nat.sub_sub m j 1];exact hss
    ·show _=_;rw[← hz.out];simp[World.setCell]
   case measure=>simp[intOf];omega
  ·obtain rfl:j=m:=by omega
   go_wp2;go_ret;refine⟨p,HP.out,rfl,?_,⟨Qv.out.1,?_,?_⟩,?_⟩
   ·have:=hr;rw[Nat.sub_self,List.replicate_zero,List.append_nil]at this;unfold numL;rw[HM.out];exact this
   ·exact Qv.out.2.1.trans (hb.mono (by have:=Qv.out.1;have:=HP.out;omega))
   ·obtain⟨v,hv1,hv2⟩:=Qv.out.row;exact⟨v,by unfold Row;rw[hb.block g hg1];exact hv1,hv2⟩
   ·exact QC.out.then_below hb HP.out
def Za3 (k:Int):Bool:=decide (k=1∨k=2)
def Zhw (n:Int):Bool:=decide (0≤n∧n≤65536)
def Zbi (k c:Int):Bool:=if 1≤c∧c≤3 then Za3 k else decide (4≤c∧c≤5∧k=1)
theorem Zfw (k:Int) (w:World):Calls Tryz.prog 96 #[.int .i64 k] w fun e w'=>e=.returned (.bool (Za3 k))∧w'=w:=by
 go_enter Tryz.func96,Tryz.ntmps96;go_wp2
 all_goals go_ret
 all_goals refine⟨Zae ?_,rfl⟩
 all_goals by_cases h1:k=1<;>by_cases h2:k=2<;>simp_all [Za3]
theorem IsRows_any (k:Int) (w:World):Calls Tryz.prog 97 #[.int .i64 k] w fun e w'=>e=.returned (.bool (Zhw k))∧w'=w:=by
 go_enter Tryz.func97,Tryz.ntmps97;go_wp2
 all_goals go_ret
 all_goals refine⟨Zae ?_,rfl⟩
 all_goals by_cases h1:0≤k<;>by_cases h2:k≤65536<;>simp[Zhw]<;>omega
theorem Zlp (k c:Int) (w:World):Calls Tryz.prog 103 #[.int .i64 k,.int .i64 c] w fun e w'=>e=.returned (.bool (Zbi k c))∧w'=w:=by
 go_enter Tryz.func103,Tryz.ntmps103;by_cases h1:c=1
 ·subst h1;go_wp2_with (go_at_call 96;refine(Zfw _ _).mono ?_;rintro e w' ⟨rfl,rfl⟩)
  go_ret;exact⟨rfl,rfl⟩
 by_cases h2:c=2
 ·subst h2;go_wp2_with (go_at_call 96;refine(Zfw _ _).mono ?_;rintro e w' ⟨rfl,rfl⟩)
  go_ret;exact⟨rfl,rfl⟩
 by_cases h3:c=3
 ·subst h3;go_wp2_with (go_at_call 96;refine(Zfw _ _).mono ?_;rintro e w' ⟨rfl,rfl⟩)
  go_ret;exact⟨rfl,rfl⟩
 by_cases h4:c=4
 ·subst h4;go_wp2;go_ret;exact⟨Zae (by by_cases h:k=1<;>simp[Zbi,h]),rfl⟩
 by_cases h5:c=5
 ·subst h5;go_wp2;go_ret;exact⟨Zae (by by_cases h:k=1<;>simp[Zbi,h]),rfl⟩
 ·go_wp2;go_ret;exact⟨Zae (by unfold Zbi;rw[if_neg (by omega)];symm;rw[decide_eq_false_iff_not];omega),rfl⟩
def Za2 (last:Int):List Int→Option Int
 | []=>some last
 | e :: r=>if e≤last then none else Za2 e r
def Zax (ends:List Int) (k:Int):Bool:=Za2 0 ends==some k
theorem Zmh (es:List Int):∀(l e:Int),Za2 l (es++[e])=(Za2 l es).bind fun x=>if e≤x then none else some e:=by
 induction es with
 | nil=>intro l e;simp[Za2]
 | cons a r ih =>
         intro l e;simp only[List.cons_append,Za2];split
         ·rfl
         ·exact ih a e
theorem Zga (es fs:List Int):∀ l,Za2 l es=none→Za2 l (es++fs)=none:=by
 induction es with
 | nil=>intro l h;simp[Za2]at h
 | cons a r ih =>
         intro l h;simp only[List.cons_append,Za2]at h ⊢;split
         ·rfl
         ·rename_i hc;rw[if_neg hc]at h;exact ih a h
set_option maxHeartbeats 1000000 in
theorem Zhr (v:Value) (es:List Int) (k:Int) (w:World) (hx:Rd w v es.length 1 (i64s es)) (hl:es.length≤maxLen) :
  Calls Tryz.prog 228 #[v,.int .i64 k] w fun e w'=>e=.returned (.bool (Zax es k))∧w'=w:=by
 unfold maxLen at hl;obtain⟨A,ca,rfl,hlc,hcm,hA⟩:=hx.form;clear hx;go_enter Tryz.func228,Tryz.ntmps228;go_wp2;go_loop [5,10] (fun u i=>∃(j:Nat) (l:Int),j≤es.length∧i=.int .i64 j∧u=.int .i64 l∧Za2 0 (es.take j)=some l) (fun _ i=>es.length-(intOf i).toNat)
 case atStart=>exact⟨0,0,by omega,rfl,rfl,rfl⟩
 case round =>
  obtain⟨j,l,hj,rfl,rfl,hu⟩:=hrel;have HU:=hid hu;clear hu;by_cases hlt:j<es.length
  ·obtain⟨b,o,rfl,hs⟩:=hA (by omega);have c1:=hs.int j hlt;have hsn:Za2 0 (es.take (j+1))=if es.getD j 0≤l then none else some (es.getD j 0):=by
    rw[List.take_succ_eq_append_getElem hlt,Zmh,HU.out];simp[List.getD,List.getElem?_eq_getElem hlt]
   have HB:Hid (Za2 0 (es.take (j+1))=none→Zax es k=false):=by
    intro h;have:=Zga (es.take (j+1)) (es.drop (j+1)) 0 h;rw[List.take_append_drop]at this;simp[Zax,this]
   have QJ:=hid hsn;clear hsn hs hA;generalize es.getD j 0=p at *;go_wp2
   ·rename_i h
    go_ret;exact⟨Zae (HB.out (by rw[QJ.out,if_pos (by omega)])).symm,rfl⟩
   ·rename_i h
    go_round
    case rel=>exact⟨j+1,p,by omega,by go_num,rfl,by rw[QJ.out,if_neg (by omega)]⟩
    case measure=>simp[intOf];omega
  ·go_wp2;go_ret;have hu:=HU.out;rw[show j=es.length from by omega,List.take_length]at hu;refine⟨Zae ?_,rfl⟩;rw[Zax,hu];by_cases h:l=k<;>simp[h]
def Zbb {α : Type} (r : α→α→Bool):List α→Bool
 | a :: b :: t=>!r a b&&Zbb r (b :: t)
 | _=>true
theorem Zcb {α : Type} (r : α→α→Bool) (d : α):∀ xs:List α,Zbb r xs=true↔∀ i,i+1<xs.length→r (xs.getD i d) (xs.getD (i+1) d)=false:=by
 intro xs
 induction xs with
 | nil=>simp[Zbb]
 | cons a t ih =>
  cases t with
  | nil=>simp[Zbb]
  | cons b t =>
   rw[Zbb,Bool.and_eq_true,ih];constructor
   ·rintro⟨h1,h2⟩ i hi;cases i with
    | zero=>simpa using h1
    | succ i=>simpa using h2 i (by simpa using hi)
   ·intro h;refine⟨by simpa using h 0 (by simp),fun i hi=>?_⟩;simpa using h (i+1) (by simpa using hi)
def geI (a b:Int):Bool:=decide (b≤a)
def eqI (a b:Int):Bool:=a==b
def ltS (a b:ByteArray):Bool:=Op.bytesLess a.toList b.toList
def geS (a b:ByteArray):Bool:=!ltS a b
def eqS (a b:ByteArray):Bool:=a.toList==b.toList
def strs (xs:List ByteArray):List Value:=xs.map Value.string
theorem Zlj (xs:List ByteArray):(strs xs).length=xs.length:=by simp[strs]
theorem Ztf (xs:List ByteArray) (i:Nat) (h:i<xs.length):(strs xs)[i]? = some (.string (xs.getD i default)):=by
 simp[strs,List.getElem?_eq_getElem h,List.getD]
theorem Zr1 (xs ys:List ByteArray):strs (xs++ys)=strs xs++strs ys:=by simp[strs]
theorem Seg.str {w:World} {b o:Nat} {xs:List ByteArray} (h:Seg w b o (strs xs)) (i:Nat) (hi:i<xs.length):w.cell? ⟨b,o+i,none⟩=some (.string (xs.getD i default)) :=
 h i _ (Ztf xs i hi)
set_option maxHeartbeats 1000000 in
theorem Zmm (v:Value) (xs:List Int) (w:World) (hx:Rd w v xs.length 1 (i64s xs)) (hl:xs.length≤maxLen) :
  Calls Tryz.prog 233 #[v] w fun e w'=>e=.returned (.bool (Zbb geI xs))∧∃ n,w'=w.drewN n:=by
 unfold maxLen at hl;obtain⟨A,ca,rfl,hlc,hcm,hA⟩:=hx.form;clear hx;go_enter Tryz.func233,Tryz.ntmps233;go_wp2;go_loopw [3] (fun i wr=>(∃ k:Nat,1≤k∧i=.int .i64 k∧(k≤xs.length∨k=1)∧∀ t,t+1<k→geI (xs.getD t 0) (xs.getD (t+1) 0)=false)∧∃ n,wr=w.drewN n) (fun i _=>xs.length-(intOf i).toNat)
 case atStart=>exact⟨⟨1,by omega,rfl,.inr rfl,fun t h=>by omega⟩,0,rfl⟩
 case round =>
  obtain⟨⟨k,hk1,rfl,hk,hall⟩,n,rfl⟩:=hrel;have HA:=hid hall;clear hall;by_cases hlt:k<xs.length
  ·obtain⟨j,rfl⟩:∃ j,k=j+1:=⟨k-1,by omega⟩;obtain⟨b,o,rfl,hs⟩:=hA (by omega);have c1:=hs.int j (by omega);have c2:=hs.int (j+1) hlt;have HG:Hid (geI (xs.getD j 0) (xs.getD (j+1) 0)=false→∀ t,t+1<j+1+1→geI (xs.getD t 0) (xs.getD (t+1) 0)=false):=by
    intro h t ht;by_cases htk:t=j
    ·subst htk;exact h
    ·exact HA.out t (by omega)
   have HB:Hid (geI (xs.getD j 0) (xs.getD (j+1) 0)=true→Zbb geI xs=false):=by
    intro h;rw[← Bool.not_eq_true,Zcb geI 0];intro hp;rw[hp j hlt]at h;cases h
   have e1:((j+1:Nat):Int)-1=(j:Int):=by omega
   have e2:(((j+1:Nat):Int)).toNat=j+1:=by omega
   clear hA hs;generalize xs.getD j 0=p at *;generalize xs.getD (j+1) 0=q at *;go_wp2;go_quiet (fail)
   go_wp2
   ·rename_i h
    go_ret;exact⟨Zae (HB.out (by simpa [geI]using h)).symm,_,by simp;rfl⟩
   ·rename_i h
    go_roundw
    case rel=>exact⟨⟨j+1+1,by omega,by go_num,.inl (by omega),HG.out (by simpa [geI]using h)⟩,_,rfl⟩
    case measure=>simp[intOf];omega
  ·go_wp2;go_ret;refine⟨Zae ?_,n,rfl⟩
   symm
   rw[Zcb geI 0];intro i hi;exact HA.out i (by omega)
set_option maxHeartbeats 1000000 in
theorem Zsv (v:Value) (xs:List Int) (w:World) (hx:Rd w v xs.length 1 (i64s xs)) (hl:xs.length≤maxLen) :
  Calls Tryz.prog 235 #[v] w fun e w'=>e=.returned (.bool (Zbb eqI xs))∧∃ n,w'=w.drewN n:=by
 unfold maxLen at hl;obtain⟨A,ca,rfl,hlc,hcm,hA⟩:=hx.form;clear hx;go_enter Tryz.func235,Tryz.ntmps235;go_wp2;go_loopw [3] (fun i wr=>(∃ k:Nat,1≤k∧i=.int .i64 k∧(k≤xs.length∨k=1)∧∀ t,t+1<k→eqI (xs.getD t 0) (xs.getD (t+1) 0)=false)∧∃ n,wr=w.drewN n) (fun i _=>xs.length-(intOf i).toNat)
 case atStart=>exact⟨⟨1,by omega,rfl,.inr rfl,fun t h=>by omega⟩,0,rfl⟩
 case round =>
  obtain⟨⟨k,hk1,rfl,hk,hall⟩,n,rfl⟩:=hrel;have HA:=hid hall;clear hall;by_cases hlt:k<xs.length
  ·obtain⟨j,rfl⟩:∃ j,k=j+1:=⟨k-1,by omega⟩;obtain⟨b,o,rfl,hs⟩:=hA (by omega);have c1:=hs.int j (by omega);have c2:=hs.int (j+1) hlt;have HG:Hid (eqI (xs.getD j 0) (xs.getD (j+1) 0)=false→∀ t,t+1<j+1+1→eqI (xs.getD t 0) (xs.getD (t+1) 0)=false):=by
    intro h t ht;by_cases htk:t=j
    ·subst htk;exact h
    ·exact HA.out t (by omega)
   have HB:Hid (eqI (xs.getD j 0) (xs.getD (j+1) 0)=true→Zbb eqI xs=false):=by
    intro h;rw[← Bool.not_eq_true,Zcb eqI 0];intro hp;rw[hp j hlt]at h;cases h
   have e1:((j+1:Nat):Int)-1=(j:Int):=by omega
   have e2:(((j+1:Nat):Int)).toNat=j+1:=by omega
   clear hA hs;generalize xs.getD j 0=p at *;generalize xs.getD (j+1) 0=q at *;go_wp2;go_quiet (fail)
   go_wp2
   ·rename_i h
    go_ret;exact⟨Zae (HB.out (by simpa [eqI]using h)).symm,_,by simp;rfl⟩
   ·rename_i h
    go_roundw
    case rel=>exact⟨⟨j+1+1,by omega,by go_num,.inl (by omega),HG.out (by simpa [eqI]using h)⟩,_,rfl⟩
    case measure=>simp[intOf];omega
  ·go_wp2;go_ret;refine⟨Zae ?_,n,rfl⟩
   symm
   rw[Zcb eqI 0];intro i hi;exact HA.out i (by omega)
set_option maxHeartbeats 1000000 in
theorem Zmn (v:Value) (xs:List ByteArray) (w:World) (hx:Rd w v xs.length 1 (strs xs)) (hl:xs.length≤maxLen) :
  Calls Tryz.prog 225 #[v] w fun e w'=>e=.returned (.bool (Zbb geS xs))∧∃ n,w'=w.drewN n:=by
 unfold maxLen at hl;obtain⟨A,ca,rfl,hlc,hcm,hA⟩:=hx.form;clear hx;go_enter Tryz.func225,Tryz.ntmps225;go_wp2;go_loopw [3] (fun i wr=>(∃ k:Nat,1≤k∧i=.int .i64 k∧(k≤xs.length∨k=1)∧∀ t,t+1<k→geS (xs.getD t default) (xs.getD (t+1) default)=false)∧∃ n,wr=w.drewN n) (fun i _=>xs.length-(intOf i).toNat)
 case atStart=>exact⟨⟨1,by omega,rfl,.inr rfl,fun t h=>by omega⟩,0,rfl⟩
 case round =>
  obtain⟨⟨k,hk1,rfl,hk,hall⟩,n,rfl⟩:=hrel;have HA:=hid hall;clear hall;by_cases hlt:k<xs.length
  ·obtain⟨j,rfl⟩:∃ j,k=j+1:=⟨k-1,by omega⟩;obtain⟨b,o,rfl,hs⟩:=hA (by omega);have c1:=hs.str j (by omega);have c2:=hs.str (j+1) hlt;have HG:Hid (geS (xs.getD j default) (xs.getD (j+1) default)=false→∀ t,t+1<j+1+1→geS (xs.getD t default) (xs.getD (t+1) default)=false):=by
    intro h t ht;by_cases htk:t=j
    ·subst htk;exact h
    ·exact HA.out t (by omega)
   have HB:Hid (geS (xs.getD j default) (xs.getD (j+1) default)=true→Zbb geS xs=false):=by
    intro h;rw[← Bool.not_eq_true,Zcb geS default];intro hp;rw[hp j hlt]at h;cases h
   have e1:((j+1:Nat):Int)-1=(j:Int):=by omega
   have e2:(((j+1:Nat):Int)).toNat=j+1:=by omega
   clear hA hs;generalize xs.getD j default=p at *;generalize xs.getD (j+1) default=q at *;go_wp2;go_quiet (fail)
   go_wp2
   ·rename_i h
    go_ret;exact⟨Zae (HB.out (by simpa [geS,ltS]using h)).symm,_,by simp;rfl⟩
   ·rename_i h
    go_roundw
    case rel=>exact⟨⟨j+1+1,by omega,by go_num,.inl (by omega),HG.out (by simpa [geS,ltS]using h)⟩,_,rfl⟩
    case measure=>simp[intOf];omega
  ·go_wp2;go_ret;refine⟨Zae ?_,n,rfl⟩
   symm
   rw[Zcb geS default];intro i hi;exact HA.out i (by omega)
set_option maxHeartbeats 1000000 in
theorem Zq7 (v:Value) (xs:List ByteArray) (w:World) (hx:Rd w v xs.length 1 (strs xs)) (hl:xs.length≤maxLen) :
  Calls Tryz.prog 229 #[v] w fun e w'=>e=.returned (.bool (Zbb eqS xs))∧∃ n,w'=w.drewN n:=by
 unfold maxLen at hl;obtain⟨A,ca,rfl,hlc,hcm,hA⟩:=hx.form;clear hx;go_enter Tryz.func229,Tryz.ntmps229;go_wp2;go_loopw [3] (fun i wr=>(∃ k:Nat,1≤k∧i=.int .i64 k∧(k≤xs.length∨k=1)∧∀ t,t+1<k→eqS (xs.getD t default) (xs.getD (t+1) default)=false)∧∃ n,wr=w.drewN n) (fun i _=>xs.length-(intOf i).toNat)
 case atStart=>exact⟨⟨1,by omega,rfl,.inr rfl,fun t h=>by omega⟩,0,rfl⟩
 case round =>
  obtain⟨⟨k,hk1,rfl,hk,hall⟩,n,rfl⟩:=hrel;have HA:=hid hall;clear hall;by_cases hlt:k<xs.length
  ·obtain⟨j,rfl⟩:∃ j,k=j+1:=⟨k-1,by omega⟩;obtain⟨b,o,rfl,hs⟩:=hA (by omega);have c1:=hs.str j (by omega);have c2:=hs.str (j+1) hlt;have HG:Hid (eqS (xs.getD j default) (xs.getD (j+1) default)=false→∀ t,t+1<j+1+1→eqS (xs.getD t default) (xs.getD (t+1) default)=false):=by
    intro h t ht;by_cases htk:t=j
    ·subst htk;exact h
    ·exact HA.out t (by omega)
   have HB:Hid (eqS (xs.getD j default) (xs.getD (j+1) default)=true→Zbb eqS xs=false):=by
    intro h;rw[← Bool.not_eq_true,Zcb eqS default];intro hp;rw[hp j hlt]at h;cases h
   have e1:((j+1:Nat):Int)-1=(j:Int):=by omega
   have e2:(((j+1:Nat):Int)).toNat=j+1:=by omega
   clear hA hs;generalize xs.getD j default=p at *;generalize xs.getD (j+1) default=q at *;go_wp2;go_quiet (fail)
   go_wp2
   ·rename_i h
    go_ret;exact⟨Zae (HB.out (by simpa [eqS]using h)).symm,_,by simp;rfl⟩
   ·rename_i h
    go_roundw
    case rel=>exact⟨⟨j+1+1,by omega,by go_num,.inl (by omega),HG.out (by simpa [eqS]using h)⟩,_,rfl⟩
    case measure=>simp[intOf];omega
  ·go_wp2;go_ret;refine⟨Zae ?_,n,rfl⟩
   symm
   rw[Zcb eqS default];intro i hi;exact HA.out i (by omega)
end Go.Proofs.YtmcjknjlihgihaaGreatDoor
