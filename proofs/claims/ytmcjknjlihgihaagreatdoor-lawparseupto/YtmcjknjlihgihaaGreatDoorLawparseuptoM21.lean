/- A zone as plain data: its record, when it is in order, and the two readings of a record: each reads the record of a zone in order back. -/
import Derived.Lib.ConvBytes
import Derived.Lib.AppendStr
import Derived.WalkLawsBesides
import Derived.Lib.SlicesCompact
import Derived.Sort.Walk0
import Derived.Deep.CutBlock
import Derived.BigRegion
import Derived.Test.YtmcjknjlihgihaaGreatDoorLawparseuptoM20
set_option linter.unusedVariables false
set_option linter.unusedSimpArgs false
set_option linter.unnecessarySimpa false
set_option maxRecDepth 100000
namespace Go.Proofs.YtmcjknjlihgihaaGreatDoor
open Go.RowKit
structure C3 where
 n:Bool
 i:Int
 s:ByteArray
def C3.v (c:C3):Value:=.agg #[.bool c.n,.int .i64 c.i,.string c.s]
def C3.df:C3:=⟨false,0,ByteArray.empty⟩
def leN (k n:Nat):List Nat:=(List.range k).map fun i=>n/2^(8*i)%256
theorem Zai (k n:Nat):(leN k n).length=k:=by simp[leN]
theorem Zpf (k n:Nat):leN (k+1) n=leN k n++[n/2^(8*k)%256]:=by simp[leN,List.range_succ]
theorem Znv (k n:Nat):∀ x∈leN k n,x<256:=by
 intro x hx;simp only[leN,List.mem_map]at hx;obtain⟨i,_,rfl⟩:=hx;exact Nat.mod_lt _ (by decide)
def toU (i:Int):Nat:=(i%18446744073709551616).toNat
theorem Znx (i:Int):toU i<18446744073709551616:=by unfold toU;omega
theorem Zuc (i:Int):IntKind.u64.wrap i=(toU i:Int):=by rw[IntKind.wrap_u64];unfold toU;omega
def sbs (s:ByteArray):List Nat:=s.data.toList.map UInt8.toNat
theorem Zcb (s:ByteArray):(sbs s).length=s.size:=by rw[sbs,List.length_map,Array.length_toList];rfl
theorem Z0o (s:ByteArray) (k:Nat) (h:k<s.size):(sbs s)[k]? = some s[k].toNat:=by
 rw[sbs,List.getElem?_map,List.getElem?_eq_getElem (by rw[Array.length_toList];exact h)];rfl
theorem Zz6 (s:ByteArray):∀ x∈sbs s,x<256:=by
 intro x hx;obtain⟨b,_,rfl⟩:=List.mem_map.1 hx;exact b.toNat_lt
theorem Zpm (xs:List Nat) (n:Nat):u8s (xs++[n])=u8s xs++[.int .u8 (n:Int)]:=by simp[u8s,u8]
def Kp (v:Value) (w w':World) (r:Value):Prop:=(∀ k,k<w.heap.size→some k≠v.ownBlock→w'.heap[k]? = w.heap[k]?)∧(∀ k,r.ownBlock=some k→some k=v.ownBlock∨w.heap.size≤k)
theorem Kp.refl (v:Value) (w:World):Kp v w w v:=⟨fun _ _ _=>rfl,fun k h=>.inl h.symm⟩
theorem Kp.below {v:Value} {w w':World} (h:Below w.heap.size w w'):Kp v w w' v:=⟨fun k hk _=>h.block k hk,fun k h=>.inl h.symm⟩
theorem Kp.trans {v r1 r2:Value} {w w1 w2:World} (h1:Kp v w w1 r1) (h2:Kp r1 w1 w2 r2) (hs:w.heap.size≤w1.heap.size):Kp v w w2 r2:=by
 refine⟨fun k hk hne=>?_,fun k hk=>?_⟩
 ·rw[h2.1 k (by omega) (fun he=>?_),h1.1 k hk hne];rcases h1.2 k he.symm with h | h
  ·exact hne h
  ·omega
 ·rcases h2.2 k hk with h | h
  ·exact h1.2 k h.symm
  ·exact .inr (by omega)
def Stay (B:Nat) (v:Value) (w:World) (u:Value) (n sz:Nat) (cs:List Value):Prop:=∀ w' r,Below B w w'→Kp v w w' r→Rd w' u n sz cs
theorem Stay.now {B:Nat} {v:Value} {w:World} {u:Value} {n sz:Nat} {cs:List Value} (h:Stay B v w u n sz cs):Rd w u n sz cs:=h w v (Below.refl _ _) (Kp.refl _ _)
theorem Stay.low {B:Nat} {v:Value} {w0 w:World} {u:Value} {n sz:Nat} {cs:List Value} (h:Rd w0 u n sz cs) (hb:Below w0.heap.size w0 w) (hB:w0.heap.size≤B):Stay B v w u n sz cs :=
 fun w' _ h1 _=>h.mono (hb.trans (h1.mono hB))
set_option maxHeartbeats 1000000 in
theorem Zc3 (B:Nat) (v:Value) (bs:List Nat) (x k:Nat) (w:World) (hown:w.ownsRow B 5 1 v bs.length (u8s bs)) (hB:B≤w.heap.size) (hx:x<18446744073709551616) (hk:k≤8) (hl:bs.length≤17592186044416) :
  Calls Tryz.prog 75 #[v,.int .u64 x,.int .i64 k] w fun e w'=>∃ r,e=.returned r∧w'.ownsRow B 5 1 r (bs++leN k x).length (u8s (bs++leN k x))∧Below B w w'∧w.heap.size≤w'.heap.size∧Kp v w w' r:=by
 obtain⟨n,hn⟩:∃ n,bs.length=n:=⟨_,rfl⟩;have HN:=hid hn;have Qi:=hid hown;rw[hn]at hl;clear hown hn;go_enter Tryz.func75,Tryz.ntmps75;go_wp2;go_loopw [0,7] (fun v0 i wr=>∃ t:Nat,t≤k∧i=.int .i64 t∧Hid (wr.ownsRow B 5 1 v0 (bs++leN t x).length (u8s (bs++leN t x)))∧Hid (Below B w wr)∧Hid (w.heap.size≤wr.heap.size)∧Hid (Kp v w wr v0)) (fun _ i _=>k-(intOf i).toNat)
 case atStart=>exact⟨0,by omega,rfl,by simpa [leN]using Qi,hid (Below.refl _ _),hid (Nat.le_refl _),hid (Kp.refl _ _)⟩
 case round =>
  obtain⟨t,ht,rfl,hown,hb,hs,hkp⟩:=hrel;by_cases hlt:t<k
  ·obtain⟨y,hy⟩:∃ y,x/2^(8*t)%256=y:=⟨_,rfl⟩;obtain⟨e,he⟩:∃ e,8*t=e:=⟨_,rfl⟩;have hy2:((x:Int)/2^e)%256=(y:Int):=by rw[← hy,← he];simp
   have he1:(8:Int)*(t:Int)=(e:Int):=by omega
   have he2:e<64:=by omega
   have HS:Hid (bs++leN (t+1) x=(bs++leN t x)++[y]):=hid (by rw[Zpf,hy,List.append_assoc]);have HL:Hid ((bs++leN t x).length=n+t):=hid (by rw[List.length_append,Zai,HN.out]);have YA:Hid (B≤wr.heap.size):=hid (Nat.le_trans hB hs.out);clear hy he;generalize bs++leN t x=cs at *;go_wp2_with (at_builtin;refine Zfc rfl (.tmp 13) (.tmp 20) rfl 5 (.int .u8 0) 1 Tryz.underlying22 Tryz.infoU8 rfl rfl rfl hown.out YA.out (by rfl) (by have:=HL.out;unfold maxLen;omega) (by have:=HL.out;omega) ?_;intro v' w' ho hb3 hz3 hk3 hw3)
   have HO:=hid ho;have Qe:=hid hb3;have JV:=hid hz3;have X5:=hid (show Kp _ wr w' v' from ⟨hk3,fun k hk=>by
    rcases hw3 with h | h
    ·exact .inl (by rw[← h];exact hk.symm)
    ·exact .inr (h.1 k hk)⟩)
   clear ho hb3 hz3 hk3 hw3;go_roundw
   case rel =>
    refine⟨t+1,by omega,by go_num,hid ?_,hid (hb.out.trans Qe.out),hid (Nat.le_trans hs.out JV.out),hid (hkp.out.trans X5.out hs.out)⟩;rw[HS.out,List.length_append,Zpm];exact HO.out
   case measure=>simp[intOf];omega
  ·obtain rfl:t=k:=by omega
   go_wp2;go_ret;exact⟨_,rfl,hown.out,hb.out,hs.out,hkp.out⟩
set_option maxHeartbeats 1000000 in
theorem Zgw (B:Nat) (v:Value) (bs:List Nat) (x k:Nat) (w:World) (hown:w.ownsRow B 5 1 v bs.length (u8s bs)) (hB:B≤w.heap.size) (hx:x<18446744073709551616) (hk:k≤8) (hl:bs.length≤17592186044416) :
  Calls Tryz.prog 112 #[v,.int .u64 x,.int .i64 k] w fun e w'=>∃ r,e=.returned r∧w'.ownsRow B 5 1 r (bs++leN k x).length (u8s (bs++leN k x))∧Below B w w'∧w.heap.size≤w'.heap.size∧Kp v w w' r:=by
 obtain⟨n,hn⟩:∃ n,bs.length=n:=⟨_,rfl⟩;have HN:=hid hn;have Qi:=hid hown;rw[hn]at hl;clear hown hn;go_enter Tryz.func112,Tryz.ntmps112;go_wp2;go_loopw [0,9] (fun v0 i wr=>∃ t:Nat,t≤k∧i=.int .i64 t∧Hid (wr.ownsRow B 5 1 v0 (bs++leN t x).length (u8s (bs++leN t x)))∧Hid (Below B w wr)∧Hid (w.heap.size≤wr.heap.size)∧Hid (Kp v w wr v0)) (fun _ i _=>k-(intOf i).toNat)
 case atStart=>exact⟨0,by omega,rfl,by simpa [leN]using Qi,hid (Below.refl _ _),hid (Nat.le_refl _),hid (Kp.refl _ _)⟩
 case round =>
  obtain⟨t,ht,rfl,hown,hb,hs,hkp⟩:=hrel;by_cases hlt:t<k
  ·obtain⟨y,hy⟩:∃ y,x/2^(8*t)%256=y:=⟨_,rfl⟩;obtain⟨e,he⟩:∃ e,8*t=e:=⟨_,rfl⟩;have hy2:((x:Int)/2^e)%256=(y:Int):=by rw[← hy,← he];simp
   have he1:(8:Int)*(t:Int)=(e:Int):=by omega
   have he2:e<64:=by omega
   have HS:Hid (bs++leN (t+1) x=(bs++leN t x)++[y]):=hid (by rw[Zpf,hy,List.append_assoc]);have HL:Hid ((bs++leN t x).length=n+t):=hid (by rw[List.length_append,Zai,HN.out]);have YA:Hid (B≤wr.heap.size):=hid (Nat.le_trans hB hs.out);clear hy he;generalize bs++leN t x=cs at *;go_wp2_with (at_builtin;refine Zfc rfl (.tmp 12) (.tmp 19) rfl 5 (.int .u8 0) 1 Tryz.underlying22 Tryz.infoU8 rfl rfl rfl hown.out YA.out (by rfl) (by have:=HL.out;unfold maxLen;omega) (by have:=HL.out;omega) ?_;intro v' w' ho hb3 hz3 hk3 hw3)
   have HO:=hid ho;have Qe:=hid hb3;have JV:=hid hz3;have X5:=hid (show Kp _ wr w' v' from ⟨hk3,fun k hk=>by
    rcases hw3 with h | h
    ·exact .inl (by rw[← h];exact hk.symm)
    ·exact .inr (h.1 k hk)⟩)
   clear ho hb3 hz3 hk3 hw3;go_roundw
   case rel =>
    refine⟨t+1,by omega,by go_num,hid ?_,hid (hb.out.trans Qe.out),hid (Nat.le_trans hs.out JV.out),hid (hkp.out.trans X5.out hs.out)⟩;rw[HS.out,List.length_append,Zpm];exact HO.out
   case measure=>simp[intOf];omega
  ·obtain rfl:t=k:=by omega
   go_wp2;go_ret;exact⟨_,rfl,hown.out,hb.out,hs.out,hkp.out⟩
def OwnB (B:Nat) (w:World) (v:Value) (bs:List Nat):Prop:=w.ownsRow B 5 1 v bs.length (u8s bs)
def Zp8 (B:Nat) (v:Value) (w w':World) (e:Ending) (bs:List Nat):Prop:=∃ r,e=.returned r∧OwnB B w' r bs∧Below B w w'∧w.heap.size≤w'.heap.size∧Kp v w w' r
theorem OwnB.form {B:Nat} {w:World} {v:Value} {bs:List Nat} (h:OwnB B w v bs):∃ A c,v=.slice A bs.length c:=by
 obtain⟨A,c,rfl,_⟩:=Zao h;exact⟨A,c,rfl⟩
def le8 (ws:List Nat):List Nat:=ws.flatMap fun x=>leN 8 x
theorem Zuk (ws:List Nat) (x:Nat):le8 (ws++[x])=le8 ws++leN 8 x:=by simp[le8]
theorem Zl0 {α : Type} (f : α→List Nat) (k:Nat) (h:∀ x,(f x).length=k) (xs:List α):(xs.flatMap f).length=k*xs.length:=by
 induction xs with
 | nil=>simp
 | cons a r ih=>rw[List.flatMap_cons,List.length_append,ih,h,List.length_cons,Nat.mul_succ];omega
theorem Zlv (ws:List Nat):(le8 ws).length=8*ws.length:=Zl0 _ 8 (fun _=>Zai _ _) ws
theorem Zjg (B:Nat) (v:Value) (bs:List Nat) (x:Nat) (w:World) (hown:OwnB B w v bs) (hB:B≤w.heap.size) (hx:x<18446744073709551616) (hl:bs.length≤17592186044416) :
  Calls Tryz.prog 145 #[v,.int .u64 x] w fun e w'=>Zp8 B v w w' e (bs++leN 8 x):=by
 have HN:=hid (Zgw B v bs x 8 w hown hB hx (by omega) hl);obtain⟨R,hR⟩:∃ R,bs++leN 8 x=R:=⟨_,rfl⟩;rw[hR]at HN ⊢;obtain⟨A,c,rfl⟩:=hown.form;clear hown hR;go_enter Tryz.func145,Tryz.ntmps145;go_wp2_with (go_at_call 112;refine HN.out.mono ?_;rintro e w1 ⟨r,rfl,h1,h2,h3,h4⟩;obtain⟨A1,c1,rfl,_⟩:=Zao h1;have H1:=hid h1;have H2:=hid h2;have H3:=hid h3;have H4:=hid h4;clear h1 h2 h3 h4)
 go_ret;exact⟨_,rfl,H1.out,H2.out,H3.out,H4.out⟩
theorem Zgo (B:Nat) (v:Value) (bs:List Nat) (n:Nat) (w:World) (hown:OwnB B w v bs) (hB:B≤w.heap.size) (hx:n<4294967296) (hl:bs.length≤17592186044416) :
  Calls Tryz.prog 67 #[v,.int .i64 n] w fun e w'=>Zp8 B v w w' e (bs++leN 4 n):=by
 have HN:=hid (Zgw B v bs n 4 w hown hB (by omega) (by omega) hl);obtain⟨R,hR⟩:∃ R,bs++leN 4 n=R:=⟨_,rfl⟩;rw[hR]at HN ⊢;obtain⟨A,c,rfl⟩:=hown.form;clear hown hR;go_enter Tryz.func67,Tryz.ntmps67;go_wp2_with (go_at_call 112;refine HN.out.mono ?_;rintro e w1 ⟨r,rfl,h1,h2,h3,h4⟩;obtain⟨A1,c1,rfl,_⟩:=Zao h1;have H1:=hid h1;have H2:=hid h2;have H3:=hid h3;have H4:=hid h4;clear h1 h2 h3 h4)
 go_ret;exact⟨_,rfl,H1.out,H2.out,H3.out,H4.out⟩
set_option maxHeartbeats 1000000 in
theorem Zm8 (B:Nat) (v u:Value) (bs:List Nat) (ws:List Nat) (w:World) (hown:OwnB B w v bs) (hu:Stay B v w u ws.length 1 (u64s ws)) (hv:∀ x∈ws,x<18446744073709551616) (hB:B≤w.heap.size) (hl:bs.length≤1099511627776) (hl2:ws.length≤1048576) :
  Calls Tryz.prog 109 #[v,u] w fun e w'=>Zp8 B v w w' e (bs++le8 ws):=by
 have HU:=hid hu;have HV:=hid hv;obtain⟨A,c,rfl⟩:=hown.form;obtain⟨A1,c1,rfl,_,_,_⟩:=hu.now.form;have Qi:=hid hown;have HL:=hid hl;obtain⟨b0,hb0⟩:∃ b0,bs.length=b0:=⟨_,rfl⟩;have Qh:=hid hb0;rw[hb0]at hl;clear hown hu hv hb0;go_enter Tryz.func109,Tryz.ntmps109;go_wp2_with fail
 go_loopw [0,9] (fun r i wr=>∃ t:Nat,t≤ws.length∧i=.int .i64 t∧Hid (OwnB B wr r (bs++le8 (ws.take t)))∧Hid (Below B w wr)∧Hid (w.heap.size≤wr.heap.size)∧Hid (Kp (.slice A bs.length c) w wr r)) (fun _ i _=>ws.length-(intOf i).toNat)
 case atStart=>exact⟨0,by omega,rfl,hid (by simpa [le8]using Qi.out),hid (Below.refl _ _),hid (Nat.le_refl _),hid (Kp.refl _ _)⟩
 case round =>
  obtain⟨t,ht,rfl,QI,Qa,HS,HK⟩:=hrel;by_cases hlt:t<ws.length
  ·have Yw:Hid ((bs++le8 (ws.take t)).length=b0+8*t):=hid (by rw[List.length_append,Zlv,List.length_take,Nat.min_eq_left ht,Qh.out]);obtain⟨A2,c2,rfl⟩:=QI.out.form;obtain⟨b,o,rfl,hs⟩:=(HU.out wr _ Qa.out HK.out).atW (by omega);have e1:=hs t hlt;have hx:=HV.out (ws.getD t 0) (by simp[List.getD,List.getElem?_eq_getElem hlt]);have QC:Hid (bs++le8 (ws.take (t+1))=(bs++le8 (ws.take t))++leN 8 (ws.getD t 0)):=hid (by
    rw[List.take_succ_eq_append_getElem hlt,Zuk,List.append_assoc];simp[List.getD,List.getElem?_eq_getElem hlt])
   clear hs;generalize ws.getD t 0=x at *;generalize bs++le8 (ws.take t)=cs at *;have HN:=hid (Zjg B _ cs x wr QI.out (Nat.le_trans hB HS.out) (by omega) (by have:=Yw.out;omega));generalize cs++leN 8 x=R at *;go_wp2_with (go_at_call 145;refine HN.out.mono ?_;rintro e w1 ⟨r,rfl,h1,h2,h3,h4⟩;obtain⟨A3,c3,rfl⟩:=h1.form;have H1:=hid h1;have H2:=hid h2;have H3:=hid h3;have H4:=hid h4;clear h1 h2 h3 h4)
   go_roundw
   case rel=>exact⟨t+1,by omega,by go_num,hid (by rw[QC.out];exact H1.out),hid (Below.trans Qa.out H2.out),hid (Nat.le_trans HS.out H3.out),hid (HK.out.trans H4.out HS.out)⟩
   case measure=>simp[intOf];omega
  ·obtain rfl:t=ws.length:=by omega
   rw[List.take_length]at QI;obtain⟨A2,c2,rfl⟩:=QI.out.form;go_wp2_with fail
   go_ret;exact⟨_,rfl,QI.out,Qa.out,HS.out,HK.out⟩
theorem Zk2 (s:ByteArray):Lib.strCells s=u8s (sbs s):=by
 unfold Lib.strCells u8s u8 sbs;rw[List.map_map];rfl
theorem Zd2 {P:Program} (w:World) (base:Nat) (t u ty e:TypeId) (i:TypeInfo) (ht:P.underlying t=some (.slice e)) (hu:P.underlying u=some .string) (hi:P.info? e=some i) (hz:i.zero=some (.int .u8 0))
  (hsize:i.size=1) (hby:i.bytes=1) (v:Value) (n:Nat) (xs:List Value) (hown:w.ownsRow base e 1 v n xs) (s:ByteArray) (h63:n+s.size≤maxLen) (hbytes:n+s.size≤140737488355328) (hbase:base≤w.heap.size) :
  ∃ v' w',(Builtin.append_ #[t,u] ty #[v,.string s]).run P w=.ok v' w'∧w'.ownsRow base e 1 v' (n+s.size) (xs++Lib.strCells s)∧w.grownBy w' v.ownBlock∧(∀ k,v'.ownBlock=some k→some k=v.ownBlock∨w.heap.size≤k):=by
 obtain⟨v',w',hr,h1,h2,h3⟩:=Lib.run_append_own_string (P:=P) (w:=w) base t u ty e i ht hu hi hz hsize hby v n xs hown s h63 hbytes hbase;refine⟨v',w',hr,h1,h2,?_⟩;have hxl:xs.length=n:=by simpa using hown.1
 rcases hown.2 with ⟨rfl,rfl⟩ | ⟨g,cap,cur,rfl,hbg,hg,hnc,hcm,hcs,htake⟩
 ·by_cases hm:s.size=0
  ·have:=h3.2 ⟨rfl,hm⟩;subst this;intro k hk;cases hk
  ·have hr2:=run_append_nil_string (P:=P) w t u ty e i (.int .u8 0) ht hu hi hz s (by unfold maxLen at h63;omega) (by unfold maxLen at h63;omega) (by rw[hby];omega);rw[hr]at hr2;injection hr2 with e1 e2
   subst e1;intro k hk;simp[Value.ownBlock]at hk;exact .inr (by omega)
 ·have hsmall:n+s.size≤9223372036854775807:=by unfold maxLen at h63;omega
  by_cases hroom:n+s.size≤cap
  ·have hcs2:cur.size=cap:=by simpa using hcs
   have hr2:=Lib.run_append_room_string (P:=P) (w:=w) t u ty e i ht hu hi hsize g n cap cur hg s hroom (by omega);rw[hr]at hr2;injection hr2 with e1 e2
   subst e1;intro k hk;exact .inl (by simpa [Value.ownBlock]using hk.symm)
  ·have holds:∀ j u,xs[j]? = some u→w.cell? ((⟨g,0,none⟩:Addr).add j)=some u:=hown.cells (g:=g) rfl;have hr2:=Lib.run_append_grow_string (P:=P) (w:=w) t u ty e i (.int .u8 0) ht hu hi hz ⟨g,0,none⟩ n cap xs (by rw[hsize];simpa using hxl) holds s (by omega) (by omega) (by rw[hby];exact growslice_fits (by omega) (by omega));rw[hr]at hr2;injection hr2 with e1 e2
   subst e1;intro k hk;simp[Value.ownBlock]at hk;exact .inr (by omega)
theorem Znd {w:World} {ops:Array Oper} {rest:List Oper} {o:Oper} {a:Act} {Q:Exit→Act→World→Prop} {v:Value} {B:Nat} {bs:List Nat} {x:ByteArray}
  (hgd:o.guard=none) (sl r:Operand) (ho:o.op=.call { callee:=.builtin .append,args:=#[sl,r],argTypes:=#[22,9] })
  (hs:a.eval sl=v) (hx:a.eval r=.string x) (hown:OwnB B w v bs) (hm:bs.length+x.size≤17592186044416) (hB:B≤w.heap.size)
  (hK:∀ v' w',OwnB B w' v' (bs++sbs x)→Below B w w'→w.heap.size≤w'.heap.size→Kp v w w' v'→wpList Tryz.prog ops Q rest (a.put o.dst v') w'):wpList Tryz.prog ops Q (o :: rest) a w:=by
 obtain⟨iu,hiu,hz0,hz1,hz2⟩:=info_parts Tryz.infoU8;have hlt:=World.ownsRow.lt hown;refine wpList_plain hgd fun K hK2=>?_
 obtain⟨v',w',hr,h1,h2,hw⟩:=Zd2 (P:=Tryz.prog) w B 22 9 o.type 5 iu Tryz.underlying22 Tryz.underlying9 hiu hz0 hz1 hz2 v bs.length (u8s bs) hown x (by unfold maxLen;omega) (by omega) hB;unfold Oper.wp execOp;simp only[ho,resolve,invoke,builtin,Sem.run_bind,Sem.run_pure,Result.andThen_ok,List.map_toArray,List.map_cons,List.map_nil,hs,hx,hr];refine hK2 _ _ (hK v' w' ?_ ((Below.refl B w).grown h2 (by omega) (fun k hk=>(hlt k hk).1)) h2.size ⟨h2.block,hw⟩);unfold OwnB;rw[List.length_append,Zcb,Zh6,← Zk2];exact h1
def ofK (k:Int) (c:C3):Bool :=
 if c.n=true then Zax k&&(decide (c.i=0)&&c.s.toList.isEmpty)else if k=1 then c.s.toList.isEmpty else decide (k=2∧c.i=0∧c.s.size≤1024)
set_option maxHeartbeats 1000000 in
theorem Zpx (c:C3) (k:Int) (w:World):Calls Tryz.prog 70 #[c.v,.int .i64 k] w fun e w'=>e=.returned (.bool (ofK k c))∧Below w.heap.size w w':=by
 obtain⟨b,i,s⟩:=c;unfold C3.v ofK;simp only;go_enter Tryz.func70,Tryz.ntmps70;cases b
 ·by_cases h1:k=1
  ·go_wp2;go_ret;exact⟨Zae (by simp[h1]),(Zab w).alloc (Nat.le_refl _) _⟩
  ·go_wp2<;>(go_ret;exact⟨Zae (by simp[*]<;>omega),(Zab w).alloc (Nat.le_refl _) _⟩)
 ·have HK:=hid (fun w2:World=>Zkh k w2);generalize Zax k=kk at *;cases kk
  ·go_wp2_with (go_at_call 69;refine(HK.out _).mono ?_;rintro e w1 ⟨rfl,hw⟩;replace hw:=hw.symm;subst hw)
   go_ret;exact⟨Zae (by simp),(Zab w).alloc (Nat.le_refl _) _⟩
  ·go_wp2_with (go_at_call 69;refine(HK.out _).mono ?_;rintro e w1 ⟨rfl,hw⟩;replace hw:=hw.symm;subst hw)
   all_goals (go_ret;exact⟨Zae (by simp[*]),(Zab w).alloc (Nat.le_refl _) _⟩)
set_option maxHeartbeats 1000000 in
theorem Zu1 (c:C3) (k:Int) (w:World):Calls Tryz.prog 100 #[.int .i64 k,c.v] w fun e w'=>e=.returned (.bool (ofK k c))∧Below w.heap.size w w':=by
 obtain⟨b,i,s⟩:=c;unfold C3.v ofK;simp only;have HK:=hid (fun w2:World=>Ze4 k w2);generalize Zax k=kk at *;go_enter Tryz.func100,Tryz.ntmps100;cases b
 ·clear HK;by_cases h1:k=1
  ·go_wp2;go_ret;exact⟨Zae (by simp[h1]),(Zab w).alloc (Nat.le_refl _) _⟩
  ·by_cases h2:k=2
   ·subst h2;by_cases h3:i=0
    ·by_cases h4:(s.size:Int)≤1024<;>go_wp2<;>(go_ret;exact⟨Zae (by simp[*];omega),(Zab w).alloc (Nat.le_refl _) _⟩)
    ·go_wp2;go_ret;exact⟨Zae (by simp[*]),(Zab w).alloc (Nat.le_refl _) _⟩
   ·go_wp2;go_ret;exact⟨Zae (by simp[*]),(Zab w).alloc (Nat.le_refl _) _⟩
 ·cases kk
  ·go_wp2_with (go_at_call 96;refine(HK.out _).mono ?_;rintro e w1 ⟨rfl,hw⟩;replace hw:=hw.symm;subst hw)
   go_ret;exact⟨Zae (by simp),(Zab w).alloc (Nat.le_refl _) _⟩
  ·go_wp2_with (go_at_call 96;refine(HK.out _).mono ?_;rintro e w1 ⟨rfl,hw⟩;replace hw:=hw.symm;subst hw)
   all_goals (go_ret;exact⟨Zae (by simp[*]),(Zab w).alloc (Nat.le_refl _) _⟩)
set_option maxRecDepth 512
theorem Zhn:∀ a b c:List UInt8,Op.bytesLess a b=true→Op.bytesLess b c=true→Op.bytesLess a c=true:=by
 intro a
 induction a with
 | nil =>
  intro b c h1 h2;cases b with
  | nil=>simp[Op.bytesLess]at h1
  | cons y b =>
   cases c with
   | nil=>simp[Op.bytesLess]at h2
   | cons z c=>simp[Op.bytesLess]
 | cons x a ih =>
  intro b c h1 h2;cases b with
  | nil=>simp[Op.bytesLess]at h1
  | cons y b =>
   cases c with
   | nil=>simp[Op.bytesLess]at h2
   | cons z c =>
    simp only[Op.bytesLess,Bool.or_eq_true,Bool.and_eq_true,decide_eq_true_eq,beq_iff_eq]at h1 h2 ⊢;rcases h1 with h1 | ⟨h1,h3⟩<;>rcases h2 with h2 | ⟨h2,h4⟩
    ·exact .inl (UInt8.lt_trans h1 h2)
    ·subst h2;exact .inl h1
    ·subst h1;exact .inl h2
    ·subst h1 h2;exact .inr ⟨rfl,ih _ _ h3 h4⟩
theorem Zov:∀ a b:List UInt8,Op.bytesLess a b=false→a≠b→Op.bytesLess b a=true:=by
 intro a
 induction a with
 | nil =>
  intro b h1 h2;cases b with
  | nil=>exact absurd rfl h2
  | cons y b=>simp[Op.bytesLess]at h1
 | cons x a ih =>
  intro b h1 h2;cases b with
  | nil=>simp[Op.bytesLess]
  | cons y b =>
   rw[← Bool.not_eq_true]at h1;simp only[Op.bytesLess,Bool.or_eq_true,Bool.and_eq_true,decide_eq_true_eq,beq_iff_eq]at h1 ⊢;by_cases hxy:x=y
   ·subst hxy;refine .inr ⟨rfl,ih b ?_ (fun h=>h2 (by rw[h]))⟩;rw[← Bool.not_eq_true];exact fun h=>h1 (.inr ⟨rfl,h⟩)
   ·refine .inl ?_;rcases UInt8.lt_or_lt_of_ne hxy with h | h
    ·exact absurd (.inl h) h1
    ·exact h
theorem Zfv:∀ l:List UInt8,Op.bytesLess l l=false:=by
 intro l
 induction l with
 | nil=>rfl
 | cons a l ih=>rw[Op.bytesLess,ih];simp
set_option maxRecDepth 100000
theorem p64:(2:Nat)^(8*8)=18446744073709551616:=by decide
theorem p32:(2:Nat)^(8*4)=4294967296:=by decide
theorem Zvn (n:Nat):∀ k,L.wordOf 8 (leN k n)=n%2^(8*k):=by
 intro k
 induction k with
 | zero=>simp[leN,L.wordOf,Nat.mod_one]
 | succ k ih =>
  rw[Zpf,L.wordOf_snoc,ih,Zai,Nat.mul_succ,Nat.pow_add,Nat.mod_mul,show (2:Nat)^8=256 from rfl];congr 1
  exact Nat.mul_comm _ _
theorem Zdk {k n:Nat} (h:n<2^(8*k)):L.wordOf 8 (leN k n)=n:=by rw[Zvn,Nat.mod_eq_of_lt h]
theorem Zxr (k:Nat) (xs:List Nat):∀ i,(xs.flatMap (leN k)).drop (k*i)=(xs.drop i).flatMap (leN k):=by
 induction xs with
 | nil=>intro i;simp
 | cons x r ih =>
  intro i;cases i with
  | zero=>simp
  | succ i =>
   rw[List.flatMap_cons,List.drop_succ_cons,← ih i,Nat.mul_succ,Nat.add_comm,← List.drop_drop];congr 1
   exact List.drop_left' (Zai k x)
theorem Zqs (k:Nat) (hk:0<k) (xs:List Nat) (hx:∀ x∈xs,x<2^(8*k)):numL k (xs.flatMap (leN k))=xs:=by
 have hl:(xs.flatMap (leN k)).length=k*xs.length:=Zl0 _ k (Zai k) xs;apply List.ext_getElem
 ·rw[Zan,hl,Nat.mul_div_cancel_left _ hk]
 ·intro i h1 h2;simp only[numL,List.getElem_map,List.getElem_range];rw[Zxr,List.drop_eq_getElem_cons h2,List.flatMap_cons,List.take_left' (Zai k _)];exact Zdk (hx _ (List.getElem_mem h2))
theorem Zih (n:Nat) (a b:List Nat) (h:a.length=n):tk n (a++b)=a:=by
 unfold tk;rw[if_pos (by rw[List.length_append];omega),List.take_left' h]
def okI (x:Int):Prop:=-9223372036854775808≤x∧x≤9223372036854775807
theorem Zlw (s:ByteArray):Zat (sbs s)=s:=by
 unfold Zat sbs;apply ByteArray.ext;rw[List.map_map];have:s.data.toList.map (UInt8.ofNat ∘ UInt8.toNat)=s.data.toList:=by
  rw[List.map_congr_left (g:=id) (fun x _=>by simp),List.map_id]
 rw[this]
def Zdw (k:Int) (c:C3):Bool:=!c.n&&ofK k c
set_option maxHeartbeats 1000000 in
theorem Zl9 (c:C3) (k:Int) (w:World):Calls Tryz.prog 184 #[.int .i64 k,c.v] w fun e w'=>e=.returned (.bool (Zdw k c))∧Below w.heap.size w w':=by
 have HK:=hid (fun w2:World=>Zu1 c k w2);unfold Zdw;generalize ofK k c=kk at *;obtain⟨b,i,s⟩:=c;unfold C3.v at *;simp only at *;go_enter Tryz.func184,Tryz.ntmps184;cases b
 ·go_wp2_with (go_at_call 100;refine(HK.out _).mono ?_;rintro e w1 ⟨rfl,hb1⟩;have HB:=hid hb1;clear hb1)
  go_ret;exact⟨Zae (by simp),((Zab w).alloc (Nat.le_refl _) _).trans (HB.out.mono (by simp))⟩
 ·go_wp2;go_ret;exact⟨Zae (by simp),(Zab w).alloc (Nat.le_refl _) _⟩
set_option maxHeartbeats 1000000 in
theorem Zfu (c:C3) (k:Int) (w:World):Calls Tryz.prog 167 #[c.v,.int .i64 k] w fun e w'=>e=.returned (.bool (Zdw k c))∧Below w.heap.size w w':=by
 have HK:=hid (fun w2:World=>Zpx c k w2);unfold Zdw;generalize ofK k c=kk at *;obtain⟨b,i,s⟩:=c;unfold C3.v at *;simp only at *;go_enter Tryz.func167,Tryz.ntmps167;cases b
 ·go_wp2_with (go_at_call 70;refine(HK.out _).mono ?_;rintro e w1 ⟨rfl,hb1⟩;have HB:=hid hb1;clear hb1)
  go_ret;exact⟨Zae (by simp),((Zab w).alloc (Nat.le_refl _) _).trans (HB.out.mono (by simp))⟩
 ·go_wp2;go_ret;exact⟨Zae (by simp),(Zab w).alloc (Nat.le_refl _) _⟩
theorem Z2k {w w1:World} {x y z:Value} {e:TypeId} {B:Nat} (h:Below B (w.alloc (.cells #[x,y,z] e)) w1) (hB:w.heap.size<B) :
  w1.cell? ⟨w.heap.size,0,none⟩=some x∧w1.cell? ⟨w.heap.size,1,none⟩=some y∧w1.cell? ⟨w.heap.size,2,none⟩=some z:=by
 have hr:Row (w.alloc (.cells #[x,y,z] e)) w.heap.size e [x,y,z]:=by unfold Row;rw[heap_alloc_new]
 have hr2:=hr.below h hB;exact⟨by rw[hr2.cell];rfl,by rw[hr2.cell];rfl,by rw[hr2.cell];rfl⟩
theorem cell3 {w:World} {g:Nat} {e:TypeId} {a b c:Value} (h:Row w g e [a,b,c]):w.cell? ⟨g,0,none⟩=some a∧w.cell? ⟨g,1,none⟩=some b∧w.cell? ⟨g,2,none⟩=some c:=⟨by rw[h.cell];rfl,by rw[h.cell];rfl,by rw[h.cell];rfl⟩
theorem Zbe {w:World} {C:Array Value} {e:TypeId}:Row (w.alloc (.cells C e)) w.heap.size e C.toList∧Below w.heap.size w (w.alloc (.cells C e)):=by
 refine⟨?_,(Zab w).alloc (Nat.le_refl _) _⟩;unfold Row;rw[heap_alloc_new]
set_option maxRecDepth 20000
structure ZM where
 rg:Bool
 nu:Int
 mn:C3
 mx:C3
 hs:Int
 bl:List Nat
def ZM.df:ZM:=⟨false,0,C3.df,C3.df,0,[]⟩
def isDf (c:C3):Bool:=!c.n&&(decide (c.i=0)&&c.s.toList.isEmpty)
def Zet (n k:Int):Bool:=decide (1≤n∧n≤64∧1≤k∧k≤8)
def filZ (n:Nat) (k:Int):Bool:=decide (n=0∧k=0)||Zet n k
def rgOk (k rows:Int) (z:ZM):Bool :=
 if z.rg=true then (if z.nu=rows then isDf z.mn&&isDf z.mx else decide (0≤z.nu∧z.nu<rows)&&(Zdw k z.mn&&Zdw k z.mx))
 else decide (z.nu=0)&&(isDf z.mn&&isDf z.mx)
def zOk (k rows:Int) (z:ZM):Bool:=rgOk k rows z&&filZ z.bl.length z.hs
def Zb3 (k:Int) (c:C3):List Nat:=if k=2 then leN 4 c.s.size++sbs c.s else leN 8 (toU c.i)
def Zdq (z:ZM):Nat:=(if z.rg=true then 1 else 0)+(if z.bl=[]then 0 else 2)
def recA (z:ZM):List Nat:=if z.rg=true then leN 4 z.nu.toNat else []
def recB (k rows:Int) (z:ZM):List Nat:=if z.rg=true∧z.nu≠rows then Zb3 k z.mn++Zb3 k z.mx else []
def recC (z:ZM):List Nat:=if z.bl=[]then []else [z.hs.toNat]++leN 4 z.bl.length++le8 z.bl
def zRec (k rows:Int) (z:ZM):List Nat:=[Zdq z]++recA z++recB k rows z++recC z
theorem Zx7 {x t:ByteArray} (h:x.toList=t.toList):x=t:=by
 rw[ByteArray.toList_eq,ByteArray.toList_eq]at h;obtain⟨x⟩:=x;obtain⟨t⟩:=t;simp only at h;rw[Array.toList_inj.1 h]
theorem Zlg {c:C3} (h:isDf c=true):c=C3.df:=by
 obtain⟨n,i,s⟩:=c;unfold isDf at h;simp only[Bool.and_eq_true,Bool.not_eq_true',decide_eq_true_eq,List.isEmpty_iff]at h;obtain⟨rfl,rfl,h3⟩:=h;have:s=ByteArray.empty:=Zx7 (by rw[h3];decide +kernel);rw[this];rfl
theorem Zfr {s:ByteArray} (h:s.toList.isEmpty=true):s=ByteArray.empty:=Zx7 (by rw[List.isEmpty_iff.1 h];decide +kernel)
theorem Zqr {i:Int} (h : -9223372036854775808≤i∧i≤9223372036854775807):Zcf (toU i)=i:=by unfold Zcf toU wrap64;omega
def bdC (k:Int) (xs:List Nat):C3:=if k=2 then ⟨false,0,Zat (tk (L.wordOf 8 (tk 4 xs)) (tkL 4 xs))⟩else ⟨false,Zcf (L.wordOf 8 (tk 8 xs)),ByteArray.empty⟩
def bdL (k:Int) (xs:List Nat):List Nat:=if k=2 then tkL (L.wordOf 8 (tk 4 xs)) (tkL 4 xs)else tkL 8 xs
def pzF (xs:List Nat):Nat:=L.wordOf 8 (tk 1 xs)
def pzR (xs:List Nat):Bool:=decide (pzF xs%2=1)
def pzN (xs:List Nat):Int:=if pzR xs=true then (L.wordOf 8 (tk 4 (tkL 1 xs)):Nat)else 0
def pzX2 (xs:List Nat):List Nat:=if pzR xs=true then tkL 4 (tkL 1 xs)else tkL 1 xs
def pzD (rows:Int) (xs:List Nat):Bool:=pzR xs&&decide (pzN xs≠rows)
def pzX4 (k rows:Int) (xs:List Nat):List Nat:=if pzD rows xs=true then bdL k (bdL k (pzX2 xs))else pzX2 xs
def pzB (xs:List Nat):Bool:=decide (pzF xs/2%2=1)
def Zgb (k rows:Int) (xs:List Nat):ZM :=
 ⟨pzR xs,pzN xs,if pzD rows xs=true then bdC k (pzX2 xs)else C3.df,if pzD rows xs=true then bdC k (bdL k (pzX2 xs))else C3.df,
  if pzB xs=true then (L.wordOf 8 (tk 1 (pzX4 k rows xs)):Nat)else 0,
  if pzB xs=true then numL 8 (tk (8*L.wordOf 8 (tk 4 (tkL 1 (pzX4 k rows xs)))) (tkL 4 (tkL 1 (pzX4 k rows xs))))else []⟩
theorem Zhh (n:Nat) (a b:List Nat) (h:a.length=n):tkL n (a++b)=b:=by
 unfold tkL;rw[if_pos (by rw[List.length_append];omega),List.drop_left' h]
theorem Zh4 (x:Nat):L.wordOf 8 [x]=x:=by simp[L.wordOf]
theorem Zuj {k:Int} {c:C3} (hk:Zax k=true) (h:Zdw k c=true) (hi:okI c.i):(∀ t,bdC k (Zb3 k c++t)=c)∧∀ t,bdL k (Zb3 k c++t)=t:=by
 obtain⟨n,i,s⟩:=c;unfold Zdw at h;rw[Bool.and_eq_true,Bool.not_eq_true']at h;obtain⟨h1,h2⟩:=h;simp only at h1 hi;subst h1;unfold ofK at h2;simp only[Bool.false_eq_true,if_false]at h2;by_cases h0:k=2
 ·subst h0;rw[if_neg (by decide),decide_eq_true_eq]at h2;obtain⟨_,rfl,hs⟩:=h2;have hl:(sbs s).length=s.size:=Zcb s;have hw:L.wordOf 8 (leN 4 s.size)=s.size:=Zdk (by rw[p32];omega);constructor
  ·intro t;unfold bdC Zb3;rw[if_pos rfl,if_pos rfl,List.append_assoc,Zih 4 _ _ (Zai _ _),Zhh 4 _ _ (Zai _ _),hw,Zih _ _ _ hl,Zlw]
  ·intro t;unfold bdL Zb3;rw[if_pos rfl,if_pos rfl,List.append_assoc,Zih 4 _ _ (Zai _ _),Zhh 4 _ _ (Zai _ _),hw,Zhh _ _ _ hl]
 ·have hk1:k=1:=by
   unfold Zax at hk;rw[decide_eq_true_eq]at hk;omega
  subst hk1;rw[if_pos rfl]at h2;have hse:=Zfr h2;subst hse;have hw:L.wordOf 8 (leN 8 (toU i))=toU i:=Zdk (by rw[p64];exact Znx i);unfold okI at hi;constructor
  ·intro t;unfold bdC Zb3;rw[if_neg (by decide),if_neg (by decide),Zih 8 _ _ (Zai _ _),hw,Zqr (by omega)]
  ·intro t;unfold bdL Zb3;rw[if_neg (by decide),if_neg (by decide),Zhh 8 _ _ (Zai _ _)]
def Zkq (z:ZM):Prop:=okI z.mn.i∧okI z.mx.i∧∀ x∈z.bl,x<18446744073709551616
theorem Zn6 (z:ZM):(Zdq z%2=1)↔z.rg=true:=by
 unfold Zdq;by_cases h:z.bl=[]<;>cases z.rg<;>simp[h]
theorem Zvx (z:ZM):(Zdq z/2%2=1)↔z.bl≠[]:=by
 unfold Zdq;by_cases h:z.bl=[]<;>cases z.rg<;>simp[h]
theorem Zq5 (z:ZM):(2≤Zdq z)↔z.bl≠[]:=by
 unfold Zdq;by_cases h:z.bl=[]<;>cases z.rg<;>simp[h]
theorem Zmo (z:ZM):Zdq z<4:=by
 unfold Zdq;by_cases h:z.bl=[]<;>cases z.rg<;>simp[h]
theorem Zub {k rows:Int} {z:ZM} (hr:0≤rows∧rows≤65536) (h:zOk k rows z=true):0≤z.nu∧z.nu≤65536:=by
 unfold zOk rgOk at h;rw[Bool.and_eq_true]at h;have h1:=h.1
 split at h1
 ·split at h1
  ·omega
  ·rw[Bool.and_eq_true,decide_eq_true_eq]at h1;omega
 ·rw[Bool.and_eq_true,decide_eq_true_eq]at h1;omega
theorem Zfx {k rows:Int} {z:ZM} (h:zOk k rows z=true):(z.bl=[]∧z.hs=0)∨(z.bl≠[]∧z.bl.length≤64∧1≤z.hs∧z.hs≤8):=by
 unfold zOk filZ Zet at h;rw[Bool.and_eq_true,Bool.or_eq_true,decide_eq_true_eq,decide_eq_true_eq]at h;rcases h.2 with ⟨h1,h2⟩ | ⟨h1,h2,h3,h4⟩
 ·left;exact⟨List.length_eq_zero_iff.1 h1,h2⟩
 ·right
  refine⟨fun e=>?_,by omega,h3,h4⟩;rw[e]at h1;simp at h1
theorem Zn0 {k rows:Int} {z:ZM} (h:zOk k rows z=true):(z.rg=true∧z.nu≠rows∧Zdw k z.mn=true∧Zdw k z.mx=true)∨(¬ (z.rg=true∧z.nu≠rows)∧z.mn=C3.df∧z.mx=C3.df):=by
 unfold zOk rgOk at h;rw[Bool.and_eq_true]at h;have h1:=h.1
 split at h1
 ·rename_i hr
  split at h1
  ·rename_i hn
   rw[Bool.and_eq_true]at h1;exact .inr ⟨fun h=>h.2 hn,Zlg h1.1,Zlg h1.2⟩
  ·rename_i hn
   rw[Bool.and_eq_true,Bool.and_eq_true]at h1;exact .inl ⟨hr,hn,h1.2.1,h1.2.2⟩
 ·rename_i hr
  rw[Bool.and_eq_true,Bool.and_eq_true]at h1;exact .inr ⟨fun h=>hr h.1,Zlg h1.2.1,Zlg h1.2.2⟩
theorem Zui {k rows:Int} {z:ZM} (h:zOk k rows z=true) (hr:z.rg=false):z.nu=0:=by
 unfold zOk rgOk at h;rw[Bool.and_eq_true,hr]at h;have h1:=h.1;simp only[Bool.false_eq_true,if_false,Bool.and_eq_true,decide_eq_true_eq]at h1;exact h1.1
theorem Zwp {k rows:Int} {z:ZM} (hk:Zax k=true) (hr:0≤rows∧rows≤65536) (hz:Zkq z) (h:zOk k rows z=true):Zgb k rows (zRec k rows z)=z:=by
 obtain⟨hn0,hn1⟩:=Zub hr h;have hF:pzF (zRec k rows z)=Zdq z:=by
  unfold pzF zRec;rw[List.append_assoc,List.append_assoc,Zih 1 _ _ rfl,Zh4]
 have hT:tkL 1 (zRec k rows z)=recA z++(recB k rows z++recC z):=by
  unfold zRec;rw[List.append_assoc,List.append_assoc,Zhh 1 _ _ rfl]
 have hR:pzR (zRec k rows z)=z.rg:=by
  unfold pzR;rw[hF];have:=Zn6 z;cases hc:z.rg
  ·rw[hc]at this;exact decide_eq_false (fun e=>by simpa using this.1 e)
  ·exact decide_eq_true (this.2 hc)
 have hB:pzB (zRec k rows z)=decide (z.bl≠[]):=by
  unfold pzB;rw[hF];exact decide_eq_decide.2 (Zvx z)
 have hN:pzN (zRec k rows z)=z.nu:=by
  unfold pzN;rw[hR,hT];cases hc:z.rg
  ·rw[if_neg (by decide),Zui h hc]
  ·rw[if_pos rfl];unfold recA;rw[if_pos hc,Zih 4 _ _ (Zai _ _),Zdk (by rw[p32];omega)];omega
 have hX2:pzX2 (zRec k rows z)=recB k rows z++recC z:=by
  unfold pzX2;rw[hR,hT];unfold recA;cases hc:z.rg
  ·rfl
  ·rw[if_pos rfl,if_pos rfl,Zhh 4 _ _ (Zai _ _)]
 have hD:pzD rows (zRec k rows z)=decide (z.rg=true∧z.nu≠rows):=by
  unfold pzD;rw[hR,hN];cases z.rg<;>simp
 have hparts:(if pzD rows (zRec k rows z)=true then bdC k (pzX2 (zRec k rows z))else C3.df)=z.mn∧(if pzD rows (zRec k rows z)=true then bdC k (bdL k (pzX2 (zRec k rows z)))else C3.df)=z.mx∧pzX4 k rows (zRec k rows z)=recC z:=by
  unfold pzX4;rw[hD,hX2];rcases Zn0 h with ⟨h1,h2,h3,h4⟩ | ⟨h1,h2,h3⟩
  ·have hc:z.rg=true∧z.nu≠rows:=⟨h1,h2⟩;obtain⟨b1,b2⟩:=Zuj hk h3 hz.1;obtain⟨b3,b4⟩:=Zuj hk h4 hz.2.1;have eB:recB k rows z=Zb3 k z.mn++Zb3 k z.mx:=by unfold recB;rw[if_pos hc]
   rw[decide_eq_true hc,if_pos rfl,if_pos rfl,if_pos rfl,eB,List.append_assoc,b1,b2,b3,b4];exact⟨rfl,rfl,rfl⟩
  ·have eB:recB k rows z=[]:=by unfold recB;rw[if_neg h1]
   rw[decide_eq_false h1,if_neg (by decide),if_neg (by decide),if_neg (by decide),h2,h3,eB];exact⟨rfl,rfl,rfl⟩
 unfold Zgb;rw[hparts.1,hparts.2.1,hparts.2.2,hR,hN,hB];rcases Zfx h with ⟨h1,h2⟩ | ⟨h1,h2,h3,h4⟩
 ·rw[decide_eq_false (by simp[h1]),if_neg (by decide),if_neg (by decide)];obtain⟨a,b,c,d,e,f⟩:=z;simp only at h1 h2;rw[h1,h2]
 ·have eC:recC z=[z.hs.toNat]++(leN 4 z.bl.length++le8 z.bl):=by unfold recC;rw[if_neg h1,List.append_assoc]
  have e8:le8 z.bl=z.bl.flatMap (leN 8):=rfl;rw[decide_eq_true h1,if_pos rfl,if_pos rfl,eC,Zih 1 _ _ rfl,Zhh 1 _ _ rfl,Zih 4 _ _ (Zai _ _),Zhh 4 _ _ (Zai _ _),Zh4,Zdk (by rw[p32];omega)];have ht:tk (8*z.bl.length) (le8 z.bl)=le8 z.bl:=by
   have:=Zih (8*z.bl.length) (le8 z.bl) [] (Zlv _)
   rwa [List.append_nil]at this
  rw[ht,e8,Zqs 8 (by decide) _ (fun x hx=>by rw[p64];exact hz.2.2 x hx)];obtain⟨a,b,c,d,e,f⟩:=z;simp only at h3 h4 ⊢;rw[Int.toNat_of_nonneg (by omega)]
end Go.Proofs.YtmcjknjlihgihaaGreatDoor
