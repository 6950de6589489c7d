/- A region that draws its order, in a round of a loop over a function: walked as one of a plain function (loads first, one condition on the world). -/
import Derived.Deep.RegionHeld
import Derived.KernelRfl
import Derived.Test.YtmcjknjlihgihaaGreatDoorLawparseuptoM28
set_option linter.unusedVariables false
set_option linter.unusedSimpArgs false
set_option linter.unnecessarySimpa false
set_option maxRecDepth 20000
namespace Go.Proofs.YtmcjknjlihgihaaGreatDoor
open Go.RowKit
theorem Zz2 {k:Int} {c:C3} (h:ofK k c=true):c.s.size≤1024:=by
 have h0:c.s.toList.isEmpty=true→c.s.size≤1024:=by
  intro he;rw[ByteArray.toList_eq]at he;have:c.s.data.toList=[]:=by simpa using he
  have h2:c.s.data.toList.length=0:=by rw[this];rfl
  have h3:c.s.size=c.s.data.toList.length:=by rw[Array.length_toList];rfl
  omega
 unfold ofK at h
 split at h
 ·simp only[Bool.and_eq_true]at h;exact h0 h.2.2
 ·split at h
  ·exact h0 h
  ·simp only[decide_eq_true_eq]at h;exact h.2.2
def Zfw (h k n:Nat):List Int:=(Zdg h k n).map fun p:Nat=>(p:Int)
theorem Znj (h k n:Nat):(Zfw h k n).length=k:=by simp[Zfw,Zdg]
theorem Zp2 (h k n:Nat):Zfw h (k+1) n=Zfw h k n++[(Zct h k n:Int)]:=by rw[Zfw,Zg9];simp[Zfw]
theorem Zsg (h k n t:Nat) (ht:t<k):(Zfw h k n).getD t 0=(Zct h t n:Int):=by
 simp[Zfw,Zdg,List.getD,List.getElem?_range ht]
theorem Zw8 (xs:List Int) (n:Int):i64s (xs++[n])=i64s xs++[.int .i64 n]:=by simp[i64s,i64]
theorem Zu3 (k:Int) (c:C3) (h:c.s.size≤maxLen):(Zg4 k c).length≤maxLen:=by
 unfold Zg4;split
 ·rw[Zcb];exact h
 ·rw[Zai];unfold maxLen;omega
set_option maxHeartbeats 2000000 in
theorem Zrw (k:Int) (c:C3) (hs ws:Nat) (w:World) (hk:k=1∨k=2) (hsz:c.s.size≤maxLen) (hh:hs≤8) (hw:0<ws) (hw2:ws≤64) :
  Calls Tryz.prog 120 #[c.v,.int .i64 k,.int .i64 hs,.int .i64 ws] w fun e w'=>∃ r,e=.returned r∧w'.ownsRow w.heap.size 3 1 r hs (i64s (Zfw (Zhr k c) hs ws))∧Below w.heap.size w w':=by
 have ZE:=hid (fun w2:World=>Zsv k c w2 hk hsz);unfold Zhr;have hbl2:(Zg4 k c).length≤maxLen:=Zu3 k c hsz;have hbl:=hid (Zxy k c);generalize Zg4 k c=bs at *;unfold maxLen at hbl2;obtain⟨n,hn⟩:∃ n,bs.length=n:=⟨_,rfl⟩;have HN:=hid hn;rw[hn]at hbl2 ZE;clear hn;obtain⟨b,i,s⟩:=c;unfold C3.v at *;simp only at *;clear hsz hk;go_enter Tryz.func120,Tryz.ntmps120;go_wp2_with (go_at_call 151;refine(ZE.out _).mono ?_;rintro e w1 ⟨r,rfl,ho,hb1⟩;obtain⟨A,ca,rfl,_,_,hA⟩:=ho.form;have HA:=hid hA;have Qa:=hid hb1;have hs1:=hb1.size;clear ho hb1 hA)
 go_loopw [9,19] (fun h i wr=>∃ t:Nat,t≤n∧i=.int .i64 t∧h=.int .u64 (Zf0 (bs.take t):Nat)∧wr=w1) (fun _ i _=>n-(intOf i).toNat)
 case atStart=>exact⟨0,by omega,rfl,rfl,rfl⟩
 case round =>
  obtain⟨t,ht,rfl,rfl,rfl⟩:=hrel;have hlt64:=Zjn (bs.take t);by_cases hlt:t<n
  ·obtain⟨b,o,rfl,hs'⟩:=HA.out (by omega);have htl:t<bs.length:=by rw[HN.out];exact hlt
   have hc:=hs'.byte t htl;have hb256:=hbl.out (bs.getD t 0) (by simp[List.getD,List.getElem?_eq_getElem htl]);have HS:Hid (Zf0 (bs.take (t+1))=Zle (Zf0 (bs.take t)) (bs.getD t 0)):=by
    refine hid ?_;rw[List.take_succ_eq_append_getElem htl,Zj3];simp[List.getD,List.getElem?_eq_getElem htl]
   generalize bs.getD t 0=y at *;generalize Zf0 (bs.take t)=h at *;have hx:bits BinOp.xor IntKind.u64 (h:Int) (y:Int)=((h ^^^ y:Nat):Int):=u64_xor_nat _ _ hlt64 (by omega);have hr:IntKind.u64.wrap (((h ^^^ y:Nat):Int)*1099511628211)=((Zle h y:Nat):Int):=by rw[IntKind.wrap_u64];unfold Zle;omega
   generalize (h ^^^ y:Nat)=x at *;clear hs' htl;go_wp2;go_roundw
   case rel=>exact⟨t+1,by omega,by go_num,by rw[HS.out],by first | rfl | trivial⟩
   case measure=>simp[intOf];omega
  ·obtain rfl:t=n:=by omega
   have e8:bs.take t=bs:=List.take_of_length_le (by rw[HN.out];exact Nat.le_refl _);obtain⟨h,hh⟩:∃ h,Zf0 bs=h:=⟨_,rfl⟩;rw[e8,hh]at hlt64 ⊢;have HH:=hid hh;clear e8 HN hh;obtain⟨lo,hlo⟩:∃ lo,h%4294967296=lo:=⟨_,rfl⟩;have hloi:(h:Int)%4294967296=(lo:Int):=by omega
   have hlo2:lo<4294967296:=by omega
   have hor:bits BinOp.or IntKind.u64 ((h:Int)/4294967296) 1=((h/4294967296 ||| 1:Nat):Int):=by
    have:=u64_or_nat (h/4294967296) 1 (by omega) (by decide);rw[← this];congr 1
   have hor2:(h/4294967296 ||| 1)<4294967296:=Nat.or_lt_two_pow (n:=32) (by omega) (by decide);have HPN:Hid (∀ t,Zct h t ws=(lo+t*(h/4294967296 ||| 1))%(64*ws)):=hid (fun t=>by rw[Zct,hlo]);have ZA:=hid (fun t=>Zp2 h t ws);clear hlo;generalize (h/4294967296 ||| 1)=st at *;have hws0:((64:Int)*(ws:Int)==0)=false:=by simp;omega
   have Qb:Hid (Below w.heap.size w wr):=hid (Below.then' ((Zab w).alloc (Nat.le_refl _) _) Qa.out (by simp));clear Qa hs1;go_wp2;go_loopw [12,14] (fun l i wv=>∃ t:Nat,t≤hs∧i=.int .i64 t∧Hid (wv.ownsRow w.heap.size 3 1 l t (i64s (Zfw h t ws)))∧Hid (Below w.heap.size w wv)) (fun _ i _=>hs-(intOf i).toNat)
   case atStart=>exact⟨0,by omega,rfl,hid (World.ownsRow_nil _ _ _ _),Qb⟩
   case round =>
    obtain⟨t,ht,rfl,hown,hb⟩:=hrel;by_cases hlt:t<hs
    ·obtain⟨pr,hpr⟩:∃ pr:Nat,t*st=pr:=⟨_,rfl⟩;have hpri:(t:Int)*(st:Int)=(pr:Int):=by rw[← hpr];simp
     have hpr1:pr≤8*4294967296:=by
      rw[← hpr];exact Nat.mul_le_mul (by omega) (by omega)
     obtain⟨q,hq⟩:∃ q:Nat,(lo+pr)%(64*ws)=q:=⟨_,rfl⟩;have hqi:((lo:Int)+(pr:Int))%(64*(ws:Int))=(q:Int):=by rw[← hq];simp
     have hq1:q<4096:=by rw[← hq];have:=Nat.mod_lt (lo+pr) (show 0<64*ws by omega);omega
     have HQ:Hid (Zct h t ws=q):=hid (by rw[HPN.out,hpr,hq]);have YA:=hid hb.out.size;clear hpr hq;go_wp2_with (at_builtin;refine Zdp rfl (.tmp 39) (.tmp 52) rfl 3 (.int .i64 0) 8 Tryz.underlying23 Tryz.infoI64 rfl rfl rfl hown.out YA.out (by rfl) (by unfold maxLen;omega) (by omega) ?_;intro v' w' ho hb3 _)
     go_roundw
     case rel =>
      refine⟨t+1,by omega,by go_num,hid ?_,hid (hb.out.trans hb3)⟩;rw[ZA.out,HQ.out,Zw8];exact ho
     case measure=>simp[intOf];omega
    ·obtain rfl:t=hs:=by omega
     go_wp2;go_ret;rw[HH.out];exact⟨_,rfl,hown.out,hb.out⟩
def hasR (xs:List Nat) (hs k:Int) (c:C3):Bool:=Zet xs.length hs&&Zdw k c&&Zfe xs (Zhr k c) hs.toNat
theorem Zu2 {k:Int} {c:C3} (h:Zdw k c=true):(k=1∨k=2)∧c.s.size≤1024∧c.n=false:=by
 unfold Zdw at h;simp only[Bool.and_eq_true,Bool.not_eq_true']at h;refine⟨?_,Zz2 h.2,h.1⟩;have h2:=h.2;unfold ofK at h2;rw[if_neg (by rw[h.1];simp)]at h2;by_cases h1:k=1
 ·exact .inl h1
 ·rw[if_neg h1]at h2;simp only[decide_eq_true_eq]at h2;exact .inr h2.1
def sndC (z:ZM) (k:Int) (n:Nat) (c:C3):Bool:=c.n||((!(z.rg&&decide (z.nu≠(n:Int)))||(!Zqf c z.mn&&!Zqf z.mx c))&&(decide (z.bl=[])||hasR z.bl z.hs k c))
def nulN (A:Nat→Bool) (n:Nat):Nat:=((List.range n).filter A).length
theorem Zxs (A:Nat→Bool) (n:Nat):nulN A (n+1)=nulN A n+if A n=true then 1 else 0:=by
 unfold nulN;rw[List.range_succ,List.filter_append,List.length_append];congr 1
 cases h:A n<;>simp[List.filter_cons,h]
theorem Z0v (A:Nat→Bool) (n:Nat):nulN A n≤n:=by
 unfold nulN;have:=List.length_filter_le A (List.range n);rwa [List.length_range]at this
def sndR (z:ZM) (k:Int) (n:Nat) (A:Nat→Bool) (B:Nat→Int) (C:Nat→ByteArray):Bool :=
 ((List.range n).all fun r=>sndC z k n ⟨A r,B r,C r⟩)&&(!z.rg||decide ((nulN A n:Int)=z.nu))
theorem Zqm (ws:List Nat) (n:Nat):nulN (cA ws) n=Zaw ws n:=rfl
theorem Zjv (ws:List Nat):∀(n j:Nat),j<n-Zaw ws n→∃ r,r<n∧Zar ws r=false∧r-Zaw ws r=j
 | 0,j,h=>by omega
 | n+1,j,h=>by
  rw[Zc9]at h;cases hb:Zar ws n
  ·rw[hb]at h;have hle:=Ze0 ws n;by_cases hj:j<n-Zaw ws n
   ·obtain⟨r,h1,h2,h3⟩:=Zjv ws n j hj;exact⟨r,by omega,h2,h3⟩
   ·refine⟨n,by omega,hb,?_⟩;simp only[Bool.false_eq_true,if_false]at h;omega
  ·rw[hb]at h;simp only[if_true]at h;obtain⟨r,h1,h2,h3⟩:=Zjv ws n j (by omega);exact⟨r,by omega,h2,h3⟩
theorem Zn7 (ws:List Nat) (n r:Nat) (hr:r<n) (hb:Zar ws r=false):r-Zaw ws r<n-Zaw ws n:=by
 have:=Zjs ws (r+1) n (by omega);have h2:=Ze0 ws r;rw[Zi1 _ _ hb]at this;omega
theorem Zp4 {c:C3} (h:Zdw 1 c=true):c.s=ByteArray.empty:=by
 unfold Zdw ofK at h;simp only[Bool.and_eq_true,Bool.not_eq_true']at h;obtain⟨h1,h2⟩:=h;rw[if_neg (by rw[h1];decide),if_pos trivial]at h2;exact Zfr h2
theorem Zqj {c:C3} (h:Zdw 2 c=true):c.i=0:=by
 unfold Zdw ofK at h;simp only[Bool.and_eq_true,Bool.not_eq_true']at h;obtain⟨h1,h2⟩:=h;rw[if_neg (by rw[h1];decide),if_neg (by decide)]at h2;simp only[decide_eq_true_eq]at h2;exact h2.2.1
theorem Zzw (a:ByteArray):ltB a a=false:=Zfv _
set_option maxRecDepth 512
theorem Zc6 {ops:Array Oper} {i:Nat} {o:Oper} (h:(ops.toList.drop i).head? = some o):ops[i]? = some o:=by
 rw[List.head?_drop]at h;simpa using h
theorem tkA {P:Program} {md:Region.Mode} {ops:Array Oper} {Q:Exit→Act→World→Prop} {S:World→Prop} {fuel:Nat} {listed:Array Bool} {a:Act} {w:World} (i:Nat) {oi:Oper} {v:Value}
  (hv:∀ w,S w→(execOp a.eval oi).run P w=.ok (.value v) w) (h:wpAnyH P md ops Q S fuel (listed.setIfInBounds i true) (a.put oi.dst v) w)
  (hi:(ops.toList.drop i).head? = some oi:=by rfl) (hs:Region.noSelect ops=true:=by kernel_rfl) (hf:Region.free md ops listed i=true:=by kernel_rfl) (hr:(Region.ready md ops listed).contains i=true:=by kernel_rfl)
  (hQ:∀ c a w,Q (.panic c) (a.put oi.dst v) w→Q (.panic c) a w:=by exact fun _ _ _ h=>h) (hw:Region.wanted oi (yielded ops a.tmps)=true:=by rfl) (hS:S w:=by assumption) :
  wpAnyH P md ops Q S (fuel+1) listed a w:=wpAnyH_take (Zc6 hi) hs hf hr hQ (Or.inl ⟨hw,hv⟩) hS h
theorem tkB {P:Program} {md:Region.Mode} {ops:Array Oper} {Q:Exit→Act→World→Prop} {S:World→Prop} {fuel:Nat} {listed:Array Bool} {a:Act} {w:World} (i:Nat) {oi:Oper}
  (h:wpAnyH P md ops Q S fuel (listed.setIfInBounds i true) (a.put oi.dst undef) w)
  (hi:(ops.toList.drop i).head? = some oi:=by rfl) (hs:Region.noSelect ops=true:=by kernel_rfl) (hf:Region.free md ops listed i=true:=by kernel_rfl) (hr:(Region.ready md ops listed).contains i=true:=by kernel_rfl)
  (hQ:∀ c a w,Q (.panic c) (a.put oi.dst undef) w→Q (.panic c) a w:=by exact fun _ _ _ h=>h) (hw:Region.wanted oi (yielded ops a.tmps)=false:=by rfl) (hS:S w:=by assumption) :
  wpAnyH P md ops Q S (fuel+1) listed a w:=wpAnyH_take (Zc6 hi) hs hf hr hQ (Or.inr ⟨hw,rfl⟩) hS h
theorem tk1 {α : Type} {i:Nat} {a : α} {l:List α}:l.toArray.setIfInBounds i a=(l.set i a).toArray:=List.setIfInBounds_toArray ..
theorem tk2 {α : Type} {x y : α} {l:List α}:(x :: l).set 0 y=y :: l:=List.set_cons_zero
theorem tk3 {α : Type} {x y : α} {i:Nat} {l:List α}:(x :: l).set (i+1) y=x :: l.set i y:=List.set_cons_succ
end Go.Proofs.YtmcjknjlihgihaaGreatDoor
namespace Go.Proofs.YtmcjknjlihgihaaGreatDoor
open Go
def Zms (Q:Exit→Act→World→Prop):Exit→Act→World→Prop
 | .normal,a,w=>Q .normal a w
 | _,_,_=>False
theorem Zwa (l n:Nat) {P:Program} {o:Oper} {a:Act} {w:World} {K K':Act→World→Prop} {Q:Exit→Act→World→Prop} (hd:∀ c,o.op≠.defer c) (hK:∀ a w,K a w→K' a w)
  (h:o.wp P a w K (Zms Q)):o.wpIn (Fence.wide.inRound l) n P a w K' Q:=by
 refine⟨fun _ _=>trivial,?_⟩;rw[Fence.inRound_round,Oper.semAt_some _ _ _ hd];unfold Oper.wp at h;generalize (execOp a.eval o).run P w=r at *;have hno:¬ ((Fence.wide.inRound l).depth.isSome=true):=by simp[Fence.wide]
 match r,h with
 | .ok (.value v) w',h=>exact hK _ _ h
 | .ok .skip w',h=>exact hK _ _ h
 | .ok (.defer d) w',h=>exact hK _ _ h
 | .ok (.enter f args) w',h =>
  refine⟨fun hh=>absurd hh hno,?_⟩;refine(CallsIn.inRound l (callsIn_wide.2 h)).mono ?_;intro e w2 he;cases e with
  | returned v=>exact hK _ _ he
  | panicked c=>exact he.elim
  | outgrown=>exact absurd he (by rintro⟨_,_,hq⟩;exact hq)
 | .ok (.row row args) w',h =>
  refine⟨fun hh=>absurd hh hno,?_⟩;intro c cs _;obtain⟨v,w2,hr,hs⟩:=h c cs;exact⟨v,w2,hK _ _ hr,stepsIn_wide.2 hs⟩
 | .halt (.panic v) w',h=>exact h.elim
theorem Ztu (l n:Nat) {P:Program} {ops:Array Oper} {Q:Exit→Act→World→Prop} (hnd:∀(i:Nat) (o:Oper),ops[i]? = some o→∀ c,o.op≠.defer c) :
  ∀(is:List Nat) (a:Act) (w:World),wpOps P ops (Zms Q) is a w→wpOpsIn (Fence.wide.inRound l) n P ops Q is a w:=by
 intro is
 induction is with
 | nil=>exact fun a w h=>h
 | cons i rest ih =>
  intro a w h;unfold wpOps at h;unfold wpOpsIn;cases ho:ops[i]? with
  | none=>simp only[ho]at h ⊢;exact ih a w h
  | some o =>
   simp only[ho]at h ⊢;by_cases hw:Region.wanted o (yielded ops a.tmps)=true
   ·simp only[hw,if_true]at h ⊢;rcases h with h | ⟨_,_,_,hq⟩
    ·exact Zwa l n (hnd i o ho) ih h
    ·exact hq.elim
   ·simp only[hw,if_false,Bool.false_eq_true]at h ⊢;exact⟨fun _ _=>trivial,ih _ _ h⟩
def Ztv (ops:Array Oper):Bool:=ops.toList.all (fun o=>match o.op with | .defer _=>false | _=>true)
theorem Zve {ops:Array Oper} (h:Ztv ops=true):∀(i:Nat) (o:Oper),ops[i]? = some o→∀ c,o.op≠.defer c:=by
 intro i o ho c hc;unfold Ztv at h;rw[List.all_eq_true]at h;have:=h o (by rw[← Array.getElem?_toList]at ho;exact List.mem_of_getElem? ho);rw[hc]at this;cases this
theorem Zbr {l n:Nat} {P:Program} {id:Nat} {ops:Array Oper} {Q:Exit→Act→World→Prop} {S:World→Prop} {a:Act} {w:World} (hm:P.follows .mixedOrders=true) (hnd:Ztv ops=true) (hS:S w.drew)
  (h:S w.drew→wpAnyH P .any ops (Zms Q) S ops.size (Array.replicate ops.size false) a w.drew):(Code.region id ops true).wpIn (Fence.wide.inRound l) n P Q a w :=
 wpIn_region_draw fun t=>by
  refine Ztu l n (Zve hnd) _ _ _ ?_;simp only[Region.schedule,hm,Bool.true_or,if_true];exact wpAny_sound ops.size t _ a _ (wpAny_of_held _ _ _ _ (h hS))
end Go.Proofs.YtmcjknjlihgihaaGreatDoor
