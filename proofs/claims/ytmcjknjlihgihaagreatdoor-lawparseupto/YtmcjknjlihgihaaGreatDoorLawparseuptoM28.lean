/- Two variables that a drawn region lays beside its calls; what a zone says of a value. -/
import Derived.Laws.Externs
import Derived.Lib.EndianBits
import Derived.Test.YtmcjknjlihgihaaGreatDoorLawparseuptoM26
import Derived.Test.YtmcjknjlihgihaaGreatDoorLawparseuptoM27
set_option linter.unusedVariables false
set_option linter.unusedSimpArgs false
set_option linter.unnecessarySimpa false
set_option maxRecDepth 512
namespace Go.Proofs.YtmcjknjlihgihaaGreatDoor
open Go.RowKit
def Zty (P:Program) (g:Nat) (lb:Array Value) {α : Type} (encs : α→Array Value) (U:Nat→Prop) (xs:List α) (w:World):Prop :=
 ∀(l:Nat) (J:List α→World→Prop) (K:World→Prop) (W:World),Below w.heap.size w W→(∀ s A B,J s A→Below W.heap.size A B→J s B)→(∀ A B,K A→Below W.heap.size A B→K B) →
  (∀ pre x W1,pre++[x] <+: xs→J pre W1→W.heap.size≤W1.heap.size→Mid U W.heap.size W W1→YieldAt Fence.wide 0 P l (encs x) W1 fun e W'=>((e=.returned (.bool true)∧J (pre++[x]) W')∨(e=.returned (.bool false)∧K W'))∧Mid U W.heap.size W1 W') →
  J [] W→Calls P g (#[.func (.yield l) #[] #[]]++lb) W fun e W'=>(∃ v,e=.returned v)∧(J xs W'∨K W')∧Mid U W.heap.size W W'
theorem Zn5 {P:Program} {n:Nat} {F:Fence} (hF:F=Fence.wide) {g:Operand} {ps:Array Tmp} {assign body:Code} {Q:Exit→Act→World→Prop} {a:Act} {w:World} {gf:Nat} {lb:Array Value}
  (hg:a.eval g=.func (.func gf) #[] lb) (eg:∀ args w,(callFunc gf args).run P w=.ok (.enter gf args) w) {α : Type} {encs : α→Array Value} {U:Nat→Prop} {xs:List α} {w0:World}
  (hseq:Zty P gf lb encs U xs w0) (hb0:Below w0.heap.size w0 w) (hU:∀ k,U k→k<w.heap.size) (hps:∀ x,(encs x).size=ps.size)
  (I:List α→World→Prop) (hI:∀ s A B,I s A→Below w.heap.size A B→I s B) (Ix:World→Prop) (hIx:∀ A B,Ix A→Below w.heap.size A B→Ix B) (h0:I [] w) (a₁ : α→Act)
  (hassign:∀(l:Nat) (x : α) (W:World) (K:Act→World→Prop),K (a₁ x) W →
   assign.wpIn (F.inRound l) n P (Exit.then K (fun _ _ _=>False)) { tmps:=(ps.zip (encs x)).foldl (fun t (p,v)=>t.setIfInBounds p v) a.tmps,defers:=[] } W)
  (hbody:∀(l:Nat) (pre:List α) (x : α) (W:World),pre++[x] <+: xs→I pre W→w.heap.size<W.heap.size→Mid U w.heap.size w W →
   body.wpIn (F.inRound l) n P (fun e _ W'=>((e=.normal∧I (pre++[x]) W')∨(e=.ret∧Ix W'))∧Mid U w.heap.size W W') (a₁ x) W)
  (hdone:∀(W:World),I xs W→Mid U w.heap.size w W→W.heap[w.heap.size]? = some (.deferred (some []))→Q .normal { a with defers:={ target:=.collected w.heap.size,args:=#[] } :: a.defers } W)
  (hstop:∀(W:World),Ix W→Mid U w.heap.size w W→W.heap[w.heap.size]? = some (.deferred (some []))→Code.ret.wpIn F n P Q { a with defers:={ target:=.collected w.heap.size,args:=#[] } :: a.defers } W) :
  (Code.rangeFunc g ps assign body).wpIn F n P Q a w:=by
 subst hF;refine wpIn_rangeFunc fun fn _=>?_
 obtain⟨mk,hmk⟩:∃ mk:LoopState→Option Code→Loop,mk=fun st pe=>{ state:=st,pending:=pe,fn,tmps:=a.tmps,params:=ps,assign,body,defers:=w.heap.size }:=⟨_,rfl⟩
 have hrun:=run_enterLoop_outer (P:=P) (w:=w) fn a.tmps ps assign body;rw[show ({ state:=.ready,pending:=none,fn,tmps:=a.tmps,params:=ps,assign,body,defers:=w.heap.size }:Loop)=mk .ready none by rw[hmk]]at hrun;have hnew:Below w.heap.size w ((w.alloc (.deferred (some []))).alloc (.loop (mk .ready none))):=((Below.refl _ w).alloc (Nat.le_refl _) _).alloc (by simp) _;have hsz:((w.alloc (.deferred (some []))).alloc (.loop (mk .ready none))).heap.size=w.heap.size+2:=by simp
 have hrec:((w.alloc (.deferred (some []))).alloc (.loop (mk .ready none))).heap[w.heap.size+1]? = some (.loop (mk .ready none)):=by
  have:=World.alloc_heap_new (w.alloc (.deferred (some []))) (.loop (mk .ready none))
  rwa [World.size_alloc]at this
 have hdef:((w.alloc (.deferred (some []))).alloc (.loop (mk .ready none))).heap[w.heap.size]? = some (.deferred (some [])) :=
  (Below.heap_alloc _ _ _ (by simp)).trans (World.alloc_heap_new w _)
 generalize (w.alloc (.deferred (some []))).alloc (.loop (mk .ready none))=v at *;have hnl:¬ U (w.heap.size+1):=fun h=>by have:=hU _ h;omega
 refine⟨_,_,v,{ target:=.fn (.func gf) lb,args:=#[.func (.yield (w.heap.size+1)) #[] #[]] },v,gf,#[.func (.yield (w.heap.size+1)) #[] #[]]++lb,v,hrun,?_,?_,?_,?_,?_⟩
 ·simp only[resolve,hg];simp[go_sem]
 ·intro f' _;trivial
 ·simp[invoke,go_sem,eg]
 ·intro h;simp[Fence.wide]at h
 have hlast:=hseq (w.heap.size+1)
  (fun pre W=>(I pre W∧W.heap[w.heap.size+1]? = some (.loop (mk .ready none)))∧W.heap[w.heap.size]? = some (.deferred (some []))∧Mid U w.heap.size w W∧v.heap.size≤W.heap.size)
  (fun W=>(Ix W∧W.heap[w.heap.size+1]? = some (.loop (mk .done (some .ret))))∧W.heap[w.heap.size]? = some (.deferred (some []))∧Mid U w.heap.size w W∧v.heap.size≤W.heap.size)
  v (hb0.trans (hnew.mono hb0.size))
  (fun s A B hs hb=>⟨⟨hI s A B hs.1.1 (hb.mono (by omega)),(hb.block _ (by omega)).trans hs.1.2⟩,(hb.block _ (by omega)).trans hs.2.1,⟨hs.2.2.1.low.trans (hb.mono (Nat.zero_le _)),fun k hk hk2=>(hb.block k (by omega)).trans (hs.2.2.1.keep k hk hk2)⟩,Nat.le_trans hs.2.2.2 hb.size⟩)
  (fun A B hs hb=>⟨⟨hIx A B hs.1.1 (hb.mono (by omega)),(hb.block _ (by omega)).trans hs.1.2⟩,(hb.block _ (by omega)).trans hs.2.1,⟨hs.2.2.1.low.trans (hb.mono (Nat.zero_le _)),fun k hk hk2=>(hb.block k (by omega)).trans (hs.2.2.1.keep k hk hk2)⟩,Nat.le_trans hs.2.2.2 hb.size⟩)
  (by
   rintro pre x W hpre ⟨⟨hi,hl⟩,hd,hbw,_⟩ hsW hbW;have hy:=run_yield (P:=P) (args:=encs x) hl (by rw[hmk];exact hps x);rw[hmk]at hy;refine Zhd (m:=n) ⟨fn,_,assign,body,hy,roundIn_of_wpIn trivial ?_⟩;have hlt:w.heap.size+1<W.heap.size:=by omega
   have hbg:(Instr.beginRound (w.heap.size+1)).run P W=.ok () (W.putObj (w.heap.size+1) (.loop (mk .busy none))):=by
    have:=run_beginRound (P:=P) hl (by rw[hmk]);rw[hmk]at this ⊢;exact this
   refine hassign _ x W _ ⟨_,hbg,?_⟩;have hbusy:Below w.heap.size W (W.putObj (w.heap.size+1) (.loop (mk .busy none))):=Zc7 hl (by omega);have hmb:Mid U v.heap.size W (W.putObj (w.heap.size+1) (.loop (mk .busy none))):=Zsx hl hnl (by omega);have hmw:Mid U w.heap.size w (W.putObj (w.heap.size+1) (.loop (mk .busy none))) :=
    ⟨hbw.low.trans hmb.low,fun k hk hk2=>(hbusy.block k hk).trans (hbw.keep k hk hk2)⟩
   refine wpIn_mono (hbody _ pre x _ hpre (hI _ _ _ hi hbusy) (by simp;omega) hmw) ?_;rintro e a3 W3 ⟨hor,hm3⟩;have hs3:=hm3.low.size;simp only[World.putObj_size]at hs3;have hl3:W3.heap[w.heap.size+1]? = some (.loop (mk .busy none)):=(hm3.keep _ (by simp;omega) (.inr (by omega))).trans (World.putObj_heap_same hlt);have hm3':=hmw.trans hm3;rcases hor with ⟨rfl,hi3⟩ | ⟨rfl,hi3⟩
   ·have hend:(Instr.endRound (w.heap.size+1) none).run P W3=.ok (.bool true) (W3.putObj (w.heap.size+1) (.loop (mk .ready none))):=by
     have:=run_endRound (P:=P) none hl3;rw[hmk]at this ⊢;exact this
    have hput:Below w.heap.size W3 (W3.putObj (w.heap.size+1) (.loop (mk .ready none))):=Zc7 hl3 (by omega);have hmp:Mid U v.heap.size W3 (W3.putObj (w.heap.size+1) (.loop (mk .ready none))):=Zsx hl3 hnl (by omega);refine⟨_,_,hend,.inl ⟨rfl,⟨hI _ _ _ hi3 hput,World.putObj_heap_same (by omega)⟩,?_,⟨hm3'.low.trans hmp.low,fun k hk hk2=>(hput.block k hk).trans (hm3'.keep k hk hk2)⟩,by simp;omega⟩,(hmb.trans (hm3.sub (fun k h=>.inl h) (by omega))).trans hmp⟩;rw[World.putObj_heap_other (by omega),hm3.keep _ (by simp;omega) (.inr (by omega)),World.putObj_heap_other (by omega)];exact hd
   ·have hend:(Instr.endRound (w.heap.size+1) (some .ret)).run P W3=.ok (.bool false) (W3.putObj (w.heap.size+1) (.loop (mk .done (some .ret)))):=by
     have:=run_endRound (P:=P) (some .ret) hl3;rw[hmk]at this ⊢;exact this
    have hput:Below w.heap.size W3 (W3.putObj (w.heap.size+1) (.loop (mk .done (some .ret)))):=Zc7 hl3 (by omega);have hmp:Mid U v.heap.size W3 (W3.putObj (w.heap.size+1) (.loop (mk .done (some .ret)))):=Zsx hl3 hnl (by omega);refine⟨_,_,hend,.inr ⟨rfl,⟨hIx _ _ hi3 hput,World.putObj_heap_same (by omega)⟩,?_,⟨hm3'.low.trans hmp.low,fun k hk hk2=>(hput.block k hk).trans (hm3'.keep k hk hk2)⟩,by simp;omega⟩,(hmb.trans (hm3.sub (fun k h=>.inl h) (by omega))).trans hmp⟩;rw[World.putObj_heap_other (by omega),hm3.keep _ (by simp;omega) (.inr (by omega)),World.putObj_heap_other (by omega)];exact hd)
  ⟨⟨hI _ _ _ h0 hnew,hrec⟩,hdef,Mid.of_below hnew,Nat.le_refl _⟩
 refine(callsIn_wide.2 hlast).mono ?_;rintro e W2 ⟨⟨v2,rfl⟩,(⟨⟨hi,hl⟩,hd,hbw,hs2⟩ | ⟨⟨hi,hl⟩,hd,hbw,hs2⟩),_⟩
 ·have hend:(Instr.endLoop (w.heap.size+1)).run P W2=.ok none (W2.putObj (w.heap.size+1) (.loop (mk .exhausted none))):=by
   have:=run_endLoop (P:=P) hl (by rw[hmk];simp);rw[hmk]at this ⊢;exact this
  have hput:Below w.heap.size W2 (W2.putObj (w.heap.size+1) (.loop (mk .exhausted none))):=Zc7 hl (by omega);have hpz:Below 0 W2 (W2.putObj (w.heap.size+1) (.loop (mk .exhausted none))):=Zc7 hl (Nat.zero_le _);refine⟨none,_,hend,hdone _ (hI _ _ _ hi hput) ⟨hbw.low.trans hpz,fun k hk hk2=>(hput.block k hk).trans (hbw.keep k hk hk2)⟩ ?_⟩;rw[World.putObj_heap_other (by omega)];exact hd
 ·have hend:(Instr.endLoop (w.heap.size+1)).run P W2=.ok (some .ret) (W2.putObj (w.heap.size+1) (.loop (mk .exhausted (some .ret)))):=by
   have:=run_endLoop (P:=P) hl (by rw[hmk];simp);rw[hmk]at this ⊢;exact this
  have hput:Below w.heap.size W2 (W2.putObj (w.heap.size+1) (.loop (mk .exhausted (some .ret)))):=Zc7 hl (by omega);have hpz:Below 0 W2 (W2.putObj (w.heap.size+1) (.loop (mk .exhausted (some .ret)))):=Zc7 hl (Nat.zero_le _);refine⟨some .ret,_,hend,hstop _ (hIx _ _ hi hput) ⟨hbw.low.trans hpz,fun k hk hk2=>(hput.block k hk).trans (hbw.keep k hk hk2)⟩ ?_⟩;rw[World.putObj_heap_other (by omega)];exact hd
end Go.Proofs.YtmcjknjlihgihaaGreatDoor
set_option maxRecDepth 100000
namespace Go.Proofs.YtmcjknjlihgihaaGreatDoor
open Go.RowKit Go.Shelf
attribute [local go_sem] Oper.semAt_some
def yv_I (cd wd:Nat) (list:List Int) (ends:List Nat) (base:Int) (lanes:List Nat) (cnt:Nat):List Int :=
 if cd=1∨cd=3 then list else if cd=2 then Zdb (L.laneOf wd lanes) cnt list list.length else (List.range cnt).map (vl_I cd wd list ends base lanes)
set_option maxHeartbeats 8000000 in
theorem Zme (w0:World) (lv:Value) (list:List Int) (sb:Nat) (U:Nat→Prop) (hr:∀ W w1:World,Below w0.heap.size w0 W→Mid U W.heap.size W w1→Rd w1 lv list.length 1 (lstI list)) (hll:list.length≤16777216)
  (hs:w0.cell? ⟨sb,0,none⟩=some lv) (hsb:sb<w0.heap.size) (hUs:U sb) :
  Zty Tryz.prog 236 #[.pointer (some ⟨sb,0,none⟩)] (fun x:Int=>#[vI x]) U list w0:=by
 intro l J K W hW hJ hK hY h0;have Qx:=hid (fun(w1:World) (hm:Mid U W.heap.size W w1)=>hr W w1 hW hm);have hcs:W.cell? ⟨sb,0,none⟩=some lv:=by rw[Zkl (hW.block sb hsb)];exact hs
 obtain⟨Al,cl,rfl,hlc,hlm,_⟩:=(Qx.out W (Mid.refl _ _ _)).form;have HY:=hid hY;obtain⟨n,hn⟩:∃ n,list.length=n:=⟨_,rfl⟩;have HN:=hid hn;simp only[hn]at Qx hcs hll hlc;clear hr hs hUs hY hn;refine(callsIn_wide (n:=9)).1 ?_;refine callsIn_of_wp Tryz.func236 rfl trivial ?_ rfl;simp only[Tryz.ntmps236,List.size_toArray,List.length_cons,List.length_nil,Nat.reduceAdd,Nat.reduceSub,Array.replicate_succ,Array.replicate_zero,List.push_toArray,List.append_toArray,List.nil_append,List.cons_append]
 gi_wp2
 gi_loopw [7] (fun i wr=>∃ k:Nat,k≤n∧i=.int .i64 k∧Hid (J (list.take k) wr)∧Hid (Mid U W.heap.size W wr)) (fun i _=>n-(intOf i).toNat)
 case atStart=>exact⟨0,Nat.zero_le _,rfl,hid h0,hid (Mid.refl _ _ _)⟩
 case round =>
  obtain⟨k,hk,rfl,HJ,HM⟩:=hrel;by_cases hlt:k<n
  ·obtain⟨b1,o1,rfl,hs1⟩:=(Qx.out wr HM.out).at (by omega);have hkl:k<list.length:=by rw[HN.out];exact hlt
   have x1:=hs1 k _ (Zje list k hkl);have htk:list.take (k+1)=list.take k++[list.getD k dfI]:=by
    rw[List.take_succ_eq_append_getElem hkl];simp[List.getD,List.getElem?_eq_getElem hkl]
   have hpre:list.take k++[list.getD k dfI] <+: list:=by rw[← htk];exact List.take_prefix _ _
   obtain⟨fn,tmps,assign,body,hy,hR⟩:=Zhd (m':=8) (HY.out _ _ wr hpre HJ.out HM.out.low.size HM.out);have JC:=hid htk;unfold vI at x1 hy;clear hs1 hpre htk;generalize list.getD k dfI=x at *
   gi_wp2
   refine hR.mono ?_;rintro e w5 ⟨(⟨rfl,hj5⟩ | ⟨rfl,hk5⟩),hm5⟩
   ·have Vq:=hid hj5;have J2:=hid (HM.out.trans hm5);clear hj5 hm5
    gi_wp2
    go_roundw
    case rel=>exact⟨k+1,by omega,by go_num,hid (by rw[JC.out];exact Vq.out),J2⟩
    case measure=>simp[intOf];omega
   ·have XQ:=hid hk5;have J2:=hid (HM.out.trans hm5);clear hk5 hm5
    gi_wp2
    refine bodyPost_ret (results_none rfl _ _ _) rfl ⟨⟨_,rfl⟩,.inr XQ.out,J2.out⟩
  ·obtain rfl:k=n:=by omega
   have HJ2:=hid HJ.out;rw[List.take_of_length_le (by rw[HN.out];exact Nat.le_refl _)]at HJ2
   gi_wp2
   go_end0
   exact⟨⟨_,rfl⟩,.inl HJ2.out,HM.out⟩
theorem Zow (f:Nat→Int) (n k:Nat) (h:k<n):(List.range k).map f++[f k] <+: (List.range n).map f:=by
 have:(List.range k).map f++[f k]=(List.range (k+1)).map f:=by simp[List.range_succ]
 rw[this];have e:List.range (k+1)=(List.range n).take (k+1):=by rw[List.take_range,Nat.min_eq_left h]
 rw[e];exact(List.take_prefix _ _).map f
set_option maxHeartbeats 8000000 in
theorem Zu8 (wc w0:World) (g:Nat) (rows:Int) (codec wd:Nat) (nulls:List Nat) (cnt:Nat) (list:List Int) (ends:List Nat) (base:Int) (lanes:List Nat) (cb:Nat) (U:Nat→Prop)
  (hk:Ck_I wc g rows codec wd nulls cnt list ends base lanes) (hb:Below wc.heap.size wc w0) (hel:ends.length≤16777216) (hll:list.length≤16777216) (hnv:∀ x∈lanes,x<18446744073709551616) (hcn:cnt≤65536)
  (hok:∀ j,j<cnt→Zoh codec wd list ends lanes j) (hs:w0.cell? ⟨cb,0,none⟩=some (.pointer (some ⟨g,0,none⟩))) (hsb:cb<w0.heap.size) (hU:∀ k,k<wc.heap.size→U k) (hUs:U cb) :
  Zty Tryz.prog 204 #[.pointer (some ⟨cb,0,none⟩)] (fun x:Int=>#[vI x]) U ((List.range cnt).map (vl_I codec wd list ends base lanes)) w0:=by
 intro l J K W hW hJ hK hY h0;have Ya:=hid (fun(w1:World) (hm:Mid U W.heap.size W w1)=>(show Below wc.heap.size wc w1 from
  (hb.trans (hW.mono hb.size)).trans (hm.below (by have:=hb.size;have:=hW.size;omega) hU)))
 have Je:=hid (fun(w1:World) (hm:Mid U W.heap.size W w1)=>(show w1.cell? ⟨cb,0,none⟩=some (.pointer (some ⟨g,0,none⟩))from by
  rw[Zkl (hm.keep cb (Nat.lt_of_lt_of_le hsb hW.size) (.inl hUs)),Zkl (hW.block cb hsb)];exact hs))
 have J1:=hid (fun(w1:World) (h1:Below wc.heap.size wc w1) (j:Nat) (hj:j<cnt)=>Znz w1 g rows codec wd nulls cnt list ends base lanes j (hk.mono h1) hel hll hnv (by omega) (hok j hj));have Yn:=hid (fun(w1:World) (h1:Below wc.heap.size wc w1)=>(show w1.cell? ⟨g,4,none⟩=some (.int .i64 (cnt:Nat))from by
  obtain⟨nu,lv,ev,nv,bef,q1,_⟩:=(hk.mono h1).ex;rw[q1.cell];rfl))
 have x4:=Yn.out W (Ya.out W (Mid.refl _ _ _));have xb:=Je.out W (Mid.refl _ _ _);have HY:=hid hY;have HWC:Hid (wc.heap.size≤W.heap.size):=hid (Nat.le_trans hb.size hW.size);obtain⟨f,hf⟩:∃ f,vl_I codec wd list ends base lanes=f:=⟨_,rfl⟩;rw[hf]at J1 HY ⊢;have Yf:=hid (fun k (h:k<cnt)=>Zow f cnt k h);clear hk hb hs hU hUs hY hnv hok hf;refine(callsIn_wide (n:=9)).1 ?_;refine callsIn_of_wp Tryz.func204 rfl trivial ?_ rfl;simp only[Tryz.ntmps204,List.size_toArray,List.length_cons,List.length_nil,Nat.reduceAdd,Nat.reduceSub,Array.replicate_succ,Array.replicate_zero,List.push_toArray,List.append_toArray,List.nil_append,List.cons_append]
 gi_wp2
 clear x4 xb
 gi_loopw [8] (fun i wr=>∃ k:Nat,k≤cnt∧i=.int .i64 k∧Hid (J ((List.range k).map f) wr)∧Hid (Mid U W.heap.size W wr)) (fun i _=>cnt-(intOf i).toNat)
 case atStart=>exact⟨0,Nat.zero_le _,rfl,hid h0,hid (Mid.refl _ _ _)⟩
 case round =>
  obtain⟨k,hk,rfl,HJ,HM⟩:=hrel;by_cases hlt:k<cnt
  ·have Ym:=hid (Ya.out wr HM.out);have HV9:=hid (J1.out wr Ym.out k hlt);have xb:=Je.out wr HM.out;have htk:(List.range (k+1)).map f=(List.range k).map f++[f k]:=by simp[List.range_succ]
   have JC:=hid htk;have HYR:=hid (fun(w2:World) (h2:Below wr.heap.size wr w2)=>HY.out _ _ w2 (Yf.out k hlt) (hJ _ _ _ HJ.out (h2.mono HM.out.low.size)) (Nat.le_trans HM.out.low.size h2.size) (HM.out.trans (Mid.of_below h2)));clear htk;generalize f k=x at *;unfold vI at HV9 HYR
   gi_wp2
   refine⟨trivial,(callsIn_wide.2 HV9.out).mono ?_⟩;rintro e w4 ⟨rfl,hb4⟩;obtain⟨fn,tmps,assign,body,hy,hR⟩:=Zhd (m':=8) (HYR.out w4 hb4);have Qz:=hid hb4;clear hb4
   gi_wp2
   refine hR.mono ?_;rintro e w5 ⟨(⟨rfl,hj5⟩ | ⟨rfl,hk5⟩),hm5⟩
   ·have Vq:=hid hj5;have J2:=hid (HM.out.trans ((Mid.of_below Qz.out).trans hm5));clear hj5 hm5
    gi_wp2
    go_roundw
    case rel=>exact⟨k+1,by omega,by go_num,hid (by rw[JC.out];exact Vq.out),J2⟩
    case measure=>simp[intOf];omega
   ·have XQ:=hid hk5;have J2:=hid (HM.out.trans ((Mid.of_below Qz.out).trans hm5));clear hk5 hm5
    gi_wp2
    refine bodyPost_ret (results_none rfl _ _ _) rfl ⟨⟨_,rfl⟩,.inr XQ.out,J2.out⟩
  ·obtain rfl:k=cnt:=by omega
   gi_wp2
   go_end0
   exact⟨⟨_,rfl⟩,.inl HJ.out,HM.out⟩
theorem Zkt (w:World) (A:Option Addr) (n c:Nat):Calls Tryz.prog 202 #[.slice A n c] w fun e w' =>
  e=.returned (.func (.func 236) #[] #[.pointer (some ⟨w.heap.size,0,none⟩)])∧w'=w.alloc (.cells #[.slice A n c] 205):=by
 go_enter Tryz.func202,Tryz.ntmps202;go_wp2_with fail
 go_ret;exact⟨rfl,rfl⟩
set_option maxHeartbeats 8000000 in
theorem Zyx (wc w:World) (g:Nat) (rows codec wd:Nat) (nulls:List Nat) (cnt:Nat) (list:List Int) (ends:List Nat) (base:Int) (lanes:List Nat)
  (hk:Ck_I wc g rows codec wd nulls cnt list ends base lanes) (hb:Below wc.heap.size wc w) (hel:ends.length≤16777216) (hll:list.length≤16777216) (hnv:∀ x∈lanes,x<18446744073709551616) (hwd:wd≤64) (hcn:cnt≤65536)
  (hok:∀ j,j<cnt→Zoh codec wd list ends lanes j) (hja:codec=2→∀ j,j<cnt→L.laneOf wd lanes j<list.length∧(0<wd→j/(64/wd)<lanes.length)) :
  Calls Tryz.prog 162 #[.pointer (some ⟨g,0,none⟩)] w fun e w'=>∃ gf lb,e=.returned (.func (.func gf) #[] lb)∧Below w.heap.size w w'∧(∀(args:Array Value) (w2:World),(callFunc gf args).run Tryz.prog w2=.ok (.enter gf args) w2) ∧
   ∀ U:Nat→Prop,(∀ k,k<wc.heap.size→U k)→(∀ k,w.heap.size≤k→k<w'.heap.size→U k)→Zty Tryz.prog gf lb (fun x:Int=>#[vI x]) U (yv_I codec wd list ends base lanes cnt) w':=by
 have HUE:=hid (fun(h2:codec=2) (w1:World) (h1:Below wc.heap.size wc w1)=>Zol w1 g rows codec wd nulls cnt list ends base lanes (hk.mono h1) hll hnv hwd hcn (hja h2));have HVS:=hid (fun(w1:World) (cb:Nat) (U:Nat→Prop) (h1:Below wc.heap.size wc w1)=>Zu8 wc w1 g rows codec wd nulls cnt list ends base lanes cb U hk h1 hel hll hnv hcn hok);have HQ:=hid (fun(w1:World) (h1:Below wc.heap.size wc w1)=>(hk.mono h1).ex);obtain⟨nu,lv,ev,nv,bef,q1,q2,q3,q4,q5,q6⟩:=hk.ex;have Yt:=hid q3;have Zf:=hid q1;obtain⟨Al,cl,rfl,hlc,hlm,_⟩:=q3.form;have HB:=hid hb;have YG:=hid hll;have UR:=hid (fun(w1:World) (sb:Nat) (U:Nat→Prop) (h1:Below wc.heap.size wc w1) (hU:∀ k,k<wc.heap.size→U k)=>Zme w1 (.slice Al list.length cl) list sb U (fun W w2 hW hm =>
  Yt.out.mono ((h1.trans (hW.mono h1.size)).trans (hm.below (by have:=h1.size;have:=hW.size;omega) hU))) hll)
 have HLU:=hid (fun(w1:World) (lv:Value) (ys:List Int) (sb:Nat) (U:Nat→Prop) (B:Nat) (h1:w1.ownsRow B 2 1 lv ys.length (lstI ys)) (hU:∀ k,B≤k→k<w1.heap.size→U k) (h2:ys.length≤16777216)=>Zme w1 lv ys sb U (fun W w2 hW hm =>
  Zba (Za5 (Zah h1 hW) (fun k hk=>hm.keep k (Nat.lt_of_lt_of_le (h1.lt k hk).2 hW.size) (.inl (hU k (h1.lt k hk).1 (h1.lt k hk).2))))) h2)
 have hgw:g<wc.heap.size:=q1.lt;clear hk hb hja hok hnv q1 q2 q3 q4 q5 q6 HQ;obtain⟨n,hn⟩:∃ n,list.length=n:=⟨_,rfl⟩;have HN:=hid hn;have Zu:=hid (fun(w1:World) (h1:Below wc.heap.size wc w1)=>(show w1.cell? ⟨g,1,none⟩=some (.int .i64 (codec:Nat))∧w1.cell? ⟨g,5,none⟩=some (.slice Al list.length cl)from by
  have h:=Zf.out.mono h1;exact⟨by rw[h.cell];rfl,by rw[h.cell];rfl⟩))
 simp only[hn]at Zu UR Yt hll hlc;clear hn;go_enter Tryz.func162,Tryz.ntmps162;go_upto_region 1 with fail
 have hf:=Zbe (w:=w) (C:=#[.pointer (some ⟨g,0,none⟩)]) (e:=211);have QD:=hid hf.1;have Qa:=hid hf.2;have hz1:(w.alloc (.cells #[.pointer (some ⟨g,0,none⟩)] 211)).heap.size=w.heap.size+1:=by simp
 have Qy:=hid hz1;have QE:=hid (HB.out.trans (hf.2.mono HB.out.size));clear hf hz1;generalize w.alloc (.cells #[.pointer (some ⟨g,0,none⟩)] 211)=w1 at *;obtain⟨x1,x5⟩:=Zu.out w1 QE.out;have x0:=QD.out.cell 0;have h13:(codec=1∨codec=3)∨codec=2∨(codec≠1∧codec≠3∧codec≠2):=by omega
 rcases h13 with h13 | h2 | h45
 ·have HY:Hid (yv_I codec wd list ends base lanes cnt=list):=hid (by unfold yv_I;rw[if_pos h13]);rcases h13 with rfl | rfl
  all_goals
   go_wp2_with (go_at_call 202;refine(Zkt w1 Al n cl).mono ?_;rintro e w2 ⟨rfl,hw⟩;have HW:=hid hw;clear hw)
   go_ret;have hf2:=Zbe (w:=w1) (C:=#[.slice Al n cl]) (e:=205);refine⟨_,_,rfl,?_,enters_of Tryz.func236 (by kernel_rfl) rfl,fun U hU1 hU2=>?_⟩
   ·rw[HW.out];exact Zac Qa.out hf2.2
   ·rw[HY.out];rw[HW.out]at hU2 ⊢;have hs2:(w1.alloc (.cells #[.slice Al n cl] 205)).heap.size=w1.heap.size+1:=by simp
    exact UR.out _ w1.heap.size U (QE.out.trans (hf2.2.mono QE.out.size)) hU1 (by rw[hf2.1.cell];rfl) (by omega) (hU2 _ Qa.out.size (by omega))
 ·subst h2;have HY:Hid (yv_I 2 wd list ends base lanes cnt=Zdb (L.laneOf wd lanes) cnt list list.length):=hid (by unfold yv_I;rw[if_neg (by omega),if_pos rfl]);have HU2:=hid (HUE.out rfl w1 QE.out);have hul:=Zi0 (L.laneOf wd lanes) cnt list list.length;have hul2:(Zdb (L.laneOf wd lanes) cnt list list.length).length≤16777216:=by have:=YG.out;omega
  generalize Zdb (L.laneOf wd lanes) cnt list list.length=ys at *;clear hul;go_wp2_with (first
   | (go_at_call 203;refine HU2.out.mono ?_;rintro e w2 ⟨v2,rfl,ho2,hb2⟩;obtain⟨A2,c2,rfl⟩:=Zag ho2;have Yk:=hid ho2;have Qb:=hid hb2;clear ho2 hb2)
   | (go_at_call 202;refine(Zkt w2 _ _ _).mono ?_;rintro e w3 ⟨rfl,hw⟩;have HW:=hid hw;clear hw))
  go_ret;have hf2:=Zbe (w:=w2) (C:=#[.slice A2 ys.length c2]) (e:=205);refine⟨_,_,rfl,?_,enters_of Tryz.func236 (by kernel_rfl) rfl,fun U hU1 hU2=>?_⟩
  ·rw[HW.out];exact Zac (Zac Qa.out Qb.out) hf2.2
  ·rw[HY.out];rw[HW.out]at hU2 ⊢;have hs2:(w2.alloc (.cells #[.slice A2 ys.length c2] 205)).heap.size=w2.heap.size+1:=by simp
   have ho3:=Zah Yk.out hf2.2;exact HLU.out _ (.slice A2 ys.length c2) ys w2.heap.size U w1.heap.size ho3 (fun k h1 h3=>hU2 k (by have:=Qa.out.size;omega) h3) hul2 (by rw[hf2.1.cell];rfl) (by omega) (hU2 _ (Nat.le_trans Qa.out.size Qb.out.size) (by omega))
 ·have HY:Hid (yv_I codec wd list ends base lanes cnt=(List.range cnt).map (vl_I codec wd list ends base lanes)):=hid (by unfold yv_I;rw[if_neg (by omega),if_neg (by omega)]);have e1:((codec:Int)==1)=false:=by simp;omega
  have e3:((codec:Int)==3)=false:=by simp;omega
  have e2:((codec:Int)==2)=false:=by simp;omega
  clear h45;go_wp2_with fail
  go_ret;refine⟨_,_,rfl,Qa.out,enters_of Tryz.func204 (by kernel_rfl) rfl,fun U hU1 hU2=>?_⟩;rw[HY.out];exact HVS.out w1 w.heap.size U QE.out (by rw[QD.out.cell];rfl) (by rw[Qy.out];omega) hU1 (hU2 _ (Nat.le_refl _) (by rw[Qy.out];omega))
end Go.Proofs.YtmcjknjlihgihaaGreatDoor
set_option maxRecDepth 200000
namespace Go.Proofs.YtmcjknjlihgihaaGreatDoor
open Go.RowKit
def ltB (a b:ByteArray):Bool:=Op.bytesLess a.toList b.toList
def Zqf (a b:C3):Bool:=decide (a.i<b.i)||(decide (a.i=b.i)&&ltB a.s b.s)
def ordC (a b:C3):Int:=if a.i<b.i then -1 else if b.i<a.i then 1 else if ltB a.s b.s=true then -1 else if (!(ltB a.s b.s||(a.s.toList==b.s.toList)))=true then 1 else 0
theorem Z0n (a b:C3):decide (ordC a b<0)=Zqf a b:=by
 unfold ordC Zqf;by_cases h1:a.i<b.i
 ·simp[h1]
 ·by_cases h2:b.i<a.i
  ·have:¬ a.i=b.i:=by omega
   simp[h1,h2,this]
  ·have:a.i=b.i:=by omega
   simp only[h1,h2,if_false,this,decide_true,Bool.true_and,decide_false,Bool.false_or];cases ltB a.s b.s
   ·simp
    split<;>simp
   ·simp
set_option maxHeartbeats 1000000 in
theorem Z0p (a b:C3) (w:World):Calls Tryz.prog 119 #[a.v,b.v] w fun e w'=>e=.returned (.int .i64 (ordC a b))∧Below w.heap.size w w':=by
 obtain⟨an,ai,sa⟩:=a;obtain⟨bn,bi,sb⟩:=b;unfold C3.v ordC;simp only;obtain⟨lt,hlt⟩:∃ lt,Op.bytesLess sa.toList sb.toList=lt:=⟨_,rfl⟩;obtain⟨eq,heq⟩:∃ eq,(sa.toList==sb.toList)=eq:=⟨_,rfl⟩;have hl:ltB sa sb=lt:=hlt;rw[hl,heq];have hb:Below w.heap.size w ((w.alloc (.cells #[.bool an,.int .i64 ai,.string sa] 36)).alloc (.cells #[.bool bn,.int .i64 bi,.string sb] 36)):=((Zab w).alloc (Nat.le_refl _) _).alloc (by simp) _;have HB:=hid hb;clear hb hl;go_enter Tryz.func119,Tryz.ntmps119;by_cases h1:ai<bi
 ·go_wp2;go_ret;exact⟨by simp[h1],HB.out⟩
 ·by_cases h2:bi<ai
  ·have h2':ai > bi:=h2;go_wp2;go_ret;exact⟨by simp[h1,h2],HB.out⟩
  ·have h2':¬ ai > bi:=h2;have h3:ai=bi:=by omega
   subst h3;cases lt
   ·cases eq
    ·go_wp2;go_ret;exact⟨by simp,HB.out⟩
    ·go_wp2;go_ret;exact⟨by simp,HB.out⟩
   ·go_wp2;go_ret;exact⟨by simp,HB.out⟩
set_option maxRecDepth 20000
theorem Zxx {a b c:ByteArray} (h1:ltS a b=true) (h2:ltS b c=true):ltS a c=true:=Zhn _ _ _ h1 h2
theorem Zz5 {x t:ByteArray} (h:x.toList=t.toList):x=t:=by
 rw[ByteArray.toList_eq,ByteArray.toList_eq]at h;obtain⟨x⟩:=x;obtain⟨t⟩:=t;simp only at h;rw[Array.toList_inj.1 h]
set_option maxRecDepth 512
theorem Zrj {a b:ByteArray} (h:ltB a b=true):ltB b a=false:=by
 cases h2:ltB b a with
 | false=>rfl
 | true =>
  have h3:=Zhn _ _ _ h h2;rw[Zfv]at h3;cases h3
theorem Z0r {a b:ByteArray} (h:ltB a b=false) (h2:ltB b a=false):a=b:=by
 by_cases e:a.toList=b.toList
 ·exact Zz5 e
 ·have:=Zov _ _ h e;have h3:ltB b a=true:=this;rw[h2]at h3;cases h3
set_option maxRecDepth 20000
structure VF2 (w0 w:World) (e:TypeId) (x y:Value) (p q:Nat):Prop where
 bl:Below w0.heap.size w0 w
 a:w0.heap.size≤p∧Row w p e [x]
 b:w0.heap.size≤q∧Row w q e [y]
structure VG2 (w0 w:World) (e:TypeId) (x y:Value) (s7 s8:Option Nat):Prop where
 bl:Below w0.heap.size w0 w
 a:∀ p,s7=some p→w0.heap.size≤p∧Row w p e [x]
 b:∀ p,s8=some p→w0.heap.size≤p∧Row w p e [y]
theorem VG2.start (w:World) (e:TypeId) (x y:Value):VG2 w w e x y none none:=⟨Zab w,fun p h=>(by cases h),fun p h=>(by cases h)⟩
theorem VG2.call {w0 w w':World} {e:TypeId} {x y:Value} {s7 s8:Option Nat} (h:VG2 w0 w e x y s7 s8) (hb:Below w.heap.size w w'):VG2 w0 w' e x y s7 s8 :=
 ⟨Zac h.bl hb,fun p hp=>⟨(h.a p hp).1,(h.a p hp).2.mono hb⟩,fun p hp=>⟨(h.b p hp).1,(h.b p hp).2.mono hb⟩⟩
theorem VG2.old {w0 w:World} {e:TypeId} {x y:Value} {s7 s8:Option Nat} {o:Obj} (h:VG2 w0 w e x y s7 s8):VG2 w0 (w.alloc o) e x y s7 s8:=h.call ((Zab w).alloc (Nat.le_refl _) _)
theorem VG2.drew {w0 w:World} {e:TypeId} {x y:Value} {s7 s8:Option Nat} (h:VG2 w0 w e x y s7 s8):VG2 w0 w.drew e x y s7 s8:=h.call (Zaf (Zab w) 1)
theorem VG2.a7 {w0 w:World} {e:TypeId} {x y:Value} {s8:Option Nat} {p:Nat} (hp:p=w.heap.size) (h:VG2 w0 w e x y none s8):VG2 w0 (w.alloc (.cells #[x] e)) e x y (some p) s8:=by
 subst hp;refine⟨h.old.bl,fun p hp=>?_,h.old.b⟩;cases hp;refine⟨h.bl.size,?_⟩;unfold Row;rw[heap_alloc_new]
theorem VG2.a8 {w0 w:World} {e:TypeId} {x y:Value} {s7:Option Nat} {p:Nat} (hp:p=w.heap.size) (h:VG2 w0 w e x y s7 none):VG2 w0 (w.alloc (.cells #[y] e)) e x y s7 (some p):=by
 subst hp;refine⟨h.old.bl,h.old.a,fun p hp=>?_⟩;cases hp;refine⟨h.bl.size,?_⟩;unfold Row;rw[heap_alloc_new]
theorem VG2.fin {w0 w:World} {e:TypeId} {x y:Value} {p q:Nat} (h:VG2 w0 w e x y (some p) (some q)):VF2 w0 w e x y p q:=⟨h.bl,h.a p rfl,h.b q rfl⟩
def vk_I (x:Int):C3:=⟨false,x,ByteArray.empty⟩
def vk_S (x:ByteArray):C3:=⟨false,0,x⟩
def Zof (z:ZM) (x:Int):Bool:=(!z.rg||(!decide (x<z.mn.i)&&!decide (z.mx.i<x)))&&(decide (z.bl=[])||Zfe z.bl (Zhr 1 (vk_I x)) z.hs.toNat)
def Zoa (z:ZM) (x:ByteArray):Bool:=(!z.rg||(!ltB x z.mn.s&&!ltB z.mx.s x))&&(decide (z.bl=[])||Zfe z.bl (Zhr 2 (vk_S x)) z.hs.toNat)
def Zts (z:ZM) (rows cnt:Nat) (ys:List Int):Bool:=(!z.rg||decide (z.nu=(rows:Int)-cnt))&&ys.all (Zof z)
def Ztt (z:ZM) (rows cnt:Nat) (ys:List ByteArray):Bool:=(!z.rg||decide (z.nu=(rows:Int)-cnt))&&ys.all (Zoa z)
theorem gtS (sa sb:ByteArray):(!Op.bytesLess sa.toList sb.toList&&!sa.toList==sb.toList)=ltB sb sa:=by
 cases h3:ltB sb sa with
 | true =>
  have h4:Op.bytesLess sa.toList sb.toList=false:=Zrj h3;have h5:(sa.toList==sb.toList)=false:=by
   rw[beq_eq_false_iff_ne];intro e;rw[Zz5 e]at h3;have:ltB sb sb=false:=Zfv _;rw[this]at h3;cases h3
  simp[h4,h5]
 | false =>
  cases h4:ltB sa sb with
  | true =>
   have h4:Op.bytesLess sa.toList sb.toList=true:=h4;simp[h4]
  | false =>
   have:sa=sb:=Z0r h4 h3;subst this;simp
theorem Zi6 (c:C3) (w:World):Calls Tryz.prog 320 #[.agg #[],c.v] w fun e w'=>e=.returned (.int .i64 c.i)∧w'=(w.alloc (.cells #[] 159)).alloc (.cells #[.bool c.n,.int .i64 c.i,.string c.s] 36):=by
 obtain⟨n,i,s⟩:=c;unfold C3.v;go_enter Tryz.func320,Tryz.ntmps320;go_wp2;go_ret;exact⟨rfl,rfl⟩
theorem Zjz (c:C3) (w:World):Calls Tryz.prog 314 #[.agg #[],c.v] w fun e w'=>e=.returned (.string c.s)∧w'=(w.alloc (.cells #[] 157)).alloc (.cells #[.bool c.n,.int .i64 c.i,.string c.s] 36):=by
 obtain⟨n,i,s⟩:=c;unfold C3.v;go_enter Tryz.func314,Tryz.ntmps314;go_wp2;go_ret;exact⟨rfl,rfl⟩
theorem mv_I:∀ w:World,(method 457 159 (.agg #[]) "Value").run Tryz.prog w=.ok (320,.agg #[]) w:=fun _=>by kernel_rfl
theorem mv_S:∀ w:World,(method 457 157 (.agg #[]) "Value").run Tryz.prog w=.ok (314,.agg #[]) w:=fun _=>by kernel_rfl
end Go.Proofs.YtmcjknjlihgihaaGreatDoor
