/- Lists of entries that end with a list of their own: how they lie, how they grow, what leaves them alone. -/
import Derived.Test.YtmcjknjlihgihaaGreatDoorLawparseuptoM29
set_option linter.unusedVariables false
set_option linter.unusedSimpArgs false
set_option linter.unnecessarySimpa false
set_option maxRecDepth 20000
namespace Go.Proofs.YtmcjknjlihgihaaGreatDoor
open Go.RowKit
theorem Zyi {a b:Int} (h:a=b):Ending.returned (.int .u32 a)=.returned (.int .u32 b):=by rw[h]
def Zhf (r:Nat):Nat:=(r/2) ^^^ (if r%2=1 then 3988292384 else 0)
def fsT:List Nat:=[0,498536548,997073096,651767980,1994146192,1802195444,1303535960,1342533948,3988292384,4027552580,3604390888,3412177804,2607071920,2262029012,2685067896,3183342108]
def four (r:Nat):Nat:=(r/16) ^^^ fsT.getD (r%16) 0
theorem Zjf (a b:Nat):Zhf (a ^^^ b)=Zhf a ^^^ Zhf b:=by
 unfold Zhf;rw[Nat.xor_div_two];have hc:∀ x y p q:Nat,(x ^^^ p) ^^^ (y ^^^ q)=x ^^^ y ^^^ (p ^^^ q):=fun x y p q=>by
  rw[Nat.xor_assoc,← Nat.xor_assoc p,Nat.xor_comm p y,Nat.xor_assoc y,← Nat.xor_assoc]
 rw[hc];have hm:=@Nat.xor_mod_two_eq_one a b;by_cases ha:a%2=1<;>by_cases hb:b%2=1
 ·rw[if_neg (fun h=>hm.1 h (by simp[ha,hb])),if_pos ha,if_pos hb];simp
 ·rw[if_pos (hm.2 (by simp[ha,hb])),if_pos ha,if_neg hb];simp
 ·rw[if_pos (hm.2 (by simp[ha,hb])),if_neg ha,if_pos hb];simp
 ·rw[if_neg (fun h=>hm.1 h (by simp[ha,hb])),if_neg ha,if_neg hb];simp
theorem Z1g (r:Nat):r=(16*(r/16)) ^^^ (r%16):=by
 have h:=Nat.two_pow_add_eq_or_of_lt (i:=4) (b:=r%16) (by omega) (r/16);apply Nat.eq_of_testBit_eq;intro i;have e:r=2^4*(r/16)+r%16:=by omega
 rw[Nat.testBit_xor]
 conv=>lhs;rw[e]
 rw[Nat.testBit_two_pow_mul_add _ (by omega:r%16<2^4),show 16*(r/16)=2^4*(r/16)from rfl,Nat.testBit_two_pow_mul];by_cases hi:i<4
 ·rw[if_pos hi];simp[show ¬ 4≤i by omega]
 ·rw[if_neg hi];have hz:(r%16).testBit i=false:=Nat.testBit_lt_two_pow (Nat.lt_of_lt_of_le (by omega:r%16<2^4) (Nat.pow_le_pow_right (by decide) (by omega)));simp[show 4≤i by omega,hz]
theorem Zh3 (m:Nat):Zhf (2*m)=m:=by
 unfold Zhf;rw[if_neg (by omega),Nat.xor_zero];omega
theorem Zye:∀ j,j<16→Zhf (Zhf (Zhf (Zhf j)))=fsT.getD j 0:=by decide +kernel
theorem Zr5 (r:Nat):four r=Zhf (Zhf (Zhf (Zhf r))):=by
 conv=>rhs;rw[Z1g r]
 rw[Zjf,Zjf,Zjf,Zjf,Zye _ (Nat.mod_lt _ (by decide))];rw[show 16*(r/16)=2*(2*(2*(2*(r/16)))) by omega,Zh3,Zh3,Zh3,Zh3];rfl
theorem Z1t:∀ j,j<16→fsT.getD j 0<4294967296:=by decide +kernel
theorem Zjm {r:Nat} (h:r<4294967296):Zhf r<4294967296:=by
 unfold Zhf;exact Nat.xor_lt_two_pow (n:=32) (by omega) (by split<;>omega)
theorem Zr3 {r:Nat} (h:r<4294967296):four r<4294967296:=by
 rw[Zr5];exact Zjm (Zjm (Zjm (Zjm h)))
def regC (bs:List Nat):Nat:=bs.foldl (fun r b=>four (four (r ^^^ b))) 4294967295
def crc (bs:List Nat):Nat:=4294967295-regC bs
theorem Zrx (bs:List Nat) (b:Nat):regC (bs++[b])=four (four (regC bs ^^^ b)):=by unfold regC;rw[List.foldl_append];rfl
theorem Zxp {bs:List Nat} (h:∀ b∈bs,b<256):regC bs<4294967296:=by
 unfold regC;have:∀(bs:List Nat) (a:Nat),(∀ b∈bs,b<256)→a<4294967296→bs.foldl (fun r b=>four (four (r ^^^ b))) a<4294967296:=by
  intro bs;induction bs with
  | nil=>intro a _ h;exact h
  | cons b r ih =>
   intro a hb h;refine ih _ (fun x hx=>hb x (List.mem_cons_of_mem _ hx)) (Zr3 (Zr3 (Nat.xor_lt_two_pow (n:=32) h ?_)));have:=hb b (List.mem_cons_self ..);omega
 exact this bs _ h (by decide)
theorem Zfb (a b:Nat) (ha:a<4294967296) (hb:b<4294967296):bits BinOp.xor IntKind.u32 (a:Int) (b:Int)=((a ^^^ b:Nat):Int):=by
 have hx:a ^^^ b<2^32:=Nat.xor_lt_two_pow (by omega) (by omega);have h1:(BitVec.ofInt 32 (a:Int)).toNat=a:=by
  rw[BitVec.ofInt_natCast,BitVec.toNat_ofNat];exact Nat.mod_eq_of_lt (by omega)
 have h2:(BitVec.ofInt 32 (b:Int)).toNat=b:=by
  rw[BitVec.ofInt_natCast,BitVec.toNat_ofNat];exact Nat.mod_eq_of_lt (by omega)
 show IntKind.u32.wrap ((BitVec.ofInt 32 (a:Int) ^^^ BitVec.ofInt 32 (b:Int)).toNat:Int)=_
 rw[BitVec.toNat_xor,h1,h2,IntKind.wrap_u32];omega
theorem Zxa (a:Nat) (ha:a<4294967296):bits BinOp.and IntKind.u32 (a:Int) 15=((a%16:Nat):Int):=by
 have:=bits_mask .u32 32 (by decide) (fun n h0 h1=>by rw[IntKind.wrap_u32];omega) 4 (by decide) (a:Int) (by omega) (by omega);rw[show ((2:Int)^4-1)=15 by decide]at this;rw[this];omega
theorem Zys (a:Nat) (ha:a<4294967296):bits BinOp.and IntKind.u32 (a:Int) 1=((a%2:Nat):Int):=by
 have:=bits_mask .u32 32 (by decide) (fun n h0 h1=>by rw[IntKind.wrap_u32];omega) 1 (by decide) (a:Int) (by omega) (by omega);rw[show ((2:Int)^1-1)=1 by decide]at this;rw[this];omega
theorem Zyn (a:Nat) (ha:a<4294967296):bits BinOp.xor IntKind.u32 4294967295 (a:Int)=((4294967295-a:Nat):Int):=by
 have h:=Zfb 4294967295 a (by decide) ha;rw[show ((4294967295:Nat):Int)=4294967295 from rfl]at h;rw[h];congr 1
 have e:(4294967295:Nat)=2^32-1:=rfl;apply Nat.eq_of_testBit_eq;intro i;have e2:4294967295-a=2^32-(a+1):=by omega
 rw[Nat.testBit_xor,e2,Nat.testBit_two_pow_sub_succ (by omega),e,Nat.testBit_two_pow_sub_one];by_cases hi:i<32
 ·simp[hi]
 ·have hz:a.testBit i=false:=Nat.testBit_lt_two_pow (Nat.lt_of_lt_of_le (show a<2^32 by omega) (Nat.pow_le_pow_right (by decide) (by omega)));simp[hi,hz]
def TabF (w:World):Prop:=∀ j,j<16→w.cell? ⟨0,j,none⟩=some (.int .u32 ((fsT.getD j 0:Nat):Int))
theorem TabF.mono {w w':World} {B:Nat} (h:TabF w) (hb:Below B w w') (hB:0<B):TabF w':=fun j hj=>by rw[← h j hj];exact hb.cell (p:=⟨0,j,none⟩) hB
theorem TabF.lt {w:World} (h:TabF w):0<w.heap.size:=World.block_lt_of_cell? w _ (h 0 (by omega))
set_option maxHeartbeats 1000000 in
theorem Zpr (r:Nat) (w:World) (hT:TabF w) (hr:r<4294967296):Calls Tryz.prog 32 #[.int .u32 r] w fun e w'=>e=.returned (.int .u32 (four r:Nat))∧w'=w:=by
 have ht:=hT (r%16) (Nat.mod_lt _ (by decide));have hlt:=Z1t (r%16) (Nat.mod_lt _ (by decide));have ha:=Zxa r hr;have hx:=Zfb (r/16) (fsT.getD (r%16) 0) (by omega) hlt;have HF:Hid (four r=(r/16) ^^^ fsT.getD (r%16) 0):=hid rfl;have hj:r%16<16:=Nat.mod_lt _ (by decide);have hq:(r:Int)/16=((r/16:Nat):Int):=by omega
 clear hT;rw[HF.out];generalize fsT.getD (r%16) 0=t at *;generalize r%16=j at *;generalize r/16=q at *;generalize (q ^^^ t:Nat)=y at *;clear HF;go_enter Tryz.func32,Tryz.ntmps32;go_wp2;go_ret;exact⟨rfl,rfl⟩
set_option maxHeartbeats 2000000 in
theorem Zhl (v:Value) (xs:List Nat) (w:World) (hT:TabF w) (hv:Rd w v xs.length 1 (u8s xs)) (hb:∀ x∈xs,x<256) :
  Calls Tryz.prog 16 #[v] w fun e w'=>e=.returned (.int .u32 (crc xs:Nat))∧w'=w:=by
 have Vt:=hid (fun(r:Nat) (hr:r<4294967296)=>Zpr r w hT hr);obtain⟨A0,c0,rfl,hc1,hc2,hs⟩:=hv.form;unfold maxLen at hc2;have HS:=hid hs;have HB:=hid hb;clear hv hs hb hT;obtain⟨CR,hCR⟩:∃ CR,crc xs=CR:=⟨_,rfl⟩;have HC:Hid (4294967295-regC xs=CR):=hid hCR;rw[hCR];clear hCR;obtain⟨n,hn⟩:∃ n,xs.length=n:=⟨_,rfl⟩;have HN:=hid hn;rw[hn]at hc1 HS ⊢;clear hn;go_enter Tryz.func16,Tryz.ntmps16;go_wp2;go_loop [3,8] (fun r i=>∃ k:Nat,k≤n∧i=.int .i64 k∧r=.int .u32 (regC (xs.take k):Nat)) (fun _ i=>n-(intOf i).toNat)
 case atStart=>exact⟨0,by omega,rfl,rfl⟩
 case round =>
  obtain⟨k,hk,rfl,rfl⟩:=hrel;have hlt:=Zxp (bs:=xs.take k) (fun b hb=>HB.out b (List.mem_of_mem_take hb));by_cases hkn:k<n
  ·obtain⟨b,o,rfl,hseg⟩:=HS.out (by omega);have hkx:k<xs.length:=by rw[HN.out];exact hkn
   have c0':=hseg.byte k hkx;have hx:xs.getD k 0<256:=by
    have:=HB.out (xs.getD k 0) (by simp[List.getD,hkx]);exact this
   have HR:Hid (regC (xs.take (k+1))=four (four (regC (xs.take k) ^^^ xs.getD k 0))):=hid (by
    rw[List.take_succ_eq_append_getElem hkx,Zrx];simp[List.getD,hkx])
   clear hseg;generalize regC (xs.take k)=a at *;generalize xs.getD k 0=x at *;have hxx:=Zfb a x hlt (by omega);have hy:a ^^^ x<4294967296:=Nat.xor_lt_two_pow (n:=32) hlt (by omega);have H1:=hid (Vt.out (a ^^^ x) hy);have H2:=hid (Vt.out (four (a ^^^ x)) (Zr3 hy));generalize (a ^^^ x:Nat)=y at *;generalize four (four y)=z at *;generalize four y=u at *;go_wp2_with (first
    | (go_at_call_of 32 (Value.int IntKind.u32 (y:Int));refine H1.out.mono ?_;rintro e w1 ⟨rfl,hw⟩;replace hw:=hw.symm;subst hw)
    | (go_at_call 32;refine H2.out.mono ?_;rintro e w1 ⟨rfl,hw⟩;replace hw:=hw.symm;subst hw))
   go_round
   case rel=>exact⟨k+1,by omega,by go_num,by rw[HR.out]⟩
   case measure=>simp[intOf];omega
  ·obtain rfl:k=n:=by omega
   have e8:xs.take k=xs:=List.take_of_length_le (by rw[HN.out];exact Nat.le_refl _);rw[e8]at hlt ⊢;have hnot:=Zyn (regC xs) hlt;generalize regC xs=a at *;rw[HC.out]at hnot;go_wp2;go_ret;exact⟨Zyi hnot,rfl⟩
def Zot:Nat→Nat→Nat
 | 0,r=>r
 | n+1,r=>Zhf (Zot n r)
theorem Zun {r:Nat} (h:r<4294967296):∀ n,Zot n r<4294967296
 | 0=>h
 | n+1=>Zjm (Zun h n)
theorem Ztj (r:Nat):Zot 8 r=four (four r):=by rw[Zr5,Zr5];rfl
set_option maxHeartbeats 2000000 in
theorem Zhs (v:Value) (xs:List Nat) (w:World) (hv:Rd w v xs.length 1 (u8s xs)) (hb:∀ x∈xs,x<256) :
  Calls Tryz.prog 17 #[v] w fun e w'=>e=.returned (.int .u32 (crc xs:Nat))∧w'=w:=by
 obtain⟨A0,c0,rfl,hc1,hc2,hs⟩:=hv.form;unfold maxLen at hc2;have HS:=hid hs;have HB:=hid hb;clear hv hs hb;obtain⟨CR,hCR⟩:∃ CR,crc xs=CR:=⟨_,rfl⟩;have HC:Hid (4294967295-regC xs=CR):=hid hCR;rw[hCR];clear hCR;obtain⟨n,hn⟩:∃ n,xs.length=n:=⟨_,rfl⟩;have HN:=hid hn;rw[hn]at hc1 HS ⊢;clear hn;go_enter Tryz.func17,Tryz.ntmps17;go_wp2;go_loop [3,10] (fun r i=>∃ k:Nat,k≤n∧i=.int .i64 k∧r=.int .u32 (regC (xs.take k):Nat)) (fun _ i=>n-(intOf i).toNat)
 case atStart=>exact⟨0,by omega,rfl,rfl⟩
 case round =>
  obtain⟨k,hk,rfl,rfl⟩:=hrel;have hlt:=Zxp (bs:=xs.take k) (fun b hb=>HB.out b (List.mem_of_mem_take hb));by_cases hkn:k<n
  ·obtain⟨b,o,rfl,hseg⟩:=HS.out (by omega);have hkx:k<xs.length:=by rw[HN.out];exact hkn
   have c0':=hseg.byte k hkx;have hx:xs.getD k 0<256:=by
    have:=HB.out (xs.getD k 0) (by simp[List.getD,hkx]);exact this
   have HR:Hid (regC (xs.take (k+1))=Zot 8 (regC (xs.take k) ^^^ xs.getD k 0)):=hid (by
    rw[List.take_succ_eq_append_getElem hkx,Zrx,Ztj];simp[List.getD,hkx])
   clear hseg;generalize regC (xs.take k)=a at *;generalize xs.getD k 0=x at *;have hxx:=Zfb a x hlt (by omega);have hy:a ^^^ x<4294967296:=Nat.xor_lt_two_pow (n:=32) hlt (by omega);generalize (a ^^^ x:Nat)=y at *;have HY:=hid hy;go_wp2;clear hxx hy;go_loop [3,6] (fun r i=>∃ j:Nat,j≤8∧i=.int .i64 j∧r=.int .u32 (Zot j y:Nat)) (fun _ i=>8-(intOf i).toNat)
   case atStart=>exact⟨0,by omega,rfl,rfl⟩
   case round =>
    obtain⟨j,hj,rfl,rfl⟩:=hrel;by_cases hj8:j<8
    ·have hlt2:=Zun HY.out j;have YK:Hid (Zot (j+1) y=(Zot j y/2) ^^^ (if Zot j y%2=1 then 3988292384 else 0)):=hid rfl;generalize Zot j y=z at *;have ha:=Zys z hlt2;have hq:(z:Int)/2=((z/2:Nat):Int):=by omega
     have hxq:=Zfb (z/2) 3988292384 (by omega) (by decide);rw[show ((3988292384:Nat):Int)=3988292384 from rfl]at hxq;have hz2:z/2<2147483648:=by omega
     by_cases hodd:z%2=1
     ·rw[hodd]at ha;rw[hodd,if_pos rfl]at YK;have hq2:=hid hq;generalize (z/2 ^^^ 3988292384:Nat)=p at *;generalize z/2=q at *;go_wp2;go_round
      case rel=>exact⟨j+1,by omega,by go_num,by rw[YK.out]⟩
      case measure=>simp[intOf];omega
     ·have h0:z%2=0:=by omega
      rw[h0]at ha;rw[h0,if_neg (by decide),Nat.xor_zero]at YK;clear hxq;generalize z/2=q at *;go_wp2;go_round
      case rel=>exact⟨j+1,by omega,by go_num,by rw[YK.out]⟩
      case measure=>simp[intOf];omega
    ·obtain rfl:j=8:=by omega
     go_wp2;go_round
     case rel=>exact⟨k+1,by omega,by go_num,by rw[HR.out]⟩
     case measure=>simp[intOf];omega
  ·obtain rfl:k=n:=by omega
   have e8:xs.take k=xs:=List.take_of_length_le (by rw[HN.out];exact Nat.le_refl _);rw[e8]at hlt ⊢;have hnot:=Zyn (regC xs) hlt;generalize regC xs=a at *;rw[HC.out]at hnot;go_wp2;go_ret;exact⟨Zyi hnot,rfl⟩
def iC (xs:List Nat):Nat:=nAt 4 4 xs
def iG (xs:List Nat):Nat:=nAt 4 8 xs
def iR (xs:List Nat):Nat:=nAt 4 12 xs
def iD (C G:Nat):Nat:=16+C+G*(4+16*C)
def Zf3 (xs:List Nat):Bool :=
 decide (16≤xs.length)&&(decide (nAt 4 0 xs=826889027)&&(decide (1≤iC xs∧iC xs≤16)&&(decide (iG xs≤256)&&(decide (iR xs≤65536)&&decide (iD (iC xs) (iG xs)≤xs.length)))))
def iKs (C:Nat) (xs:List Nat):List Nat:=(xs.drop 16).take C
def Zg1 (C:Nat) (xs:List Nat):Bool:=(iKs C xs).all fun k=>Zax (k:Int)
structure En where
 off:Nat
 len:Nat
 sum:Nat
 zl:Nat
def gP (C g:Nat):Nat:=16+C+g*(4+16*C)
def eP (C g c:Nat):Nat:=gP C g+4+16*c
def Zap (C:Nat) (xs:List Nat) (g:Nat):Nat:=nAt 4 (gP C g) xs
def enAt (xs:List Nat) (p:Nat):En:=⟨nAt 4 p xs,nAt 4 (p+4) xs,nAt 4 (p+8) xs,nAt 4 (p+12) xs⟩
def eN (C:Nat) (xs:List Nat) (g c:Nat):En:=enAt xs (eP C g c)
def sumR (C:Nat) (xs:List Nat):Nat→Nat
 | 0=>0
 | g+1=>sumR C xs g+Zap C xs g
def eI (C:Nat) (xs:List Nat) (i:Nat):En:=eN C xs (i/C) (i%C)
def eAt (C D:Nat) (xs:List Nat):Nat→Nat
 | 0=>D
 | i+1=>eAt C D xs i+((eI C xs i).len+(eI C xs i).zl)
def laid (C D:Nat) (xs:List Nat) (n:Nat):Bool:=(List.range n).all fun i=>decide ((eI C xs i).off=eAt C D xs i)
def Zc1 (C G R:Nat) (xs:List Nat):Bool:=laid C (iD C G) xs (G*C)&&(decide (sumR C xs G=R)&&decide (eAt C (iD C G) xs (G*C)=xs.length))
def Zf6 (xs:List Nat):Bool:=Zf3 xs&&(Zg1 (iC xs) xs&&Zc1 (iC xs) (iG xs) (iR xs) xs)
theorem Zq7 (C D:Nat) (xs:List Nat) (n:Nat):laid C D xs (n+1)=(laid C D xs n&&decide ((eI C xs n).off=eAt C D xs n)):=by
 unfold laid;rw[List.range_succ,List.all_append];simp
theorem Zx8 {C D:Nat} {xs:List Nat} {i n:Nat} (hi:i<n) (h:(eI C xs i).off≠eAt C D xs i):laid C D xs n=false:=by
 rw[← Bool.not_eq_true];intro h2;unfold laid at h2;rw[List.all_eq_true]at h2;have:=h2 i (List.mem_range.2 hi);simp only[decide_eq_true_eq]at this;exact h this
theorem Zt5 (C D:Nat) (xs:List Nat):∀ i d,eAt C D xs i≤eAt C D xs (i+d)
 | _,0=>Nat.le_refl _
 | i,d+1=>Nat.le_trans (Zt5 C D xs i d) (by show _≤eAt C D xs (i+d)+_;omega)
theorem Zr8 {C:Nat} {xs:List Nat} {g c:Nat} (hc:c<C):eI C xs (g*C+c)=eN C xs g c:=by
 have h0:0<C:=by omega
 unfold eI;rw[Nat.mul_comm,Nat.mul_add_div h0,Nat.mul_add_mod,Nat.div_eq_of_lt hc,Nat.mod_eq_of_lt hc,Nat.add_zero]
theorem Zym {C:Nat} {xs:List Nat} (hx:∀ x∈xs,x<256) (g c:Nat):(eN C xs g c).off<4294967296∧(eN C xs g c).len<4294967296∧(eN C xs g c).sum<4294967296∧(eN C xs g c).zl<4294967296 :=
 ⟨Zdx hx,Zdx hx,Zdx hx,Zdx hx⟩
theorem Zwy {C D:Nat} {xs:List Nat} (hx:∀ x∈xs,x<256):∀ i,eAt C D xs i≤D+i*8589934592
 | 0=>by simp[eAt]
 | i+1=>by
  have:=Zwy (C:=C) (D:=D) hx i;have h:=Zym (C:=C) hx (i/C) (i%C)
  show eAt C D xs i+((eI C xs i).len+(eI C xs i).zl)≤_
  unfold eI;omega
theorem Ztk {C:Nat} {xs:List Nat} (hx:∀ x∈xs,x<256):∀ g,sumR C xs g≤g*4294967296
 | 0=>by simp[sumR]
 | g+1=>by
  have:=Ztk (C:=C) hx g;have h:Zap C xs g<4294967296:=Zdx hx
  show sumR C xs g+Zap C xs g≤_
  omega
theorem Zq1 (C:Nat) (xs:List Nat):∀ i d,sumR C xs i≤sumR C xs (i+d)
 | _,0=>Nat.le_refl _
 | i,d+1=>Nat.le_trans (Zq1 C xs i d) (by show _≤sumR C xs (i+d)+_;omega)
theorem Zw4 {xs:List Nat} (h:Zf3 xs=true):16≤xs.length∧nAt 4 0 xs=826889027∧(1≤iC xs∧iC xs≤16)∧iG xs≤256∧iR xs≤65536∧iD (iC xs) (iG xs)≤xs.length:=by
 unfold Zf3 at h;simp only[Bool.and_eq_true,decide_eq_true_eq]at h;exact h
theorem Z1n {C G g:Nat} (hg:g<G):gP C g+4+16*C≤iD C G:=by
 unfold gP iD;have:(g+1)*(4+16*C)≤G*(4+16*C):=Nat.mul_le_mul_right _ hg;rw[Nat.add_mul]at this;omega
theorem Z0w (C g:Nat):gP C (g+1)=gP C g+4+16*C:=by unfold gP;rw[Nat.add_mul];omega
theorem Z0l (C:Nat):gP C 0=16+C:=by unfold gP;omega
theorem Z13 {C G:Nat} (hC:C≤16) (hG:G≤256):iD C G≤66592:=by
 unfold iD;have:G*(4+16*C)≤256*260:=Nat.mul_le_mul hG (by omega);omega
theorem Zes {xs:List Nat} {p size:Nat} (h:p+size≤xs.length):L.wordOf 8 (tk size (xs.drop p))=nAt size p xs∧tkL size (xs.drop p)=xs.drop (p+size):=by
 have hl:size≤(xs.drop p).length:=by rw[List.length_drop];omega
 refine⟨?_,?_⟩
 ·unfold tk nAt Zb8;rw[if_pos hl,if_pos (decide_eq_true ⟨by omega,by omega⟩)]
 ·unfold tkL;rw[if_pos hl,List.drop_drop]
theorem Zrv {xs:List Nat} {p size:Nat} {s:Bool} (h:p+size≤xs.length):tkS size (xs.drop p) s=s:=by
 unfold tkS;rw[if_pos (by rw[List.length_drop];omega)]
theorem Z0i {xs:List Nat} {p:Nat} (h:p<xs.length):nAt 1 p xs=xs.getD p 0:=by
 unfold nAt Zb8;rw[if_pos (decide_eq_true ⟨by omega,by omega⟩)];rw[show (xs.drop p).take 1=[xs.getD p 0] by
  rw[List.drop_eq_getElem_cons h,List.take_succ_cons,List.take_zero];simp[List.getD,List.getElem?_eq_getElem h]]
 exact Zh4 _
theorem Zww (x:Nat):okI (Zcf x):=by unfold okI Zcf wrap64;omega
theorem Zpn (k rows:Int) {xs:List Nat} (hb:∀ x∈xs,x<256):Zkq (Zgb k rows xs):=by
 have h0:okI (0:Int):=by unfold okI;omega
 have hd:∀ ys:List Nat,okI (bdC k ys).i:=fun ys=>by
  unfold bdC;split
  ·exact h0
  ·exact Zww _
 unfold Zkq Zgb;refine⟨?_,?_,?_⟩
 ·simp only;split
  ·exact hd _
  ·exact h0
 ·simp only;split
  ·exact hd _
  ·exact h0
 ·simp only;split
  ·refine Zdz (Zdh (Zau (Zau ?_))) (by omega);unfold pzX4 pzX2
   split
   ·refine Zus (Zus ?_)
    split
    ·exact Zau (Zau hb)
    ·exact Zau hb
   ·split
    ·exact Zau (Zau hb)
    ·exact Zau hb
  ·intro x hx;cases hx
theorem Z06 (k rows:Int) {xs:List Nat} (hb:∀ x∈xs,x<256):Zkq (Ztx k rows xs):=by
 have h0:okI (0:Int):=by unfold okI;omega
 have hd:∀ p:Nat,okI (vaC k p xs).i:=fun p=>by
  unfold vaC;split
  ·exact Zww _
  ·split
   ·exact h0
   ·exact h0
 have hbl:∀ x∈rzBl k rows xs,x<18446744073709551616:=by
  unfold rzBl;split
  ·exact Zdz (Zdh (fun x hx=>hb x (List.mem_of_mem_drop hx))) (by omega)
  ·intro x hx;cases hx
 unfold Zkq Ztx;refine⟨?_,?_,?_⟩
 ·simp only;split
  ·exact hd _
  ·exact h0
 ·simp only;split
  ·exact hd _
  ·exact h0
 ·simp only;exact hbl
def zOkZ (k rows:Int) (xs:List Nat):Bool:=decide (zOk k rows (Zgb k rows xs)=true∧zRec k rows (Zgb k rows xs)=xs)
def ZGot (k rows:Int) (xs:List Nat) (w:World) (e:Ending) (w':World):Prop:=Below w.heap.size w w' ∧
 ∃ z B c,e=.returned (.tuple #[z.v (.slice B z.bl.length c),.bool (zOkZ k rows xs)])∧w'.ownsRow w.heap.size 73 1 (.slice B z.bl.length c) z.bl.length (u64s z.bl)∧(zOkZ k rows xs=true→z=Zgb k rows xs)
theorem Zth {k rows:Int} {xs:List Nat} {w w':World} {e:Ending} (h:ZAns k rows xs w e w'):ZGot k rows xs w e w':=by
 obtain⟨hb,ok,z,B,he,ho,h⟩:=h;obtain⟨A,c,rfl⟩:=Zag ho;refine⟨hb,z,A,c,?_,ho,?_⟩
 ·rcases h with ⟨rfl,rfl,h1,h2⟩ | ⟨rfl,rfl,h1⟩
  ·rw[show zOkZ k rows xs=true from decide_eq_true ⟨h1,h2⟩];exact he
  ·rw[show zOkZ k rows xs=false from decide_eq_false h1];exact he
 ·rcases h with ⟨rfl,h0,h1,h2⟩ | ⟨rfl,h0,h1⟩
  ·exact fun _=>h0
  ·intro hh;unfold zOkZ at hh;rw[decide_eq_true_eq]at hh;exact absurd hh h1
theorem Zzu {k rows:Int} {xs:List Nat} {w w':World} {e:Ending} (hk:Zax k=true) (hr:0≤rows∧rows≤65536) (hb:∀ x∈xs,x<256) (h:RAns k rows xs w e w'):ZGot k rows xs w e w':=by
 refine Zth ?_;obtain⟨hb2,ok,z,B,he,ho,h⟩:=h;refine⟨hb2,ok,z,B,he,ho,?_⟩;rcases h with ⟨h0,h3,h1,h2⟩ | ⟨h0,h3,h1⟩
 ·have hp:=Zwp hk hr (h3 ▸ Z06 k rows hb) h1;rw[h2]at hp;exact .inl ⟨h0,hp.symm,h1,h2⟩
 ·exact .inr ⟨h0,h3,fun hh=>h1 _ (Zpn k rows hb) hh.1 hh.2⟩
def Zak (xs:List Nat) (en:En):List Nat:=(xs.drop en.off).take en.len
def recE (xs:List Nat) (en:En):List Nat:=(xs.drop (en.off+en.len)).take en.zl
def zE (kd rows:Nat) (xs:List Nat) (en:En):ZM:=Zgb kd rows (recE xs en)
def sOkE (kd rows:Nat) (ys:List Nat) (z:ZM):Bool:=rOk kd rows ys&&sndR z kd rows (cA (rWs rows ys)) (cB (rWs rows ys) (rPay kd rows ys).2) (cC (rWs rows ys) (rPay kd rows ys).2)
def Zh9 (kd rows:Nat) (xs:List Nat) (en:En):Bool:=zOkZ kd rows (recE xs en)&&(decide (crc (Zak xs en)=en.sum)&&sOkE kd rows (Zak xs en) (zE kd rows xs en))
def ckVs (o l s cd wd:Nat) (z:ZM):List Value:=[.int .i64 (o:Nat),.int .i64 (l:Nat),.int .u32 (s:Nat),.int .i64 (cd:Nat),.int .i64 (wd:Nat),.bool z.rg,.int .i64 z.nu,.bool z.mn.n,.int .i64 z.mn.i,.string z.mn.s,.bool z.mx.n,.int .i64 z.mx.i,.string z.mx.s,.int .i64 z.hs]
def ckVE (kd rows:Nat) (xs:List Nat) (en:En):List Value:=ckVs en.off en.len en.sum ((Zak xs en).getD 0 0) ((Zak xs en).getD 1 0) (zE kd rows xs en)
theorem Zy6 (kd rows:Nat) (xs:List Nat) (en:En):(ckVE kd rows xs en).length=14:=rfl
def Zir (kd rows:Nat) (xs:List Nat) (en:En) (w:World) (e:Ending) (w':World):Prop:=Below w.heap.size w w' ∧
 ((Zh9 kd rows xs en=true∧∃ B c,e=.returned (.tuple #[.agg (ckVE kd rows xs en++[Value.slice B (zE kd rows xs en).bl.length c]).toArray,.bool true])∧w'.ownsRow w.heap.size 73 1 (.slice B (zE kd rows xs en).bl.length c) (zE kd rows xs en).bl.length (u64s (zE kd rows xs en).bl)) ∨
 (Zh9 kd rows xs en=false∧e=.returned (.tuple #[.agg #[.int .i64 0,.int .i64 0,.int .u32 0,.int .i64 0,.int .i64 0,.bool false,.int .i64 0,.bool false,.int .i64 0,.string ⟨#[]⟩,.bool false,.int .i64 0,.string ⟨#[]⟩,.int .i64 0,.slice none 0 0],.bool false])))
abbrev Ent:=List Value×Value
def Ent.df:Ent:=([],undef)
def entV (es:List Ent):List Value:=es.flatMap fun p=>p.1++[p.2]
theorem Zq3 (es:List Ent) (p:Ent):entV (es++[p])=entV es++(p.1++[p.2]):=by simp[entV]
theorem Zeb (es:List Ent) (p:Ent) (i:Nat):(es++[p]).getD i Ent.df=if i<es.length then es.getD i Ent.df else if i=es.length then p else Ent.df:=by
 by_cases h:i<es.length
 ·rw[if_pos h];simp[List.getD,List.getElem?_append_left h]
 ·rw[if_neg h];by_cases h2:i=es.length
  ·subst h2;simp[List.getD]
  ·rw[if_neg h2];simp[List.getD,List.getElem?_eq_none (l:=es++[p]) (i:=i) (by simp;omega)]
structure Nest (w:World) (B:Nat) (e:TypeId) (sz:Nat) (v:Value) (es:List Ent) (e':TypeId) (sz':Nat) (N:Nat→Nat) (X:Nat→List Value):Prop where
 own:w.ownsRow B e sz v es.length (entV es)
 inn:∀ i,i<es.length→w.ownsRow B e' sz' (es.getD i Ent.df).2 (N i) (X i)
 apart:∀ i j,i<j→j<es.length→∀ k,(es.getD i Ent.df).2.ownBlock=some k→(es.getD j Ent.df).2.ownBlock≠some k
theorem Nest.nil (w:World) (B:Nat) (e:TypeId) (sz:Nat) (e':TypeId) (sz':Nat) (N:Nat→Nat) (X:Nat→List Value):Nest w B e sz (.slice none 0 0) [] e' sz' N X :=
 ⟨by simpa [entV]using World.ownsRow_nil _ _ _ _,fun i h=>(by cases h),fun i j _ h=>(by cases h)⟩
theorem Nest.form {w:World} {B sz sz':Nat} {e e':TypeId} {v:Value} {es:List Ent} {N:Nat→Nat} {X:Nat→List Value} (h:Nest w B e sz v es e' sz' N X):∃ A cap,v=.slice A es.length cap:=Zag h.own
theorem Nest.keep {w w':World} {B sz sz':Nat} {e e':TypeId} {v:Value} {es:List Ent} {N:Nat→Nat} {X:Nat→List Value} (h:Nest w B e sz v es e' sz' N X)
  (hv:∀ k,v.ownBlock=some k→w'.heap[k]? = w.heap[k]?) (hi:∀ i,i<es.length→∀ k,(es.getD i Ent.df).2.ownBlock=some k→w'.heap[k]? = w.heap[k]?):Nest w' B e sz v es e' sz' N X :=
 ⟨Za5 h.own hv,fun i hl=>Za5 (h.inn i hl) (hi i hl),h.apart⟩
theorem Nest.mono {w w':World} {B sz sz':Nat} {e e':TypeId} {v:Value} {es:List Ent} {N:Nat→Nat} {X:Nat→List Value} (h:Nest w B e sz v es e' sz' N X) (hb:Below w.heap.size w w'):Nest w' B e sz v es e' sz' N X :=
 h.keep (fun k hk=>hb.block k (h.own.lt k hk).2) (fun i hi k hk=>hb.block k ((h.inn i hi).lt k hk).2)
theorem Nest.low {w w':World} {B sz sz' a b:Nat} {e e':TypeId} {v:Value} {es:List Ent} {N:Nat→Nat} {X:Nat→List Value} (h:Nest w B e sz v es e' sz' N X) (hc:Chg a b w w') (ha:a<B) (hb:b<B):Nest w' B e sz v es e' sz' N X :=
 h.keep (fun k hk=>by have:=h.own.lt k hk;exact hc.block k this.2 (by omega) (by omega)) (fun i hi k hk=>by have:=(h.inn i hi).lt k hk;exact hc.block k this.2 (by omega) (by omega))
theorem Nest.push {w0 w w':World} {B sz sz' n:Nat} {e e':TypeId} {v v' u:Value} {es:List Ent} {N:Nat→Nat} {X:Nat→List Value} {hd:List Value} {x:List Value}
  (h:Nest w B e sz v es e' sz' N X) (hne:e≠e') (hw:w0.heap.size≤w.heap.size) (hold:∀ i,i<es.length→∀ k,(es.getD i Ent.df).2.ownBlock=some k→k<w0.heap.size) (hB:B≤w0.heap.size)
  (hu:w.ownsRow w0.heap.size e' sz' u n x) (hN:N es.length=n) (hX:X es.length=x)
  (ho:w'.ownsRow B e sz v' (es.length+1) (entV es++(hd++[u]))) (hk:Kp v w w' v'):Nest w' B e sz v' (es++[(hd,u)]) e' sz' N X:=by
 have hlen:(es++[(hd,u)]).length=es.length+1:=by simp
 have key:∀(B2:Nat) (z:Value) (m:Nat) (cs:List Value),w.ownsRow B2 e' sz' z m cs→w'.ownsRow B2 e' sz' z m cs:=fun B2 z m cs hz =>
  Za5 hz fun k hv=>hk.1 k (hz.lt k hv).2 fun he=>Zcr hz h.own (fun x=>hne x.symm) k hv he.symm
 refine⟨by rw[hlen,Zq3];exact ho,fun i hi=>?_,fun i j hij hj k hi hjk=>?_⟩
 ·rw[Zeb];by_cases h1:i<es.length
  ·rw[if_pos h1];exact key _ _ _ _ (h.inn i h1)
  ·rw[if_neg h1,if_pos (by omega)];obtain rfl:i=es.length:=by omega
   rw[hN,hX];exact key _ _ _ _ (Zbc hu hB)
 ·rw[Zeb]at hi hjk;rw[if_pos (by omega)]at hi;by_cases h1:j<es.length
  ·rw[if_pos h1]at hjk;exact h.apart i j hij h1 k hi hjk
  ·rw[if_neg h1,if_pos (by omega)]at hjk;have:=hold i (by omega) k hi;have:=(hu.lt k hjk).1;omega
theorem Zln {sz:Nat} (es:List Ent) (hsz:∀ p∈es,p.1.length+1=sz):∀ i,i<es.length→∀ j,j<sz→(entV es)[i*sz+j]? = ((es.getD i Ent.df).1++[(es.getD i Ent.df).2])[j]?:=by
 induction es with
 | nil=>intro i hi;cases hi
 | cons p r ih =>
  intro i hi j hj;have hp:=hsz p (by simp);rw[show entV (p :: r)=(p.1++[p.2])++entV r by simp[entV]];cases i with
  | zero =>
   rw[Nat.zero_mul,Nat.zero_add,List.getElem?_append_left (by simp;omega)];rfl
  | succ i =>
   rw[List.getElem?_append_right (by simp;rw[Nat.succ_mul];omega)];have e1:(i+1)*sz+j-(p.1++[p.2]).length=i*sz+j:=by simp;rw[Nat.succ_mul];omega
   rw[e1,ih (fun q hq=>hsz q (by simp[hq])) i (by simpa using hi) j hj];rfl
end Go.Proofs.YtmcjknjlihgihaaGreatDoor
