/-
  Steps.
-/
import Derived.Laws.Bits64b
import Derived.Laws.BitsAllLaws
import Derived.Lib.TrailingZeros
import Derived.Lib.BitFns
import Derived.RowKit
import Derived.IntWalk
import Derived.Test.YtdnfhjfbanhhcaaGreatDoorProg
import Derived.Test.YtdnfhjfbanhhcaaGreatDoorQLBk01
import Derived.Laws.Cover1
import Derived.Lib.Hide
namespace Go.Proofs.YtdnfhjfbanhhcaaGreatDoor
open Go.RowKit
def popF:Nat→Nat→Nat
 | 0,_=>0
 | f+1,v=>v%2+popF f (v/2)
def pop (v:Nat):Nat:=popF 64 v
theorem x6u (k:Nat):0<2^k:=Nat.pow_pos (by decide)
theorem y7x (k:Nat)(h:k≤63):2^k≤9223372036854775808:=by
 have:=Nat.pow_le_pow_right (n:=2) (by decide) h;omega
theorem y7y (k:Nat)(h:k<64):IntKind.u64.wrap ((2:Int)^k)=((2^k:Nat):Int):=by
 have:=y7x k (by omega);have e:(2:Int)^k=((2^k:Nat):Int):=by simp
 rw[e,IntKind.wrap_u64];generalize 2^k=P at*;omega
theorem x1q (k:Nat)(h:k<64):IntKind.u64.wrap (IntKind.u64.wrap ((2:Int)^k)-1)=((2^k-1:Nat):Int):=by
 have:=y7x k (by omega);have:=x6u k;rw[y7y k h,IntKind.wrap_u64];generalize 2^k=P at*;omega
def M5:Nat→Nat|0=>0|f+1=>85+256*M5 f
def M3:Nat→Nat|0=>0|f+1=>51+256*M3 f
def MF:Nat→Nat|0=>0|f+1=>15+256*MF f
def F1 (f n:Nat):Nat:=(n/2&&&M5 f)+(n&&&M5 f)
def F2 (f x:Nat):Nat:=(x/4&&&M3 f)+(x&&&M3 f)
def F3 (f x:Nat):Nat:=(x/16+x)&&&MF f
def g1 (b:Nat):Nat:=(b/2&&&85)+(b&&&85)
def g2 (b:Nat):Nat:=(b/4&&&51)+(b&&&51)
def g3 (b:Nat):Nat:=(b/16+b)&&&15
def Bv:Nat→Nat→Nat|0,_=>0|f+1,n=>popF 8 (n%256)+256*Bv f (n/256)
theorem z4k (a c x m:Nat)(ha:a<256)(hc:c<256):(a+256*x)&&&(c+256*m)=(a&&&c)+256*(x&&&m):=by
 have h1:((a+256*x)&&&(c+256*m))%2^8=a&&&c:=by
  rw[Nat.and_mod_two_pow];congr 1<;>omega
 have h2:((a+256*x)&&&(c+256*m))/2^8=x&&&m:=by
  rw[Nat.and_div_two_pow];congr 1<;>omega
 have h3:a&&&c<2^8:=Nat.and_lt_two_pow _ (by omega);omega
theorem d1:∀b:Fin 256,∀c:Fin 2,(b.val/2+128*c.val)&&&85=b.val/2&&&85:=by decide+kernel
theorem d2:∀b:Fin 256,∀c:Fin 4,(b.val/4+64*c.val)&&&51=b.val/4&&&51:=by decide+kernel
theorem d3:∀b:Fin 256,g3 (g2 (g1 b.val))=popF 8 b.val∧g1 b.val<256∧g2 (g1 b.val)<256∧g2 (g1 b.val)%16≤4∧g2 (g1 b.val)/16≤4∧popF 8 b.val≤8:=by decide+kernel
theorem d3' (b:Nat)(h:b<256):g3 (g2 (g1 b))=popF 8 b∧g1 b<256∧g2 (g1 b)<256∧g2 (g1 b)%16≤4∧g2 (g1 b)/16≤4∧popF 8 b≤8:=d3 ⟨b,h⟩
theorem x1r (f n:Nat):F1 (f+1) n=g1 (n%256)+256*F1 f (n/256):=by
 have e1:n/2=(n%256/2+128*(n/256%2))+256*(n/256/2):=by omega
 have e2:n=n%256+256*(n/256):=by omega
 have k1:(n/2)&&&M5 (f+1)=(n%256/2&&&85)+256*(n/256/2&&&M5 f):=by
  rw[e1,M5,z4k _ _ _ _ (by omega) (by omega),d1 ⟨n%256,by omega⟩ ⟨n/256%2,by omega⟩]
 have k2:n&&&M5 (f+1)=(n%256&&&85)+256*(n/256&&&M5 f):=by
  conv=>lhs;rw[e2]
  rw[M5,z4k _ _ _ _ (by omega) (by omega)]
 unfold F1 g1;rw[k1,k2];omega
theorem x1s (f c x:Nat)(hc:c<256):F2 (f+1) (c+256*x)=g2 c+256*F2 f x:=by
 have e1:(c+256*x)/4=(c/4+64*(x%4))+256*(x/4):=by omega
 unfold F2 g2;rw[e1,M3,z4k _ _ _ _ (by omega) (by omega),z4k _ _ _ _ (by omega) (by omega),d2 ⟨c,hc⟩ ⟨x%4,by omega⟩];show(c/4&&&51)+_+_=_;omega
theorem q02 (f c x:Nat)(h1:c%16≤4)(h2:c/16≤4)(h3:x%16≤4):F3 (f+1) (c+256*x)=g3 c+256*F3 f x:=by
 have e1:(c+256*x)/16+(c+256*x)=(c/16+16*(x%16)+c)+256*(x/16+x):=by omega
 unfold F3 g3;rw[e1,MF,z4k _ _ _ _ (by omega) (by omega)];have e2:c/16+16*(x%16)+c&&&15=(c/16+c)&&&15:=by
  rw[nat_mask4,nat_mask4];omega
 rw[e2]
theorem F_low (f n:Nat):F2 f (F1 f n)%16≤4:=by
 cases f with
 | zero=>simp[F2,M3]
 | succ f=>
  obtain⟨_,a,b,c,_⟩:=d3' (n%256) (by omega);rw[x1r,x1s _ _ _ a];omega
theorem q3t:∀f n,F3 f (F2 f (F1 f n))=Bv f n
 | 0,n=>by simp[F3,MF,Bv]
 | f+1,n=>by
  obtain⟨e,a,b,c,d,_⟩:=d3' (n%256) (by omega);rw[x1r,x1s _ _ _ a,q02 _ _ _ c d (F_low f _),q3t f (n/256),Bv];rw[e]
theorem y0f (k:Nat):∀j n,popF (k+j) n=popF j (n%2^j)+popF k (n/2^j)
 | 0,n=>by simp[popF]
 | j+1,n=>by
  have e1:n%2^(j+1)%2=n%2:=by rw[Nat.pow_succ',Nat.mod_mul_right_mod]
  have e2:n%2^(j+1)/2=n/2%2^j:=by rw[Nat.pow_succ',Nat.mod_mul_right_div_self]
  have e3:n/2^(j+1)=n/2/2^j:=by rw[Nat.pow_succ',Nat.div_div_eq_div_mul]
  show n%2+popF (k+j) (n/2)=n%2^(j+1)%2+popF j (n%2^(j+1)/2)+popF k (n/2^(j+1));rw[e1,e2,e3,y0f k j (n/2),Nat.add_assoc]
theorem z27 (n k:Nat):popF (k+8) n=popF 8 (n%256)+popF k (n/256):=y0f k 8 n
theorem x1t (n:Nat):pop n=popF 8 (n%256)+(popF 8 (n/256%256)+(popF 8 (n/256/256%256)+(popF 8 (n/256/256/256%256)+(popF 8 (n/256/256/256/256%256)
  +(popF 8 (n/256/256/256/256/256%256)+(popF 8 (n/256/256/256/256/256/256%256)+popF 8 (n/256/256/256/256/256/256/256%256))))))):=by
 exact(z27 n 56).trans (congrArg (popF 8 (n%256)+ ·) ((z27 _ 48).trans (congrArg (popF 8 (n/256%256)+ ·) ((z27 _ 40).trans (congrArg (popF 8 (n/256/256%256)+ ·) ((z27 _ 32).trans
  (congrArg (popF 8 (n/256/256/256%256)+ ·) ((z27 _ 24).trans (congrArg (popF 8 (n/256/256/256/256%256)+ ·) ((z27 _ 16).trans (congrArg (popF 8 (n/256/256/256/256/256%256)+ ·)
  ((z27 _ 8).trans (congrArg (popF 8 (n/256/256/256/256/256/256%256)+ ·) ((z27 _ 0).trans (Nat.add_zero _)))))))))))))))
theorem z28 (n:Nat):popF 8 (n%256)≤8:=(d3' (n%256) (by omega)).2.2.2.2.2
theorem sum_a (d0 d1 d2 R3:Nat)(h0:d0≤8)(h1:d1≤8)(h2:d2≤8)(R2 R1 x:Nat)(e2:R2=d2+256*R3)(e1:R1=d1+256*R2)(e0:x=d0+256*R1):
  x/256=R1∧(x+R1)/65536=R2+R3:=by omega
theorem sum_b (d0 d1 d2 d3 d4 d5 d6 R7:Nat)(h0:d0≤8)(h1:d1≤8)(h2:d2≤8)(h3:d3≤8)(h4:d4≤8)(h5:d5≤8)(h6:d6≤8):
  (d0+d1+d2+d3+256*(d1+d2+d3+d4)+65536*(d2+d3+d4+d5)+16777216*(d3+d4+d5+d6)+4294967296*R7)/4294967296=R7:=by omega
theorem x1u (d0 d1 d2 d3 d4 d5 d6 d7 x:Nat)(h0:d0≤8)(h1:d1≤8)(h2:d2≤8)(h3:d3≤8)(h4:d4≤8)(h5:d5≤8)(h6:d6≤8)(h7:d7≤8)
  (hx:x=d0+256*(d1+256*(d2+256*(d3+256*(d4+256*(d5+256*(d6+256*d7))))))):
  ∃a b c,a=x+x/256∧b=a+a/65536∧c=b+b/4294967296∧
  c%128=d0+(d1+(d2+(d3+(d4+(d5+(d6+d7))))))∧a<1152921504606846976∧b<1152921504606846976∧c<1152921504606846976:=by
 obtain⟨R7,e7⟩:∃R,R=d7:=⟨_,rfl⟩
 obtain⟨R6,e6⟩:∃R,R=d6+256*R7:=⟨_,rfl⟩
 obtain⟨R5,e5⟩:∃R,R=d5+256*R6:=⟨_,rfl⟩
 obtain⟨R4,e4⟩:∃R,R=d4+256*R5:=⟨_,rfl⟩
 obtain⟨R3,e3⟩:∃R,R=d3+256*R4:=⟨_,rfl⟩
 obtain⟨R2,e2⟩:∃R,R=d2+256*R3:=⟨_,rfl⟩
 obtain⟨R1,e1⟩:∃R,R=d1+256*R2:=⟨_,rfl⟩
 have e0:x=d0+256*R1:=by rw[hx,e1,e2,e3,e4,e5,e6,e7]
 clear hx;have sa:=sum_a d0 d1 d2 R3 h0 h1 h2 R2 R1 x e2 e1 e0;have eb:x+R1+(R2+R3)=d0+d1+d2+d3+256*(d1+d2+d3+d4)+65536*(d2+d3+d4+d5)+16777216*(d3+d4+d5+d6)+4294967296*(R4+R5+(R6+R7)):=by omega
 have sb:(x+R1+(R2+R3))/4294967296=R4+R5+(R6+R7):=by
  rw[eb];exact sum_b d0 d1 d2 d3 d4 d5 d6 _ h0 h1 h2 h3 h4 h5 h6
 refine⟨x+R1,x+R1+(R2+R3),x+R1+(R2+R3)+(R4+R5+(R6+R7)),by rw[sa.1],by rw[sa.2],by rw[sb],?_,?_,?_,?_⟩
 ·rw[eb,e4,e5,e6,e7];clear sa sb eb e0 e1 e2 e3 e4 e5 e6;omega
 all_goals (clear sa sb eb;omega)
theorem z8d (a b:Nat)(ha:a<9223372036854775808)(hb:b<9223372036854775808):bits .and .i64 (a:Int) (b:Int)=((a&&&b:Nat):Int):=by
 have hx:a&&&b<2^63:=Nat.and_lt_two_pow _ (by omega);have h1:(BitVec.ofInt 64 (a:Int)).toNat=a:=by
  rw[BitVec.ofInt_natCast,BitVec.toNat_ofNat];exact Nat.mod_eq_of_lt (by omega)
 have h2:(BitVec.ofInt 64 (b:Int)).toNat=b:=by
  rw[BitVec.ofInt_natCast,BitVec.toNat_ofNat];exact Nat.mod_eq_of_lt (by omega)
 show IntKind.i64.wrap ((BitVec.ofInt 64 (a:Int)&&&BitVec.ofInt 64 (b:Int)).toNat:Int)=_;rw[BitVec.toNat_and,h1,h2,IntWalk.i64_left];unfold wrap64;omega
def w1 (n:Int):Int:=IntKind.u64.wrap (bits .and .u64 (n/2) 6148914691236517205+bits .and .u64 n 6148914691236517205)
def w2 (n:Int):Int:=IntKind.u64.wrap (bits .and .u64 (n/4) 3689348814741910323+bits .and .u64 n 3689348814741910323)
def w3 (n:Int):Int:=bits .and .u64 (IntKind.u64.wrap (n/16+n)) 1085102592571150095
def w4 (n:Int):Int:=IntKind.u64.wrap (n+n/256)
def w5 (n:Int):Int:=IntKind.u64.wrap (n+n/65536)
def w6 (n:Int):Int:=IntKind.u64.wrap (n+n/4294967296)
theorem M5_8:M5 8=6148914691236517205:=by decide+kernel
theorem M3_8:M3 8=3689348814741910323:=by decide+kernel
theorem MF_8:MF 8=1085102592571150095:=by decide+kernel
theorem w1_eq (n:Nat)(hn:n<18446744073709551616):w1 n=((F1 8 n:Nat):Int)∧F1 8 n≤12297829382473034410:=by
 have e:((n:Int)/2)=((n/2:Nat):Int):=by omega
 have h1:n/2&&&6148914691236517205≤6148914691236517205:=Nat.and_le_right;have h2:n&&&6148914691236517205≤6148914691236517205:=Nat.and_le_right;have k1:=bits_and_u64_nat (n/2) 6148914691236517205 (by omega) (by omega);have k2:=bits_and_u64_nat n 6148914691236517205 (by omega) (by omega);unfold w1 F1;rw[M5_8,e,IntKind.wrap_u64];have k1':bits .and .u64 ((n/2:Nat):Int) 6148914691236517205=((n/2&&&6148914691236517205:Nat):Int):=k1;have k2':bits .and .u64 (n:Int) 6148914691236517205=((n&&&6148914691236517205:Nat):Int):=k2;rw[k1',k2'];omega
theorem w2_eq (n:Nat)(hn:n<18446744073709551616):w2 n=((F2 8 n:Nat):Int)∧F2 8 n≤7378697629483820646:=by
 have e:((n:Int)/4)=((n/4:Nat):Int):=by omega
 have h1:n/4&&&3689348814741910323≤3689348814741910323:=Nat.and_le_right;have h2:n&&&3689348814741910323≤3689348814741910323:=Nat.and_le_right;have k1':bits .and .u64 ((n/4:Nat):Int) 3689348814741910323=((n/4&&&3689348814741910323:Nat):Int):=bits_and_u64_nat (n/4) 3689348814741910323 (by omega) (by omega);have k2':bits .and .u64 (n:Int) 3689348814741910323=((n&&&3689348814741910323:Nat):Int):=bits_and_u64_nat n 3689348814741910323 (by omega) (by omega);unfold w2 F2;rw[M3_8,e,IntKind.wrap_u64,k1',k2'];omega
theorem w3_eq (n:Nat)(hn:n≤7378697629483820646):w3 n=((F3 8 n:Nat):Int):=by
 have e:IntKind.u64.wrap ((n:Int)/16+(n:Int))=((n/16+n:Nat):Int):=by rw[IntKind.wrap_u64];omega
 unfold w3 F3;rw[MF_8,e];exact bits_and_u64_nat (n/16+n) 1085102592571150095 (by omega) (by omega)
theorem wr (n m:Nat)(h:n=m)(l:m<1152921504606846976):IntKind.u64.wrap (n:Int)=(m:Int):=by subst h;exact IntWalk.u64_in _ (by omega)
theorem w4_eq (x a:Nat)(h:a=x+x/256)(l:a<1152921504606846976):w4 (x:Int)=(a:Int):=wr (x+x/256) a h.symm l
theorem w5_eq (x a:Nat)(h:a=x+x/65536)(l:a<1152921504606846976):w5 (x:Int)=(a:Int):=wr (x+x/65536) a h.symm l
theorem w6_eq (x a:Nat)(h:a=x+x/4294967296)(l:a<1152921504606846976):w6 (x:Int)=(a:Int):=wr (x+x/4294967296) a h.symm l
theorem q03 (n:Nat)(hn:n<18446744073709551616):bits .and .i64 (wrap64 (w6 (w5 (w4 (w3 (w2 (w1 n))))))) 127=((pop n:Nat):Int):=by
 obtain⟨e1,l1⟩:=w1_eq n hn;obtain⟨e2,l2⟩:=w2_eq (F1 8 n) (by omega);rw[e1,e2,w3_eq _ l2,q3t,x1t];have hb:Bv 8 n=popF 8 (n%256)+256*(popF 8 (n/256%256)+256*(popF 8 (n/256/256%256)+256*(popF 8 (n/256/256/256%256)+256*(popF 8 (n/256/256/256/256%256)
  +256*(popF 8 (n/256/256/256/256/256%256)+256*(popF 8 (n/256/256/256/256/256/256%256)+256*popF 8 (n/256/256/256/256/256/256/256%256))))))):=by
  simp only[Bv,Nat.mul_zero,Nat.add_zero]
 obtain⟨a,b,c,ha,hb',hc,hs,la,lb,lc⟩:=x1u _ _ _ _ _ _ _ _ (Bv 8 n) (z28 n) (z28 _) (z28 _) (z28 _) (z28 _) (z28 _) (z28 _) (z28 _) hb;rw[←hs];clear hs hb e1 e2 l1 l2 hn;generalize Bv 8 n=x at*;have f7:wrap64 (c:Int)=(c:Int):=IntWalk.wrap64_in _ (by omega);rw[w4_eq x a ha la,w5_eq a b hb' lb,w6_eq b c hc lc,f7];have:=z8d c 127 (by omega) (by omega);rw[nat_mask7] at this;exact this
theorem y0g (v:Nat)(h0:0<v)(h:v<18446744073709551616):1≤Lib.bitLen v∧Lib.bitLen v≤64∧v/2^(Lib.bitLen v-1)=1:=by
 have key:∀f v,0<v→v<2^f→1≤Lib.bitLenAux f v∧Lib.bitLenAux f v≤f∧v/2^(Lib.bitLenAux f v-1)=1:=by
  intro f
  induction f with
  | zero=>intro v h0 h;simp at h;omega
  | succ f ih=>
   intro v h0 h;simp only[Lib.bitLenAux];rw[if_neg (by omega)]
   by_cases h1:v/2=0
   ·have e:Lib.bitLenAux f (v/2)=0:=by rw[h1];cases f<;>simp[Lib.bitLenAux]
    rw[e];have:v=1:=by omega
    subst this;exact⟨by omega,by omega,by simp⟩
   ·obtain⟨a,b,c⟩:=ih (v/2) (by omega) (by rw[Nat.pow_succ] at h;omega);refine⟨by omega,by omega,?_⟩;rw[Nat.div_div_eq_div_mul,←Nat.pow_succ'] at c;rw[show 1+Lib.bitLenAux f (v/2)-1=(Lib.bitLenAux f (v/2)-1).succ from by omega];exact c
 exact key 64 v h0 h
theorem q3u (v:Nat):∀f,popF f v≤f:=by
 intro f
 induction f generalizing v with
 | zero=>simp[popF]
 | succ f ih=>simp only[popF];have:=ih (v/2);omega
end Go.Proofs.YtdnfhjfbanhhcaaGreatDoor
namespace Go.Proofs.YtdnfhjfbanhhcaaGreatDoor
open Go Go.RowKit
def wf (f:Nat→Bool):Nat→Nat
 | 0=>0
 | k+1=>wf f k|||(if f k=true then 2^k else 0)
theorem q04 (f:Nat→Bool):∀k,wf f k<2^k
 | 0=>by simp[wf]
 | k+1=>by
  have h:=q04 f k;have e:2^(k+1)=2*2^k:=by rw[Nat.pow_succ];omega
  refine Nat.or_lt_two_pow (by omega) ?_;split<;>omega
theorem x1v (f:Nat→Bool):∀k i,(wf f k).testBit i=(decide (i<k)&&f i)
 | 0,i=>by simp[wf]
 | k+1,i=>by
  rw[wf,Nat.testBit_or,x1v f k i]
  by_cases h:i=k
  ·subst h
   cases hf:f i<;>simp
  ·have h2:decide (i<k+1)=decide (i<k):=by rw[Bool.eq_iff_iff,decide_eq_true_iff,decide_eq_true_iff];omega
   rw[h2]
   cases hf:f k
   ·simp
   ·have h3:(2^k).testBit i=false:=by rw[Nat.testBit_two_pow];exact zdf (fun x=>h x.symm)
    simp[h3]
def wd (f:Nat→Bool)(k:Nat):Nat:=wf (fun i=>f (64*k+i)) 64
theorem z5e (f:Nat→Bool)(k:Nat):wd f k<18446744073709551616:=q04 _ 64
theorem z5h (f:Nat→Bool)(k i:Nat)(h:i<64):(wd f k).testBit i=f (64*k+i):=by
 rw[wd,x1v];simp[h]
theorem x1w {v:Nat}(h:v<18446744073709551616){i:Nat}(hi:64≤i):v.testBit i=false:=by
 apply Nat.testBit_lt_two_pow;have:2^64≤2^i:=Nat.pow_le_pow_right (by decide) hi;have e:2^64=18446744073709551616:=by decide
 omega
theorem y6a {f:Nat→Bool}{k v:Nat}(hv:v<18446744073709551616)(h:∀i,i<64→v.testBit i=f (64*k+i)):v=wd f k:=by
 apply Nat.eq_of_testBit_eq;intro i
 by_cases hi:i<64
 ·rw[h i hi,z5h f k i hi]
 ·rw[x1w hv (by omega),x1w (z5e f k) (by omega)]
theorem y3j {f g:Nat→Bool}{k:Nat}(h:∀i,i<64→f (64*k+i)=g (64*k+i)):wd f k=wd g k:=
 y6a (z5e f k) (fun i hi=>by rw[z5h f k i hi];exact h i hi)
theorem wd_or (f g:Nat→Bool)(k:Nat):wd f k|||wd g k=wd (fun m=>f m||g m) k:=
 y6a (Nat.or_lt_two_pow (n:=64) (z5e f k) (z5e g k)) (fun i hi=>by rw[Nat.testBit_or,z5h f k i hi,z5h g k i hi])
theorem x1x {v:Nat}(hv:v<18446744073709551616)(i:Nat)(hi:i<64):(18446744073709551615-v).testBit i= !v.testBit i:=by
 have e:18446744073709551615-v=2^64-(v+1):=by omega
 rw[e,Nat.testBit_two_pow_sub_succ (n:=64) hv];simp[hi]
theorem q05 (f g:Nat→Bool)(k:Nat):wd f k&&&(18446744073709551615-wd g k)=wd (fun m=>f m&& !g m) k:=
 y6a (Nat.lt_of_le_of_lt Nat.and_le_left (z5e f k)) (fun i hi=>by rw[Nat.testBit_and,z5h f k i hi,x1x (z5e g k) i hi,z5h g k i hi])
theorem q3v (n k:Nat):2^(min (n-64*k) 64)-1=wd (fun m=>decide (m<n)) k:=by
 have h:2^(min (n-64*k) 64)≤2^64:=Nat.pow_le_pow_right (by decide) (Nat.min_le_right _ _);have hp:0<2^(min (n-64*k) 64):=Nat.pow_pos (by decide);refine y6a (by
  have:(2:Nat)^64=18446744073709551616:=by decide
  omega) (fun i hi=> ?_)
 rw[Nat.testBit_two_pow_sub_one,Bool.eq_iff_iff,decide_eq_true_iff,decide_eq_true_iff];omega
def sc (f:Nat→Bool):Array Value:=((List.range 16).map (fun k=>Value.int .u64 (wd f k:Nat))).toArray
theorem z3h (f:Nat→Bool):(sc f).size=16:=by simp[sc]
theorem y3k (f:Nat→Bool)(k:Nat)(h:k<16):(sc f)[k]? =some (.int .u64 (wd f k:Nat)):=by
 simp[sc,h]
theorem z8s {f g:Nat→Bool}(h:∀m,m<1024→f m=g m):sc f=sc g:=by
 unfold sc
 congr 1
 apply List.map_congr_left;intro k hk;rw[y3j (fun i hi=>h _ (by have:=List.mem_range.1 hk;omega))]
theorem q3w (f:Nat→Bool)(k v:Nat)(hk:k<16)(hv:v<18446744073709551616):
  (sc f).setIfInBounds k (.int .u64 (v:Nat))=sc (fun m=>if m/64=k then v.testBit (m%64) else f m):=by
 apply Array.ext_getElem?;intro i;rw[Array.getElem?_setIfInBounds]
 by_cases h:i<16
 ·rw[y3k _ i h,y3k _ i h,z3h]
  by_cases e:k=i
  ·subst e;rw[if_pos rfl,if_pos hk];have:v=wd (fun m=>if m/64=k then v.testBit (m%64) else f m) k:=y6a hv (fun i hi=>by
    show v.testBit i=(if (64*k+i)/64=k then v.testBit ((64*k+i)%64) else f (64*k+i))
    rw[if_pos (by omega),show(64*k+i)%64=i by omega])
   rw[←this]
  ·rw[if_neg e]
   congr 3
   exact y3j (fun j hj=>by
    show f (64*i+j)=(if (64*i+j)/64=k then v.testBit ((64*i+j)%64) else f (64*i+j))
    rw[if_neg (by omega)])
 ·rw[Array.getElem?_eq_none (by rw[z3h];omega),Array.getElem?_eq_none (by rw[z3h];omega)];rw[z3h,if_neg (by omega)]
theorem y7z (f g:Nat→Bool)(k v:Nat)(hk:k<16)(hv:v=wd g k)(ho:∀m,m<1024→m/64≠k→f m=g m):
  (sc f).setIfInBounds k (.int .u64 (v:Nat))=sc g:=by
 rw[q3w f k v hk (by rw[hv];exact z5e g k)];refine z8s (fun m hm=> ?_)
 by_cases e:m/64=k
 ·rw[if_pos e,hv,z5h g k _ (by omega),←e,show 64*(m/64)+m%64=m by omega]
 ·rw[if_neg e];exact ho m hm e
def cnt (f:Nat→Bool):Nat→Nat
 | 0=>0
 | k+1=>cnt f k+(f k).toNat
theorem y70 (f:Nat→Bool):∀k,cnt f k≤k
 | 0=>zlr _
 | k+1=>by
  have:=y70 f k;have:(f k).toNat≤1:=Bool.toNat_le _;rw[cnt];omega
theorem z2w {f g:Nat→Bool}:∀{k:Nat},(∀m,m<k→f m=g m)→cnt f k=cnt g k
 | 0,_=>rfl
 | k+1,h=>by rw[cnt,cnt,z2w (fun m hm=>h m (by omega)),h k (by omega)]
theorem y1n (f:Nat→Bool)(a:Nat):∀b,cnt f (a+b)=cnt f a+cnt (fun i=>f (a+i)) b
 | 0=>rfl
 | b+1=>by rw[←Nat.add_assoc,cnt,cnt,y1n f a b];omega
theorem x1y (f:Nat→Bool)(k:Nat):cnt f (k+1)=(f 0).toNat+cnt (fun i=>f (i+1)) k:=by
 rw[Nat.add_comm k 1,y1n f 1 k];have:cnt f 1=(f 0).toNat:=by rw[cnt,cnt];omega
 rw[this]
 congr 1
 exact z2w (fun m _=>by rw[Nat.add_comm])
theorem x6v (f:Nat→Bool){a b:Nat}(h:a≤b):cnt f a≤cnt f b:=by
 obtain⟨c,rfl⟩:∃c,b=a+c:=⟨b-a,by omega⟩
 rw[y1n];omega
theorem x91 {f:Nat→Bool}{a b:Nat}(hf:f a=true)(h:a<b):cnt f a<cnt f b:=by
 have:=x6v f (show a+1≤b from h);rw[cnt,hf] at this;simp at this;omega
theorem y71:∀k v,popF k v=cnt (fun i=>v.testBit i) k
 | 0,_=>rfl
 | k+1,v=>by
  rw[popF,y71 k,x1y]
  congr 1
  ·rw[Nat.testBit_zero]
   rcases Nat.mod_two_eq_zero_or_one v with h|h<;>simp[h]
  ·exact z2w (fun m _=>by rw[Nat.testBit_succ])
theorem q3x (f:Nat→Bool)(k:Nat):cnt f (64*k)+pop (wd f k)=cnt f (64*(k+1)):=by
 rw[show 64*(k+1)=64*k+64 by omega,y1n,pop,y71]
 congr 1
 exact z2w (fun m hm=>z5h f k m hm)
theorem x6w (v:Nat):pop v≤64:=q3u v 64
theorem z55 (f g:Nat→Bool):∀k,cnt (fun m=>f m&&g m) k+cnt (fun m=>f m&& !g m) k=cnt f k
 | 0=>rfl
 | k+1=>by
  have:=z55 f g k;simp only[cnt];have e:(f k&&g k).toNat+(f k&& !g k).toNat=(f k).toNat:=by cases f k<;>cases g k<;>rfl
  omega
theorem z3l (n:Nat):∀k,cnt (fun m=>decide (m<n)) k=min n k
 | 0=>by rw[cnt];omega
 | k+1=>by
  rw[cnt,z3l n k]
  by_cases h:k<n
  ·rw[zdt h];simp;omega
  ·rw[zdf h];simp;omega
def els (f:Nat→Bool):Nat→List Nat
 | 0=> []
 | k+1=>els f k++(if f k=true then [k] else [])
theorem z65 (f:Nat→Bool):∀k,(els f k).length=cnt f k
 | 0=>rfl
 | k+1=>by rw[els,cnt,zla,z65 f k];cases f k<;>rfl
theorem y1o (f:Nat→Bool)(a:Nat):∀b,(∀i,i<b→f (a+i)=false)→els f (a+b)=els f a
 | 0,_=>rfl
 | b+1,h=>by
  rw[←Nat.add_assoc,els,y1o f a b (fun i hi=>h i (by omega)),h b (by omega)];simp
theorem q06 (f:Nat→Bool)(a b:Nat)(h:∀i,i<b→f (a+i)=false)(hf:f (a+b)=true):els f (a+b+1)=els f a++[a+b]:=by
 rw[els,y1o f a b h,hf];simp
def el (f:Nat→Bool)(i:Nat):Nat:=(els f 1024).getD i 0
theorem x92 (f:Nat→Bool):∀k i,i<cnt f k→∃x,(els f k)[i]? =some x∧f x=true∧cnt f x=i∧x<k
 | 0,i,h=>by rw[cnt] at h;omega
 | k+1,i,h=>by
  rw[cnt] at h
  by_cases hi:i<cnt f k
  ·obtain⟨x,h1,h2,h3,h4⟩:=x92 f k i hi;refine⟨x,?_,h2,h3,by omega⟩;rw[els,List.getElem?_append_left (by rw[z65];exact hi)];exact h1
  ·cases hf:f k with
   | false=>rw[hf] at h;simp at h;omega
   | true=>
    rw[hf] at h;have:i=cnt f k:=by simp at h;omega
    refine⟨k,?_,hf,this.symm,by omega⟩;rw[els,hf,if_pos rfl,List.getElem?_append_right (by rw[z65];omega),z65,this];simp
theorem x1z (f:Nat→Bool)(i:Nat)(h:i<cnt f 1024):(els f 1024)[i]? =some (el f i)∧f (el f i)=true∧cnt f (el f i)=i∧el f i<1024:=by
 obtain⟨x,h1,h2,h3,h4⟩:=x92 f 1024 i h;have e:el f i=x:=by rw[el,List.getD_eq_getElem?_getD,h1];rfl
 rw[e];exact⟨h1,h2,h3,h4⟩
theorem q07 {f:Nat→Bool}{i m:Nat}(h:i<cnt f 1024)(hf:f m=true)(hc:cnt f m=i):m=el f i:=by
 obtain⟨_,h2,h3,_⟩:=x1z f i h
 rcases Nat.lt_trichotomy m (el f i) with h4|h4|h4
 ·have:=x91 hf h4;omega
 ·exact h4
 ·have:=x91 h2 h4;omega
theorem q08 (v:Nat)(h0:0<v)(hv:v<18446744073709551616):
  Lib.ctzFrom 64 v<64∧v.testBit (Lib.ctzFrom 64 v)=true∧(∀u,u<Lib.ctzFrom 64 v→v.testBit u=false)∧(∀u,(v&&&(v-1)).testBit u=(v.testBit u&& !decide (u=Lib.ctzFrom 64 v))):=by
 obtain⟨m,hm,hk⟩:=Lib.ctzFrom_spec 64 v h0 hv;generalize Lib.ctzFrom 64 v=t at*;have hb:∀u,v.testBit u=(decide (t≤u)&&(2*m+1).testBit (u-t)):=fun u=>by rw[hm,Nat.testBit_two_pow_mul]
 have h1:v-1=2^t*(2*m)+(2^t-1):=by
  have hp:0<2^t:=Nat.pow_pos (by decide);rw[hm,Nat.mul_add,Nat.mul_one];omega
 have hc:∀u,(v-1).testBit u=if u<t then true else (2*m).testBit (u-t):=fun u=>by
  have hp:0<2^t:=Nat.pow_pos (by decide);rw[h1,Nat.testBit_two_pow_mul_add _ (by omega),Nat.testBit_two_pow_sub_one]
  by_cases h:u<t
  ·rw[if_pos h,if_pos h,zdt h]
  ·rw[if_neg h,if_neg h]
 refine⟨hk,?_,fun u hu=> ?_,fun u=> ?_⟩
 ·rw[hb];simp
 ·rw[hb,zdf (by omega)];rfl
 ·rw[Nat.testBit_and,hc,hb]
  by_cases h:u<t
  ·rw[zdf (by omega)];simp
  ·rw[if_neg h,zdt (show t≤u by omega)]
   by_cases e:u=t
   ·subst e;simp
   ·obtain⟨j,rfl⟩:∃j,u=t+(j+1):=⟨u-t-1,by omega⟩
    rw[show t+(j+1)-t=j+1 by omega,Nat.testBit_succ,Nat.testBit_succ,show(2*m)/2=m by omega,show(2*m+1)/2=m by omega,zdf e];simp
def wh (f:Nat→Bool)(k j:Nat):Nat:=wf (fun t=>decide (j≤t)&&f (64*k+t)) 64
theorem q3y (f:Nat→Bool)(k j:Nat):wh f k j<18446744073709551616:=q04 _ 64
theorem y0h (f:Nat→Bool)(k j i:Nat):(wh f k j).testBit i=(decide (i<64)&&(decide (j≤i)&&f (64*k+i))):=by rw[wh,x1v]
theorem q09 (f:Nat→Bool)(k:Nat):wh f k 0=wd f k:=by
 have:(fun t=>decide (0≤t)&&f (64*k+t))=fun t=>f (64*k+t):=by funext t;simp
 rw[wh,wd,this]
theorem q1a {f:Nat→Bool}{k j:Nat}(hj:j≤64)(h:wh f k j=0):els f (64*k+j)=els f (64*(k+1)):=by
 have e:64*(k+1)=(64*k+j)+(64-j):=by omega
 rw[e,y1o f (64*k+j) (64-j)];intro i hi;have:=y0h f k j (j+i);rw[h,Nat.zero_testBit,zdt (show j+i<64 by omega),zdt (show j≤j+i by omega)] at this;rw[Nat.add_assoc]
 simpa using this.symm
theorem q1b {f:Nat→Bool}{k j:Nat}(h:0<wh f k j):
  ∃t,Lib.ctzFrom 64 (wh f k j)=t∧j≤t∧t<64∧f (64*k+t)=true∧els f (64*k+(t+1))=els f (64*k+j)++[64*k+t]∧wh f k j&&&(wh f k j-1)=wh f k (t+1):=by
 obtain⟨h1,h2,h3,h4⟩:=q08 _ h (q3y f k j);refine⟨_,rfl,?_⟩;generalize Lib.ctzFrom 64 (wh f k j)=t at*;rw[y0h] at h2;simp only[Bool.and_eq_true,decide_eq_true_iff] at h2;obtain⟨_,h5,h6⟩:=h2;refine⟨h5,h1,h6,?_,?_⟩
 ·obtain⟨b,rfl⟩:∃b,t=j+b:=⟨t-j,by omega⟩
  rw[show 64*k+(j+b+1)=(64*k+j)+b+1 by omega,q06 f (64*k+j) b ?_ (by rw[Nat.add_assoc];exact h6),Nat.add_assoc];intro i hi;have:=h3 (j+i) (by omega);rw[y0h,zdt (show j+i<64 by omega),zdt (show j≤j+i by omega)] at this;rw[Nat.add_assoc]
  simpa using this
 ·apply Nat.eq_of_testBit_eq;intro u;rw[h4 u,y0h,y0h]
  by_cases e:u=t
  ·subst e;rw[zdf (show¬u+1≤u by omega)];simp
  ·rw[zdf e]
   by_cases h7:t+1≤u
   ·rw[zdt (show j≤u by omega),zdt h7];simp
   ·rw[zdf h7]
    by_cases h8:j≤u
    ·have h9:=h3 u (by omega);rw[y0h,zdt h8] at h9;rw[zdt h8]
     simpa using h9
    ·rw[zdf h8];simp
def mixR (h:Bool→Bool→Bool)(f g:Nat→Bool)(k m:Nat):Bool:=if m<64*k then h (f m) (g m) else f m
theorem y72 (h:Bool→Bool→Bool)(f g:Nat→Bool):mixR h f g 0=f:=by
 funext m;unfold mixR;rw[if_neg (by omega)]
theorem x10 (h:Bool→Bool→Bool)(f g:Nat→Bool):sc (mixR h f g 16)=sc (fun m=>h (f m) (g m)):=z8s (fun m hm=>by
 unfold mixR;rw[if_pos (by omega)])
theorem y73 (h:Bool→Bool→Bool)(f g:Nat→Bool)(k:Nat):wd (mixR h f g k) k=wd f k:=y3j (fun i hi=>by
 unfold mixR;rw[if_neg (by omega)])
theorem y74 (h:Bool→Bool→Bool)(f g:Nat→Bool)(k v:Nat)(hk:k<16)(hv:v=wd (fun m=>h (f m) (g m)) k):
  (sc (mixR h f g k)).setIfInBounds k (.int .u64 (v:Nat))=sc (mixR h f g (k+1)):=by
 refine y7z _ _ k v hk (hv.trans (y3j (fun i hi=> ?_))) (fun m hm hne=> ?_)
 ·unfold mixR;rw[if_pos (by omega)]
 ·unfold mixR
  by_cases e:m<64*k
  ·rw[if_pos e,if_pos (by omega)]
  ·rw[if_neg e,if_neg (by omega)]
abbrev SPT:TypeId:=147
theorem x11 (s:Sp)(k:ByteArray)(w:World):Calls Tryz.prog 132 #[s.v,.string k] w fun e w'=>e=.returned (.bool (hasS s k))∧Below w.heap.size w w':=by
 obtain⟨lo,hi,op⟩:=s;have hb:Hid (Below w.heap.size w (w.alloc (.cells #[.string lo,.string hi,.bool op] SPT))):=(zbr _ _).alloc (zlr _) _;unfold Sp.v hasS;dsimp only;have h1:Op.bytesLess k.toList lo.toList=blt k lo:=rfl;have h2:Op.bytesLess k.toList hi.toList=blt k hi:=rfl;generalize blt k lo=D1 at*;generalize blt k hi=D2 at*
 cases D1<;>cases op<;>
 ·go_enter Tryz.func132,Tryz.ntmps132
  go_wp2;go_ret;exact⟨rfl,hb.out⟩
end Go.Proofs.YtdnfhjfbanhhcaaGreatDoor
namespace Go.Proofs.YtdnfhjfbanhhcaaGreatDoor
open Go.RowKit
theorem q1c (n:Nat)(w:World)(hn:n<18446744073709551616):Calls Tryz.prog 74 #[.int .u64 n] w fun e w'=>e=.returned (.int .i64 (pop n))∧w=w':=by
 have he:=zh (q03 n hn)
 go_enter Tryz.func74,Tryz.ntmps74
 go_wp2;go_ret;exact⟨by rw[←he.out];rfl,rfl⟩
theorem x6x (n:Nat)(w:World)(hn:n<18446744073709551616):Calls Tryz.prog 44 #[.int .u64 n] w fun e w'=>e=.returned (.int .i64 (pop n))∧w=w':=by
 go_enter Tryz.func44,Tryz.ntmps44
 go_wp2_with (go_at_call 74;refine(q1c _ _ hn).mono ?_;rintro e w' ⟨rfl,rfl⟩)
 go_ret;exact⟨rfl,rfl⟩
theorem x12 (x a:Nat)(hx:x<18446744073709551616)(hx0:x≠0)(hlow:x&&&(18446744073709551616-x)=a):
  IntKind.u64.wrap (bits BinOp.and IntKind.u64 (x:Int) (IntKind.u64.wrap (-(x:Int)))*285870213051353865)/288230376151711744=((a*285870213051353865%18446744073709551616/288230376151711744:Nat):Int):=by
 have e1:IntKind.u64.wrap (-(x:Int))=((18446744073709551616-x:Nat):Int):=by rw[IntKind.wrap_u64];omega
 rw[e1,bits_and_u64_nat x _ hx (by omega),hlow,IntKind.wrap_u64];omega
def z56 (w:World):Prop:=∀j,j<Lib.deBruijn64tab.length→w.cell? ⟨1,j,none⟩=some (.int .u8 (Lib.deBruijn64tab.getD j 0))
theorem y92 (x k idx:Nat)(w:World)(hx0:((x:Int)==0)=false)
  (key:IntKind.u64.wrap (bits BinOp.and IntKind.u64 (x:Int) (IntKind.u64.wrap (-(x:Int)))*285870213051353865)/288230376151711744=(idx:Int))
  (hi:idx<64) (hk:k<64) (hcell:w.cell? ⟨1,idx,none⟩=some (.int .u8 k)):
  Calls Tryz.prog 112 #[.int .u64 x] w fun e w'=>e=.returned (.int .i64 k)∧w=w':=by
 go_enter Tryz.func112,Tryz.ntmps112
 go_wp2_with (simp only[key])
 go_ret;exact⟨rfl,rfl⟩
theorem libTz (x:Nat)(w:World)(hx0:0<x)(hx:x<18446744073709551616)(hT:z56 w):
  Calls Tryz.prog 112 #[.int .u64 x] w fun e w'=>e=.returned (.int .i64 (Lib.ctzFrom 64 x))∧w=w':=by
 obtain⟨hlow,hk⟩:=Lib.lowest_bit 64 x (by omega) hx;obtain⟨hi,htab⟩:=Lib.deBruijn64_at _ hk;have hcell:=hT _ hi;rw[htab] at hcell;have e:Lib.ctz 64 x=Lib.ctzFrom 64 x:=by unfold Lib.ctz;rw[if_neg (by omega)]
 rw[←e];exact y92 x _ _ w (by simp;omega) (x12 x _ hx (by omega) hlow) hi hk hcell
theorem y93 (x:Nat)(w:World)(hx0:0<x)(hx:x<18446744073709551616)(hT:z56 w):
  Calls Tryz.prog 78 #[.int .u64 x] w fun e w'=>e=.returned (.int .i64 (Lib.ctzFrom 64 x))∧w=w':=by
 have h0:((x:Int)==0)=false:=by simp;omega
 go_enter Tryz.func78,Tryz.ntmps78
 go_wp2_with (go_at_call 112;refine(libTz _ _ hx0 hx hT).mono ?_;rintro e w' ⟨rfl,rfl⟩)
 go_ret;exact⟨rfl,rfl⟩
end Go.Proofs.YtdnfhjfbanhhcaaGreatDoor
