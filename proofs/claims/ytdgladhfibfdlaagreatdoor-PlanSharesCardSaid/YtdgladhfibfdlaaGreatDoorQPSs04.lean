/-
  Steps.
-/
import Derived.Laws.Bits64b
import Derived.Laws.BitsAllLaws
import Derived.Lib.TrailingZeros
import Derived.Lib.BitFns
import Derived.RowKit
import Derived.IntWalk
import Derived.Test.YtdgladhfibfdlaaGreatDoorProg
import Derived.Test.YtdgladhfibfdlaaGreatDoorQPSs01
import Derived.Laws.Cover1
import Derived.Lib.Hide
namespace Go.Proofs.YtdgladhfibfdlaaGreatDoor
open Go.RowKit Tryz
def Pz:Nat→Nat→Nat
 | 0,_=>0
 | f+1,v=>v%2+Pz f (v/2)
def pop (v:Nat):Nat:=Pz 64 v
theorem y3r (k:Nat):0<2^k:=Nat.pow_pos (by decide)
theorem z3y (k:Nat)(h:k≤63):2^k≤9223372036854775808:=by
 have:=Nat.pow_le_pow_right (n:=2) (by decide) h;omega
theorem z3z (k:Nat)(h:k<64):IntKind.u64.wrap ((2:Int)^k)=((2^k:Nat):Int):=by
 have:=z3y k (by omega);have e:(2:Int)^k=((2^k:Nat):Int):=by simp
 rw[e,IntKind.wrap_u64];generalize 2^k=P at*;omega
theorem z8i (k:Nat)(h:k<64):IntKind.u64.wrap (IntKind.u64.wrap ((2:Int)^k)-1)=((2^k-1:Nat):Int):=by
 have:=z3y k (by omega);have:=y3r k;rw[z3z k h,IntKind.wrap_u64];generalize 2^k=P at*;omega
def M5:Nat→Nat|0=>0|f+1=>85+256*M5 f
def M3:Nat→Nat|0=>0|f+1=>51+256*M3 f
def MF:Nat→Nat|0=>0|f+1=>15+256*MF f
def F1 (f n:Nat):Nat:=(n/2&&&M5 f)+(n&&&M5 f)
def F2 (f x:Nat):Nat:=(x/4&&&M3 f)+(x&&&M3 f)
def F3 (f x:Nat):Nat:=(x/16+x)&&&MF f
def g1 (b:Nat):Nat:=(b/2&&&85)+(b&&&85)
def g2 (b:Nat):Nat:=(b/4&&&51)+(b&&&51)
def g3 (b:Nat):Nat:=(b/16+b)&&&15
def Bv:Nat→Nat→Nat|0,_=>0|f+1,n=>Pz 8 (n%256)+256*Bv f (n/256)
theorem M0 (a c x m:Nat)(ha:a<256)(hc:c<256):(a+256*x)&&&(c+256*m)=(a&&&c)+256*(x&&&m):=by
 have h1:((a+256*x)&&&(c+256*m))%2^8=a&&&c:=by
  rw[Nat.and_mod_two_pow];congr 1<;>omega
 have h2:((a+256*x)&&&(c+256*m))/2^8=x&&&m:=by
  rw[Nat.and_div_two_pow];congr 1<;>omega
 have h3:a&&&c<2^8:=Nat.and_lt_two_pow _ (by omega);omega
theorem d1:∀b:Fin 256,∀c:Fin 2,(b.val/2+128*c.val)&&&85=b.val/2&&&85:=by decide+kernel
theorem d2:∀b:Fin 256,∀c:Fin 4,(b.val/4+64*c.val)&&&51=b.val/4&&&51:=by decide+kernel
theorem d3:∀b:Fin 256,g3 (g2 (g1 b.val))=Pz 8 b.val∧g1 b.val<256∧g2 (g1 b.val)<256∧g2 (g1 b.val)%16≤4∧g2 (g1 b.val)/16≤4∧Pz 8 b.val≤8:=by decide+kernel
theorem d3' (b:Nat)(h:b<256):g3 (g2 (g1 b))=Pz 8 b∧g1 b<256∧g2 (g1 b)<256∧g2 (g1 b)%16≤4∧g2 (g1 b)/16≤4∧Pz 8 b≤8:=d3 ⟨b,h⟩
theorem z8j (f n:Nat):F1 (f+1) n=g1 (n%256)+256*F1 f (n/256):=by
 have e1:n/2=(n%256/2+128*(n/256%2))+256*(n/256/2):=by omega
 have e2:n=n%256+256*(n/256):=by omega
 have k1:(n/2)&&&M5 (f+1)=(n%256/2&&&85)+256*(n/256/2&&&M5 f):=by
  rw[e1,M5,M0 _ _ _ _ (by omega) (by omega),d1 ⟨n%256,by omega⟩ ⟨n/256%2,by omega⟩]
 have k2:n&&&M5 (f+1)=(n%256&&&85)+256*(n/256&&&M5 f):=by
  conv=>lhs;rw[e2]
  rw[M5,M0 _ _ _ _ (by omega) (by omega)]
 unfold F1 g1;rw[k1,k2];omega
theorem z8k (f c x:Nat)(hc:c<256):F2 (f+1) (c+256*x)=g2 c+256*F2 f x:=by
 have e1:(c+256*x)/4=(c/4+64*(x%4))+256*(x/4):=by omega
 unfold F2 g2;rw[e1,M3,M0 _ _ _ _ (by omega) (by omega),M0 _ _ _ _ (by omega) (by omega),d2 ⟨c,hc⟩ ⟨x%4,by omega⟩];show(c/4&&&51)+_+_=_;omega
theorem y7y (f c x:Nat)(h1:c%16≤4)(h2:c/16≤4)(h3:x%16≤4):F3 (f+1) (c+256*x)=g3 c+256*F3 f x:=by
 have e1:(c+256*x)/16+(c+256*x)=(c/16+16*(x%16)+c)+256*(x/16+x):=by omega
 unfold F3 g3;rw[e1,MF,M0 _ _ _ _ (by omega) (by omega)];have e2:c/16+16*(x%16)+c&&&15=(c/16+c)&&&15:=by
  rw[nat_mask4,nat_mask4];omega
 rw[e2]
theorem x21 (f n:Nat):F2 f (F1 f n)%16≤4:=by
 cases f with
 | zero=>simp[F2,M3]
 | succ f=>
  obtain⟨_,a,b,c,_⟩:=d3' (n%256) (by omega);rw[z8j,z8k _ _ _ a];omega
theorem x0y:∀f n,F3 f (F2 f (F1 f n))=Bv f n
 | 0,n=>by simp[F3,MF,Bv]
 | f+1,n=>by
  obtain⟨e,a,b,c,d,_⟩:=d3' (n%256) (by omega);rw[z8j,z8k _ _ _ a,y7y _ _ _ c d (x21 f _),x0y f (n/256),Bv];rw[e]
theorem QM (k:Nat):∀j n,Pz (k+j) n=Pz j (n%2^j)+Pz k (n/2^j)
 | 0,n=>by simp[Pz]
 | j+1,n=>by
  have e1:n%2^(j+1)%2=n%2:=by rw[Nat.pow_succ',Nat.mod_mul_right_mod]
  have e2:n%2^(j+1)/2=n/2%2^j:=by rw[Nat.pow_succ',Nat.mod_mul_right_div_self]
  have e3:n/2^(j+1)=n/2/2^j:=by rw[Nat.pow_succ',Nat.div_div_eq_div_mul]
  show n%2+Pz (k+j) (n/2)=n%2^(j+1)%2+Pz j (n%2^(j+1)/2)+Pz k (n/2^(j+1));rw[e1,e2,e3,QM k j (n/2),Nat.add_assoc]
theorem P4 (n k:Nat):Pz (k+8) n=Pz 8 (n%256)+Pz k (n/256):=QM k 8 n
theorem z8l (n:Nat):pop n=Pz 8 (n%256)+(Pz 8 (n/256%256)+(Pz 8 (n/256/256%256)+(Pz 8 (n/256/256/256%256)+(Pz 8 (n/256/256/256/256%256)
  +(Pz 8 (n/256/256/256/256/256%256)+(Pz 8 (n/256/256/256/256/256/256%256)+Pz 8 (n/256/256/256/256/256/256/256%256))))))):=by
 exact(P4 n 56).trans (congrArg (Pz 8 (n%256)+ ·) ((P4 _ 48).trans (congrArg (Pz 8 (n/256%256)+ ·) ((P4 _ 40).trans (congrArg (Pz 8 (n/256/256%256)+ ·) ((P4 _ 32).trans
  (congrArg (Pz 8 (n/256/256/256%256)+ ·) ((P4 _ 24).trans (congrArg (Pz 8 (n/256/256/256/256%256)+ ·) ((P4 _ 16).trans (congrArg (Pz 8 (n/256/256/256/256/256%256)+ ·)
  ((P4 _ 8).trans (congrArg (Pz 8 (n/256/256/256/256/256/256%256)+ ·) ((P4 _ 0).trans (Nat.add_zero _)))))))))))))))
theorem P6 (n:Nat):Pz 8 (n%256)≤8:=(d3' (n%256) (by omega)).2.2.2.2.2
theorem x22 (d0 d1 d2 R3:Nat)(h0:d0≤8)(h1:d1≤8)(h2:d2≤8)(R2 R1 x:Nat)(e2:R2=d2+256*R3)(e1:R1=d1+256*R2)(e0:x=d0+256*R1):
  x/256=R1∧(x+R1)/65536=R2+R3:=by omega
theorem x23 (d0 d1 d2 d3 d4 d5 d6 R7:Nat)(h0:d0≤8)(h1:d1≤8)(h2:d2≤8)(h3:d3≤8)(h4:d4≤8)(h5:d5≤8)(h6:d6≤8):
  (d0+d1+d2+d3+256*(d1+d2+d3+d4)+65536*(d2+d3+d4+d5)+16777216*(d3+d4+d5+d6)+4294967296*R7)/4294967296=R7:=by omega
theorem z8m (d0 d1 d2 d3 d4 d5 d6 d7 x:Nat)(h0:d0≤8)(h1:d1≤8)(h2:d2≤8)(h3:d3≤8)(h4:d4≤8)(h5:d5≤8)(h6:d6≤8)(h7:d7≤8)
  (hx:x=d0+256*(d1+256*(d2+256*(d3+256*(d4+256*(d5+256*(d6+256*d7))))))):
  ∃a b c,a=x+x/256∧b=a+a/65536∧c=b+b/4294967296∧
  c%128=d0+(d1+(d2+(d3+(d4+(d5+(d6+d7))))))∧a<1152921504606846976∧b<1152921504606846976∧c<1152921504606846976:=by
 obtain⟨R7,e7⟩:∃R,R=d7:=⟨_,rfl⟩
 obtain⟨R6,e6⟩:∃R,R=d6+256*R7:=⟨_,rfl⟩
 obtain⟨R5,e5⟩:∃R,R=d5+256*R6:=⟨_,rfl⟩
 obtain⟨R4,e4⟩:∃R,R=d4+256*R5:=⟨_,rfl⟩
 obtain⟨R3,e3⟩:∃R,R=d3+256*R4:=⟨_,rfl⟩
 obtain⟨R2,e2⟩:∃R,R=d2+256*R3:=⟨_,rfl⟩
 obtain⟨R1,e1⟩:∃R,R=d1+256*R2:=⟨_,rfl⟩
 have e0:x=d0+256*R1:=by rw[hx,e1,e2,e3,e4,e5,e6,e7]
 clear hx;have sa:=x22 d0 d1 d2 R3 h0 h1 h2 R2 R1 x e2 e1 e0;have eb:x+R1+(R2+R3)=d0+d1+d2+d3+256*(d1+d2+d3+d4)+65536*(d2+d3+d4+d5)+16777216*(d3+d4+d5+d6)+4294967296*(R4+R5+(R6+R7)):=by omega
 have sb:(x+R1+(R2+R3))/4294967296=R4+R5+(R6+R7):=by
  rw[eb];exact x23 d0 d1 d2 d3 d4 d5 d6 _ h0 h1 h2 h3 h4 h5 h6
 refine⟨x+R1,x+R1+(R2+R3),x+R1+(R2+R3)+(R4+R5+(R6+R7)),by rw[sa.1],by rw[sa.2],by rw[sb],?_,?_,?_,?_⟩
 ·rw[eb,e4,e5,e6,e7];clear sa sb eb e0 e1 e2 e3 e4 e5 e6;omega
 all_goals (clear sa sb eb;omega)
theorem ZB (a b:Nat)(ha:a<9223372036854775808)(hb:b<9223372036854775808):bits .and .i64 (a:Int) (b:Int)=((a&&&b:Nat):Int):=by
 have hx:a&&&b<2^63:=Nat.and_lt_two_pow _ (by omega);have h1:(BitVec.ofInt 64 (a:Int)).toNat=a:=by
  rw[BitVec.ofInt_natCast,BitVec.toNat_ofNat];exact Nat.mod_eq_of_lt (by omega)
 have h2:(BitVec.ofInt 64 (b:Int)).toNat=b:=by
  rw[BitVec.ofInt_natCast,BitVec.toNat_ofNat];exact Nat.mod_eq_of_lt (by omega)
 show IntKind.i64.wrap ((BitVec.ofInt 64 (a:Int)&&&BitVec.ofInt 64 (b:Int)).toNat:Int)=_;rw[BitVec.toNat_and,h1,h2,IntWalk.i64_left];unfold wrap64;omega
def w1 (n:Int):Int:=IntKind.u64.wrap (bits .and .u64 (n/2) 6148914691236517205+bits .and .u64 n 6148914691236517205)
def w2 (n:Int):Int:=IntKind.u64.wrap (bits .and .u64 (n/4) 3689348814741910323+bits .and .u64 n 3689348814741910323)
def w3 (n:Int):Int:=bits .and .u64 (IntKind.u64.wrap (n/16+n)) 1085102592571150095
def w4 (n:Int):Int:=IntKind.u64.wrap (n+n/256)
def w5 (n:Int):Int:=IntKind.u64.wrap (n+n/65536)
def w6 (n:Int):Int:=IntKind.u64.wrap (n+n/4294967296)
theorem x3u:M5 8=6148914691236517205:=by decide+kernel
theorem x3v:M3 8=3689348814741910323:=by decide+kernel
theorem x3w:MF 8=1085102592571150095:=by decide+kernel
theorem x24 (n:Nat)(hn:n<18446744073709551616):w1 n=((F1 8 n:Nat):Int)∧F1 8 n≤12297829382473034410:=by
 have e:((n:Int)/2)=((n/2:Nat):Int):=by omega
 have h1:n/2&&&6148914691236517205≤6148914691236517205:=Nat.and_le_right;have h2:n&&&6148914691236517205≤6148914691236517205:=Nat.and_le_right;have k1:=bits_and_u64_nat (n/2) 6148914691236517205 (by omega) (by omega);have k2:=bits_and_u64_nat n 6148914691236517205 (by omega) (by omega);unfold w1 F1;rw[x3u,e,IntKind.wrap_u64];have k1':bits .and .u64 ((n/2:Nat):Int) 6148914691236517205=((n/2&&&6148914691236517205:Nat):Int):=k1;have k2':bits .and .u64 (n:Int) 6148914691236517205=((n&&&6148914691236517205:Nat):Int):=k2;rw[k1',k2'];omega
theorem x25 (n:Nat)(hn:n<18446744073709551616):w2 n=((F2 8 n:Nat):Int)∧F2 8 n≤7378697629483820646:=by
 have e:((n:Int)/4)=((n/4:Nat):Int):=by omega
 have h1:n/4&&&3689348814741910323≤3689348814741910323:=Nat.and_le_right;have h2:n&&&3689348814741910323≤3689348814741910323:=Nat.and_le_right;have k1':bits .and .u64 ((n/4:Nat):Int) 3689348814741910323=((n/4&&&3689348814741910323:Nat):Int):=bits_and_u64_nat (n/4) 3689348814741910323 (by omega) (by omega);have k2':bits .and .u64 (n:Int) 3689348814741910323=((n&&&3689348814741910323:Nat):Int):=bits_and_u64_nat n 3689348814741910323 (by omega) (by omega);unfold w2 F2;rw[x3v,e,IntKind.wrap_u64,k1',k2'];omega
theorem x26 (n:Nat)(hn:n≤7378697629483820646):w3 n=((F3 8 n:Nat):Int):=by
 have e:IntKind.u64.wrap ((n:Int)/16+(n:Int))=((n/16+n:Nat):Int):=by rw[IntKind.wrap_u64];omega
 unfold w3 F3;rw[x3w,e];exact bits_and_u64_nat (n/16+n) 1085102592571150095 (by omega) (by omega)
theorem wr (n m:Nat)(h:n=m)(l:m<1152921504606846976):IntKind.u64.wrap (n:Int)=(m:Int):=by subst h;exact IntWalk.u64_in _ (by omega)
theorem x27 (x a:Nat)(h:a=x+x/256)(l:a<1152921504606846976):w4 (x:Int)=(a:Int):=wr (x+x/256) a h.symm l
theorem x28 (x a:Nat)(h:a=x+x/65536)(l:a<1152921504606846976):w5 (x:Int)=(a:Int):=wr (x+x/65536) a h.symm l
theorem x29 (x a:Nat)(h:a=x+x/4294967296)(l:a<1152921504606846976):w6 (x:Int)=(a:Int):=wr (x+x/4294967296) a h.symm l
theorem y7z (n:Nat)(hn:n<18446744073709551616):bits .and .i64 (wrap64 (w6 (w5 (w4 (w3 (w2 (w1 n))))))) 127=((pop n:Nat):Int):=by
 obtain⟨e1,l1⟩:=x24 n hn;obtain⟨e2,l2⟩:=x25 (F1 8 n) (by omega);rw[e1,e2,x26 _ l2,x0y,z8l];have hb:Bv 8 n=Pz 8 (n%256)+256*(Pz 8 (n/256%256)+256*(Pz 8 (n/256/256%256)+256*(Pz 8 (n/256/256/256%256)+256*(Pz 8 (n/256/256/256/256%256)
  +256*(Pz 8 (n/256/256/256/256/256%256)+256*(Pz 8 (n/256/256/256/256/256/256%256)+256*Pz 8 (n/256/256/256/256/256/256/256%256))))))):=by
  simp only[Bv,Nat.mul_zero,Nat.add_zero]
 obtain⟨a,b,c,ha,hb',hc,hs,la,lb,lc⟩:=z8m _ _ _ _ _ _ _ _ (Bv 8 n) (P6 n) (P6 _) (P6 _) (P6 _) (P6 _) (P6 _) (P6 _) (P6 _) hb;rw[←hs];clear hs hb e1 e2 l1 l2 hn;generalize Bv 8 n=x at*;have f7:wrap64 (c:Int)=(c:Int):=IntWalk.wrap64_in _ (by omega);rw[x27 x a ha la,x28 a b hb' lb,x29 b c hc lc,f7];have:=ZB c 127 (by omega) (by omega);rw[nat_mask7] at this;exact this
theorem QN (v:Nat)(h0:0<v)(h:v<18446744073709551616):1≤Lib.bitLen v∧Lib.bitLen v≤64∧v/2^(Lib.bitLen v-1)=1:=by
 have key:∀f v,0<v→v<2^f→1≤Lib.bitLenAux f v∧Lib.bitLenAux f v≤f∧v/2^(Lib.bitLenAux f v-1)=1:=by
  intro f
  induction f with
  | zero=>intro v h0 h;simp at h;omega
  | succ f ih=>
   intro v h0 h;simp only[Lib.bitLenAux];rw[if_neg (by omega)]
   by_cases h1:v/2=0
   ·have e:Lib.bitLenAux f (v/2)=0:=by rw[h1];cases f<;>simp[Lib.bitLenAux]
    rw[e];have:v=1:=by omega
    subst this;exact⟨by omega,by omega,by simp⟩
   ·obtain⟨a,b,c⟩:=ih (v/2) (by omega) (by rw[Nat.pow_succ] at h;omega);refine⟨by omega,by omega,?_⟩;rw[Nat.div_div_eq_div_mul,←Nat.pow_succ'] at c;rw[show 1+Lib.bitLenAux f (v/2)-1=(Lib.bitLenAux f (v/2)-1).succ from by omega];exact c
 exact key 64 v h0 h
theorem x0z (v:Nat):∀f,Pz f v≤f:=by
 intro f
 induction f generalizing v with
 | zero=>simp[Pz]
 | succ f ih=>simp only[Pz];have:=ih (v/2);omega
end Go.Proofs.YtdgladhfibfdlaaGreatDoor
namespace Go.Proofs.YtdgladhfibfdlaaGreatDoor
open Go Go.RowKit Tryz
set_option maxRecDepth 100000
def wf (f:Nat→Bool):Nat→Nat
 | 0=>0
 | k+1=>wf f k|||(if f k=true then 2^k else 0)
theorem y70 (f:Nat→Bool):∀k,wf f k<2^k
 | 0=>by simp[wf]
 | k+1=>by
  have h:=y70 f k;have e:2^(k+1)=2*2^k:=by rw[Nat.pow_succ];omega
  refine Nat.or_lt_two_pow (by omega) ?_;split<;>omega
theorem z8n (f:Nat→Bool):∀k i,(wf f k).testBit i=(decide (i<k)&&f i)
 | 0,i=>by simp[wf]
 | k+1,i=>by
  rw[wf,Nat.testBit_or,z8n f k i]
  by_cases h:i=k
  ·subst h
   cases hf:f i<;>simp
  ·have h2:decide (i<k+1)=decide (i<k):=by rw[Bool.eq_iff_iff,decide_eq_true_iff,decide_eq_true_iff];omega
   rw[h2]
   cases hf:f k
   ·simp
   ·have h3:(2^k).testBit i=false:=by rw[Nat.testBit_two_pow];exact zdf (fun x=>h x.symm)
    simp[h3]
def wd (f:Nat→Bool)(k:Nat):Nat:=wf (fun i=>f (64*k+i)) 64
theorem M1 (f:Nat→Bool)(k:Nat):wd f k<18446744073709551616:=y70 _ 64
theorem M2 (f:Nat→Bool)(k i:Nat)(h:i<64):(wd f k).testBit i=f (64*k+i):=by
 rw[wd,z8n];simp[h]
theorem z8o {v:Nat}(h:v<18446744073709551616){i:Nat}(hi:64≤i):v.testBit i=false:=by
 apply Nat.testBit_lt_two_pow;have:2^64≤2^i:=Nat.pow_le_pow_right (by decide) hi;have e:2^64=18446744073709551616:=by decide
 omega
theorem z1t {f:Nat→Bool}{k v:Nat}(hv:v<18446744073709551616)(h:∀i,i<64→v.testBit i=f (64*k+i)):v=wd f k:=by
 apply Nat.eq_of_testBit_eq;intro i
 by_cases hi:i<64
 ·rw[h i hi,M2 f k i hi]
 ·rw[z8o hv (by omega),z8o (M1 f k) (by omega)]
theorem qD {f g:Nat→Bool}{k:Nat}(h:∀i,i<64→f (64*k+i)=g (64*k+i)):wd f k=wd g k:=
 z1t (M1 f k) (fun i hi=>by rw[M2 f k i hi];exact h i hi)
theorem x3a (f g:Nat→Bool)(k:Nat):wd f k|||wd g k=wd (fun m=>f m||g m) k:=
 z1t (Nat.or_lt_two_pow (n:=64) (M1 f k) (M1 g k)) (fun i hi=>by rw[Nat.testBit_or,M2 f k i hi,M2 g k i hi])
theorem z8p {v:Nat}(hv:v<18446744073709551616)(i:Nat)(hi:i<64):(18446744073709551615-v).testBit i= !v.testBit i:=by
 have e:18446744073709551615-v=2^64-(v+1):=by omega
 rw[e,Nat.testBit_two_pow_sub_succ (n:=64) hv];simp[hi]
theorem y71 (f g:Nat→Bool)(k:Nat):wd f k&&&(18446744073709551615-wd g k)=wd (fun m=>f m&& !g m) k:=
 z1t (Nat.lt_of_le_of_lt Nat.and_le_left (M1 f k)) (fun i hi=>by rw[Nat.testBit_and,M2 f k i hi,z8p (M1 g k) i hi,M2 g k i hi])
theorem x00 (n k:Nat):2^(min (n-64*k) 64)-1=wd (fun m=>decide (m<n)) k:=by
 have h:2^(min (n-64*k) 64)≤2^64:=Nat.pow_le_pow_right (by decide) (Nat.min_le_right _ _);have hp:0<2^(min (n-64*k) 64):=Nat.pow_pos (by decide);refine z1t (by
  have:(2:Nat)^64=18446744073709551616:=by decide
  omega) (fun i hi=> ?_)
 rw[Nat.testBit_two_pow_sub_one,Bool.eq_iff_iff,decide_eq_true_iff,decide_eq_true_iff];omega
def sc (f:Nat→Bool):Array Value:=((List.range 16).map (fun k=>Value.int .u64 (wd f k:Nat))).toArray
theorem Oy (f:Nat→Bool):(sc f).size=16:=by simp[sc]
theorem qE (f:Nat→Bool)(k:Nat)(h:k<16):(sc f)[k]? =some (.int .u64 (wd f k:Nat)):=by
 simp[sc,h]
theorem ZV {f g:Nat→Bool}(h:∀m,m<1024→f m=g m):sc f=sc g:=by
 unfold sc
 congr 1
 apply List.map_congr_left;intro k hk;rw[qD (fun i hi=>h _ (by have:=List.mem_range.1 hk;omega))]
theorem x01 (f:Nat→Bool)(k v:Nat)(hk:k<16)(hv:v<18446744073709551616):
  (sc f).setIfInBounds k (.int .u64 (v:Nat))=sc (fun m=>if m/64=k then v.testBit (m%64) else f m):=by
 apply Array.ext_getElem?;intro i;rw[Array.getElem?_setIfInBounds]
 by_cases h:i<16
 ·rw[qE _ i h,qE _ i h,Oy]
  by_cases e:k=i
  ·subst e;rw[if_pos rfl,if_pos hk];have:v=wd (fun m=>if m/64=k then v.testBit (m%64) else f m) k:=z1t hv (fun i hi=>by
    show v.testBit i=(if (64*k+i)/64=k then v.testBit ((64*k+i)%64) else f (64*k+i))
    rw[if_pos (by omega),show(64*k+i)%64=i by omega])
   rw[←this]
  ·rw[if_neg e]
   congr 3
   exact qD (fun j hj=>by
    show f (64*i+j)=(if (64*i+j)/64=k then v.testBit ((64*i+j)%64) else f (64*i+j))
    rw[if_neg (by omega)])
 ·rw[Array.getElem?_eq_none (by rw[Oy];omega),Array.getElem?_eq_none (by rw[Oy];omega)];rw[Oy,if_neg (by omega)]
theorem z30 (f g:Nat→Bool)(k v:Nat)(hk:k<16)(hv:v=wd g k)(ho:∀m,m<1024→m/64≠k→f m=g m):
  (sc f).setIfInBounds k (.int .u64 (v:Nat))=sc g:=by
 rw[x01 f k v hk (by rw[hv];exact M1 g k)];refine ZV (fun m hm=> ?_)
 by_cases e:m/64=k
 ·rw[if_pos e,hv,M2 g k _ (by omega),←e,show 64*(m/64)+m%64=m by omega]
 ·rw[if_neg e];exact ho m hm e
def cnt (f:Nat→Bool):Nat→Nat
 | 0=>0
 | k+1=>cnt f k+(f k).toNat
theorem z31 (f:Nat→Bool):∀k,cnt f k≤k
 | 0=>zlr _
 | k+1=>by
  have:=z31 f k;have:(f k).toNat≤1:=Bool.toNat_le _;rw[cnt];omega
theorem F9 {f g:Nat→Bool}:∀{k:Nat},(∀m,m<k→f m=g m)→cnt f k=cnt g k
 | 0,_=>rfl
 | k+1,h=>by rw[cnt,cnt,F9 (fun m hm=>h m (by omega)),h k (by omega)]
theorem KH (f:Nat→Bool)(a:Nat):∀b,cnt f (a+b)=cnt f a+cnt (fun i=>f (a+i)) b
 | 0=>rfl
 | b+1=>by rw[←Nat.add_assoc,cnt,cnt,KH f a b];omega
theorem z8q (f:Nat→Bool)(k:Nat):cnt f (k+1)=(f 0).toNat+cnt (fun i=>f (i+1)) k:=by
 rw[Nat.add_comm k 1,KH f 1 k];have:cnt f 1=(f 0).toNat:=by rw[cnt,cnt];omega
 rw[this]
 congr 1
 exact F9 (fun m _=>by rw[Nat.add_comm])
theorem y3s (f:Nat→Bool){a b:Nat}(h:a≤b):cnt f a≤cnt f b:=by
 obtain⟨c,rfl⟩:∃c,b=a+c:=⟨b-a,by omega⟩
 rw[KH];omega
theorem y61 {f:Nat→Bool}{a b:Nat}(hf:f a=true)(h:a<b):cnt f a<cnt f b:=by
 have:=y3s f (show a+1≤b from h);rw[cnt,hf] at this;simp at this;omega
theorem z32:∀k v,Pz k v=cnt (fun i=>v.testBit i) k
 | 0,_=>rfl
 | k+1,v=>by
  rw[Pz,z32 k,z8q]
  congr 1
  ·rw[Nat.testBit_zero]
   rcases Nat.mod_two_eq_zero_or_one v with h|h<;>simp[h]
  ·exact F9 (fun m _=>by rw[Nat.testBit_succ])
theorem x02 (f:Nat→Bool)(k:Nat):cnt f (64*k)+pop (wd f k)=cnt f (64*(k+1)):=by
 rw[show 64*(k+1)=64*k+64 by omega,KH,pop,z32]
 congr 1
 exact F9 (fun m hm=>M2 f k m hm)
theorem y3t (v:Nat):pop v≤64:=x0z v 64
theorem z33 (f g:Nat→Bool):∀k,cnt (fun m=>f m&&g m) k+cnt (fun m=>f m&& !g m) k=cnt f k
 | 0=>rfl
 | k+1=>by
  have:=z33 f g k;simp only[cnt];have e:(f k&&g k).toNat+(f k&& !g k).toNat=(f k).toNat:=by cases f k<;>cases g k<;>rfl
  omega
theorem ZW (n:Nat):∀k,cnt (fun m=>decide (m<n)) k=min n k
 | 0=>by rw[cnt];omega
 | k+1=>by
  rw[cnt,ZW n k]
  by_cases h:k<n
  ·rw[zdt h];simp;omega
  ·rw[zdf h];simp;omega
def els (f:Nat→Bool):Nat→List Nat
 | 0=> []
 | k+1=>els f k++(if f k=true then [k] else [])
theorem Eq (f:Nat→Bool):∀k,(els f k).length=cnt f k
 | 0=>rfl
 | k+1=>by rw[els,cnt,zla,Eq f k];cases f k<;>rfl
theorem KI (f:Nat→Bool)(a:Nat):∀b,(∀i,i<b→f (a+i)=false)→els f (a+b)=els f a
 | 0,_=>rfl
 | b+1,h=>by
  rw[←Nat.add_assoc,els,KI f a b (fun i hi=>h i (by omega)),h b (by omega)];simp
theorem y72 (f:Nat→Bool)(a b:Nat)(h:∀i,i<b→f (a+i)=false)(hf:f (a+b)=true):els f (a+b+1)=els f a++[a+b]:=by
 rw[els,KI f a b h,hf];simp
def el (f:Nat→Bool)(i:Nat):Nat:=(els f 1024).getD i 0
theorem y62 (f:Nat→Bool):∀k i,i<cnt f k→∃x,(els f k)[i]? =some x∧f x=true∧cnt f x=i∧x<k
 | 0,i,h=>by rw[cnt] at h;omega
 | k+1,i,h=>by
  rw[cnt] at h
  by_cases hi:i<cnt f k
  ·obtain⟨x,h1,h2,h3,h4⟩:=y62 f k i hi;refine⟨x,?_,h2,h3,by omega⟩;rw[els,List.getElem?_append_left (by rw[Eq];exact hi)];exact h1
  ·cases hf:f k with
   | false=>rw[hf] at h;simp at h;omega
   | true=>
    rw[hf] at h;have:i=cnt f k:=by simp at h;omega
    refine⟨k,?_,hf,this.symm,by omega⟩;rw[els,hf,if_pos rfl,List.getElem?_append_right (by rw[Eq];omega),Eq,this];simp
theorem z8r (f:Nat→Bool)(i:Nat)(h:i<cnt f 1024):(els f 1024)[i]? =some (el f i)∧f (el f i)=true∧cnt f (el f i)=i∧el f i<1024:=by
 obtain⟨x,h1,h2,h3,h4⟩:=y62 f 1024 i h;have e:el f i=x:=by rw[el,List.getD_eq_getElem?_getD,h1];rfl
 rw[e];exact⟨h1,h2,h3,h4⟩
theorem y73 {f:Nat→Bool}{i m:Nat}(h:i<cnt f 1024)(hf:f m=true)(hc:cnt f m=i):m=el f i:=by
 obtain⟨_,h2,h3,_⟩:=z8r f i h
 rcases Nat.lt_trichotomy m (el f i) with h4|h4|h4
 ·have:=y61 hf h4;omega
 ·exact h4
 ·have:=y61 h2 h4;omega
theorem y74 (v:Nat)(h0:0<v)(hv:v<18446744073709551616):
  Lib.ctzFrom 64 v<64∧v.testBit (Lib.ctzFrom 64 v)=true∧(∀u,u<Lib.ctzFrom 64 v→v.testBit u=false)∧(∀u,(v&&&(v-1)).testBit u=(v.testBit u&& !decide (u=Lib.ctzFrom 64 v))):=by
 obtain⟨m,hm,hk⟩:=Lib.ctzFrom_spec 64 v h0 hv;generalize Lib.ctzFrom 64 v=t at*;have hb:∀u,v.testBit u=(decide (t≤u)&&(2*m+1).testBit (u-t)):=fun u=>by rw[hm,Nat.testBit_two_pow_mul]
 have h1:v-1=2^t*(2*m)+(2^t-1):=by
  have hp:0<2^t:=Nat.pow_pos (by decide);rw[hm,Nat.mul_add,Nat.mul_one];omega
 have hc:∀u,(v-1).testBit u=if u<t then true else (2*m).testBit (u-t):=fun u=>by
  have hp:0<2^t:=Nat.pow_pos (by decide);rw[h1,Nat.testBit_two_pow_mul_add _ (by omega),Nat.testBit_two_pow_sub_one]
  by_cases h:u<t
  ·rw[if_pos h,if_pos h,zdt h]
  ·rw[if_neg h,if_neg h]
 refine⟨hk,?_,fun u hu=> ?_,fun u=> ?_⟩
 ·rw[hb];simp
 ·rw[hb,zdf (by omega)];rfl
 ·rw[Nat.testBit_and,hc,hb]
  by_cases h:u<t
  ·rw[zdf (by omega)];simp
  ·rw[if_neg h,zdt (show t≤u by omega)]
   by_cases e:u=t
   ·subst e;simp
   ·obtain⟨j,rfl⟩:∃j,u=t+(j+1):=⟨u-t-1,by omega⟩
    rw[show t+(j+1)-t=j+1 by omega,Nat.testBit_succ,Nat.testBit_succ,show(2*m)/2=m by omega,show(2*m+1)/2=m by omega,zdf e];simp
def wh (f:Nat→Bool)(k j:Nat):Nat:=wf (fun t=>decide (j≤t)&&f (64*k+t)) 64
theorem x03 (f:Nat→Bool)(k j:Nat):wh f k j<18446744073709551616:=y70 _ 64
theorem QO (f:Nat→Bool)(k j i:Nat):(wh f k j).testBit i=(decide (i<64)&&(decide (j≤i)&&f (64*k+i))):=by rw[wh,z8n]
theorem y75 (f:Nat→Bool)(k:Nat):wh f k 0=wd f k:=by
 have:(fun t=>decide (0≤t)&&f (64*k+t))=fun t=>f (64*k+t):=by funext t;simp
 rw[wh,wd,this]
theorem y76 {f:Nat→Bool}{k j:Nat}(hj:j≤64)(h:wh f k j=0):els f (64*k+j)=els f (64*(k+1)):=by
 have e:64*(k+1)=(64*k+j)+(64-j):=by omega
 rw[e,KI f (64*k+j) (64-j)];intro i hi;have:=QO f k j (j+i);rw[h,Nat.zero_testBit,zdt (show j+i<64 by omega),zdt (show j≤j+i by omega)] at this;rw[Nat.add_assoc]
 simpa using this.symm
theorem y77 {f:Nat→Bool}{k j:Nat}(h:0<wh f k j):
  ∃t,Lib.ctzFrom 64 (wh f k j)=t∧j≤t∧t<64∧f (64*k+t)=true∧els f (64*k+(t+1))=els f (64*k+j)++[64*k+t]∧wh f k j&&&(wh f k j-1)=wh f k (t+1):=by
 obtain⟨h1,h2,h3,h4⟩:=y74 _ h (x03 f k j);refine⟨_,rfl,?_⟩;generalize Lib.ctzFrom 64 (wh f k j)=t at*;rw[QO] at h2;simp only[Bool.and_eq_true,decide_eq_true_iff] at h2;obtain⟨_,h5,h6⟩:=h2;refine⟨h5,h1,h6,?_,?_⟩
 ·obtain⟨b,rfl⟩:∃b,t=j+b:=⟨t-j,by omega⟩
  rw[show 64*k+(j+b+1)=(64*k+j)+b+1 by omega,y72 f (64*k+j) b ?_ (by rw[Nat.add_assoc];exact h6),Nat.add_assoc];intro i hi;have:=h3 (j+i) (by omega);rw[QO,zdt (show j+i<64 by omega),zdt (show j≤j+i by omega)] at this;rw[Nat.add_assoc]
  simpa using this
 ·apply Nat.eq_of_testBit_eq;intro u;rw[h4 u,QO,QO]
  by_cases e:u=t
  ·subst e;rw[zdf (show¬u+1≤u by omega)];simp
  ·rw[zdf e]
   by_cases h7:t+1≤u
   ·rw[zdt (show j≤u by omega),zdt h7];simp
   ·rw[zdf h7]
    by_cases h8:j≤u
    ·have h9:=h3 u (by omega);rw[QO,zdt h8] at h9;rw[zdt h8]
     simpa using h9
    ·rw[zdf h8];simp
def z1p (h:Bool→Bool→Bool)(f g:Nat→Bool)(k m:Nat):Bool:=if m<64*k then h (f m) (g m) else f m
theorem z34 (h:Bool→Bool→Bool)(f g:Nat→Bool):z1p h f g 0=f:=by
 funext m;unfold z1p;rw[if_neg (by omega)]
theorem z8s (h:Bool→Bool→Bool)(f g:Nat→Bool):sc (z1p h f g 16)=sc (fun m=>h (f m) (g m)):=ZV (fun m hm=>by
 unfold z1p;rw[if_pos (by omega)])
theorem z35 (h:Bool→Bool→Bool)(f g:Nat→Bool)(k:Nat):wd (z1p h f g k) k=wd f k:=qD (fun i hi=>by
 unfold z1p;rw[if_neg (by omega)])
theorem z36 (h:Bool→Bool→Bool)(f g:Nat→Bool)(k v:Nat)(hk:k<16)(hv:v=wd (fun m=>h (f m) (g m)) k):
  (sc (z1p h f g k)).setIfInBounds k (.int .u64 (v:Nat))=sc (z1p h f g (k+1)):=by
 refine z30 _ _ k v hk (hv.trans (qD (fun i hi=> ?_))) (fun m hm hne=> ?_)
 ·unfold z1p;rw[if_pos (by omega)]
 ·unfold z1p
  by_cases e:m<64*k
  ·rw[if_pos e,if_pos (by omega)]
  ·rw[if_neg e,if_neg (by omega)]
abbrev STR:TypeId:=9
def qF (w:World)(b:Nat)(T:TypeId)(s:Sp):Prop:=w.heap[b]? =some (.cells #[.string s.lo,.string s.hi,.bool s.op] T (0,0))
theorem qF.c0 {w:World}{b:Nat}{T:TypeId}{s:Sp}(h:qF w b T s):w.cell? ⟨b,0,none⟩=some (.string s.lo):=by
 have h':w.heap[b]? =_:=h;simp[World.cell?,h']
theorem qF.c1 {w:World}{b:Nat}{T:TypeId}{s:Sp}(h:qF w b T s):w.cell? ⟨b,1,none⟩=some (.string s.hi):=by
 have h':w.heap[b]? =_:=h;simp[World.cell?,h']
theorem qF.c2 {w:World}{b:Nat}{T:TypeId}{s:Sp}(h:qF w b T s):w.cell? ⟨b,2,none⟩=some (.bool s.op):=by
 have h':w.heap[b]? =_:=h;simp[World.cell?,h']
theorem qF.lt {w:World}{b:Nat}{T:TypeId}{s:Sp}(h:qF w b T s):b<w.heap.size:=(zag.1 h).1
theorem qF.new (w:World)(T:TypeId)(s:Sp):qF (w.alloc (.cells #[.string s.lo,.string s.hi,.bool s.op] T)) w.heap.size T s:=by
 show(w.heap.push _)[w.heap.size]? =_;rw[Array.getElem?_push_size]
theorem qF.below {w w':World}{b B:Nat}{T:TypeId}{s:Sp}(h:qF w b T s)(hb:Below B w w')(hB:b<B):qF w' b T s:=(hb.block b hB).trans h
theorem qF.ext {w w':World}{b:Nat}{T:TypeId}{s:Sp}(h:qF w b T s)(hb:zB w w'):qF w' b T s:=h.below hb h.lt
theorem ZX (w:World)(o:Obj){w':World}(hb:Below (w.alloc o).heap.size (w.alloc o) w'):zB w w':=
 ((zbr w.heap.size w).alloc (zlr _) o).trans (hb.mono (by simp))
def Mk (s:ByteArray)(i:Nat):Nat:=((bl s).getD i 0).toNat
theorem K7 (s:ByteArray):(bl s).length=s.size:=by
 show s.data.toList.length=s.data.size;simp
theorem KJ {l:List UInt8}{i:Nat}(h:i<l.length):l.getD i 0=l[i]:=by simp[List.getD,h]
theorem qG (s:ByteArray)(i:Nat)(hi:i<s.size)(w:World):(Instr.index STR (.string s) (.int .i64 (i:Int))).run prog w=.ok (.int .u8 (Mk s i)) w:=by
 rw[run_index_string w STR s .i64 i underlying9,dif_pos ⟨by omega,by omega⟩]
 congr 3
 unfold Mk
 congr 1
 have hi':i<s.data.toList.length:=by simpa using hi
 rw[show(bl s).getD i 0=s.data.toList[i] from KJ hi'];simp[ByteArray.getElem_eq_getElem_data]
theorem qH (s:ByteArray)(i:Nat):Mk s i<256:=UInt8.toNat_lt _
theorem z8t:∀(a b:List UInt8) (i:Nat),i<a.length→i<b.length→a.take i=b.take i→a.getD i 0≠b.getD i 0→(a<b↔a.getD i 0<b.getD i 0)
 | [],_,_,h,_,_,_=>by simp at h
 | _::_,[],_,_,h,_,_=>by simp at h
 | x::a,y::b,0,_,_,_,hne=>by
  simp at hne⊢
  rw[z1r];constructor
  ·rintro(h|h)
   ·exact h
   ·exact absurd h.1 hne
  ·exact .inl
 | x::a,y::b,i+1,h1,h2,ht,hne=>by
  simp at ht;rw[z1r];simp only[List.getD_cons_succ] at hne⊢
  rw[←z8t a b i (by simpa using h1) (by simpa using h2) ht.2 hne];constructor
  ·rintro(h|h)
   ·exact absurd h (by rw[ht.1];grind)
   ·exact h.2
  ·exact fun h=> .inr ⟨ht.1,h⟩
theorem y63:∀(a b:List UInt8) (i:Nat),a.take i=b.take i→(a.length≤i∨b.length≤i)→i≤a.length→i≤b.length→(a<b↔a.length<b.length)
 | [],b,0,_,_,_,_=>by cases b<;>simp
 | x::a,[],0,_,_,_,_=>by simp
 | x::a,y::b,0,_,h,_,_=>by simp at h
 | [],_,i+1,_,_,h,_=>by simp at h
 | _::_,[],i+1,_,_,_,h=>by simp at h
 | x::a,y::b,i+1,ht,h,h1,h2=>by
  simp at ht;rw[z1r,ht.1];have:=y63 a b i ht.2 (by simpa using h) (by simpa using h1) (by simpa using h2);simp only[List.length_cons];rw[show(a.length+1<b.length+1↔a.length<b.length) by omega,←this];constructor
  ·rintro(h|h)
   ·grind
   ·exact h.2
  ·exact fun h=> .inr ⟨by first|trivial|rfl,h⟩
theorem z8u {a b:List UInt8}{i:Nat}(h1:i<a.length)(h2:i<b.length)(ht:a.take i=b.take i)(he:a.getD i 0=b.getD i 0):a.take (i+1)=b.take (i+1):=by
 rw[List.take_succ_eq_append_getElem h1,List.take_succ_eq_append_getElem h2,ht,←KJ h1,←KJ h2,he]
theorem y3u (a b:ByteArray)(i:Nat)(h1:i<a.size)(h2:i<b.size)(ht:(bl a).take i=(bl b).take i)(hne:Mk a i≠Mk b i):blt a b=decide (Mk a i<Mk b i):=by
 rw[xX,Bool.eq_iff_iff,decide_eq_true_iff,decide_eq_true_iff];exact z8t _ _ i (by rw[K7];exact h1) (by rw[K7];exact h2) ht (fun e=>hne (congrArg UInt8.toNat e))
theorem y78 (a b:ByteArray)(i:Nat)(h:a.size≤i∨b.size≤i)(h1:i≤a.size)(h2:i≤b.size)(ht:(bl a).take i=(bl b).take i):blt a b=decide (a.size<b.size):=by
 rw[xX,Bool.eq_iff_iff,decide_eq_true_iff,decide_eq_true_iff,←K7,←K7];exact y63 _ _ i ht (by rw[K7,K7];exact h) (by rw[K7];exact h1) (by rw[K7];exact h2)
theorem KK (a b:ByteArray)(w:World)(ha:a.size≤1000000):Calls prog 113 #[.string a,.string b] w fun e w'=>e=.returned (.bool (blt a b))∧zB w w':=by
 go_enter func113,ntmps113
 go_wp2_with fail
 go_loopw [5] (fun i wr=>∃k:Nat,k≤a.size∧k≤b.size∧i=.int .i64 k∧Hid ((bl a).take k=(bl b).take k)∧Hid (zB w wr)) (fun i _=>a.size-(intOf i).toNat)
 case atStart=>exact⟨0,by omega,by omega,by first|trivial|rfl,by show _=_;simp,zbr _ _⟩
 case round=>
  obtain⟨k,hka,hkb,rfl,ht,hbel⟩:=hrel
  by_cases hc:k<a.size∧k<b.size
  ·obtain⟨hc1,hc2⟩:=hc;have i1:=qG a k hc1;have i2:=qG b k hc2;have x1:=qH a k;have x2:=qH b k
   by_cases he:Mk a k=Mk b k
   ·have Hn:Hid ((bl a).take (k+1)=(bl b).take (k+1)):=by
     show _=_;refine z8u (by rw[K7];exact hc1) (by rw[K7];exact hc2) ht.out ?_;exact UInt8.toNat_inj.1 he
    rw[he] at i1;generalize Mk b k=X at*;go_wp2_with fail;refine rgr [(0,true),(1,true),(2,true),(3,true),(4,true),(5,true),(6,true)] (h:= ?_);iterate 7 (refine grr (v:= ?_) rfl (by rfl) ?_ ?_;rotate_left;(intro w' hw';go_simp;with_reducible rfl);simp only[Act.put,zs0,zs1,zs2])
    refine Yq ?_;go_wp2_with fail
    go_roundw
    case rel=>exact⟨k+1,by omega,by omega,rfl,Hn,hbel.out.drew⟩
    case measure=>simp[intOf];omega
   ·have Hp:=zh (y3u a b k hc1 hc2 ht.out he);obtain⟨X,hX⟩:∃X,Mk a k=X:=⟨_,rfl⟩
    obtain⟨Y,hY⟩:∃Y,Mk b k=Y:=⟨_,rfl⟩
    rw[hX] at i1 x1 he Hp;rw[hY] at i2 x2 he Hp;clear hX hY;have hne:¬((X:Int)=(Y:Int)):=by omega
    go_wp2_with fail;refine rgr [(0,true),(1,true),(2,true),(3,true),(4,true),(5,true),(6,true)] (h:= ?_);iterate 7 (refine grr (v:= ?_) rfl (by rfl) ?_ ?_;rotate_left;(intro w' hw';go_simp;with_reducible rfl);simp only[Act.put,zs0,zs1,zs2])
    refine Yq ?_;go_wp2_with fail;refine rgr [(0,true),(1,true),(2,true),(3,true),(4,true),(5,true),(6,true),(7,true)] (h:= ?_);iterate 8 (refine grr (v:= ?_) rfl (by rfl) ?_ ?_;rotate_left;(intro w' hw';go_simp;with_reducible rfl);simp only[Act.put,zs0,zs1,zs2])
    refine Yq ?_;go_wp2_with fail;go_ret;exact⟨by rw[Hp.out];simp,hbel.out.drew.drew⟩
  ·have Hl:=zh (y78 a b k (by omega) hka hkb ht.out)
   by_cases hc1:k<a.size
   ·have hc2:¬k<b.size:=fun h=>hc ⟨hc1,h⟩
    go_wp2;go_ret;exact⟨by rw[Hl.out];simp,hbel.out⟩
   ·go_wp2;go_ret;exact⟨by rw[Hl.out];simp,hbel.out⟩
abbrev RSP:TypeId:=119
theorem z59 (s:Sp)(k:ByteArray)(w:World)(hk:k.size≤1000000):Calls prog 86 #[s.v,.string k] w fun e w'=>e=.returned (.bool (xR s k))∧zB w w':=by
 obtain⟨lo,hi,op⟩:=s;have hb:Hid (zB w (w.alloc (.cells #[.string lo,.string hi,.bool op] RSP))):=(zbr _ _).alloc (zlr _) _;unfold Sp.v xR;dsimp only;have l1:=fun w=>KK k lo w hk
 have l2:=fun w=>KK k hi w hk
 generalize blt k lo=D1 at*;generalize blt k hi=D2 at*;have L1:=zh l1;have L2:=zh l2;clear l1 l2;have hn:=zh (qF.new w RSP ⟨lo,hi,op⟩)
 cases D1 with
 | true=>
  go_enter func86,ntmps86
  go_wp2_with fail;refine(L1.out _).mono ?_;rintro e w1 ⟨rfl,hb1⟩;have Hb1:=zh (ZX _ _ hb1);clear hb1;go_wp2_with fail;go_ret;exact⟨rfl,Hb1.out⟩
 | false=>
  cases op with
  | true=>
   go_enter func86,ntmps86
   go_wp2_with fail;refine(L1.out _).mono ?_;rintro e w1 ⟨rfl,hb1⟩;have s1:=hn.out.ext hb1;have c0:=s1.c0;have c1:=s1.c1;have c2:=s1.c2;dsimp only at c0 c1 c2;have Hb1:=zh (ZX _ _ hb1);clear hb1 s1;go_wp2_with fail;go_ret;exact⟨rfl,Hb1.out⟩
  | false=>
   go_enter func86,ntmps86
   go_wp2_with fail;refine(L1.out _).mono ?_;rintro e w1 ⟨rfl,hb1⟩;have s1:=hn.out.ext hb1;have c0:=s1.c0;have c1:=s1.c1;have c2:=s1.c2;dsimp only at c0 c1 c2;have Hb1:=zh (ZX _ _ hb1);clear hb1 s1;go_wp2_with fail;refine(L2.out _).mono ?_;rintro e w2 ⟨rfl,hb2⟩;have Hb2:=zh (Hb1.out.trans (hb2.mono Hb1.out.size));clear hb2 Hb1 c0 c1 c2;go_wp2_with fail;go_ret;exact⟨rfl,Hb2.out⟩
end Go.Proofs.YtdgladhfibfdlaaGreatDoor
namespace Go.Proofs.YtdgladhfibfdlaaGreatDoor
open Go.RowKit Tryz
theorem y79 (n:Nat)(w:World)(hn:n<18446744073709551616):Calls prog 77 #[.int .u64 n] w fun e w'=>e=.returned (.int .i64 (pop n))∧w=w':=by
 have he:=zh (y7z n hn)
 go_enter func77,ntmps77
 go_wp2;go_ret;exact⟨by rw[←he.out];rfl,rfl⟩
theorem y3v (n:Nat)(w:World)(hn:n<18446744073709551616):Calls prog 49 #[.int .u64 n] w fun e w'=>e=.returned (.int .i64 (pop n))∧w=w':=by
 go_enter func49,ntmps49
 go_wp2_with (go_at_call 77;refine(y79 _ _ hn).mono ?_;rintro e w' ⟨rfl,rfl⟩)
 go_ret;exact⟨rfl,rfl⟩
theorem z8v (x a:Nat)(hx:x<18446744073709551616)(hx0:x≠0)(hlow:x&&&(18446744073709551616-x)=a):
  IntKind.u64.wrap (bits BinOp.and IntKind.u64 (x:Int) (IntKind.u64.wrap (-(x:Int)))*285870213051353865)/288230376151711744=((a*285870213051353865%18446744073709551616/288230376151711744:Nat):Int):=by
 have e1:IntKind.u64.wrap (-(x:Int))=((18446744073709551616-x:Nat):Int):=by rw[IntKind.wrap_u64];omega
 rw[e1,bits_and_u64_nat x _ hx (by omega),hlow,IntKind.wrap_u64];omega
def I7 (w:World):Prop:=∀j,j<Lib.deBruijn64tab.length→w.cell? ⟨1,j,none⟩=some (.int .u8 (Lib.deBruijn64tab.getD j 0))
theorem z6a (x k idx:Nat)(w:World)(hx0:((x:Int)==0)=false)
  (key:IntKind.u64.wrap (bits BinOp.and IntKind.u64 (x:Int) (IntKind.u64.wrap (-(x:Int)))*285870213051353865)/288230376151711744=(idx:Int))
  (hi:idx<64) (hk:k<64) (hcell:w.cell? ⟨1,idx,none⟩=some (.int .u8 k)):
  Calls prog 127 #[.int .u64 x] w fun e w'=>e=.returned (.int .i64 k)∧w=w':=by
 go_enter func127,ntmps127
 go_wp2_with (simp only[key])
 go_ret;exact⟨rfl,rfl⟩
theorem x3b (x:Nat)(w:World)(hx0:0<x)(hx:x<18446744073709551616)(hT:I7 w):
  Calls prog 127 #[.int .u64 x] w fun e w'=>e=.returned (.int .i64 (Lib.ctzFrom 64 x))∧w=w':=by
 obtain⟨hlow,hk⟩:=Lib.lowest_bit 64 x (by omega) hx;obtain⟨hi,htab⟩:=Lib.deBruijn64_at _ hk;have hcell:=hT _ hi;rw[htab] at hcell;have e:Lib.ctz 64 x=Lib.ctzFrom 64 x:=by unfold Lib.ctz;rw[if_neg (by omega)]
 rw[←e];exact z6a x _ _ w (by simp;omega) (z8v x _ hx (by omega) hlow) hi hk hcell
theorem z6b (x:Nat)(w:World)(hx0:0<x)(hx:x<18446744073709551616)(hT:I7 w):
  Calls prog 95 #[.int .u64 x] w fun e w'=>e=.returned (.int .i64 (Lib.ctzFrom 64 x))∧w=w':=by
 have h0:((x:Int)==0)=false:=by simp;omega
 go_enter func95,ntmps95
 go_wp2_with (go_at_call 127;refine(x3b _ _ hx0 hx hT).mono ?_;rintro e w' ⟨rfl,rfl⟩)
 go_ret;exact⟨rfl,rfl⟩
end Go.Proofs.YtdgladhfibfdlaaGreatDoor
