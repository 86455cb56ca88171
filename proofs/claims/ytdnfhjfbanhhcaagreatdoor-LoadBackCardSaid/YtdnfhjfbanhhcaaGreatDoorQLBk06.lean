/-
  Steps.
-/
import Derived.Test.YtdnfhjfbanhhcaaGreatDoorQLBk04
import Derived.Test.YtdnfhjfbanhhcaaGreatDoorQLBk05
import Derived.Test.YtdnfhjfbanhhcaaGreatDoorProg
import Derived.Shelf.GgClosure.Gives
import Derived.Outline
import Derived.Lib.SliceRun
namespace Go.Proofs.YtdnfhjfbanhhcaaGreatDoor
open Go.RowKit
def vbF:Nat→Nat→List Nat
 | 0,v=> [v]
 | f+1,v=>if v<128 then [v] else (v%128+128)::vbF f (v/128)
def vb (v:Nat):List Nat:=vbF v v
theorem x2d:∀f g v,v≤f→v≤g→vbF f v=vbF g v
 | 0,0,v,_,_=>rfl
 | 0,g+1,v,h,_=>by
  obtain rfl:v=0:=by omega
  simp[vbF]
 | f+1,0,v,_,h=>by
  obtain rfl:v=0:=by omega
  simp[vbF]
 | f+1,g+1,v,h1,h2=>by
  unfold vbF
  by_cases h:v<128
  ·rw[if_pos h,if_pos h]
  ·rw[if_neg h,if_neg h,x2d f g (v/128) (by omega) (by omega)]
theorem z3b {v:Nat}(h:v<128):vb v=[v]:=by
 unfold vb
 cases v with
 | zero=>rfl
 | succ n=>unfold vbF;rw[if_pos h]
theorem z8x {v:Nat}(h:128≤v):vb v=(v%128+128)::vb (v/128):=by
 obtain⟨n,rfl⟩:∃n,v=n+1:=⟨v-1,by omega⟩
 show vbF (n+1) (n+1)=_::vbF _ _;rw[vbF,if_neg (by omega),x2d n ((n+1)/128) ((n+1)/128) (by omega) (zlr _)]
def vs (v:Nat):Nat:=(vb v).length
theorem z1k {v:Nat}(h:v<128):vs v=1:=by unfold vs;rw[z3b h];rfl
theorem z21 {v:Nat}(h:128≤v):vs v=vs (v/128)+1:=by unfold vs;rw[z8x h];rfl
theorem z3n (v:Nat):1≤vs v:=by
 rcases zng v 128 with h|h
 ·rw[z1k h];exact zlr _
 ·rw[z21 h];omega
theorem x67 (v:Nat):B8 (vb v):=by
 induction v using Nat.strongRecOn with
 | _ v ih=>
  rcases zng v 128 with h|h
  ·rw[z3b h];exact B8.one (by omega)
  ·rw[z8x h];intro x hx
   rcases List.mem_cons.1 hx with rfl|hx
   ·omega
   ·exact ih (v/128) (by omega) x hx
theorem z7u:∀k v,v<128^k→1≤k→vs v≤k
 | 0,v,_,h=>by omega
 | k+1,v,h,_=>by
  rcases zng v 128 with hv|hv
  ·rw[z1k hv];omega
  ·rw[z21 hv];have hk:1≤k:=by
    cases k with
    | zero=>simp at h;omega
    | succ k=>omega
   have:=z7u k (v/128) (by rw[Nat.pow_succ] at h;omega) hk;omega
theorem z6a {v:Nat}(h:v<18446744073709551616):vs v≤10:=z7u 10 v (by omega) (by omega)
theorem x2e:∀u v,v≤u→vs v≤vs u:=by
 intro u
 induction u using Nat.strongRecOn with
 | _ u ih=>
  intro v h
  rcases zng v 128 with hv|hv
  ·rw[z1k hv];exact z3n u
  ·rw[z21 hv,z21 (show 128≤u by omega)];have:=ih (u/128) (by omega) (v/128) (by omega);omega
theorem q34:∀k v,v/2^k=1→vs v=k/7+1:=by
 intro k
 induction k using Nat.strongRecOn with
 | _ k ih=>
  intro v h;have hp:0<2^k:=Nat.pow_pos (by decide)
  rcases zng k 7 with hk|hk
  ·have hv:v<128:=by
    have h1:2^k≤2^6:=Nat.pow_le_pow_right (by decide) (by omega);have h2:=Nat.div_add_mod v (2^k);have h3:=Nat.mod_lt v hp;rw[h] at h2;omega
   rw[z1k hv];omega
  ·obtain⟨j,rfl⟩:∃j,k=j+7:=⟨k-7,by omega⟩
   have hj:v/128/2^j=1:=by
    rw[Nat.div_div_eq_div_mul,show 128*2^j=2^(j+7) by rw[Nat.pow_add];omega];exact h
   have hv:128≤v:=by
    rcases zng v 128 with h1|h1
    ·rw[Nat.div_eq_of_lt h1,Nat.zero_div] at hj;omega
    ·exact h1
   rw[z21 hv,ih j (by omega) _ hj];omega
theorem q35 (v:Nat):vs (v/2*2+1)=vs v:=by
 rcases zng v 128 with h|h
 ·rw[z1k h,z1k (by omega)]
 ·rw[z21 h,z21 (by omega),show(v/2*2+1)/128=v/128 by omega]
def valR:List Nat→Nat
 | []=>0
 | x::r=>x%128+128*valR r
theorem x2f:∀l:List Nat,valR l<128^l.length
 | []=>by simp[valR]
 | x::r=>by
  have:=x2f r;rw[valR,List.length_cons,Nat.pow_succ];have:128*(valR r+1)≤128*128^r.length:=Nat.mul_le_mul_left _ this;omega
theorem y3q:∀(l:List Nat) (x:Nat),valR (l++[x])=valR l+x%128*128^l.length
 | [],x=>by simp[valR]
 | y::r,x=>by
  rw[List.cons_append,valR,valR,y3q r x,List.length_cons,Nat.pow_succ,Nat.mul_add,Nat.mul_comm (128^r.length) 128,Nat.mul_left_comm 128];omega
theorem z5j (l:List Nat)(k:Nat)(h:k<l.length):valR (l.take (k+1))=valR (l.take k)+l.getD k 0%128*128^k:=by
 have:l.take (k+1)=l.take k++[l.getD k 0]:=by
  rw[List.take_succ_eq_append_getElem h];simp[h]
 rw[this,y3q,zlk,Nat.min_eq_left (by omega)]
theorem z7v (l:List Nat)(k:Nat):valR (l.take k)<128^k:=by
 have h:=x2f (l.take k);exact Nat.lt_of_lt_of_le h (Nat.pow_le_pow_right (by decide) (by rw[zlk];omega))
def lead:List Nat→Nat
 | []=>0
 | x::r=>if x<128 then 0 else lead r+1
theorem z8y:∀l i,i<lead l→128≤l.getD i 0
 | [],i,h=>by simp[lead] at h
 | x::r,i,h=>by
  unfold lead at h;split at h
  ·omega
  ·cases i with
   | zero=>simp;omega
   | succ i=>simpa using z8y r i (by omega)
theorem y1s:∀l,lead l<l.length→l.getD (lead l) 0<128
 | [],h=>by simp[lead] at h
 | x::r,h=>by
  unfold lead at h⊢
  split
  ·simpa
  ·rename_i hx
   rw[if_neg hx,List.length_cons] at h
   simpa using y1s r (by omega)
theorem x2g {l:List Nat}{k:Nat}(hk:k≤lead l)(h:k<l.length)(hc:128≤l.getD k 0):k+1≤lead l:=by
 rcases zng k (lead l) with h1|h1
 ·exact h1
 ·obtain rfl:k=lead l:=by omega
  have:=y1s l h;omega
theorem y3r {l:List Nat}{k:Nat}(hk:k≤lead l)(hc:l.getD k 0<128):lead l=k:=by
 rcases zng k (lead l) with h1|h1
 ·have:=z8y l k h1;omega
 ·omega
def gt (l:List Nat):Nat×Nat×Nat:=
 if 9≤lead l∧1<l.getD 9 0 then (0,0,2)
 else if l.length≤lead l then (0,0,6)
 else if 0<lead l∧l.getD (lead l) 0=0 then (0,0,3)
 else (valR (l.take (lead l+1)),lead l+1,0)
theorem y8a {l:List Nat}(h:9≤lead l)(h1:1<l.getD 9 0):gt l=(0,0,2):=by unfold gt;rw[if_pos ⟨h,h1⟩]
theorem q1l {l:List Nat}{k:Nat}(hk:k≤lead l)(hl:k=l.length)(h9:k≤9):gt l=(0,0,6):=by
 have h0:l.getD 9 0=0:=by simp[show l.length≤9 by omega]
 unfold gt;rw[if_neg (by omega),if_pos (by omega)]
theorem q1m {l:List Nat}{k:Nat}(hk:k≤lead l)(hl:k<l.length)(h9:k≤9)(hc:l.getD k 0=0)(h0:0<k):gt l=(0,0,3):=by
 have e:=y3r hk (by omega);unfold gt;rw[e,if_neg (fun h=>by
  have:k=9:=by omega
  subst this;omega),if_neg (by omega),if_pos ⟨h0,hc⟩]
theorem x2h {l:List Nat}{k:Nat}(hk:k≤lead l)(hl:k<l.length)(h9:k≤9)(hc:l.getD k 0<128)(h1:k=9→l.getD k 0≤1)(h0:0<k→l.getD k 0≠0):gt l=(valR (l.take (k+1)),k+1,0):=by
 have e:=y3r hk hc;unfold gt;rw[e,if_neg (fun h=>by
  have h9:k=9:=by omega
  have:=h1 h9;subst h9;omega),if_neg (by omega),if_neg (fun h=>h0 h.1 h.2)]
theorem q1n:∀v r,lead (vb v++r)+1=vs v:=by
 intro v
 induction v using Nat.strongRecOn with
 | _ v ih=>
  intro r
  rcases zng v 128 with h|h
  ·rw[z1k h,z3b h];simp[lead,h]
  ·rw[z21 h,z8x h,←ih (v/128) (by omega) r,List.cons_append,lead,if_neg (by omega)]
theorem q36:∀v,valR (vb v)=v:=by
 intro v
 induction v using Nat.strongRecOn with
 | _ v ih=>
  rcases zng v 128 with h|h
  ·rw[z3b h];simp[valR];omega
  ·rw[z8x h,valR,ih (v/128) (by omega)];omega
theorem q1o:∀v,(vb v).getD (vs v-1) 0<128∧(1<vs v→(vb v).getD (vs v-1) 0≠0):=by
 intro v
 induction v using Nat.strongRecOn with
 | _ v ih=>
  rcases zng v 128 with h|h
  ·rw[z1k h,z3b h];exact⟨by simpa,fun h=>by omega⟩
  ·have:=ih (v/128) (by omega);have hp:=z3n (v/128);rw[z21 h,z8x h];obtain⟨n,hn⟩:∃n,vs (v/128)=n+1:=⟨vs (v/128)-1,by omega⟩
   rw[hn] at this⊢
   simp only[Nat.add_sub_cancel,List.getD_cons_succ] at this⊢
   refine⟨this.1,fun _=> ?_⟩
   rcases Nat.eq_zero_or_pos n with h0|h0
   ·subst h0
    rcases Nat.lt_or_ge (v/128) 128 with h1|h1
    ·rw[z3b h1];simp;omega
    ·rw[z21 h1] at hn;have:=z3n (v/128/128);omega
   ·exact this.2 (by omega)
theorem vb_hi:∀k v,vs v=k+1→(vb v).getD k 0=v/128^k:=by
 intro k
 induction k with
 | zero=>
  intro v h
  rcases zng v 128 with h1|h1
  ·rw[z3b h1];simp
  ·rw[z21 h1] at h;have:=z3n (v/128);omega
 | succ k ih=>
  intro v h
  rcases zng v 128 with h1|h1
  ·rw[z1k h1] at h;omega
  ·rw[z21 h1] at h;rw[z8x h1,List.getD_cons_succ,ih (v/128) (by omega),Nat.div_div_eq_div_mul,Nat.pow_succ,Nat.mul_comm 128]
theorem z8z (l r:List Nat)(i:Nat)(h:i<l.length):(l++r).getD i 0=l.getD i 0:=by simp[List.getD,List.getElem?_append_left h]
theorem gt_vb (v:Nat)(r:List Nat)(h:v<18446744073709551616):gt (vb v++r)=(v,vs v,0):=by
 have hl:=q1n v r;have hs:=z6a h;have hp:=z3n v;have hlen:vs v=(vb v).length:=rfl;have hlast:=q1o v;have hd:(vb v++r).getD (lead (vb v++r)) 0=(vb v).getD (vs v-1) 0:=by
  rw[z8z _ _ _ (by omega),show lead (vb v++r)=vs v-1 by omega]
 have hv:valR ((vb v++r).take (lead (vb v++r)+1))=v:=by
  rw[hl,hlen,List.take_left];exact q36 v
 rw[x2h (zlr _) (by rw[zla];omega) (by omega) (by rw[hd];exact hlast.1) (fun h9=> ?_) (fun h0=> ?_),hv,hl]
 ·rw[hd,show vs v-1=9 by omega,vb_hi 9 v (by omega)];omega
 ·rw[hd];exact hlast.2 (by omega)
theorem x2i (l:List Nat):(gt l).1<18446744073709551616:=by
 unfold gt;split
 ·decide
 rename_i h1
 split
 ·decide
 rename_i h2
 split
 ·decide
 show valR (l.take (lead l+1))<_;rw[z5j l (lead l) (by omega)];have hlt:=z7v l (lead l);have hat:=y1s l (by omega)
 rcases Nat.lt_or_ge (lead l) 9 with h9|h9
 ·have hp:128^lead l≤128^8:=Nat.pow_le_pow_right (by decide) (by omega);have:l.getD (lead l) 0%128*128^lead l≤127*128^lead l:=Nat.mul_le_mul_right _ (by omega);omega
 ·have h10:lead l=9:=by
   rcases zng 9 (lead l) with h|h
   ·have:=z8y l 9 h;omega
   ·omega
  rw[h10] at hlt hat⊢
  have h3:l.getD 9 0≤1:=by omega
  have:l.getD 9 0%128*128^9≤1*128^9:=Nat.mul_le_mul_right _ (by omega);omega
end Go.Proofs.YtdnfhjfbanhhcaaGreatDoor
namespace Go.Proofs.YtdnfhjfbanhhcaaGreatDoor
open Go.RowKit
structure RS where
 l:List Nat
 wr:Bool
def z1z (S:RS):Nat×RS:=if S.l=[] then (0,⟨[],true⟩) else (S.l.getD 0 0,⟨S.l.drop 1,false⟩)
def numS (S:RS)(most:Nat):Nat×RS:=if (gt S.l).2.2=0∧(gt S.l).1≤most then ((gt S.l).1,⟨S.l.drop (gt S.l).2.1,false⟩) else (0,⟨[],true⟩)
def z0g (S:RS)(most:Nat):List Nat×RS:=
 if (numS S most).2.wr=false∧(numS S most).1≤(numS S most).2.l.length then ((numS S most).2.l.take (numS S most).1,⟨(numS S most).2.l.drop (numS S most).1,false⟩) else ([],⟨[],true⟩)
def okS (S:RS):Bool:= !S.wr&&S.l.isEmpty
theorem z4m {S:RS}(h:S.l=[]):z1z S=(0,⟨[],true⟩):=by unfold z1z;rw[if_pos h]
theorem z3o {S:RS}(h:S.l≠[]):z1z S=(S.l.getD 0 0,⟨S.l.drop 1,false⟩):=by unfold z1z;rw[if_neg h]
theorem z42 {S:RS}{most:Nat}(h:(gt S.l).2.2=0)(h2:(gt S.l).1≤most):numS S most=((gt S.l).1,⟨S.l.drop (gt S.l).2.1,false⟩):=by unfold numS;rw[if_pos ⟨h,h2⟩]
theorem z3p {S:RS}{most:Nat}(h:¬((gt S.l).2.2=0∧(gt S.l).1≤most)):numS S most=(0,⟨[],true⟩):=by unfold numS;rw[if_neg h]
theorem z2l {S:RS}{most:Nat}(h:(numS S most).2.wr=false)(h2:(numS S most).1≤(numS S most).2.l.length):z0g S most=((numS S most).2.l.take (numS S most).1,⟨(numS S most).2.l.drop (numS S most).1,false⟩):=by unfold z0g;rw[if_pos ⟨h,h2⟩]
theorem z16 {S:RS}{most:Nat}(h:¬((numS S most).2.wr=false∧(numS S most).1≤(numS S most).2.l.length)):z0g S most=([],⟨[],true⟩):=by unfold z0g;rw[if_neg h]
theorem y8b (l:List Nat)(h:(gt l).2.2=0):1≤(gt l).2.1∧(gt l).2.1≤l.length∧(gt l).2.1≤10:=by
 unfold gt at h⊢
 split
 ·rename_i h1;rw[if_pos h1] at h;simp at h
 rename_i h1;rw[if_neg h1] at h
 split
 ·rename_i h2;rw[if_pos h2] at h;simp at h
 rename_i h2;rw[if_neg h2] at h
 split
 ·rename_i h3;rw[if_pos h3] at h;simp at h
 have h9:lead l≤9:=by
  rcases zng 9 (lead l) with h4|h4
  ·have:=z8y l 9 h4;omega
  ·exact h4
 refine⟨?_,?_,?_⟩
 ·show 1≤lead l+1;omega
 ·show lead l+1≤l.length;omega
 ·show lead l+1≤10;omega
theorem x95:gt []=(0,0,6):=by decide
theorem y1t (most:Nat){S:RS}(h:S.l=[]):numS S most=(0,⟨[],true⟩):=z3p (by rw[h,x95];simp)
theorem x2j {S:RS}{most:Nat}(h:(numS S most).2.wr=true):numS S most=(0,⟨[],true⟩):=by
 by_cases hc:(gt S.l).2.2=0∧(gt S.l).1≤most
 ·rw[z42 hc.1 hc.2] at h;simp at h
 ·exact z3p hc
theorem y6c {S:RS}{most:Nat}(h:(numS S most).2.wr=false):numS S most=((gt S.l).1,⟨S.l.drop (gt S.l).2.1,false⟩)∧(gt S.l).2.2=0∧(gt S.l).1≤most:=by
 by_cases hc:(gt S.l).2.2=0∧(gt S.l).1≤most
 ·exact⟨z42 hc.1 hc.2,hc⟩
 ·rw[z3p hc] at h;simp at h
theorem z80 (S:RS)(most:Nat):(numS S most).1≤most:=by
 by_cases hc:(gt S.l).2.2=0∧(gt S.l).1≤most
 ·rw[z42 hc.1 hc.2];exact hc.2
 ·rw[z3p hc];exact Nat.zero_le _
theorem y1u (v most:Nat)(r:List Nat)(wr:Bool)(h:v<18446744073709551616)(hm:v≤most):numS ⟨vb v++r,wr⟩ most=(v,⟨r,false⟩):=by
 have e:=gt_vb v r h;rw[z42 (by rw[e]) (by rw[e];exact hm),e];show(v,RS.mk ((vb v++r).drop (vb v).length) false)=_;rw[List.drop_left]
theorem y0m (s r:List Nat)(wr:Bool)(most:Nat)(h:s.length<18446744073709551616)(hm:s.length≤most):z0g ⟨vb s.length++(s++r),wr⟩ most=(s,⟨r,false⟩):=by
 have e:=y1u s.length most (s++r) wr h hm;rw[z2l (by rw[e]) (by rw[e];simp),e];show((s++r).take s.length,RS.mk ((s++r).drop s.length) false)=_;rw[List.take_left,List.drop_left]
end Go.Proofs.YtdnfhjfbanhhcaaGreatDoor
namespace Go.Proofs.YtdnfhjfbanhhcaaGreatDoor
open Go Go.RowKit
structure BA (w:World) (v:Value) (l:List Nat):Prop where
 ex:∃a c,v=.slice a l.length c∧Src w a l∧l.length≤c∧c≤140737488355328
 b8:B8 l
def PgIn (w:World)(a:Option Addr)(P:List (List Nat)):Prop:=∀i,i<P.length→∃g o v,a=some ⟨g,o,none⟩∧w.cell? ⟨g,o+i,none⟩=some v∧BA w v (P.getD i [])
structure BW (w:World) (v:Value) (l:List Nat):Prop where
 ex:∃a c,v=.slice a l.length c∧Src w a l∧l.length≤c∧c≤9223372036854775807
 b8:B8 l
theorem BW.below {w w':World}{B:Nat}{v:Value}{l:List Nat}(h:BW w v l)(hb:Below B w w')(hB:w.heap.size≤B):BW w' v l:=by
 obtain⟨a,c,rfl,hs,h1,h2⟩:=h.ex;exact⟨⟨a,c,rfl,hs.below hb hB,h1,h2⟩,h.b8⟩
theorem BA.bw {w:World}{v:Value}{l:List Nat}(h:BA w v l):BW w v l:=by
 obtain⟨a,c,rfl,hs,h1,h2⟩:=h.ex;exact⟨⟨a,c,rfl,hs,h1,by omega⟩,h.b8⟩
def PgA (w:World)(a:Option Addr)(P:List (List Nat)):Prop:=∀i,i<P.length→∃g o v,a=some ⟨g,o,none⟩∧w.cell? ⟨g,o+i,none⟩=some v∧BW w v (P.getD i [])
theorem PgA.below {w w':World}{B:Nat}{a:Option Addr}{P:List (List Nat)}(h:PgA w a P)(hb:Below B w w')(hB:w.heap.size≤B):PgA w' a P:=fun i hi=>by
 obtain⟨g,o,v,ha,hc,hv⟩:=h i hi;exact⟨g,o,v,ha,by rw[hb.cell (p:=⟨g,o+i,none⟩) (Nat.lt_of_lt_of_le (block_lt_of_cell hc) hB)];exact hc,hv.below hb hB⟩
theorem PgIn.pgw {w:World}{a:Option Addr}{P:List (List Nat)}(h:PgIn w a P):PgA w a P:=fun i hi=>by
 obtain⟨g,o,v,ha,hc,hv⟩:=h i hi;exact⟨g,o,v,ha,hc,hv.bw⟩
def sa (ks:List ByteArray)(i:Nat):ByteArray:=ks.getD i ByteArray.empty
theorem y6d (ks:List ByteArray)(k:Nat)(h:k<ks.length):ks.take (k+1)=ks.take k++[sa ks k]:=by
 rw[List.take_succ_eq_append_getElem h];simp[sa,List.getD,h]
abbrev sv (ks:List ByteArray):List Value:=ks.map Value.string
theorem x96 (ks:List ByteArray)(i:Nat)(h:i<ks.length):(sv ks)[i]? =some (.string (sa ks i)):=by
 simp[sa,List.getD,h]
def TxS (w:World)(a:Option Addr)(ks:List ByteArray):Prop:=0<ks.length→∃g o,a=some ⟨g,o,none⟩∧∀i,i<ks.length→w.cell? ⟨g,o+i,none⟩=some (.string (sa ks i))
theorem TxS.below {w w':World}{a:Option Addr}{ks:List ByteArray}{B:Nat}(h:TxS w a ks)(hb:Below B w w')(hB:w.heap.size≤B):TxS w' a ks:=fun h0=>by
 obtain⟨g,o,rfl,hc⟩:=h h0;exact⟨g,o,rfl,fun i hi=>by rw[hb.cell (p:=⟨g,o+i,none⟩) (Nat.lt_of_lt_of_le (block_lt_of_cell (hc i hi)) hB)];exact hc i hi⟩
theorem TxS.nil (w:World)(a:Option Addr):TxS w a []:=fun h=>by cases h
def TxV (w:World)(v:Value)(ks:List ByteArray):Prop:=∃a c,v=.slice a ks.length c∧TxS w a ks∧(a=none→c=0)∧ks.length≤c∧c≤maxLen
theorem TxV.none (w:World):TxV w (.slice none 0 0) []:=⟨Option.none,0,rfl,TxS.nil _ _,fun _=>rfl,zlr _,by unfold maxLen;omega⟩
theorem y3s {w:World}{B E:Nat}{v:Value}{ks:List ByteArray}(h:w.ownsRow B E 1 v ks.length (sv ks)):TxV w v ks:=by
 have h':=h;obtain⟨_,h2⟩:=h
 rcases h2 with ⟨rfl,h0⟩|⟨g,cap,cur,rfl,hb,hg,hnc,hcm,_⟩
 ·have:ks=[]:=List.eq_nil_of_length_eq_zero h0;subst this;exact TxV.none w
 ·refine⟨_,cap,rfl,fun _=>⟨g,0,rfl,fun i hi=> ?_⟩,(fun h=>by cases h),hnc,hcm⟩;have:=h'.cellAt i (by omega);rw[Nat.zero_add];rw[x96 ks i hi] at this;exact this
theorem x2k:(Tryz.prog.info? 9).map (fun i=>(i.zero,i.size,i.bytes))=some (some (.string ⟨#[]⟩),1,16):=by kernel_rfl
def ia (is:List Int)(i:Nat):Int:=is.getD i 0
theorem y6e (is:List Int)(k:Nat)(h:k<is.length):is.take (k+1)=is.take k++[ia is k]:=by
 rw[List.take_succ_eq_append_getElem h];simp[ia,List.getD,h]
abbrev iv (is:List Int):List Value:=is.map (Value.int .i64)
theorem q37 (is:List Int)(i:Nat)(h:i<is.length):(iv is)[i]? =some (.int .i64 (ia is i)):=by
 simp[ia,List.getD,h]
def PgS (w:World)(a:Option Addr)(is:List Int):Prop:=0<is.length→∃g o,a=some ⟨g,o,none⟩∧∀i,i<is.length→w.cell? ⟨g,o+i,none⟩=some (.int .i64 (ia is i))
theorem PgS.below {w w':World}{a:Option Addr}{is:List Int}{B:Nat}(h:PgS w a is)(hb:Below B w w')(hB:w.heap.size≤B):PgS w' a is:=fun h0=>by
 obtain⟨g,o,rfl,hc⟩:=h h0;exact⟨g,o,rfl,fun i hi=>by rw[hb.cell (p:=⟨g,o+i,none⟩) (Nat.lt_of_lt_of_le (block_lt_of_cell (hc i hi)) hB)];exact hc i hi⟩
theorem PgS.nil (w:World)(a:Option Addr):PgS w a []:=fun h=>by cases h
def PgV (w:World)(v:Value)(is:List Int):Prop:=∃a c,v=.slice a is.length c∧PgS w a is∧(a=none→c=0)∧is.length≤c∧c≤maxLen
theorem PgV.none (w:World):PgV w (.slice none 0 0) []:=⟨Option.none,0,rfl,PgS.nil _ _,fun _=>rfl,zlr _,by unfold maxLen;omega⟩
theorem z4n {w:World}{B E:Nat}{v:Value}{is:List Int}(h:w.ownsRow B E 1 v is.length (iv is)):PgV w v is:=by
 have h':=h;obtain⟨_,h2⟩:=h
 rcases h2 with ⟨rfl,h0⟩|⟨g,cap,cur,rfl,hb,hg,hnc,hcm,_⟩
 ·have:is=[]:=List.eq_nil_of_length_eq_zero h0;subst this;exact PgV.none w
 ·refine⟨_,cap,rfl,fun _=>⟨g,0,rfl,fun i hi=> ?_⟩,(fun h=>by cases h),hnc,hcm⟩;have:=h'.cellAt i (by omega);rw[Nat.zero_add];rw[q37 is i hi] at this;exact this
theorem z81:(Tryz.prog.info? 3).map (fun i=>(i.zero,i.size,i.bytes))=some (some (.int .i64 0),1,8):=by kernel_rfl
section
variable {P:Program} {w:World} {ops:Array Oper} {rest:List Oper} {o:Oper} {a:Act} {Q:Exit→Act→World→Prop}
theorem z2g (hgd:o.guard=none)(s x:Operand)(t:TypeId)
  (ho:o.op=.call {callee:=.builtin .append,args:= #[s,x],argTypes:= #[t,t]})
  (base:Nat) (e:TypeId) (ht:P.underlying t=some (.slice e)) (h2:(P.info? e).map (fun i=>(i.zero,i.size,i.bytes))=some (some (.int .i64 0),1,8))
  (v:Value) (is:List Int) (hs:a.eval s=v) (hown:Hid (w.ownsRow base e 1 v is.length (iv is)))
  (g c:Nat) (y:Int) (hx:a.eval x=.slice (some ⟨g,0,none⟩) 1 c) (hy:w.cell? ⟨g,0,none⟩=some (.int .i64 y))
  (hlen:(is.length+1)*8≤140737488355328) (hbase:base≤w.heap.size)
  (h:∀v' w',Hid (w'.ownsRow base e 1 v' (is++[y]).length (iv (is++[y])))→Hid (w.grownBy w' v.ownBlock)→wpList P ops Q rest (a.put o.dst v') w'):
  wpList P ops Q (o::rest) a w:=by
 obtain⟨i0,hi,hz0,hz1,hz2⟩:=info_parts h2;refine z2c hgd s x t ho base e i0 (.int .i64 0) 1 8 ht hi hz0 hz1 hz2 rfl (by decide) v is.length (iv is) hs hown.out ⟨g,0,none⟩ 1 c (iv [y]) hx rfl ?_ ?_ (by unfold maxLen;omega) hlen hbase ?_
 ·intro j u hj
  rcases j with _|j
  ·rw[z2q,Nat.zero_add,hy,←hj];rfl
  ·cases hj
 ·intro u hu;simp only[iv,List.map_cons,List.map_nil,List.mem_singleton] at hu;subst hu;rfl
 ·intro v' w' hown' hg _;refine h v' w' ?_ hg;show w'.ownsRow _ _ _ _ _ _;have e1:iv (is++[y])=iv is++iv [y]:=List.map_append;rw[e1,zla];exact hown'
end
def pf (l:List Int)(k:Nat):Int:=(l.take k).sum
theorem z5o (l:List Int):pf l 0=0:=by simp[pf]
theorem z68 (l:List Int)(k:Nat):pf l (k+1)=pf l k+ia l k:=by
 unfold pf
 rcases zng k l.length with h|h
 ·rw[y6e l k h,List.sum_append];simp
 ·rw[List.take_of_length_le (by omega),zlw h];have:ia l k=0:=by unfold ia;simp[List.getD,h]
  omega
def okI (x:Int):Bool:=decide (0≤x)&&decide (x≤1024)
theorem z3i (x:Int):okI x=true↔0≤x∧x≤1024:=by unfold okI;simp
def okTo (l:List Int)(k:Nat):Prop:=∀i,i<k→okI (ia l i)=true
theorem x2l {l:List Int}{k:Nat}(h:okTo l k)(h1:okI (ia l k)=true):okTo l (k+1):=fun i hi=>by
 rcases zng i k with h3|h3
 ·exact h i h3
 ·obtain rfl:i=k:=by omega
  exact h1
theorem z6b {l:List Int}{k n:Nat}(h:okTo l n)(hk:k≤n):okTo l k:=fun i hi=>h i (by omega)
theorem z43 {l:List Int}:∀{k:Nat},okTo l k→0≤pf l k∧pf l k≤1024*k
 | 0,_=>by rw[z5o];omega
 | k+1,h=>by
  have h1:=z43 (z6b h (Nat.le_succ k));have h2:=(z3i _).1 (h k (by omega));rw[z68];omega
theorem y6f {l:List Int}{i:Nat}:∀{k:Nat},okTo l k→i≤k→pf l i≤pf l k
 | 0,_,hi=>by
  obtain rfl:i=0:=by omega
  exact Int.le_refl _
 | k+1,h,hi=>by
  rcases zng i (k+1) with h3|h3
  ·have h1:=y6f (i:=i) (z6b h (Nat.le_succ k)) (by omega);have h2:=(z3i _).1 (h k (by omega));rw[z68];omega
  ·obtain rfl:i=k+1:=by omega
   exact Int.le_refl _
def gr (l:List Int)(a:Nat):Int:=max (pf l a) (pf l l.length-pf l a)
def bst (l:List Int):Nat→Nat
 | 0=>1
 | k+1=>if gr l (k+2)<gr l (bst l k) then k+2 else bst l k
theorem z82 (l:List Int):∀k,1≤bst l k∧bst l k≤k+1
 | 0=>by simp[bst]
 | k+1=>by
  have:=z82 l k;unfold bst;split<;>omega
theorem y3t (l:List Int):∀k a,1≤a→a≤k+1→gr l (bst l k)≤gr l a
 | 0,a,h1,h2=>by
  obtain rfl:a=1:=by omega
  exact Int.le_refl _
 | k+1,a,h1,h2=>by
  unfold bst
  rcases zng a (k+2) with h3|h3
  ·have:=y3t l k a h1 (by omega);split<;>omega
  ·obtain rfl:a=k+2:=by omega
   split<;>omega
def canB (l:List Int)(b:Int):Bool:=decide (2≤l.length)&&decide (l.length≤1024)&&okI b&&l.all okI
theorem q1p (l:List Int):l.all okI=true↔okTo l l.length:=by
 rw[List.all_eq_true];constructor
 ·intro h i hi;have e:ia l i=l[i]:=by unfold ia;simp[List.getD,hi]
  rw[e];exact h _ (List.getElem_mem hi)
 ·intro h x hx;obtain⟨i,hi,rfl⟩:=List.mem_iff_getElem.1 hx;have e:ia l i=l[i]:=by unfold ia;simp[List.getD,hi]
  rw[←e];exact h i hi
theorem z8h (l:List Int)(b:Int):canB l b=true↔2≤l.length∧l.length≤1024∧okI b=true∧okTo l l.length:=by
 unfold canB;rw[Bool.and_eq_true,Bool.and_eq_true,Bool.and_eq_true,q1p,decide_eq_true_iff,decide_eq_true_iff];constructor
 ·rintro⟨⟨⟨h1,h2⟩,h3⟩,h4⟩;exact⟨h1,h2,h3,h4⟩
 ·rintro⟨h1,h2,h3,h4⟩;exact⟨⟨⟨h1,h2⟩,h3⟩,h4⟩
theorem q1q {l:List Int}{b:Int}(h:¬(2≤l.length∧l.length≤1024∧okI b=true∧okTo l l.length)):canB l b=false:=by
 rw[←Bool.not_eq_true,z8h];exact h
def spN (l:List Int)(b:Int):Int:=if canB l b=true then (if 504<gr l (bst l (l.length-2))+b then 0 else (bst l (l.length-2):Nat)) else 0
def spE (l:List Int)(b:Int):Int:=if canB l b=true then (if 504<gr l (bst l (l.length-2))+b then 5 else 0) else 1
theorem q38 {l:List Int}{b:Int}(h:canB l b=false):spN l b=0∧spE l b=1:=by unfold spN spE;rw[h];exact⟨rfl,rfl⟩
theorem q1r {l:List Int}{b:Int}(h:canB l b=true)(h2:504<gr l (bst l (l.length-2))+b):spN l b=0∧spE l b=5:=by
 unfold spN spE;rw[if_pos h,if_pos h,if_pos h2,if_pos h2];exact⟨rfl,rfl⟩
theorem x97 {l:List Int}{b:Int}(h:canB l b=true)(h2:¬504<gr l (bst l (l.length-2))+b):spN l b=(bst l (l.length-2):Nat)∧spE l b=0:=by
 unfold spN spE;rw[if_pos h,if_pos h,if_neg h2,if_neg h2];exact⟨rfl,rfl⟩
theorem x68 {l:List Int}(h:okTo l l.length)(hn:l.length≤1024)(a:Nat)(ha:a≤l.length):0≤gr l a∧gr l a≤1048576:=by
 have h1:=z43 (z6b h ha);have h2:=z43 h;have h3:=y6f h ha;unfold gr;omega
theorem y3u {l:List Int}(hs:∀i,i<l.length→1≤ia l i∧ia l i≤112)(t:Int)(ht0:0≤t):∀k,k≤l.length→t≤pf l k→∃a,a≤k∧t≤pf l a∧pf l a<t+112∧(a=0∨pf l (a-1)<t)
 | 0,_,h=>⟨0,zlr _,h,by rw[z5o] at h⊢;omega,.inl rfl⟩
 | k+1,hk,h=>by
  by_cases h1:t≤pf l k
  ·obtain⟨a,h2,h3⟩:=y3u hs t ht0 k (by omega) h1;exact⟨a,by omega,h3⟩
  ·have h2:=hs k (by omega);have h3:=z68 l k;exact⟨k+1,zlr _,h,by omega,.inr (by rw[Nat.add_sub_cancel];omega)⟩
end Go.Proofs.YtdnfhjfbanhhcaaGreatDoor
namespace Go.Proofs.YtdnfhjfbanhhcaaGreatDoor
open Go.RowKit Go.Shelf
theorem y0n (k:Nat)(w:World)(hk:k<256):Calls Tryz.prog 163 #[.int .u8 k] w fun e w'=>e=.returned (.bool (decide (1≤k∧k≤5)))∧w=w':=by
 by_cases h1:1≤k
 ·have d1:decide (1≤(k:Int))=true:=by simp;omega
  have d2:decide ((k:Int)≤5)=decide (1≤k∧k≤5):=by rw[Bool.eq_iff_iff];simp;omega
  generalize decide (1≤k∧k≤5)=D at*
  go_enter Tryz.func163,Tryz.ntmps163
  go_wp2;go_ret;exact⟨rfl,rfl⟩
 ·have d1:decide (1≤(k:Int))=false:=by simp;omega
  have d2:decide (1≤k∧k≤5)=false:=by simp;omega
  rw[d2]
  go_enter Tryz.func163,Tryz.ntmps163
  go_wp2;go_ret;exact⟨rfl,rfl⟩
theorem x69 (c:Nat)(w:World):Calls Tryz.prog 186 #[.int .u8 c] w fun e w'=>e=.returned (.bool (!(c==0)))∧w=w':=by
 have d1:((c:Int) !=0)=(!(c==0)):=by rw[Bool.eq_iff_iff];simp
 generalize (!(c==0))=D at*
 go_enter Tryz.func186,Tryz.ntmps186
 go_wp2;go_ret;exact⟨rfl,rfl⟩
def z5k:List Nat→Nat→Int
 | [],_=> -1
 | x::r,i=>if x=0 then z5k r (i+1) else i
theorem x0b (l:List Nat)(i:Nat):decide (0≤z5k l i)= !z20 l:=by
 induction l generalizing i with
 | nil=>rfl
 | cons x r ih=>
  unfold z5k
  by_cases h:x=0
  ·subst h;rw[if_pos rfl,ih];simp[z20]
  ·rw[if_neg h];simp[z20,h]
theorem y6g (l:List Nat)(k:Nat)(h:k<l.length)(m:Nat):z5k (l.drop k) m=if l.getD k 0=0 then z5k (l.drop (k+1)) (m+1) else m:=by
 have e:l.drop k=l.getD k 0::l.drop (k+1):=by
  rw[List.drop_eq_getElem_cons h];simp[List.getD,h]
 rw[e];rfl
theorem x2m (a:Option Addr)(c:Nat)(l:List Nat)(w:World)(hl:l.length≤9223372036854775807)(hs:Src w a l):
  Calls Tryz.prog 198 #[.slice a l.length c,.func (.func 186) #[] #[]] w fun e w'=>e=.returned (.int .i64 (z5k l 0))∧w=w':=by
 have Hs:=zh hs;clear hs;have eg:∀args w,(callFunc 186 args).run Tryz.prog w=.ok (.enter 186 args) w:=enters_of Tryz.func186 (by kernel_rfl) rfl;have hd:=zh (fun k h=>y6g l k h k);generalize hR:z5k l 0=R;have HR:=zh hR;clear hR
 go_enter Tryz.func198,Tryz.ntmps198
 go_wp2
 go_loop [5,8] (fun _ i=>∃k:Nat,k≤l.length∧i=.int .i64 k∧Hid (z5k (l.drop k) k=R)) (fun _ i=>l.length-(intOf i).toNat)
 case atStart=>exact⟨0,Nat.zero_le _,rfl,HR.out⟩
 case round=>
  obtain⟨k,hk,rfl,hrest⟩:=hrel
  by_cases hlt:k<l.length
  ·obtain⟨b,o,rfl,hc⟩:=Hs.out (by omega);have hcell:=hc k hlt;have hdk:=hd.out k hlt;have hcall:=x69 (l.getD k 0) w;clear hc;generalize l.getD k 0=X at*;rw[hdk] at hrest;clear hdk
   by_cases hX:X=0
   ·subst hX;rw[show(!(0==0))=false from rfl] at hcall;have Hr:Hid (z5k (List.drop (k+1) l) (k+1)=R):=by
     have:=hrest.out;rwa [if_pos rfl] at this
    clear hrest
    go_wp2_with (go_at_fn 186;refine hcall.mono ?_;rintro e w' ⟨rfl,rfl⟩)
    go_round
    case rel=>exact⟨k+1,by omega,by go_num,Hr⟩
    case measure=>simp[intOf];omega
   ·have:(!(X==0))=true:=by simp[hX]
    rw[this] at hcall;clear this;have Hr:Hid ((k:Int)=R):=by
     have:=hrest.out;rwa [if_neg hX] at this
    clear hrest
    go_wp2_with (go_at_fn 186;refine hcall.mono ?_;rintro e w' ⟨rfl,rfl⟩)
    go_ret;exact⟨by rw[←Hr.out];rfl,rfl⟩
  ·obtain rfl:k=l.length:=by omega
   have Hr:Hid (-1=R):=by
    have:=hrest.out;rwa [List.drop_length] at this
   clear hrest;go_wp2;go_ret;exact⟨by rw[←Hr.out];rfl,rfl⟩
theorem y3v (a:Option Addr)(c:Nat)(l:List Nat)(w:World)(hl:l.length≤9223372036854775807)(hs:Src w a l):
  Calls Tryz.prog 185 #[.slice a l.length c,.func (.func 186) #[] #[]] w fun e w'=>e=.returned (.bool (!z20 l))∧w=w':=by
 have hI:=x2m a c l w hl hs;have hd:=x0b l 0;generalize z5k l 0=R at*;generalize (!z20 l)=D at*
 go_enter Tryz.func185,Tryz.ntmps185
 go_wp2_with (go_at_call 198;refine hI.mono ?_;rintro e w' ⟨rfl,rfl⟩)
 go_ret;exact⟨rfl,rfl⟩
theorem x2n (a:Option Addr)(n c:Nat)(l:List Nat)(hn:l.length=n)(w:World)(hl:n≤9223372036854775807)(hs:Src w a l):
  Calls Tryz.prog 169 #[.slice a n c] w fun e w'=>e=.returned (.bool (z20 l))∧w=w':=by
 subst hn;have hI:=y3v a c l w hl hs;have hnn:(!(!z20 l))=z20 l:=by cases z20 l<;>rfl
 generalize hD:(!z20 l)=D at*;rw[←hnn];clear hD hnn
 go_enter Tryz.func169,Tryz.ntmps169
 go_wp2_with (go_at_call 185;refine hI.mono ?_;rintro e w' ⟨rfl,rfl⟩)
 go_ret;exact⟨rfl,rfl⟩
end Go.Proofs.YtdnfhjfbanhhcaaGreatDoor
namespace Go.Proofs.YtdnfhjfbanhhcaaGreatDoor
open Go.RowKit
theorem q39 (a:Option Addr)(c:Nat)(l:List Nat)(v s:Nat)(w:World)(hl:l.length≤65536)(hs1:1≤s)(hs:s≤64)(hv:v<18446744073709551616)(hsrc:Src w a l):
  Calls Tryz.prog 155 #[.slice a l.length c,.int .u64 v,.int .i64 s] w fun e w'=>e=.returned (.slice (some ⟨w.heap.size,0,none⟩) (l.length+s:Nat) (l.length+s:Nat))∧Row w' w.heap.size 5 (l++beL v s)∧Below w.heap.size w w':=by
 have Hsrc:=zh hsrc;clear hsrc;have d1:decide ((s:Int)<1)=false:=by simp;omega
 have d2:decide (64<(s:Int))=false:=by simp;omega
 go_enter Tryz.func155,Tryz.ntmps155
 go_wp2_with (first|(at_make;refine z06 rfl _ _ 46 rfl 5 Tryz.underlying46 z8g _ _ _ _ (l.length+s) rfl rfl (by omega) (by omega) (by omega) ?_;intro w1 hr1 hb1;have hs1':=zh (Hsrc.out.below hb1 (zlr _)))|(show wpList _ _ _ (⟨some 22,_,_,_,_,_⟩::_) _ _;refine z1x rfl (.tmp 20) (.tmp 21) 46 46 rfl 5 Tryz.underlying46 z41 w.heap.size 0 (l.length+s) (l.length+s) a c (List.replicate (l.length+s) 0) l (by rfl) (by rfl) hr1 hs1'.out (by simp) (by omega) w.heap.size w hb1 (zlr _) ?_;intro w2 hr2 hb2;clear hr1 hs1' hb1))
 have Hr2:Hid (Row w2 w.heap.size 5 (z2f l v s 0)):=by
  have:=hr2.out;rw[z29] at this;have e:l++List.drop l.length (List.replicate (l.length+s) 0)=z2f l v s 0:=by
   unfold z2f;rw[List.drop_replicate,Nat.add_sub_cancel_left];simp[beL]
  rw[e] at this;exact this
 clear hr2
 go_loopw [1,8] (fun V I wr=>∃(k:Nat) (i:Int),k≤s∧I=.int .i64 i∧i+k+1≤l.length+s∧(l.length:Int)+s≤i+k+1∧V=.int .u64 (v/256^k:Nat)∧Hid (Row wr w.heap.size 5 (z2f l v s k))∧Below w.heap.size w wr) (fun _ I _=>(intOf I+1).toNat)
 case atStart=>exact⟨0,(l.length:Int)+s-1,Nat.zero_le _,rfl,by omega,by omega,by rw[Nat.pow_zero,Nat.div_one],Hr2,hb2⟩
 case round=>
  obtain⟨k,i,hk,rfl,hi1,hi2,rfl,hrow,hbel⟩:=hrel
  by_cases hlt:k<s
  ·obtain⟨j,rfl⟩:=Int.eq_ofNat_of_zero_le (show 0≤i by omega);have hj:j+k+1=l.length+s:=by omega
   have hcell:=hrow.out.cell j (by rw[z57 _ _ _ _ hk];omega);have hfr:=hrow.out.frozen j;have hset:=zh ((hrow.out.set j (v/256^k%256)));rw[y0i l v s k j hlt hj] at hset;have hV:v/256^k<18446744073709551616:=Nat.lt_of_le_of_lt (Nat.div_le_self _ _) hv;have hnext:=zh (show v/256^(k+1)=v/256^k/256 by rw[Nat.pow_succ,Nat.div_div_eq_div_mul]);have Hj:=zh hj;clear hj hrow;generalize v/256^k=V at*;generalize (z2f l v s k).getD j 0=X at*;go_wp2
   go_roundw
   case rel=>exact⟨k+1,(j:Int)-1,by omega,rfl,by omega,by omega,by rw[hnext.out];rfl,hset,hbel.setCell (zlr _) _⟩
   case measure=>simp[intOf]
  ·obtain rfl:k=s:=by omega
   have hlast:=hrow.out;have e:z2f l v k k=l++beL v k:=by unfold z2f;simp
   rw[e] at hlast;have Hlast:=zh hlast;clear hlast hrow e;generalize v/256^k=V at*;go_wp2;go_ret;exact⟨rfl,Hlast.out,hbel⟩
end Go.Proofs.YtdnfhjfbanhhcaaGreatDoor
namespace Go.Proofs.YtdnfhjfbanhhcaaGreatDoor
open Go.RowKit
theorem q4a:(Tryz.prog.info? 5).map (fun i=>(i.zero,i.size,i.bytes))=some (some (.int .u8 0),1,1):=by kernel_rfl
theorem sizeI:(Tryz.prog.info? 5).map (·.size)=some 1:=by kernel_rfl
theorem z83 (a:Option Addr)(c:Nat)(l:List Nat)(v s:Nat)(w:World)(hl:l.length≤65536)(hs1:1≤s)(hs:s≤64)(hv:v<18446744073709551616)(hsrc:Src w a l):
  Calls Tryz.prog 155 #[.slice a l.length c,.int .u64 v,.int .i64 s] w fun e w'=>e=.returned (.slice (some ⟨w.heap.size,0,none⟩) (l.length+s:Nat) (l.length+s:Nat))∧Row w' w.heap.size 5 (l++beL v s)∧Below w.heap.size w w':=by
 have Hsrc:=zh hsrc;clear hsrc;have d1:decide ((s:Int)<1)=false:=by simp;omega
 have d2:decide (64<(s:Int))=false:=by simp;omega
 go_enter Tryz.func155,Tryz.ntmps155
 go_wp2_with (first|(at_make;refine z06 rfl _ _ 46 rfl 5 Tryz.underlying46 q4a _ _ _ _ (l.length+s) rfl rfl (by omega) (by omega) (by omega) ?_;intro w1 hr1 hb1;have hs1':=zh (Hsrc.out.below hb1 (zlr _)))|(show wpList _ _ _ (⟨some 22,_,_,_,_,_⟩::_) _ _;refine z1x rfl (.tmp 20) (.tmp 21) 46 46 rfl 5 Tryz.underlying46 sizeI w.heap.size 0 (l.length+s) (l.length+s) a c (List.replicate (l.length+s) 0) l (by rfl) (by rfl) hr1 hs1'.out (by simp) (by omega) w.heap.size w hb1 (zlr _) ?_;intro w2 hr2 hb2;clear hr1 hs1' hb1))
 have Hr2:Hid (Row w2 w.heap.size 5 (z2f l v s 0)):=by
  have:=hr2.out;rw[z29] at this;have e:l++List.drop l.length (List.replicate (l.length+s) 0)=z2f l v s 0:=by
   unfold z2f;rw[List.drop_replicate,Nat.add_sub_cancel_left];simp[beL]
  rw[e] at this;exact this
 clear hr2
 go_loopw [1,8] (fun V I wr=>∃(k:Nat) (i:Int),k≤s∧I=.int .i64 i∧i+k+1≤l.length+s∧(l.length:Int)+s≤i+k+1∧V=.int .u64 (v/256^k:Nat)∧Hid (Row wr w.heap.size 5 (z2f l v s k))∧Below w.heap.size w wr) (fun _ I _=>(intOf I+1).toNat)
 case atStart=>exact⟨0,(l.length:Int)+s-1,Nat.zero_le _,rfl,by omega,by omega,by rw[Nat.pow_zero,Nat.div_one],Hr2,hb2⟩
 case round=>
  obtain⟨k,i,hk,rfl,hi1,hi2,rfl,hrow,hbel⟩:=hrel
  by_cases hlt:k<s
  ·obtain⟨j,rfl⟩:=Int.eq_ofNat_of_zero_le (show 0≤i by omega);have hj:j+k+1=l.length+s:=by omega
   have hcell:=hrow.out.cell j (by rw[z57 _ _ _ _ hk];omega);have hfr:=hrow.out.frozen j;have hset:=zh ((hrow.out.set j (v/256^k%256)));rw[y0i l v s k j hlt hj] at hset;have hV:v/256^k<18446744073709551616:=Nat.lt_of_le_of_lt (Nat.div_le_self _ _) hv;have hnext:=zh (show v/256^(k+1)=v/256^k/256 by rw[Nat.pow_succ,Nat.div_div_eq_div_mul]);have Hj:=zh hj;clear hj hrow;generalize v/256^k=V at*;generalize (z2f l v s k).getD j 0=X at*;go_wp2
   go_roundw
   case rel=>exact⟨k+1,(j:Int)-1,by omega,rfl,by omega,by omega,by rw[hnext.out];rfl,hset,hbel.setCell (zlr _) _⟩
   case measure=>simp[intOf]
  ·obtain rfl:k=s:=by omega
   have hlast:=hrow.out;have e:z2f l v k k=l++beL v k:=by unfold z2f;simp
   rw[e] at hlast;have Hlast:=zh hlast;clear hlast hrow e;generalize v/256^k=V at*;go_wp2;go_ret;exact⟨rfl,Hlast.out,hbel⟩
end Go.Proofs.YtdnfhjfbanhhcaaGreatDoor
namespace Go.Proofs.YtdnfhjfbanhhcaaGreatDoor
open Go Go.RowKit
set_option maxRecDepth 100000 in
theorem y3w (a:Option Addr)(n c:Nat)(l:List Nat)(hn:l.length=n)(w:World)(hsrc:Src w a l)(hz:a=none→c=0)(hl:n≤1099511627776):
  Calls Tryz.prog 173 #[.slice a n c] w fun e w'=>∃v,e=.returned v∧Sl w' v l∧Below w.heap.size w w':=by
 have Hs:=zh hsrc;have Hn:=zh hn;have q22:∀(w:World) (a:Option Addr) (n c n' c':Nat),(binOp .eql 46 (.slice a n c) (.slice none n' c')).run Tryz.prog w=.ok (.bool a.isNone) w:=fun w a n c n' c'=>Lib.run_eql_slice_nil w _ _ a n c n' c' Tryz.underlying46
 cases a with
 | none=>
  obtain rfl:l=[]:=by
   cases l with
   | nil=>rfl
   | cons x r=>obtain⟨_,_,h0,_⟩:=hsrc (by simp);cases h0
  obtain rfl:=hz rfl;obtain rfl:n=0:=hn.symm;clear hsrc
  go_enter Tryz.func173,Tryz.ntmps173
  go_wp2;go_ret;exact⟨_,rfl,.inl ⟨rfl,rfl⟩,zbr _ _⟩
 | some ad=>
  clear hsrc hn;have hb1:Below w.heap.size w (w.alloc (.cells #[] 5)):=(zbr _ _).alloc (zlr _) _
  go_enter Tryz.func173,Tryz.ntmps173
  go_wp2_with (at_builtin;refine z2z rfl (.tmp 5) (.tmp 6) 46 rfl w.heap.size 5 Tryz.underlying46 x66 _ [] (by rfl) (x2a w 5) (some ad) c l (by rw[Hn.out];rfl) (fun h=>by cases h) (Hs.out.below hb1 (zlr _)) (by rw[Hn.out];simp only[List.length_nil];omega) hb1.size ?_;intro v' w2 hown2 hgrow2 hnear2)
  have hbn:Below w.heap.size w w2:=hb1.grown hgrow2.out hb1.size (by intro k hk;cases hk;exact zlr _);have ho:Sl w2 v' l:=Sl.own hown2.out;go_ret;exact⟨_,rfl,ho,hbn⟩
end Go.Proofs.YtdnfhjfbanhhcaaGreatDoor
