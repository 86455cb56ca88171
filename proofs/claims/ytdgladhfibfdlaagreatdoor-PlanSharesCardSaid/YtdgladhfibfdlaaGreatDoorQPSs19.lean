/-
  Steps.
-/
import Derived.Test.YtdgladhfibfdlaaGreatDoorQPSs18
namespace Go.Proofs.YtdgladhfibfdlaaGreatDoor
open Go Go.RowKit Go.Proofs.Tryz
set_option maxRecDepth 100000
abbrev FT:TypeId:=188
abbrev RFK:TypeId:=170
def x3s (b:Bool):Value:=if b=true then .nilIface else .iface 110 (.int .i64 1)
theorem z0o (a:Option Addr)(n c:Nat)(ks:List ByteArray)(w:World)(hn:ks.length=n)(hs:TxS w a ks)(hl:n≤9223372036854775807):
  Calls prog 178 #[.slice a n c] w fun e w'=>∃D,e=.returned (.bool D)∧(D=true↔Pw ks)∧zB w w':=by
 have Hs:=zh hs;have Hn:=zh hn;clear hs hn
 go_enter func178,ntmps178
 go_wp2_with fail
 go_loopw [3,5,8] (fun lv _ i wr=>∃(k:Nat) (z:ByteArray),lv=.string z∧i=.int .i64 k∧k≤n∧Hid (z=J1 ks k)∧Hid (Jq ks k)∧Hid (zB w wr)) (fun _ _ i _=>n-(intOf i).toNat)
 case atStart=>exact⟨0,⟨#[]⟩,rfl,rfl,by omega,rfl,fun i hi=>by omega,zbr _ _⟩
 case round=>
  obtain⟨k,z,rfl,rfl,hk,hz,ht,hB⟩:=hrel
  by_cases hlt:k<n
  ·obtain⟨g,o,rfl,hcell⟩:=Hs.out.below hB.out (zlr _) (by rw[Hn.out];omega);have q0:=hcell k (by rw[Hn.out];exact hlt);have hyes:Hid (okK (sa ks k)=true→blt z (sa ks k)=true→Jq ks (k+1)):=fun h1 h2=>YP ht.out h1 (by rw[←hz.out];exact h2)
   have hno:Hid (okK (sa ks k)=false∨blt z (sa ks k)=false→¬Pw ks):=fun h=>z4q (k:=k) (by rw[Hn.out];exact hlt) (by rw[←hz.out];exact h)
   have hle:=z8a (sa ks k) z;have hls:Hid (sa ks k=J1 ks (k+1)):=(z6u ks k).symm;have hc:=I6 (sa ks k) wr;unfold xS at hc;generalize sa ks k=y at*;generalize okK y=K at*;generalize blt z y=D at*;have Hc:=zh hc;clear hcell ht hz hc
   cases K with
   | false=>
    have hy:=zh (hno.out (.inl rfl));clear hyes hno;simp only[Bool.false_eq_true,if_false] at Hc;go_wp2_with fail;refine Hc.out.mono ?_;rintro e w' ⟨rfl,rfl⟩;go_wp2;go_ret;exact⟨_,rfl,⟨(fun h=>by cases h),fun h=>absurd h hy.out⟩,hB.out⟩
   | true=>
    simp only[if_true] at Hc
    cases D with
    | false=>
     have hy:=zh (hno.out (.inr rfl));clear hyes hno;go_wp2_with fail;refine Hc.out.mono ?_;rintro e w' ⟨rfl,rfl⟩;go_wp2;go_ret;exact⟨_,rfl,⟨(fun h=>by cases h),fun h=>absurd h hy.out⟩,hB.out⟩
    | true=>
     have hy:=zh (hyes.out rfl rfl);clear hyes hno;go_wp2_with fail;refine Hc.out.mono ?_;rintro e w' ⟨rfl,rfl⟩;go_wp2
     go_roundw
     case rel=>exact⟨k+1,y,rfl,by go_num,by omega,hls,hy,hB⟩
     case measure=>simp[intOf];omega
  ·obtain rfl:k=n:=by omega
   have hall:Hid (Pw ks):=by show Jq ks ks.length;rw[Hn.out];exact ht.out
   clear ht;go_wp2;go_ret;exact⟨_,rfl,⟨fun _=>hall.out,fun _=>rfl⟩,hB.out⟩
theorem z7d (a:Option Addr)(n c:Nat)(ks:List ByteArray)(w:World)(hn:ks.length=n)(hs:TxS w a ks)(hl:n≤1000000)(hm:Pw ks):
  Calls prog 140 #[.slice a n c] w fun e w'=>e=.returned (.int .i64 (X7 ks n:Nat))∧zB w w':=by
 have Hs:=zh hs;have Hn:=zh hn;have Hm:=zh hm;clear hs hn hm
 go_enter func140,ntmps140
 go_wp2_with fail
 go_loopw [3,5,8] (fun s _ i wr=>∃k t:Nat,s=.int .i64 t∧i=.int .i64 k∧k≤n∧t≤2+43*k∧Hid (t=X7 ks k)∧Hid (zB w wr)) (fun _ _ i _=>n-(intOf i).toNat)
 case atStart=>exact⟨0,2,rfl,rfl,by omega,by omega,rfl,zbr _ _⟩
 case round=>
  obtain⟨k,t,rfl,rfl,hk,ht,hts,hB⟩:=hrel
  by_cases hlt:k<n
  ·obtain⟨g,o,rfl,hcell⟩:=Hs.out.below hB.out (zlr _) (by rw[Hn.out];omega);have q0:=hcell k (by rw[Hn.out];exact hlt);have h1:=(Xv (Hm.out k (by rw[Hn.out];exact hlt)).1).2;have h5:Hid (t+(3+(sa ks k).size)=X7 ks (k+1)):=by show _=_;rw[X7,←hts.out]
   generalize sa ks k=y at*;clear hcell hts;go_wp2
   go_roundw
   case rel=>exact⟨k+1,t+(3+y.size),by go_num,by go_num,by omega,by omega,h5,hB⟩
   case measure=>simp[intOf];omega
  ·obtain rfl:k=n:=by omega
   go_wp2;go_ret;exact⟨by rw[←hts.out];rfl,hB.out⟩
abbrev ST:TypeId:=131
def y3o (w:World)(b:Nat)(f:Nat→Bool):Prop:=∃A:Array Value,w.heap[b]? =some (.cells A ST (0,0))∧A.size=1024∧∀p,p<1024→A[p]? =some (.bool (f p))
theorem z0p:(zeroCells131).toList=List.replicate 1024 (Value.bool false):=by kernel_rfl
theorem y5f (w:World):y3o (w.alloc (.cells zeroCells131 ST)) w.heap.size (fun _=>false):=by
 refine⟨zeroCells131,?_,?_,fun p hp=> ?_⟩
 ·show(w.heap.push _)[w.heap.size]? =_;rw[Array.getElem?_push_size]
 ·rw[←Array.length_toList,z0p,List.length_replicate]
 ·rw[←Array.getElem?_toList,z0p,List.getElem?_replicate,if_pos hp]
theorem y3o.cell {w:World}{b:Nat}{f:Nat→Bool}(h:y3o w b f)(p:Nat)(hp:p<1024):w.cell? ⟨b,p,none⟩=some (.bool (f p)):=by
 obtain⟨A,h1,_,h3⟩:=h;simp[World.cell?,h1,h3 p hp]
theorem y3o.fz {w:World}{b:Nat}{f:Nat→Bool}(h:y3o w b f)(p:Nat):w.frozen? ⟨b,p,none⟩=false:=by
 obtain⟨A,h1,_⟩:=h;simp[World.frozen?,h1]
theorem y3o.set {w:World}{b:Nat}{f:Nat→Bool}(h:y3o w b f)(q:Nat)(hq:q<1024):y3o (w.setCell ⟨b,q,none⟩ (.bool true)) b (fun p=>if p=q then true else f p):=by
 obtain⟨A,h1,h2,h3⟩:=h;refine⟨A.setIfInBounds q (.bool true),heap_setCell_same w b q _ _ _ h1,by rw[Array.size_setIfInBounds];exact h2,fun p hp=> ?_⟩;rw[Array.getElem?_setIfInBounds]
 by_cases e:q=p
 ·subst e;rw[if_pos rfl,if_pos (by rw[h2];exact hq)];simp
 ·rw[if_neg e,h3 p hp];simp only;rw[if_neg (fun x=>e x.symm)]
def z0q (is:List Int)(k:Nat)(f:Nat→Bool):Prop:=∀p,p<1024→(f p=true↔∃j,j<k∧ia is j=(p:Int))
theorem z2z (is:List Int):z0q is 0 (fun _=>false):=fun p _=>⟨(fun h=>by cases h),fun⟨j,hj,_⟩=>by omega⟩
theorem z20 {is:List Int}{k:Nat}{f:Nat→Bool}(h:z0q is k f)(q:Nat)(hq:ia is k=(q:Int)):z0q is (k+1) (fun p=>if p=q then true else f p):=fun p hp=>by
 simp only
 by_cases e:p=q
 ·rw[if_pos e];exact⟨fun _=>⟨k,by omega,by rw[hq,e]⟩,fun _=>rfl⟩
 ·rw[if_neg e,h p hp];constructor
  ·rintro⟨j,hj,h2⟩;exact⟨j,by omega,h2⟩
  ·rintro⟨j,hj,h2⟩
   rcases zng j k with h3|h3
   ·exact⟨j,h3,h2⟩
   ·obtain rfl:j=k:=by omega
    rw[hq] at h2;exact absurd (by omega) e
theorem z7e {is:List Int}{k:Nat}{f:Nat→Bool}(h:z0q is k f)(q:Nat)(hq:ia is k=(q:Int))(hlt:q<1024):(f q=true→¬Qj is k)∧(f q=false→Qj is k):=by
 refine⟨fun h1 hf=> ?_,fun h1 j hj e=> ?_⟩
 ·obtain⟨j,hj,e⟩:=(h q hlt).1 h1;exact hf j hj (by rw[e,hq])
 ·have:=(h q hlt).2 ⟨j,hj,by rw[e,hq]⟩;rw[h1] at this;cases this
theorem z21 (a:Option Addr)(n c:Nat)(is:List Int)(w:World)(hn:is.length=n)(hs:PgS w a is)(hl:n≤9223372036854775807):
  Calls prog 179 #[.slice a n c] w fun e w'=>∃D,e=.returned (.bool D)∧(D=true↔Cz is)∧zB w w':=by
 have Hs:=zh hs;have Hn:=zh hn;clear hs hn;obtain⟨wA,hwA⟩:∃wA,wA=w.alloc (.cells zeroCells131 ST):=⟨_,rfl⟩
 have hbA:Hid (zB w wA):=by rw[hwA];exact(zbr _ _).alloc (zlr _) _
 have hsA:Hid (y3o wA w.heap.size (fun _=>false)):=by rw[hwA];exact y5f w
 have hwA':=zh hwA.symm;clear hwA
 go_enter func179,ntmps179
 go_wp2_with fail;rw[hwA'.out]
 go_loopw [5,8] (fun _ i wr=>∃(k:Nat) (f:Nat→Bool),i=.int .i64 k∧k≤n∧Hid (Q7 is k)∧Hid (z0q is k f)∧Hid (y3o wr w.heap.size f)∧Hid (zB w wr)) (fun _ i _=>n-(intOf i).toNat)
 case atStart=>exact⟨0,fun _=>false,rfl,by omega,fun i hi=>by omega,z2z is,hsA,hbA⟩
 case round=>
  obtain⟨k,f,rfl,hk,ht,hsn,hS,hB⟩:=hrel
  by_cases hlt:k<n
  ·obtain⟨g,o,rfl,hcell⟩:=Hs.out.below hB.out (zlr _) (by rw[Hn.out];omega);have q0:=hcell k (by rw[Hn.out];exact hlt);have hno:Hid (¬(2≤ia is k∧ia is k≤1023)∨¬Qj is k→¬Cz is):=fun h=>jE (k:=k) (by rw[Hn.out];exact hlt) h
   have hyes:Hid (2≤ia is k∧ia is k≤1023→Qj is k→Q7 is (k+1)):=fun h1 h2=>Cj ht.out h1 h2
   have hfr:=zh (fun q h1 h2=>z7e (q:=q) hsn.out h1 h2);have hnx:=zh (fun q h1=>z20 (q:=q) hsn.out h1);generalize ia is k=x at*;clear hcell ht hsn
   by_cases h1:x<2
   ·have hy:=zh (hno.out (.inl (by omega)));have d1:decide (x<2)=true:=zdt h1;clear hno hyes hfr hnx h1;go_wp2;go_ret;exact⟨_,rfl,⟨(fun h=>by cases h),fun h=>absurd h hy.out⟩,hB.out⟩
   ·have d1:decide (x<2)=false:=zdf h1
    by_cases h2:1024≤x
    ·have hy:=zh (hno.out (.inl (by omega)));have d2:decide (1024≤x)=true:=zdt h2;clear hno hyes hfr hnx h1 h2;go_wp2;go_ret;exact⟨_,rfl,⟨(fun h=>by cases h),fun h=>absurd h hy.out⟩,hB.out⟩
    ·have d2:decide (1024≤x)=false:=zdf h2;obtain⟨q,rfl⟩:=Int.eq_ofNat_of_zero_le (show 0≤x by omega);have hq:q<1024:=by omega
     have hq':(q:Int)<1024:=by omega
     have c0:=hS.out.cell q hq;have f0:=hS.out.fz q;have hfr2:=zh (hfr.out q rfl hq);have hset:=zh (hS.out.set q hq);have hnx2:=zh (hnx.out q rfl);have hBs:Hid (zB w (wr.setCell ⟨w.heap.size,q,none⟩ (.bool true))):=hB.out.setCell (zlr _) _;obtain⟨D,hD⟩:∃D,D=f q:=⟨_,rfl⟩
     rw[←hD] at c0 hfr2;clear hD hfr hnx hS
     cases D with
     | true=>
      have hy:=zh (hno.out (.inr (hfr2.out.1 rfl)));clear hno hyes;go_wp2;go_ret;exact .inl ⟨rfl,hy.out,hB.out⟩
     | false=>
      have hy:=zh (hyes.out ⟨by omega,by omega⟩ (hfr2.out.2 rfl));clear hno hyes;go_wp2
      go_roundw
      case rel=>exact⟨k+1,_,by go_num,by omega,hy,hnx2,hset,hBs⟩
      case measure=>simp[intOf];omega
  ·obtain rfl:k=n:=by omega
   have hall:Hid (Cz is):=by show Q7 is is.length;rw[Hn.out];exact ht.out
   clear ht;go_wp2;go_ret;exact⟨_,rfl,⟨fun _=>hall.out,fun _=>rfl⟩,hB.out⟩
theorem z0r (ks:List ByteArray)(is:List Int)(n m:Nat)(hn:ks.length=n)(hm:is.length=m):(n<1→¬Gy ks is)∧(m≠n+1→¬Gy ks is)∧(¬Pw ks→¬Gy ks is)∧(¬Cz is→¬Gy ks is)∧(¬n<1→m=n+1→Pw ks→Cz is→Gy ks is):=
 ⟨fun h h2=>by have:=h2.2.2.1;omega,fun h h2=>by have:=h2.2.2.2;omega,fun h h2=>h h2.1,fun h h2=>h h2.2.1,fun h1 h2 h3 h4=>⟨h3,h4,by omega,by omega⟩⟩
theorem z22 (a b:Option Addr)(n c m d:Nat)(ks:List ByteArray)(is:List Int)(w:World)(hn:ks.length=n)(hm:is.length=m)(hs:TxS w a ks)(hp:PgS w b is)(hl:n≤1099511627776)(hl2:m≤1099511627776):
  Calls prog 139 #[.agg #[.slice a n c,.slice b m d]] w fun e w'=>∃D,e=.returned (x3s D)∧(D=true↔Gy ks is)∧zB w w':=by
 have Hn:=zh (zai hn hm);have Hs:=zh (zai hs hp);have hpt:=zh (z0r ks is n m hn hm);have hb0:Hid (zB w (w.alloc (.cells #[.slice a n c,.slice b m d] FT))):=(zbr _ _).alloc (zlr _) _;clear hs hp hn hm;have i4:IntKind.i64.wrap ((n:Int)+1)=(n:Int)+1:=by rw[IntKind.wrap_i64];omega
 by_cases h1:n<1
 ·have d1:decide ((n:Int)<1)=true:=zdt (by omega);have hy:=zh (hpt.out.1 h1);clear hpt h1
  go_enter func139,ntmps139
  go_wp2;go_ret;exact⟨false,rfl,⟨(fun h=>by cases h),fun h=>absurd h hy.out⟩,hb0.out⟩
 have d1:decide ((n:Int)<1)=false:=zdf (by omega)
 by_cases h2:m=n+1
 rotate_left
 ·have d2:((m:Int) !=(n:Int)+1)=true:=by simp;omega
  have hy:=zh (hpt.out.2.1 h2);clear hpt h1 h2
  go_enter func139,ntmps139
  go_wp2;go_ret;exact⟨false,rfl,⟨(fun h=>by cases h),fun h=>absurd h hy.out⟩,hb0.out⟩
 have d2:((m:Int) !=(n:Int)+1)=false:=by simp;omega
 have hpt2:=zh (hpt.out.2.2.2.2 h1 h2);have hpt3:=zh (zai hpt.out.2.2.1 hpt.out.2.2.2.1);clear hpt h1 h2;obtain⟨w0,hw0⟩:∃w0,w0=w.alloc (.cells #[.slice a n c,.slice b m d] FT):=⟨_,rfl⟩
 have hb0':Hid (zB w w0):=by rw[hw0];exact hb0.out
 have ha:=zh (z0o a n c ks w0 Hn.out.1 (Hs.out.1.below hb0'.out (zlr _)) (by omega));have hpb:Hid (PB w0 w.heap.size FT (.slice a n c) (.slice b m d)):=by rw[hw0];exact PB.new _ _ _ _
 have hw0':=zh hw0.symm;clear hw0 hb0
 go_enter func139,ntmps139
 go_wp2_with fail;rw[hw0'.out];refine ha.out.mono ?_;rintro e w1 ⟨D,rfl,hD,hb1⟩;have HD:=zh hD;have Hb1:=zh (hb0'.out.trans (hb1.mono hb0'.out.size));have c1:=(hpb.out.ext hb1).c1;clear ha hw0' hb0' hD hb1 hpb
 cases D with
 | false=>
  have hy:Hid (¬Gy ks is):=hpt3.out.1 (fun h=>by have:=HD.out.2 h;cases this);clear hpt2 hpt3 HD;go_wp2;go_ret;exact⟨false,rfl,⟨(fun h=>by cases h),fun h=>absurd h hy.out⟩,Hb1.out⟩
 | true=>
  have hkf:=zh (HD.out.1 rfl);have ha:=zh (z21 b m d is w1 Hn.out.2 (Hs.out.2.below Hb1.out (zlr _)) (by omega));clear HD;go_wp2_with fail;refine ha.out.mono ?_;rintro e w2 ⟨D,rfl,hD,hb2⟩;have HD:=zh hD;have Hb2:=zh (Hb1.out.trans (hb2.mono Hb1.out.size));clear ha hD hb2 Hb1 c1
  cases D with
  | false=>
   have hy:Hid (¬Gy ks is):=hpt3.out.2 (fun h=>by have:=HD.out.2 h;cases this);clear hpt2 hpt3 HD;go_wp2;go_ret;exact⟨false,rfl,⟨(fun h=>by cases h),fun h=>absurd h hy.out⟩,Hb2.out⟩
  | true=>
   have hy:Hid (Gy ks is):=hpt2.out hkf.out (HD.out.1 rfl);clear hpt2 hpt3 HD;go_wp2;go_ret;exact⟨true,rfl,⟨fun _=>hy.out,fun _=>rfl⟩,Hb2.out⟩
set_option maxHeartbeats 4000000 in
theorem z23 (a b:Option Addr)(n c m d:Nat)(ks:List ByteArray)(is:List Int)(w:World)(hn:ks.length=n)(hm:is.length=m)(hs:TxS w a ks)(hp:PgS w b is)(hl:n≤1099511627776)(hl2:m≤1099511627776):
  Calls prog 114 #[.agg #[.slice a n c,.slice b m d]] w fun e w'=>∃D,e=.returned (.bool D)∧(D=true↔Gy ks is)∧zB w w':=by
 have Hn:=zh (zai hn hm);have Hs:=zh (zai hs hp);have hpt:=zh (z0r ks is n m hn hm);have hb0:Hid (zB w (w.alloc (.cells #[.slice a n c,.slice b m d] RFK))):=(zbr _ _).alloc (zlr _) _;have hpb:Hid (PB (w.alloc (.cells #[.slice a n c,.slice b m d] RFK)) w.heap.size RFK (.slice a n c) (.slice b m d)):=PB.new _ _ _ _;clear hs hp hn hm
 go_enter func114,ntmps114
 go_wp2_with fail
 go_loopw [3] (fun i wr=>∃k:Nat,i=.int .i64 k∧k≤n∧Hid (Jq ks k)∧Hid (PB wr w.heap.size RFK (.slice a n c) (.slice b m d))∧Hid (zB w wr)) (fun i _=>n-(intOf i).toNat)
 case atStart=>exact⟨0,rfl,by omega,fun i hi=>by omega,hpb,hb0⟩
 case round=>
  obtain⟨k,rfl,hk,ht,hF,hB⟩:=hrel;have f0:=hF.out.c0
  by_cases hlt:k<n
  ·obtain⟨g,o,rfl,hcell⟩:=Hs.out.1.below hB.out (zlr _) (by rw[Hn.out.1];omega);have hA:=hcell k (by rw[Hn.out.1];exact hlt);have r0:∀w',Ext wr.drew w'→w'.cell? ⟨w.heap.size,0,none⟩=some (.slice (some ⟨g,o,none⟩) n c):=fun w' hw=>(hF.out.extD hw).c0
   have r1:∀w',Ext wr.drew w'→w'.cell? ⟨g,o+k,none⟩=some (.string (sa ks k)):=fun w' hw=>by
    rw[((zbr wr.heap.size wr).drew.trans hw).cell (p:=⟨g,o+k,none⟩) (block_lt_of_cell hA)];exact hA
   have hno:Hid (okK (sa ks k)=false∨blt (J1 ks k) (sa ks k)=false→¬Gy ks is):=fun h=>hpt.out.2.2.1 (z4q (k:=k) (by rw[Hn.out.1];exact hlt) h)
   have hyes:Hid (okK (sa ks k)=true→blt (J1 ks k) (sa ks k)=true→Jq ks (k+1)):=fun h1 h2=>YP ht.out h1 h2
   have hBd:Hid (zB w wr.drew):=hB.out.drew;have hFd:Hid (PB wr.drew w.heap.size RFK (.slice (some ⟨g,o,none⟩) n c) (.slice b m d)):=hF.out.ext (zbr _ _).drew;have hz:Hid (J1 ks k=if k=0 then ByteArray.empty else sa ks (k-1)):=rfl;have hlk:Hid (0<k→okK (sa ks (k-1))=true):=fun h=>(ht.out (k-1) (by omega)).1
   have hA2:Hid (0<k→wr.cell? ⟨g,o+(k-1),none⟩=some (.string (sa ks (k-1)))):=fun h=>hcell (k-1) (by rw[Hn.out.1];omega)
   generalize sa ks k=y at*;generalize J1 ks k=z at*;clear hcell hA ht hF
   by_cases h1:y.size<1
   ·have hy:=zh (hno.out (.inl (by unfold okK;simp;omega)));have d1:decide ((y.size:Int)<1)=true:=zdt (by omega);clear hno hyes hz hlk hA2 h1;go_wp2_with fail;refine rgr [(0,true),(1,true),(2,true),(3,true),(4,true),(5,true),(6,true),(7,true),(8,true),(9,true),(10,true),(11,true),(12,true),(13,true),(14,true),(15,true),(16,true),(17,true),(18,true),(19,true),(20,true),(21,true),(22,true),(23,true),(24,true),(25,true),(26,true),(27,true),(28,true),(29,true),(30,true),(31,false),(32,true),(33,true),(34,true)] (h:= ?_);iterate 31 (first|(refine grr (v:= ?_) rfl (by rfl) ?_ ?_;rotate_left;(intro w' hw';go_simp;with_reducible rfl);simp only[Act.put,zs0,zs1,zs2])|(refine Xx (o:=⟨_,_,_,_,_,_⟩) rfl (by rfl) ?_;simp only[Act.put,zs0,zs1,zs2]))
    refine Qy (o:=⟨_,_,_,_,_,_⟩) rfl (by rfl) ?_;simp only[Act.put,zs0,zs1,zs2];iterate 3 (first|(refine grr (v:= ?_) rfl (by rfl) ?_ ?_;rotate_left;(intro w' hw';go_simp;with_reducible rfl);simp only[Act.put,zs0,zs1,zs2])|(refine Xx (o:=⟨_,_,_,_,_,_⟩) rfl (by rfl) ?_;simp only[Act.put,zs0,zs1,zs2]))
    refine Yq ?_;go_wp2_with fail;go_ret;exact⟨_,rfl,⟨(fun h=>by cases h),fun h=>absurd h hy.out⟩,hBd.out⟩
   have d1:decide ((y.size:Int)<1)=false:=zdf (by omega)
   by_cases h2:40<y.size
   ·have hy:=zh (hno.out (.inl (by unfold okK;simp;omega)));have d2:decide (40<(y.size:Int))=true:=zdt (by omega);have d2':decide (40<y.size)=true:=zdt h2;clear hno hyes hz hlk hA2 h1 h2;go_wp2_with fail;refine rgr [(0,true),(1,true),(2,true),(3,true),(4,true),(5,true),(6,true),(7,true),(8,true),(9,true),(10,true),(11,true),(12,true),(13,true),(14,true),(15,true),(16,true),(17,true),(18,true),(19,true),(20,true),(21,true),(22,true),(23,true),(24,true),(25,true),(26,true),(27,true),(28,true),(29,true),(30,true),(31,false),(32,true),(33,true),(34,true)] (h:= ?_);iterate 31 (first|(refine grr (v:= ?_) rfl (by rfl) ?_ ?_;rotate_left;(intro w' hw';go_simp;with_reducible rfl);simp only[Act.put,zs0,zs1,zs2])|(refine Xx (o:=⟨_,_,_,_,_,_⟩) rfl (by rfl) ?_;simp only[Act.put,zs0,zs1,zs2]))
    refine Qy (o:=⟨_,_,_,_,_,_⟩) rfl (by rfl) ?_;simp only[Act.put,zs0,zs1,zs2];iterate 3 (first|(refine grr (v:= ?_) rfl (by rfl) ?_ ?_;rotate_left;(intro w' hw';go_simp;with_reducible rfl);simp only[Act.put,zs0,zs1,zs2])|(refine Xx (o:=⟨_,_,_,_,_,_⟩) rfl (by rfl) ?_;simp only[Act.put,zs0,zs1,zs2]))
    refine Yq ?_;go_wp2_with fail;go_ret;exact⟨_,rfl,⟨(fun h=>by cases h),fun h=>absurd h hy.out⟩,hBd.out⟩
   have d2:decide (40<(y.size:Int))=false:=zdf (by omega);have d2':decide (40<y.size)=false:=zdf h2;have hok:okK y=true:=by unfold okK;simp;omega
   have Hok:=zh hok
   rcases Nat.eq_zero_or_pos k with h0|h0
   ·subst h0;simp only[Nat.add_zero] at r1;have hy:Hid (Jq ks (0+1)):=hyes.out hok (by rw[hz.out];exact YO (by omega));clear hno hyes hz hlk hA2 h1 h2 hok;go_wp2_with fail;refine rgr [(0,true),(1,true),(2,true),(3,true),(4,true),(5,true),(6,true),(7,true),(8,true),(9,true),(10,true),(11,true),(12,true),(13,true),(14,true),(15,true),(16,true),(17,true),(18,true),(19,true),(20,true),(21,true),(22,true),(23,true),(24,true),(25,true),(26,true),(27,true),(28,true),(29,true),(30,true),(31,false),(32,true),(33,true),(34,true)] (h:= ?_);iterate 31 (first|(refine grr (v:= ?_) rfl (by rfl) ?_ ?_;rotate_left;(intro w' hw';go_simp;with_reducible rfl);simp only[Act.put,zs0,zs1,zs2])|(refine Xx (o:=⟨_,_,_,_,_,_⟩) rfl (by rfl) ?_;simp only[Act.put,zs0,zs1,zs2]))
    refine Qy (o:=⟨_,_,_,_,_,_⟩) rfl (by rfl) ?_;simp only[Act.put,zs0,zs1,zs2];iterate 3 (first|(refine grr (v:= ?_) rfl (by rfl) ?_ ?_;rotate_left;(intro w' hw';go_simp;with_reducible rfl);simp only[Act.put,zs0,zs1,zs2])|(refine Xx (o:=⟨_,_,_,_,_,_⟩) rfl (by rfl) ?_;simp only[Act.put,zs0,zs1,zs2]))
    refine Yq ?_;go_wp2_with fail
    go_roundw
    case rel=>exact⟨0+1,by go_num,by omega,hy,hFd,hBd⟩
    case measure=>simp[intOf];omega
   ·obtain⟨j,rfl⟩:∃j,k=j+1:=⟨k-1,by omega⟩
    rw[Nat.add_sub_cancel] at hz hlk hA2;have hzj:Hid (z=sa ks j):=by show _=_;rw[hz.out,if_neg (by omega)]
    have hA3:=hA2.out (by omega);have hkz:=Xv (hlk.out (by omega));rw[←hzj.out] at hA3 hkz;have r2:∀w',Ext wr.drew w'→w'.cell? ⟨g,o+j,none⟩=some (.string z):=fun w' hw=>by
     rw[((zbr wr.heap.size wr).drew.trans hw).cell (p:=⟨g,o+j,none⟩) (block_lt_of_cell hA3)];exact hA3
    have hless:=zh (KK z y wr.drew (by omega));have i1:(0:Int)≤(j:Int)+1:=by omega
    have i2:(j:Int)+1<(n:Int):=by omega
    have i3:(j:Int)<(n:Int):=by omega
    have i4:IntKind.i64.wrap (j:Int)=(j:Int):=by rw[IntKind.wrap_i64];omega
    have i5:(0:Int)<(j:Int)+1:=by omega
    generalize blt z y=D at*;clear hz hlk hA2 hzj hA3 h1 h2 h0 hkz hok;go_wp2_with fail;refine rgr [(0,true),(1,true),(2,true),(3,true),(4,true),(5,true),(6,true),(7,true),(8,true),(9,true),(10,true),(11,true),(12,true),(13,true),(14,true),(15,true),(16,true),(17,true),(18,true),(19,true),(20,true),(21,true),(22,true),(23,true),(24,true),(25,true),(26,true),(27,true),(28,true),(29,true),(30,true),(31,false),(32,true),(33,true),(34,true)] (h:= ?_);iterate 31 (first|(refine grr (v:= ?_) rfl (by rfl) ?_ ?_;rotate_left;(intro w' hw';go_simp;with_reducible rfl);simp only[Act.put,zs0,zs1,zs2])|(refine Xx (o:=⟨_,_,_,_,_,_⟩) rfl (by rfl) ?_;simp only[Act.put,zs0,zs1,zs2]))
    cases D with
    | false=>
     have hy:=zh (hno.out (.inr rfl));clear hno hyes r0 r1 r2;refine grc rfl (by rfl) (fun K hK=> ?_);go_simp;refine hless.out.mono ?_;rintro e w5 ⟨rfl,hb5⟩;refine hK _ _ hb5 ?_;clear hK K;have hB5:=zh (hBd.out.trans (hb5.mono hBd.out.size));clear hb5;iterate 3 (first|(refine grr (v:= ?_) rfl (by rfl) ?_ ?_;rotate_left;(intro w' hw';go_simp;with_reducible rfl);simp only[Act.put,zs0,zs1,zs2])|(refine Xx (o:=⟨_,_,_,_,_,_⟩) rfl (by rfl) ?_;simp only[Act.put,zs0,zs1,zs2]))
     refine Yq ?_;go_wp2_with fail;go_ret;exact⟨_,rfl,⟨(fun h=>by cases h),fun h=>absurd h hy.out⟩,hB5.out⟩
    | true=>
     have hy:=zh (hyes.out Hok.out rfl);clear hno hyes r0 r1 r2;refine grc rfl (by rfl) (fun K hK=> ?_);go_simp;refine hless.out.mono ?_;rintro e w5 ⟨rfl,hb5⟩;refine hK _ _ hb5 ?_;clear hK K;have hB5:=zh (hBd.out.trans (hb5.mono hBd.out.size));have hF5:=zh (hFd.out.ext hb5);clear hb5;iterate 3 (first|(refine grr (v:= ?_) rfl (by rfl) ?_ ?_;rotate_left;(intro w' hw';go_simp;with_reducible rfl);simp only[Act.put,zs0,zs1,zs2])|(refine Xx (o:=⟨_,_,_,_,_,_⟩) rfl (by rfl) ?_;simp only[Act.put,zs0,zs1,zs2]))
     refine Yq ?_;go_wp2_with fail
     go_roundw
     case rel=>exact⟨(j+1)+1,by go_num,by omega,hy,hF5,hB5⟩
     case measure=>simp[intOf];omega
  ·obtain rfl:k=n:=by omega
   have hkf:Hid (Pw ks):=by show Jq ks ks.length;rw[Hn.out.1];exact ht.out
   clear ht;go_wp2_with fail
   go_loopw [4,5] (fun i _ wx=>∃q:Nat,i=.int .i64 q∧q≤m∧Hid (Q7 is q)∧Hid (PB wx w.heap.size RFK (.slice a k c) (.slice b m d))∧Hid (zB w wx)) (fun i _ _=>m-(intOf i).toNat)
   case atStart=>exact⟨0,rfl,by omega,fun i hi=>by omega,hF,hB⟩
   case round=>
    clear hF hB f0 hb0 hpb;obtain⟨q,rfl,hq,ht,hF,hB⟩:=hrel;have f1:=hF.out.c1
    by_cases hqm:q<m
    ·obtain⟨g,o,rfl,hcell⟩:=Hs.out.2.below hB.out (zlr _) (by rw[Hn.out.2];omega);have hA:=hcell q (by rw[Hn.out.2];exact hqm);have hno:Hid (¬(2≤ia is q∧ia is q≤1023)∨¬Qj is q→¬Gy ks is):=fun h=>hpt.out.2.2.2.1 (jE (k:=q) (by rw[Hn.out.2];exact hqm) h)
     have hyes:Hid (2≤ia is q∧ia is q≤1023→Qj is q→Q7 is (q+1)):=fun h1 h2=>Cj ht.out h1 h2
     have hfr:Hid (Qj is q=∀j,j<q→ia is j≠ia is q):=rfl;generalize hx:ia is q=x at*;have Hx:=zh hx;clear hx hcell ht
     by_cases h1:x<2
     ·have hy:=zh (hno.out (.inl (by omega)));have d1:decide (x<2)=true:=zdt h1;clear hno hyes hfr h1;go_wp2_with fail;go_ret;exact⟨_,rfl,⟨(fun h=>by cases h),fun h=>absurd h hy.out⟩,hB.out⟩
     have d1:decide (x<2)=false:=zdf h1
     by_cases h2:1023<x
     ·have hy:=zh (hno.out (.inl (by omega)));have d2:decide (1023<x)=true:=zdt h2;clear hno hyes hfr h1 h2;go_wp2_with fail;go_ret;exact⟨_,rfl,⟨(fun h=>by cases h),fun h=>absurd h hy.out⟩,hB.out⟩
     have d2:decide (1023<x)=false:=zdf h2;have hyes2:Hid (Qj is q→Q7 is (q+1)):=hyes.out ⟨by omega,by omega⟩;clear h1 h2 hyes;go_wp2_with fail
     go_loopw [5] (fun i wy=>∃p:Nat,i=.int .i64 p∧p≤q∧Hid (∀j,j<p→ia is j≠x)∧Hid (PB wy w.heap.size RFK (.slice a k c) (.slice (some ⟨g,o,none⟩) m d))∧Hid (zB w wy)) (fun i _=>q-(intOf i).toNat)
     case atStart=>exact⟨0,rfl,by omega,fun i hi=>by omega,hF,hB⟩
     case round=>
      clear hF hB f1 hA d1 d2;obtain⟨p,rfl,hp,ht,hF,hB⟩:=hrel
      by_cases hpq:p<q
      ·obtain⟨g',o',e,hcell⟩:=Hs.out.2.below hB.out (zlr _) (by rw[Hn.out.2];omega)
       cases e
       have hA:=hcell q (by rw[Hn.out.2];exact hqm);have hA2:=hcell p (by rw[Hn.out.2];omega);rw[Hx.out] at hA;have r1:∀w',Ext wr.drew w'→w'.cell? ⟨w.heap.size,1,none⟩=some (.slice (some ⟨g,o,none⟩) m d):=fun w' hw=>(hF.out.extD hw).c1
       have r2:∀w',Ext wr.drew w'→w'.cell? ⟨g,o+q,none⟩=some (.int .i64 x):=fun w' hw=>by
        rw[((zbr wr.heap.size wr).drew.trans hw).cell (p:=⟨g,o+q,none⟩) (block_lt_of_cell hA)];exact hA
       have r3:∀w',Ext wr.drew w'→w'.cell? ⟨g,o+p,none⟩=some (.int .i64 (ia is p)):=fun w' hw=>by
        rw[((zbr wr.heap.size wr).drew.trans hw).cell (p:=⟨g,o+p,none⟩) (block_lt_of_cell hA2)];exact hA2
       have hstop:Hid (ia is p=x→¬Qj is q):=fun h hf=>by
        rw[hfr.out] at hf;exact hf p hpq h
       have hgo:Hid (ia is p≠x→∀j,j<p+1→ia is j≠x):=fun h j hj=>by
        rcases zng j p with h3|h3
        ·exact ht.out j h3
        ·obtain rfl:j=p:=by omega
         exact h
       have hBd:Hid (zB w wr.drew):=hB.out.drew;have hFd:Hid (PB wr.drew w.heap.size RFK (.slice a k c) (.slice (some ⟨g,o,none⟩) m d)):=hF.out.ext (zbr _ _).drew;have p1:(p:Int)<(m:Int):=by omega
       have p2:p<m:=by omega
       generalize ia is p=y at*;obtain⟨D,hD⟩:∃D,(y==x)=D:=⟨_,rfl⟩
       have HD:=zh hD;clear hcell hA hA2 hF hB ht;go_wp2_with fail;refine rgr [(0,true),(1,true),(2,true),(3,true),(4,true),(5,true),(6,true),(7,true),(8,true),(9,true),(10,true)] (h:= ?_);iterate 11 (refine grr (v:= ?_) rfl (by rfl) ?_ ?_;rotate_left;(intro w' hw';go_simp;with_reducible rfl);simp only[Act.put,zs0,zs1,zs2])
       refine Yq ?_;clear r1 r2 r3
       cases D with
       | true=>
        have hy:Hid (¬Gy ks is):=hno.out (.inr (hstop.out (by have:=HD.out;simpa using this)));clear hno hyes2 hgo hstop;go_wp2_with fail;go_ret;exact⟨_,rfl,⟨(fun h=>by cases h),fun h=>absurd h hy.out⟩,hBd.out⟩
       | false=>
        have hy:=zh (hgo.out (by have:=HD.out;simpa using this));clear hgo hstop;go_wp2_with fail
        go_roundw
        case rel=>exact⟨p+1,by go_num,by omega,hy,hFd,hBd⟩
        case measure=>simp[intOf];omega
      ·obtain rfl:p=q:=by omega
       have hy:Hid (Q7 is (p+1)):=hyes2.out (by rw[hfr.out];exact ht.out);clear hno hyes2 hfr ht;go_wp2_with fail
       go_roundw
       case rel=>exact⟨p+1,by go_num,by omega,hy,hF,hB⟩
       case measure=>simp[intOf];omega
    ·obtain rfl:q=m:=by omega
     have hpf:Hid (Cz is):=by show Q7 is is.length;rw[Hn.out.2];exact ht.out
     have f0:=hF.out.c0;clear ht
     by_cases h1:k<1
     ·have hy:=zh (hpt.out.1 h1);have d1:decide (1≤(k:Int))=false:=zdf (by omega);have d1':decide (1≤k)=false:=zdf (by omega);clear hpt h1;go_wp2_with fail;go_ret;exact⟨false,rfl,⟨(fun h=>by cases h),fun h=>absurd h hy.out⟩,hB.out⟩
     have d1:decide (1≤(k:Int))=true:=zdt (by omega);have d1':decide (1≤k)=true:=zdt (by omega);have i4:IntKind.i64.wrap ((k:Int)+1)=(k:Int)+1:=by rw[IntKind.wrap_i64];omega
     by_cases h2:q=k+1
     ·have hy:=zh (hpt.out.2.2.2.2 h1 h2 hkf.out hpf.out);have d2:((q:Int)==(k:Int)+1)=true:=by simp;omega
      clear hpt h1 h2;go_wp2_with fail;go_ret;exact⟨true,rfl,⟨fun _=>hy.out,fun _=>rfl⟩,hB.out⟩
     ·have hy:=zh (hpt.out.2.1 h2);have d2:((q:Int)==(k:Int)+1)=false:=by simp;omega
      clear hpt h1 h2;go_wp2_with fail;go_ret;exact⟨false,rfl,⟨(fun h=>by cases h),fun h=>absurd h hy.out⟩,hB.out⟩
end Go.Proofs.YtdgladhfibfdlaaGreatDoor
