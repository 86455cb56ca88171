/-
  Steps.
-/
import Derived.Test.YtdgladhfibfdlaaGreatDoorProg
import Derived.Test.YtdgladhfibfdlaaGreatDoorQPLs14
import Derived.Test.YtdgladhfibfdlaaGreatDoorRows
import Derived.Test.YtdgladhfibfdlaaGreatDoorQPLs02
import Derived.Lib.LaidTab
import Derived.LaidLaws
import Derived.LaidHandle
import Derived.ChangeBears2
import Derived.Test.YtdgladhfibfdlaaGreatDoorQPLs10
import Derived.ProofKit
import Derived.OpenShut
import Derived.Deep.Slices
import Derived.Deep.Grids
namespace Go.Proofs.YtdgladhfibfdlaaGreatDoor
open Go.RowKit
def vrow (l P:List Nat)(n:Nat):List Nat:=l++(P++List.replicate n 0)
theorem y6y (l P:List Nat)(n:Nat):(vrow l P n).length=l.length+(P.length+n):=by simp[vrow]
theorem y9c (l P:List Nat)(n x:Nat):(vrow l P (n+1)).set (l.length+P.length) x=vrow l (P++[x]) n:=by
 unfold vrow;rw[List.set_append_right _ _ (by omega),List.set_append_right _ _ (by omega),show l.length+P.length-l.length-P.length=0 by omega,List.replicate_succ,List.set_cons_zero,List.append_assoc];rfl
theorem or128 (V:Nat):bits .or .u8 ((V%256:Nat):Int) 128=((V%128+128:Nat):Int):=by
 rw[Lib.u8_or128_any _ (by omega) (by omega)];omega
set_option maxRecDepth 100000 in
theorem q20 (a:Option Addr)(c:Nat)(l:List Nat)(v:Nat)(w:World)(hl:l.length≤65536)(hv:v<18446744073709551616)(hsrc:Src w a l):
  Calls Tryz.prog 173 #[.slice a l.length c,.int .u64 v] w fun e w'=>e=.returned (.slice (some ⟨w.heap.size,0,none⟩) (l.length+vs v:Nat) (l.length+vs v:Nat))∧Row w' w.heap.size 5 (l++vb v)∧Below w.heap.size w w':=by
 have Hsrc:=zh hsrc;clear hsrc;have hsz:=z6q v w hv;have hs10:=z6a hv;obtain⟨s,hs⟩:∃s,s=vs v:=⟨_,rfl⟩
 rw[←hs] at hsz hs10⊢
 have HS:=zh hs;have HC:=zh hsz;clear hs hsz
 go_enter Tryz.func173,Tryz.ntmps173
 go_wp2_with fail;refine HC.out.mono ?_;rintro e w' ⟨rfl,rfl⟩
 go_wp2_with (first|(at_make;refine z1s rfl _ _ 48 rfl 5 Tryz.underlying48 y1i _ _ _ _ (l.length+s) rfl rfl (by omega) (by omega) (by omega) ?_;intro w1 hr1 hb1;have hs1':=zh (Hsrc.out.below hb1 (zlr _)))|(show wpList _ _ _ (⟨some 15,_,_,_,_,_⟩::_) _ _;refine z19 rfl (.tmp 13) (.tmp 14) 48 48 rfl 5 Tryz.underlying48 z55 w.heap.size 0 (l.length+s) (l.length+s) a c (List.replicate (l.length+s) 0) l (by rfl) (by rfl) hr1 hs1'.out (by simp) (by omega) w.heap.size w hb1 (zlr _) ?_;intro w2 hr2 hb2;clear hr1 hs1' hb1))
 have Hr2:Hid (Row w2 w.heap.size 5 (vrow l [] s)):=by
  have:=hr2.out;rw[z4v] at this;have e:l++List.drop l.length (List.replicate (l.length+s) 0)=vrow l [] s:=by
   unfold vrow;rw[List.drop_replicate,Nat.add_sub_cancel_left];rfl
  rw[e] at this;exact this
 clear hr2
 go_loopw [1,6] (fun Vv I wr=>∃(P:List Nat) (V p:Nat),p=P.length∧p+vs V=s∧V<18446744073709551616∧Hid (P++vb V=vb v)∧I=.int .i64 ((l.length:Int)+p)∧Vv=.int .u64 (V:Nat)∧Hid (Row wr w.heap.size 5 (vrow l P (vs V)))∧Hid (Below w.heap.size w wr)) (fun Vv _ _=>(intOf Vv).toNat)
 case atStart=>exact⟨[],v,0,rfl,by rw[HS.out];omega,hv,rfl,by simp,rfl,by rw[←HS.out];exact Hr2,hb2⟩
 case round=>
  obtain⟨P,V,p,hp,hps,hV,hPv,rfl,rfl,hrow,hbel⟩:=hrel;have hpos:=z30 V;have hcell:=hrow.out.cell (l.length+p) (by rw[y6y];omega);have hfr:=hrow.out.frozen (l.length+p);generalize (vrow l P (vs V)).getD (l.length+p) 0=C at*;obtain⟨M,hM⟩:∃M,M=V%256:=⟨_,rfl⟩
  have eM:(V:Int)%256=(M:Int):=by omega
  obtain⟨q,hq⟩:∃q,q=l.length+p:=⟨_,rfl⟩
  have eq':(l.length:Int)+(p:Int)=(q:Int):=by omega
  rw[←hq] at hcell hfr;have hq1:q<l.length+s:=by omega
  by_cases h128:128≤V
  ·have hor:=or128 V;rw[←hM] at hor;have hset:=hrow.out.set q (V%128+128);rw[z3s h128,hq,hp,y9c] at hset;obtain⟨X,hX⟩:∃X,X=V%128+128:=⟨_,rfl⟩
   obtain⟨D,hD⟩:∃D,D=V/128:=⟨_,rfl⟩
   have eD:(V:Int)/128=(D:Int):=by omega
   have hDV:D<V:=by omega
   have Hnext:Hid ((P++[X])++vb D=vb v):=by
    show _=_;rw[List.append_assoc,←hPv.out,z8y h128,hX,hD];rfl
   have hvs:Hid (vs V=vs D+1):=by show _=_;rw[z3s h128,hD]
   rw[←hX] at hor hset;rw[←hD,←hp,←hq] at hset;have Hset:=zh hset;have HX:=zh (zai hX (zai hD (zai hM (zai hq hp))));have hps':Hid (p+vs V=s):=hps;clear hset hX hD hM hrow hPv hps hp hq hpos;have hX8:X<256:=by have:=HX.out.1;omega
   go_wp2
   go_roundw
   case rel=>exact⟨P++[X],D,p+1,by rw[zla,←HX.out.2.2.2.2];rfl,by have:=hps'.out;have:=hvs.out;omega,by omega,Hnext,by rw[←eq'];exact congrArg (Value.int IntKind.i64) (by omega),rfl,Hset,hbel.out.setCell (zlr _) _⟩
   case measure=>simp[intOf];omega
  ·have hset:=hrow.out.set q V;rw[z1z (by omega),hq,hp,show(1:Nat)=0+1 from rfl,y9c] at hset;have hlast:vrow l (P++[V]) 0=l++vb v:=by
    unfold vrow;rw[←hPv.out,z3r (by omega)];simp
   rw[hlast,←hp,←hq] at hset;have Hset:=zh hset;have hMV:M=V:=by omega
   subst hMV;clear hset hM hrow hPv hps hp hq hpos hlast;go_wp2;go_ret;exact⟨rfl,Hset.out,hbel.out.setCell (zlr _) _⟩
end Go.Proofs.YtdgladhfibfdlaaGreatDoor
namespace Go.Proofs.YtdgladhfibfdlaaGreatDoor
open Go Go.RowKit
theorem z50 (a:Option Addr)(n c:Nat)(l:List Nat)(hn:l.length=n)(v:Nat)(w:World)(hs:Src w a l)(hl:n≤65536)(hv:v<18446744073709551616):
  Calls Tryz.prog 136 #[.slice a n c,.int .u64 v] w fun e w'=>∃v',e=.returned v'∧Sl w' v' (l++vb v)∧Below w.heap.size w w':=by
 subst hn;have h:=q20 a c l v w hl hv hs;have h10:=z6a hv;have hlen:(l++vb v).length=l.length+vs v:=by rw[zla];rfl
 have Hl:=zh hlen;clear hlen
 go_enter Tryz.func136,Tryz.ntmps136
 go_wp2_with fail;refine h.mono ?_;rintro e w' ⟨rfl,hr,hb⟩;have hs:=Sl.row hr (by rw[Hl.out];unfold maxLen;omega);rw[Hl.out] at hs;go_wp2;go_ret;exact⟨_,rfl,hs,hb⟩
end Go.Proofs.YtdgladhfibfdlaaGreatDoor
namespace Go.Proofs.YtdgladhfibfdlaaGreatDoor
open Go.RowKit
theorem x4p (l:List Nat)(j:Nat)(h:j<l.length):valR (l.drop j)=l.getD j 0%128+128*valR (l.drop (j+1)):=by
 rw[List.drop_eq_getElem_cons h,valR];simp[List.getD,h]
theorem y44 (l:List Nat)(j:Nat):valR (l.drop j)≤valR l:=by
 induction l generalizing j with
 | nil=>simp
 | cons x r ih=>
  cases j with
  | zero=>exact zlr _
  | succ j=>rw[List.drop_succ_cons,valR];have:=ih j;omega
def refV (l:List Nat):Value:=.tuple #[.int .u64 ((gt l).1:Nat),.int .i64 ((gt l).2.1:Nat),.int .i64 ((gt l).2.2:Nat)]
set_option maxRecDepth 100000 in
set_option maxHeartbeats 1000000 in
theorem y6z (a:Option Addr)(c:Nat)(l:List Nat)(w:World)(hb:B8 l)(hl:l.length≤9223372036854775807)(hsrc:Src w a l):
  Calls Tryz.prog 144 #[.slice a l.length c] w fun e w'=>e=.returned (refV l)∧w=w':=by
 have Hs:=zh hsrc;clear hsrc
 go_enter Tryz.func144,Tryz.ntmps144
 go_wp2
 go_loop [5] (fun i=>∃k:Nat,k≤l.length∧k≤10∧Hid (k≤lead l)∧i=.int .i64 k) (fun i=>l.length-(intOf i).toNat)
 case atStart=>exact⟨0,Nat.zero_le _,by omega,Nat.zero_le _,rfl⟩
 case round=>
  obtain⟨k,hk,hk10,hkl,rfl⟩:=hrel
  by_cases hlt:k<l.length
  ·obtain⟨b,o,rfl,hc⟩:=Hs.out (by omega);have hcell:=hc k hlt;have hx:=hb.get k;have Hc:=zh hc;clear hc;obtain⟨X,hX⟩:∃X,X=l.getD k 0:=⟨_,rfl⟩
   rw[←hX] at hcell hx;have HX:=zh hX;clear hX
   by_cases h10:k=10
   ·subst h10;have hg:Hid (gt l=(0,0,2)):=z8h (Nat.le_of_lt hkl.out) (by have:=z5p l 9 hkl.out;omega);go_wp2
    go_ret3
    exact⟨by unfold refV;rw[hg.out];rfl,rfl⟩
   have hk9:k≤9:=by omega
   clear hk10 h10
   by_cases hC:128≤X
   ·have hn:Hid (k+1≤lead l):=x20 hkl.out hlt (by rw[←HX.out];exact hC);go_wp2
    go_round
    case rel=>exact⟨k+1,by omega,by omega,hn,by go_num⟩
    case measure=>simp[intOf];omega
   ·by_cases hA:k=9∧1<X
    ·obtain⟨rfl,hX1⟩:=hA;have hg:Hid (gt l=(0,0,2)):=z8h hkl.out (by rw[←HX.out];exact hX1);go_wp2
     go_ret3
     exact⟨by unfold refV;rw[hg.out];rfl,rfl⟩
    ·have hB:(((k:Int)==9)=true∧decide (1<(X:Int))=false∧9<l.length∧w.cell? ⟨b,o+9,none⟩=some (.int .u8 X))∨((k:Int)==9)=false:=by
      rcases zng k 9 with h9|h9
      ·right;simp;omega
      ·left
       obtain rfl:k=9:=by omega
       exact⟨rfl,by simp;omega,by omega,hcell⟩
     have hX9:k=9→X≤1:=by omega
     by_cases hF:X=0∧0<k
     ·obtain⟨hX00,hk0⟩:=hF;have hg:Hid (gt l=(0,0,3)):=q1w hkl.out hlt hk9 (HX.out.symm.trans hX00) hk0;have hX0:((X:Int)==0)=true:=by simp;omega
      clear hX9 hX00 hA
      rcases hB with ⟨hB,hD,hE,hE9⟩|hB
      ·go_wp2
       all_goals (go_ret3;exact⟨by unfold refV;rw[hg.out];rfl,rfl⟩)
      ·go_wp2
       all_goals (go_ret3;exact⟨by unfold refV;rw[hg.out];rfl,rfl⟩)
     ·have hg:Hid (gt l=(valR (l.take (k+1)),k+1,0)):=x21 hkl.out hlt hk9 (by rw[←HX.out];omega) (by rw[←HX.out];exact hX9) (by rw[←HX.out];omega);have hv:Hid (valR (l.take (k+1))<18446744073709551616):=by have:=z80 l;rw[hg.out] at this;exact this
      have hZ:((X:Int)==0)=false∨k=0:=by
       rcases Nat.eq_zero_or_pos k with h0|h0
       ·exact .inr h0
       ·left;simp;omega
      have hlen:Hid ((l.take (k+1)).length=k+1):=by show _=_;rw[zlk];omega
      have hget:Hid (∀j,j<k+1→(l.take (k+1)).getD j 0=l.getD j 0):=fun j hj=>by simp[List.getD,hj]
      obtain⟨L,hL⟩:∃L,L=l.take (k+1):=⟨_,rfl⟩
      rw[←hL] at hlen hget hv;have HL:=zh hL;clear hX9 hF hL hA;have hfin:Hid (∀(V:Nat),V=valR (L.drop 0)→Value.tuple #[.int .u64 (V:Nat),.int .i64 ((k:Int)+1),.int .i64 0]=refV l):=fun V hV=>by
       unfold refV;rw[hg.out,hV,List.drop_zero,HL.out];rfl
      have loop:Hid (∀j,j<k+1→valR (L.drop j)=L.getD j 0%128+128*valR (L.drop (j+1))∧valR (L.drop j)<18446744073709551616∧w.cell? ⟨b,o+j,none⟩=some (.int .u8 ((L.getD j 0:Nat):Int))∧L.getD j 0<256):=fun j hj=>by
       refine⟨x4p L j (by rw[hlen.out];exact hj),Nat.lt_of_le_of_lt (y44 L j) hv.out,?_,?_⟩
       ·rw[hget.out j hj];exact Hc.out j (by omega)
       ·rw[hget.out j hj];exact hb.get j
      have h0:Hid (valR (L.drop (k+1))=0):=by show _=_;rw[List.drop_of_length_le (by rw[hlen.out];exact zlr _)];rfl
      have hcase:(((k:Int)==9)=true∧decide (1<(X:Int))=false∧9<l.length∧w.cell? ⟨b,o+9,none⟩=some (.int .u8 X)∧((X:Int)==0)=false∧0<k)∨(((k:Int)==9)=false∧((X:Int)==0)=false∧0<k)∨(((k:Int)==9)=false∧¬0<k):=by
       rcases hB with ⟨hB,hD,hE,hE9⟩|hB
       ·left
        have h9:(k:Int)=9:=by simpa using hB
        refine⟨hB,hD,hE,hE9,?_,by omega⟩
        rcases hZ with h|h
        ·exact h
        ·omega
       ·right
        by_cases h0:0<k
        ·left
         rcases hZ with h|h
         ·exact⟨hB,h,h0⟩
         ·omega
        ·exact .inr ⟨hB,h0⟩
      clear hB hZ
      rcases hcase with ⟨hB,hD,hE,hE9,hZ,hZ0⟩|⟨hB,hZ,hZ0⟩|⟨hB,hZ0⟩
      all_goals
       go_wp2
       go_loop [6,7] (fun V I=>∃(m:Nat) (i:Int),m≤k+1∧I=.int .i64 i∧i+1≤m∧(m:Int)≤i+1∧V=.int .u64 (valR (L.drop m):Nat)) (fun _ I=>(intOf I+1).toNat)
       case atStart=>exact⟨k+1,k,zlr _,rfl,by omega,by omega,by rw[h0.out];rfl⟩
       case round=>
        obtain⟨m,i,hm,rfl,hi1,hi2,rfl⟩:=hrel
        by_cases hm0:0<m
        ·obtain⟨j,rfl⟩:∃j,m=j+1:=⟨m-1,by omega⟩
         obtain rfl:i=(j:Int):=by omega
         obtain⟨q1,q2,q3,q4⟩:=loop.out j (by omega);have hjl:j<l.length:=by omega
         rw[q1] at q2;generalize L.getD j 0=A at*;generalize valR (L.drop (j+1))=V at*;obtain⟨Y,hY⟩:∃Y,Y=A%128:=⟨_,rfl⟩
         have eY:(A:Int)%128=(Y:Int):=by omega
         obtain⟨W,hW⟩:∃W,W=128*V:=⟨_,rfl⟩
         have eW:128*(V:Int)=(W:Int):=by omega
         have hWl:W<18446744073709551616:=by omega
         obtain⟨R,hR⟩:∃R,R=W+Y:=⟨_,rfl⟩
         have eR:(W:Int)+(Y:Int)=(R:Int):=by omega
         have hRl:R<18446744073709551616:=by omega
         have HR:=zh (show valR (L.drop j)=R by rw[q1];omega);clear q1 q2 hY hW hR;go_wp2
         go_round
         case rel=>exact⟨j,(j:Int)-1,by omega,rfl,by omega,by omega,by rw[HR.out]⟩
         case measure=>simp[intOf]
        ·obtain rfl:m=0:=by omega
         have hf:=hfin.out _ rfl;generalize valR (L.drop 0)=V at*;have Hf:=zh hf;clear hf;go_wp2
         go_ret3
         exact⟨by rw[←Hf.out];rfl,rfl⟩
  ·obtain rfl:k=l.length:=by omega
   by_cases h10:l.length=10
   ·obtain⟨b,o,rfl,hc⟩:=Hs.out (by omega);have hcell:=hc 9 (by omega);have hx:=hb.get 9;have hX1:=z5p l 9 (by have:=hkl.out;omega);have hg:Hid (gt l=(0,0,2)):=z8h (by have:=hkl.out;omega) (by omega);clear hc hX1;generalize l.getD 9 0=X at*;generalize l.length=n at*;subst h10;go_wp2
    go_ret3
    exact⟨by unfold refV;rw[hg.out];rfl,rfl⟩
   ·have hg:Hid (gt l=(0,0,6)):=q1v hkl.out rfl (by omega);have hlen:l.length≤9:=by omega
    clear h10 hk10 hk hlt;go_wp2
    all_goals (go_ret3;exact⟨by unfold refV;rw[hg.out];rfl,rfl⟩)
end Go.Proofs.YtdgladhfibfdlaaGreatDoor
namespace Go.Proofs.YtdgladhfibfdlaaGreatDoor
open Go Go.RowKit
def y0v (w:World)(b:Nat):Prop:=∀j x,w.cell? ⟨b,j,none⟩≠some (.int .u8 x)
theorem Cs.turn {w w':World}{g o b:Nat}{l:List Nat}(h:Cs w g o l)(t:Turn (fun i=>i=b) w w')(hn:y0v w b):Cs w' g o l:=fun i hi=>by
 have hc:=h i hi;have hne:g≠b:=fun e=>by subst e;exact hn _ _ hc
 rw[t.cell (p:=⟨g,o+i,none⟩) (block_lt_of_cell hc) hne];exact hc
theorem Sl.turn {w w':World}{b:Nat}{v:Value}{l:List Nat}(h:Sl w v l)(t:Turn (fun i=>i=b) w w')(hn:y0v w b):Sl w' v l:=by
 rcases h with h|⟨g,o,c,rfl,hc,h1,h2⟩
 ·exact .inl h
 ·exact .inr ⟨g,o,c,rfl,hc.turn t hn,h1,h2⟩
def RSB (w:World)(b:Nat)(T:TypeId)(v:Value)(x:Bool):Prop:=w.heap[b]? =some (.cells #[v,.bool x] T (0,0))
theorem RSB.c0 {w:World}{b:Nat}{T:TypeId}{v:Value}{x:Bool}(h:RSB w b T v x):w.cell? ⟨b,0,none⟩=some v:=by
 have h':w.heap[b]? =_:=h;simp[World.cell?,h']
theorem RSB.c1 {w:World}{b:Nat}{T:TypeId}{v:Value}{x:Bool}(h:RSB w b T v x):w.cell? ⟨b,1,none⟩=some (.bool x):=by
 have h':w.heap[b]? =_:=h;simp[World.cell?,h']
theorem RSB.fz {w:World}{b:Nat}{T:TypeId}{v:Value}{x:Bool}(h:RSB w b T v x)(j:Nat):w.frozen? ⟨b,j,none⟩=false:=by
 have h':w.heap[b]? =_:=h;simp[World.frozen?,h']
theorem RSB.lt {w:World}{b:Nat}{T:TypeId}{v:Value}{x:Bool}(h:RSB w b T v x):b<w.heap.size:=(zag.1 h).1
theorem RSB.noByte {w:World}{b:Nat}{T:TypeId}{a:Option Addr}{n c:Nat}{x:Bool}(h:RSB w b T (.slice a n c) x):y0v w b:=fun j y hj=>by
 have h':w.heap[b]? =_:=h;simp only[World.cell?,h'] at hj
 rcases j with _|_|j<;>simp at hj
theorem RSB.set0 {w:World}{b:Nat}{T:TypeId}{v:Value}{x:Bool}(h:RSB w b T v x)(u:Value):RSB (w.setCell ⟨b,0,none⟩ u) b T u x:=heap_setCell_same w b 0 _ _ _ h
theorem RSB.set1 {w:World}{b:Nat}{T:TypeId}{v:Value}{x:Bool}(h:RSB w b T v x)(y:Bool):RSB (w.setCell ⟨b,1,none⟩ (.bool y)) b T v y:=heap_setCell_same w b 1 _ _ _ h
theorem RSB.new (w:World)(T:TypeId)(v:Value)(x:Bool):RSB (w.alloc (.cells #[v,.bool x] T)) w.heap.size T v x:=by
 show(w.heap.push _)[w.heap.size]? =_;rw[Array.getElem?_push_size]
theorem RSB.below {w w':World}{b B:Nat}{T:TypeId}{v:Value}{x:Bool}(h:RSB w b T v x)(hb:Below B w w')(hB:b<B):RSB w' b T v x:=(hb.block b hB).trans h
theorem RSB.turn {w w':World}{b:Nat}{F:Nat→Prop}{T:TypeId}{v:Value}{x:Bool}(h:RSB w b T v x)(t:Turn F w w')(hF:¬F b):RSB w' b T v x:=t.hg h hF
theorem z3k (w:World)(b j:Nat)(u:Value):Turn (fun i=>i=b) w (w.setCell ⟨b,j,none⟩ u):=Turn.setCell (p:=⟨b,j,none⟩) (Turn.refl _ w) u (fun _=>rfl)
theorem z0u (w:World)(b:Nat)(u v:Value):Turn (fun i=>i=b) w ((w.setCell ⟨b,0,none⟩ u).setCell ⟨b,1,none⟩ v):=Turn.setCell (p:=⟨b,1,none⟩) (z3k w b 0 u) v (fun _=>rfl)
end Go.Proofs.YtdgladhfibfdlaaGreatDoor
namespace Go.Proofs.YtdgladhfibfdlaaGreatDoor
open Go.RowKit
theorem q21:ownKnob Tryz.prog.godebug=none:=by kernel_rfl
theorem q44 : Tryz.prog.globalNamed "errors.errorType" = some 0 := by kernel_rfl
theorem q45 : (Tryz.prog.cutTypes.find? (·.1 == "internal/reflectlite.rtype")).map (·.2) = some 193 := by kernel_rfl
theorem q23:((List.range 340).filter fun t=>Tryz.prog.rowNamed t [101,114,114,111,114])=[38]:=by kernel_rfl
theorem x8c:Tryz.prog.types.size=340:=by kernel_rfl
abbrev z3t {H : Type} : List (String × DataW H) := [("math/bits.deBruijn64tab", Rows.laid_math_bits_deBruijn64tab), ("errors.errorType", Rows.laid_errors_errorType), ("warren/crc.worth", Rows.laid_warren_crc_worth)]
theorem z7h {W : World} (h : laidMetH Tryz.prog z3t W) : laidMet Tryz.prog [("math/bits.deBruijn64tab", Rows.laid_math_bits_deBruijn64tab), ("warren/crc.worth", Rows.laid_warren_crc_worth)] W ∧ handlesMet Tryz.prog [("errors.errorType", Rows.laid_errors_errorType)] W := h
theorem x0z {W:World}(h:laidMetH Tryz.prog z3t W):Hg W:=by
 obtain⟨name,u,ty,e1,e2,e3,e4,e5⟩:=(z7h h).2 _ (List.mem_singleton.2 rfl);have en:name=[101,114,114,111,114]:=(Option.some.inj e1).symm;subst en;obtain rfl:=Option.some.inj (q45.symm.trans e2);have hm:ty∈(List.range 340).filter fun t=>Tryz.prog.rowNamed t [101,114,114,111,114]:=List.mem_filter.2 ⟨List.mem_range.2 (by rw[←x8c];exact e3),e4⟩
 rw[q23] at hm;obtain rfl:=List.mem_singleton.1 hm;have hh:typeHandle Tryz.prog 38=.pointer (some ⟨3,38,none⟩):=by kernel_rfl
 rw[hh] at e5;have:=World.var?_cell q44 e5 0;unfold Hg
 simpa using this
theorem y45 {P:Program}{x:String×DataW Unit}{r:List (String×DataW Unit)}{W:World}(h:laidMet P (x::r) W):laidMet P r W:=by
 obtain⟨ps,⟨g,t,cs,fuel,p,q,_,_,_,_,hr,rfl⟩,hn,hc⟩:=h;exact⟨q,hr,(List.nodup_append.1 hn).2.1,fun b off hm=>hc b off (List.mem_append_right _ hm)⟩
theorem x4q:(z4w.map fun n:Nat=>(n:Int))=[0,274646895,549293790,820201905,1098587580,1361435347,1640403810,1905808397,2197175160,2460548119,2722870694,2987750089,3280807620,3553878443,3811616794,4084100981]:=by decide+kernel
theorem y60 {H:Type}:(Rows.laid_warren_crc_worth:DataW H)=Lib.tabData .u32 (z4w.map fun n:Nat=>(n:Int)):=by rw[x4q];rfl
theorem y2n {W:World}(h:laidMetH Tryz.prog z3t W):z1m W:=by
 have h1:=y45 (z7h h).1;rw[y60] at h1;have ht:=Lib.tabIs_of_head (P:=Tryz.prog) (g:=2) (t:=312) (e:=81) (n:=16) (by kernel_rfl) (by kernel_rfl) Tryz.underlying312 Tryz.underlying81 (by kernel_rfl) (by kernel_rfl) h1;intro j hj;have:=ht.cell (g:=2) (by kernel_rfl) j (by simpa [z4w] using hj);rw[this]
 congr 2
 have hj':j<z4w.length:=by simpa [z4w] using hj
 simp[List.getD,hj']
theorem x4r {H:Type}:(Rows.laid_math_bits_deBruijn64tab:DataW H)=Lib.tabData .u8 (Lib.deBruijn64tab.map fun n:Nat=>(n:Int)):=rfl
theorem y61 {W:World}(h:laidMetH Tryz.prog z3t W):z58 W:=by
 have h1:=(z7h h).1;rw[x4r] at h1;have ht:=Lib.tabIs_of_head (P:=Tryz.prog) (g:=1) (t:=268) (e:=5) (n:=64) (by kernel_rfl) (by kernel_rfl) Tryz.underlying268 Tryz.underlying5 (by kernel_rfl) (by kernel_rfl) h1;intro j hj;have:=ht.cell (g:=1) (by kernel_rfl) j (by simpa using hj);rw[this]
 congr 2
 simp[List.getD,hj]
noncomputable def y46 (os:Os):World:=
 let w0:=World.holding Tryz.prog os ⟨#[],#[],[]⟩
 {w0 with heap:=((w0.heap.modify 0 fun
   | .cells _ t frozen=> .cells #[.iface 193 (.agg #[.pointer (some ⟨3,38,none⟩)])] t frozen
   | o=>o).modify 1 fun
   | .cells _ t frozen=> .cells (Lib.deBruijn64tab.map fun n:Nat=>Value.int .u8 (n:Int)).toArray t frozen
   | o=>o).modify 2 fun
   | .cells _ t frozen=> .cells (z4w.map fun n:Nat=>Value.int .u32 (n:Int)).toArray t frozen
   | o=>o}
theorem y2o (os:Os)(args:Array Value):laidMetH Tryz.prog z3t ((y46 os).forCall (fun _ _=>0) ⟨#[],args,[]⟩).memory:=
 laidMetH_of_parts (laidMet_of_run' 8 (by kernel_rfl) (by kernel_rfl)) (by kernel_rfl)
end Go.Proofs.YtdgladhfibfdlaaGreatDoor
namespace Go.Proofs.YtdgladhfibfdlaaGreatDoor
open Go Go.RowKit
abbrev ZT:TypeId:=3
abbrev SZT:TypeId:=101
theorem x4s (w:World)(T:TypeId)(y:Int):(w.alloc (.cells #[.int .i64 y] T)).cell? ⟨w.heap.size,0,none⟩=some (.int .i64 y):=by simp
theorem z58.below {w w':World}(h:z58 w)(hb:Below w.heap.size w w'):z58 w':=fun j hj=>by
 have hc:=h j hj;have hlt:1<w.heap.size:=by
  rcases zng 1 w.heap.size with h1|h1
  ·exact h1
  ·simp[World.cell?,Array.getElem?_eq_none h1] at hc
 rw[hb.cell (p:=⟨1,j,none⟩) hlt];exact hc
def eI (f:Nat→Bool)(k:Nat):List Int:=(els f k).map (fun n:Nat=>(n:Int))
theorem q0l (f:Nat→Bool)(k:Nat):(eI f k).length=cnt f k:=by rw[eI,List.length_map,z65]
theorem eI_ia (f:Nat→Bool)(i:Nat)(h:i<cnt f 1024):ia (eI f 1024) i=(el f i:Int):=by
 obtain⟨h1,_⟩:=x2j f i h;rw[ia,List.getD_eq_getElem?_getD,eI,List.getElem?_map,h1];rfl
section
variable {P:Program} {w:World} {ops:Array Oper} {rest:List Oper} {o:Oper} {a:Act} {Q:Exit→Act→World→Prop}
theorem z8f (hg:o.guard=none)(l c:Operand)(t:TypeId)(hop:o.op=Op.makeSlice t l c)
  (h1:P.underlying t=some (.slice ZT)) (h2:(P.info? ZT).map (fun i=>(i.zero,i.size,i.bytes))=some (some (.int .i64 0),1,8))
  (kl kc:IntKind) (n:Nat) (hl:a.eval l=.int kl 0) (hc:a.eval c=.int kc n) (b:n≤1024) (B:Nat) (hB:B≤w.heap.size)
  (hK:∀v w',w'.ownsRow B ZT 1 v ([]:List Int).length (iv [])→Below w.heap.size w w'→wpList P ops Q rest (a.put o.dst v) w'):
  wpList P ops Q (o::rest) a w:=by
 obtain⟨i0,hi,hz0,hz1,hz2⟩:=info_parts h2;refine wpList_make_own w hg l c t hop B ZT i0 (.int .i64 0) 1 h1 hi hz0 hz1 kl kc n n hl hc rfl (by rw[hz2];omega) (by unfold maxLen;omega) hB ?_;intro w1 hown hgrow;exact hK _ w1 hown ((zbr w.heap.size w).grown hgrow (zlr _) (by intro k hk;cases hk))
end
set_option maxRecDepth 100000 in
theorem x8d (f:Nat→Bool)(w:World)(hT:z58 w):Calls Tryz.prog 71 #[.agg (sc f)] w fun e w'=>∃v,e=.returned v∧w'.ownsRow w.heap.size ZT 1 v (eI f 1024).length (iv (eI f 1024))∧Below w.heap.size w w':=by
 have HT:=zh hT;clear hT
 go_enter Tryz.func71,Tryz.ntmps71
 go_wp2_with (first
  | (refine z0e rfl TS (.tmp 0) rfl (sc f) (by rfl) ?_;intro g1 w1 hg1 hk1 hb1)
  | (refine wpList_load_sc rfl TS (.tmp 1) rfl g1 f TS (by rfl) arr_TS hk1 ?_))
 refine(z48 f w1).mono ?_;rintro e w2 ⟨rfl,hb2⟩;have hk2:=hk1.ext hb2;have Hb2:Hid (Below w.heap.size w w2):=hb1.trans (hb2.mono hb1.size);have hc4:cnt f 1024≤1024:=y79 f 1024;have Hg:Hid (w.heap.size≤g1):=hg1;clear hb1 hb2 hk1 hg1;generalize cnt f 1024=C at*
 go_wp2_with (first
  | (show wpList _ _ _ (⟨some 8,_,_,_,_,_⟩::_) _ _;refine z8f rfl _ _ SZT rfl Tryz.underlying101 z81 .i64 .i64 C rfl rfl hc4 w.heap.size Hb2.out.size ?_;intro v3 w3 ho3 hb3)
  | (show wpList _ _ _ (⟨some 9,_,_,_,_,_⟩::_) _ _;refine wpList_load_sc rfl TS (.tmp 1) rfl g1 f TS (by rfl) arr_TS (hk2.ext hb3) ?_))
 have Hb3:Hid (Below w.heap.size w w3):=Hb2.out.trans (hb3.mono Hb2.out.size);have Ho3:=zh ho3;clear Hb2 hb3 ho3 hk2 hc4
 go_loopw [3,4,5,10] (fun lv _ _ i wr=>∃(k:Nat) (v:Value),v=lv∧i=.int .i64 k∧k≤16∧Hid (wr.ownsRow w.heap.size ZT 1 v (eI f (64*k)).length (iv (eI f (64*k))))∧Hid (Below w.heap.size w wr)) (fun _ _ _ i _=>16-(intOf i).toNat)
 case atStart=>exact⟨0,v3,rfl,rfl,by omega,Ho3,Hb3⟩
 case round=>
  obtain⟨k,v,rfl,rfl,hk,hown,hB⟩:=hrel;obtain⟨W0,hW0⟩:∃W0,W0=wr:=⟨_,rfl⟩
  subst hW0
  by_cases hlt:k<16
  ·have hlt2:(k:Int)<16:=by omega
   obtain⟨A,hA⟩:∃A,64*k=A:=⟨_,rfl⟩
   have q1:IntKind.i64.wrap ((k:Int)*64)=(A:Int):=by rw[IntKind.wrap_i64];omega
   have HA:=zh hA;have Hw0:=zh (q1f f k)
   go_wp2_with (first|(refine z4x rfl (.tmp 9) (.tmp 10) rfl f k (by rfl) (by rfl) hlt ?_))
   rw[←Hw0.out]
   go_loopw [3,5] (fun lv x wx=>∃(j:Nat) (v2:Value),v2=lv∧x=.int .u64 (wh f k j:Nat)∧j≤64∧Hid (wx.ownsRow w.heap.size ZT 1 v2 (eI f (64*k+j)).length (iv (eI f (64*k+j))))∧Hid (Below w.heap.size w wx)) (fun _ x _=>(intOf x).toNat)
   case atStart=>exact⟨0,v,rfl,rfl,by omega,hown,hB⟩
   case round=>
    obtain⟨j,v2,rfl,rfl,hj,hown2,hB2⟩:=hrel
    by_cases h0:wh f k j=0
    ·have hd:=q1g hj h0;have ho3:Hid (wr.ownsRow w.heap.size ZT 1 v2 (eI f (64*(k+1))).length (iv (eI f (64*(k+1))))):=by
      have:=hown2.out;rw[eI,hd] at this;exact this
     rw[h0];clear hown2 hd h0;go_wp2
     go_roundw
     case rel=>exact⟨k+1,v2,rfl,by go_num,by omega,ho3,hB2⟩
     case measure=>simp[intOf];omega
    ·obtain⟨t,ht,hjt,h64,hft,hels,hnext⟩:=q1h (f:=f) (k:=k) (j:=j) (by omega);have hlt3:=q37 f k j;have hlow:=x0b (wh f k j) wr (by omega) hlt3 (HT.out.below (hB2.out.mono (by exact zlr _)));rw[ht] at hlow;have hdec:wh f k (t+1)<wh f k j:=by
      rw[←hnext];have:=Nat.and_le_right (n:=wh f k j) (m:=wh f k j-1);omega
     have hand:bits .and .u64 (wh f k j:Nat) ((wh f k j-1:Nat):Int)=(wh f k (t+1):Nat):=by
      rw[u64_and_nat _ _ hlt3 (by omega),hnext]
     have hsub:IntKind.u64.wrap ((wh f k j:Nat)-1)=((wh f k j-1:Nat):Int):=by rw[IntKind.wrap_u64];omega
     have hne:(((wh f k j:Nat):Int)==0)=false:=by rw[beq_eq_false_iff_ne];omega
     have hln:Hid ((eI f (64*k+j)).length≤2048):=by
      show _≤_;rw[q0l];have:=y79 f (64*k+j);omega
     have hstep:Hid (eI f (64*k+j)++[((64*k+t:Nat):Int)]=eI f (64*k+(t+1))):=by
      show _=_;rw[eI,eI,hels,List.map_append];rfl
     obtain⟨Z,hZ⟩:∃Z,64*k+t=Z:=⟨_,rfl⟩
     have q2:IntKind.i64.wrap ((A:Int)+(t:Int))=(Z:Int):=by rw[IntKind.wrap_i64];have:=HA.out;omega
     rw[hZ] at hstep;obtain⟨V2,hV2⟩:∃V2,wh f k (t+1)=V2:=⟨_,rfl⟩
     rw[hV2] at hdec hand;have HV2:=zh hV2;generalize wh f k j-1=V1 at*;generalize wh f k j=V0 at*;have HL:=zh hlow;have Hdec:=zh hdec;have Ht:=zh h64;have hsz:=hB2.out.size;have hnew:=zh (x4s wr ZT (Z:Int));clear hZ hels hnext hft ht hjt hlow hdec h64 hV2 h0 hA hown;go_wp2_with fail;refine HL.out.mono ?_;rintro e w' ⟨rfl,rfl⟩
     go_wp2_with (at_builtin;refine z2p rfl (.tmp 16) (.tmp 22) SZT rfl w.heap.size ZT Tryz.underlying101 z81 _ (eI f (64*k+j)) (by rfl) (hown2.out.alloc _) wr.heap.size 1 (Z:Int) (by rfl) hnew.out (by have:=hln.out;omega) (by simp;omega) ?_;intro v4 w4 hown4 hgrow4)
     have hb4:Hid (Below w.heap.size w w4):=(hB2.out.alloc hsz _).grown hgrow4.out (by simp;omega) (fun j hj=>(hown2.out.lt j hj).1);have ho4:Hid (w4.ownsRow w.heap.size ZT 1 v4 (eI f (64*k+(t+1))).length (iv (eI f (64*k+(t+1))))):=by rw[←hstep.out];exact hown4
     clear hown4 hgrow4 hown2 hB2 hstep;go_wp2
     go_roundw
     case rel=>exact⟨t+1,v4,rfl,by rw[HV2.out],by have:=Ht.out;omega,ho4,hb4⟩
     case measure=>simp[intOf];exact Hdec.out
  ·obtain rfl:k=16:=by omega
   go_wp2;go_ret;exact⟨_,rfl,hown.out,hB.out⟩
end Go.Proofs.YtdgladhfibfdlaaGreatDoor
namespace Go.Proofs.YtdgladhfibfdlaaGreatDoor
open Go.ChangeShapes Go.WideShapes Go.RowKit Go.Deep
theorem x4t:laidOutB Tryz.prog=true:=by kernel_rfl
theorem q24:Tryz.prog.cellsOf 24=1:=by kernel_rfl
theorem x4u:Tryz.prog.cellsOf 25=16:=by kernel_rfl
theorem x8e (l:List Value)(h:l.length=16)(hx:∀i,i<16→∃n:Nat,l[i]? =some (.int .u64 n)∧n<18446744073709551616):∃ws:List Nat,l=ws.map (fun n:Nat=>Value.int .u64 n)∧ws.length=16∧∀n∈ws,n<18446744073709551616:=by
 refine⟨l.map (fun v=>match v with| .int _ x=>x.toNat|_=>0),?_,by rw[List.length_map,h],?_⟩
 ·apply List.ext_getElem?;intro i
  by_cases hi:i<16
  ·obtain⟨n,h1,_⟩:=hx i hi;rw[List.getElem?_map,List.getElem?_map,h1]
   rfl
  ·rw[List.getElem?_eq_none (by omega),List.getElem?_eq_none (by rw[List.length_map,List.length_map];omega)]
 ·intro n hn;rw[List.mem_map] at hn;obtain⟨v,hv,rfl⟩:=hn;obtain⟨i,hi,rfl⟩:=List.getElem_of_mem hv;obtain⟨n,h1,h2⟩:=hx i (by omega);rw[List.getElem?_eq_getElem hi] at h1;rw[Option.some.inj h1];exact h2
set_option maxRecDepth 100000 in
theorem x00 {H:Type}{enc:TypeId×Value→H}{W:World}{base:Nat}{v:Value}{d:DataW H}{p:List MemPlace}
  (hok:Value.okWide Tryz.prog W .any base 25 v) (hj:DataW.Trod enc Tryz.prog W 0 (fun _=>true) true 25 v d p):
  ∃f:Nat→Bool,v=.agg (sc f):=by
 simp only[Value.okWide,Tryz.underlying25] at hok;obtain⟨cs,rfl,hsz,_⟩:=hok;rw[x4u] at hsz;obtain⟨fuel,hf⟩:=hj;have hlen:cs.toList.length=16:=by simpa using hsz
 have hcs:(Value.agg cs).cells.toList=cs.toList:=rfl;rw[hcs] at hf;obtain⟨l,hl⟩:∃l,cs.toList=l:=⟨_,rfl⟩
 rw[hl] at hf hlen;obtain⟨xs,m,_,_,_,hxl,hx⟩:=DataW.trod_array Tryz.underlying25 hf;obtain⟨ws,e1,e2,e3⟩:=x8e l hlen (fun i hi=>by
  have h0:=hx i (by omega);rw[q24] at h0;rw[List.getElem?_eq_getElem (by omega)] at h0;obtain⟨a,ha,_,wa⟩:=DataW.trod_int Tryz.underlying24 h0;have ba:=bounds_u64 wa;rw[Nat.mul_one,List.drop_eq_getElem_cons (by omega)] at ha;simp only[List.take_succ_cons,List.take_zero,List.cons.injEq,and_true] at ha;refine⟨a.toNat,?_,by omega⟩;rw[List.getElem?_eq_getElem (by omega),ha]
  congr 2
  omega)
 have h:=q1b e2 e3;rw[←e1,←hl,Array.toArray_toList] at h;exact⟨_,congrArg Value.agg h⟩
end Go.Proofs.YtdgladhfibfdlaaGreatDoor
namespace Go.Proofs.YtdgladhfibfdlaaGreatDoor
open Go Go.RowKit
theorem x4v {α:Type}(E:Elt α)(w:World)(T:TypeId):(w.alloc (.cells #[] T)).ownsRow w.heap.size T E.sz (.slice (some ⟨w.heap.size,0,none⟩) 0 0) 0 (E.row []):=by
 refine⟨by simp[Elt.row],.inr ⟨w.heap.size,0,#[],rfl,zlr _,?_,zlr _,by unfold maxLen;omega,by simp,by simp[Elt.row]⟩⟩;show(w.heap.push _)[w.heap.size]? =_;rw[Array.getElem?_push_size]
set_option maxRecDepth 100000 in
theorem x01 (v:Value)(l:List ByteArray)(w:World)(hv:EV strE w v l)(hl:l.length≤1000000):
  Calls Tryz.prog 103 #[v] w fun e w'=>∃u,e=.returned u∧w'.ownsRow w.heap.size 9 (strE).sz u l.length ((strE).row l)∧Below w.heap.size w w':=by
 obtain⟨a,c,rfl,hs,hz,hc,hm⟩:=hv;have q22:∀(w:World) (a:Option Addr) (n c n' c':Nat),(binOp .eql 92 (.slice a n c) (.slice none n' c')).run Tryz.prog w=.ok (.bool a.isNone) w:=fun w a n c n' c'=>Lib.run_eql_slice_nil w _ _ a n c n' c' Tryz.underlying92
 cases a with
 | none=>
  obtain rfl:l=[]:=by
   rcases hs with ⟨_,h⟩|⟨g,o,h,_⟩
   ·exact h
   ·cases h
  have hcz:=hz rfl;clear hs hz hc hm
  go_enter Tryz.func103,Tryz.ntmps103
  go_wp2;go_ret;exact⟨_,rfl,World.ownsRow_nil _ _ _ _,zbr _ _⟩
 | some ad=>
  have hb1:Below w.heap.size w (w.alloc (.cells #[] 9)):=(zbr _ _).alloc (zlr _) _;obtain⟨v1,w1,hrun,hb2,ho⟩:=z1e (P:=Tryz.prog) (w:=w.alloc (.cells #[] 9)) (E:=strE) w.heap.size 92 92 9 Tryz.underlying92 y4y _ 0 [] (x4v strE w 9) hb1.size (some ad) l.length c l rfl hz (hs.below hb1 (zlr _)) (by unfold maxLen;omega) (by show _*16≤_;omega);rw[List.nil_append,Nat.zero_add] at ho;have Ho:=zh ho;have HB:=zh (hb1.trans hb2);obtain⟨n,hn⟩:∃n,l.length=n:=⟨_,rfl⟩
  rw[hn] at hrun Ho⊢
  clear hs hz hc hm hb1 hb2 ho hn hl
  go_enter Tryz.func103,Tryz.ntmps103
  go_wp2_with (at_builtin;refine Lib.wpList_append_run _ rfl (.tmp 5) (.tmp 6) _ _ rfl _ _ (by rfl) (by rfl) _ _ hrun ?_)
  go_ret;exact⟨_,rfl,Ho.out,HB.out⟩
theorem y0w (v:Value)(l:List ByteArray)(w:World)(hv:EV strE w v l)(hl:l.length≤1000000):
  Calls Tryz.prog 103 #[v] w fun e w'=>∃u,e=.returned u∧EV strE w' u l∧Below w.heap.size w w':=by
 refine(x01 v l w hv hl).mono ?_;rintro e w' ⟨u,rfl,ho,hb⟩;exact⟨u,rfl,z13 ho,hb⟩
set_option maxRecDepth 100000 in
theorem x02 (v:Value)(l:List Rw)(w:World)(hv:EV celE w v l)(hl:l.length≤1000000):
  Calls Tryz.prog 125 #[v] w fun e w'=>∃u,e=.returned u∧w'.ownsRow w.heap.size 128 (celE).sz u l.length ((celE).row l)∧Below w.heap.size w w':=by
 obtain⟨a,c,rfl,hs,hz,hc,hm⟩:=hv;have q22:∀(w:World) (a:Option Addr) (n c n' c':Nat),(binOp .eql 91 (.slice a n c) (.slice none n' c')).run Tryz.prog w=.ok (.bool a.isNone) w:=fun w a n c n' c'=>Lib.run_eql_slice_nil w _ _ a n c n' c' Tryz.underlying91
 cases a with
 | none=>
  obtain rfl:l=[]:=by
   rcases hs with ⟨_,h⟩|⟨g,o,h,_⟩
   ·exact h
   ·cases h
  have hcz:=hz rfl;clear hs hz hc hm
  go_enter Tryz.func125,Tryz.ntmps125
  go_wp2;go_ret;exact⟨_,rfl,World.ownsRow_nil _ _ _ _,zbr _ _⟩
 | some ad=>
  have hb1:Below w.heap.size w (w.alloc (.cells #[] 128)):=(zbr _ _).alloc (zlr _) _;obtain⟨v1,w1,hrun,hb2,ho⟩:=z1e (P:=Tryz.prog) (w:=w.alloc (.cells #[] 128)) (E:=celE) w.heap.size 91 91 128 Tryz.underlying91 y4w _ 0 [] (x4v celE w 128) hb1.size (some ad) l.length c l rfl hz (hs.below hb1 (zlr _)) (by unfold maxLen;omega) (by show _*56≤_;omega);rw[List.nil_append,Nat.zero_add] at ho;have Ho:=zh ho;have HB:=zh (hb1.trans hb2);obtain⟨n,hn⟩:∃n,l.length=n:=⟨_,rfl⟩
  rw[hn] at hrun Ho⊢
  clear hs hz hc hm hb1 hb2 ho hn hl
  go_enter Tryz.func125,Tryz.ntmps125
  go_wp2_with (at_builtin;refine Lib.wpList_append_run _ rfl (.tmp 5) (.tmp 6) _ _ rfl _ _ (by rfl) (by rfl) _ _ hrun ?_)
  go_ret;exact⟨_,rfl,Ho.out,HB.out⟩
set_option maxRecDepth 100000 in
theorem x03 (v:Value)(l:List Nat)(w:World)(hv:EV pgE w v l)(hl:l.length≤1000000):
  Calls Tryz.prog 126 #[v] w fun e w'=>∃u,e=.returned u∧w'.ownsRow w.heap.size 3 (pgE).sz u l.length ((pgE).row l)∧Below w.heap.size w w':=by
 obtain⟨a,c,rfl,hs,hz,hc,hm⟩:=hv;have q22:∀(w:World) (a:Option Addr) (n c n' c':Nat),(binOp .eql 101 (.slice a n c) (.slice none n' c')).run Tryz.prog w=.ok (.bool a.isNone) w:=fun w a n c n' c'=>Lib.run_eql_slice_nil w _ _ a n c n' c' Tryz.underlying101
 cases a with
 | none=>
  obtain rfl:l=[]:=by
   rcases hs with ⟨_,h⟩|⟨g,o,h,_⟩
   ·exact h
   ·cases h
  have hcz:=hz rfl;clear hs hz hc hm
  go_enter Tryz.func126,Tryz.ntmps126
  go_wp2;go_ret;exact⟨_,rfl,World.ownsRow_nil _ _ _ _,zbr _ _⟩
 | some ad=>
  have hb1:Below w.heap.size w (w.alloc (.cells #[] 3)):=(zbr _ _).alloc (zlr _) _;obtain⟨v1,w1,hrun,hb2,ho⟩:=z1e (P:=Tryz.prog) (w:=w.alloc (.cells #[] 3)) (E:=pgE) w.heap.size 101 101 3 Tryz.underlying101 y4x _ 0 [] (x4v pgE w 3) hb1.size (some ad) l.length c l rfl hz (hs.below hb1 (zlr _)) (by unfold maxLen;omega) (by show _*8≤_;omega);rw[List.nil_append,Nat.zero_add] at ho;have Ho:=zh ho;have HB:=zh (hb1.trans hb2);obtain⟨n,hn⟩:∃n,l.length=n:=⟨_,rfl⟩
  rw[hn] at hrun Ho⊢
  clear hs hz hc hm hb1 hb2 ho hn hl
  go_enter Tryz.func126,Tryz.ntmps126
  go_wp2_with (at_builtin;refine Lib.wpList_append_run _ rfl (.tmp 5) (.tmp 6) _ _ rfl _ _ (by rfl) (by rfl) _ _ hrun ?_)
  go_ret;exact⟨_,rfl,Ho.out,HB.out⟩
end Go.Proofs.YtdgladhfibfdlaaGreatDoor
