/-
  Steps.
-/
import Derived.Test.YtdnfhjfbanhhcaaGreatDoorQLBk02
import Derived.Test.YtdnfhjfbanhhcaaGreatDoorProg
import Derived.Test.YtdnfhjfbanhhcaaGreatDoorQLBk09
namespace Go.Proofs.YtdnfhjfbanhhcaaGreatDoor
open Go Go.RowKit
theorem y0w (p:Int)(w:World):Calls Tryz.prog 191 #[.int .i64 p] w fun e w'=>e=.returned (.bool (okI p))∧w=w':=by
 unfold okI
 by_cases h2:0≤p
 ·have e2:decide (0≤p)=true:=zdt h2
  by_cases h3:p≤1024
  ·have e3:decide (p≤1024)=true:=zdt h3;rw[e2,e3]
   go_enter Tryz.func191,Tryz.ntmps191
   go_wp2;go_ret;exact⟨rfl,rfl⟩
  ·have e3:decide (p≤1024)=false:=zdf h3;rw[e2,e3]
   go_enter Tryz.func191,Tryz.ntmps191
   go_wp2;go_ret;exact⟨rfl,rfl⟩
 ·have e2:decide (0≤p)=false:=zdf h2;rw[e2]
  go_enter Tryz.func191,Tryz.ntmps191
  go_wp2;go_ret;exact⟨rfl,rfl⟩
theorem z48 (p:Int)(w:World):Calls Tryz.prog 139 #[.int .i64 p] w fun e w'=>e=.returned (.bool (decide (126≤p)))∧w=w':=by
 go_enter Tryz.func139,Tryz.ntmps139
 go_wp2;go_ret;exact⟨rfl,rfl⟩
def fiB (p:Int):Bool:=decide (0≤p)&&decide (p≤504)
theorem z8m (p:Int)(w:World):Calls Tryz.prog 143 #[.int .i64 p] w fun e w'=>e=.returned (.bool (fiB p))∧w=w':=by
 unfold fiB
 by_cases h2:0≤p
 ·have e2:decide (0≤p)=true:=zdt h2
  by_cases h3:p≤504
  ·have e3:decide (p≤504)=true:=zdt h3;rw[e2,e3]
   go_enter Tryz.func143,Tryz.ntmps143
   go_wp2;go_ret;exact⟨rfl,rfl⟩
  ·have e3:decide (p≤504)=false:=zdf h3;rw[e2,e3]
   go_enter Tryz.func143,Tryz.ntmps143
   go_wp2;go_ret;exact⟨rfl,rfl⟩
 ·have e2:decide (0≤p)=false:=zdf h2;rw[e2]
  go_enter Tryz.func143,Tryz.ntmps143
  go_wp2;go_ret;exact⟨rfl,rfl⟩
set_option maxRecDepth 100000 in
theorem x70 (a:Option Addr)(n c:Nat)(l:List Int)(w:World)(hn:l.length=n)(hs:PgS w a l)(hl:n≤1024)(hok:okTo l n):
  Calls Tryz.prog 192 #[.slice a n c] w fun e w'=>e=.returned (.int .i64 (pf l n))∧w=w':=by
 have Hs:=zh hs;have Hn:=zh hn;have Hok:=zh hok;clear hs hn hok
 go_enter Tryz.func192,Tryz.ntmps192
 go_wp2_with fail
 go_loopw [3,5,8] (fun s _ i wr=>∃k t:Nat,s=.int .i64 t∧i=.int .i64 k∧k≤n∧t≤1024*k∧Hid ((t:Int)=pf l k)∧w=wr) (fun _ _ i _=>n-(intOf i).toNat)
 case atStart=>exact⟨0,0,rfl,rfl,by omega,by omega,(z5o l).symm,by first|trivial|rfl⟩
 case round=>
  obtain⟨k,t,rfl,rfl,hk,ht,hts,rfl⟩:=hrel
  by_cases hlt:k<n
  ·obtain⟨g,o,rfl,hcell⟩:=Hs.out (by rw[Hn.out];omega);have q0:=hcell k (by rw[Hn.out];exact hlt);have h1:=(z3i _).1 (Hok.out k hlt);have h5:Hid ((t:Int)+ia l k=pf l (k+1)):=by show _=_;rw[z68,←hts.out]
   obtain⟨x,hx⟩:=Int.eq_ofNat_of_zero_le h1.1;rw[hx] at q0 h1 h5;have h6:x≤1024:=by omega
   clear hcell hts hx h1;go_wp2
   go_roundw
   case rel=>exact⟨k+1,t+x,by go_num,by go_num,by omega,by omega,by show _=_;rw[←h5.out];omega,trivial⟩
   case measure=>simp[intOf];omega
  ·obtain rfl:k=n:=by omega
   go_wp2;go_ret;exact⟨by rw[←hts.out];rfl,rfl⟩
set_option maxRecDepth 100000 in
theorem y4m (a:Option Addr)(n c:Nat)(l:List Int)(b:Int)(w:World)(hn:l.length=n)(hs:PgS w a l)(hl:n≤9223372036854775807):
  Calls Tryz.prog 176 #[.slice a n c,.int .i64 b] w fun e w'=>e=.returned (.bool (canB l b))∧w=w':=by
 have Hs:=zh hs;have Hn:=zh hn;have hno:=zh (fun h=>q1q (l:=l) (b:=b) h);have hyes:=zh ((z8h l b).2);have hb:=zh (y0w b w);generalize canB l b=CC at*;rw[hn] at hno hyes;clear hs hn
 by_cases h1:n<2
 ·have d1:decide ((n:Int)<2)=true:=zdt (by omega);have hy:=zh (hno.out (by omega));clear hno hyes
  go_enter Tryz.func176,Tryz.ntmps176
  go_wp2;go_ret;exact⟨by rw[hy.out];rfl,rfl⟩
 have d1:decide ((n:Int)<2)=false:=zdf (by omega)
 by_cases h2:1024<n
 ·have d2:decide (1024<(n:Int))=true:=zdt (by omega);have d2':decide (1024<n)=true:=zdt (by omega);have hy:=zh (hno.out (by omega));clear hno hyes
  go_enter Tryz.func176,Tryz.ntmps176
  go_wp2;go_ret;exact⟨by rw[hy.out];rfl,rfl⟩
 have d2:decide (1024<(n:Int))=false:=zdf (by omega);have d2':decide (1024<n)=false:=zdf (by omega)
 cases hB:okI b with
 | false=>
  rw[hB] at hb;have hy:=zh (hno.out (fun h=>by rw[hB] at h;cases h.2.2.1));clear hno hyes hB
  go_enter Tryz.func176,Tryz.ntmps176
  go_wp2_with fail;refine hb.out.mono ?_;rintro e w' ⟨rfl,rfl⟩;go_wp2;go_ret;exact⟨by rw[hy.out];rfl,rfl⟩
 | true=>
  rw[hB] at hb;have hyes2:=zh (fun h=>hyes.out ⟨by omega,by omega,hB,h⟩);have hno2:Hid (¬okTo l n→CC=false):=fun h=>hno.out (fun h2=>h h2.2.2.2)
  clear hno hyes hB
  go_enter Tryz.func176,Tryz.ntmps176
  go_wp2_with fail;refine hb.out.mono ?_;rintro e w' ⟨rfl,rfl⟩;clear hb;go_wp2_with fail
  go_loopw [6,22] (fun _ i wr=>∃k:Nat,i=.int .i64 k∧k≤n∧Hid (okTo l k)∧w=wr) (fun _ i _=>n-(intOf i).toNat)
  case atStart=>exact⟨0,rfl,by omega,fun i hi=>by omega,by first|trivial|rfl⟩
  case round=>
   obtain⟨k,rfl,hk,ht,rfl⟩:=hrel
   by_cases hlt:k<n
   ·obtain⟨g,o,rfl,hcell⟩:=Hs.out (by rw[Hn.out];omega);have q0:=hcell k (by rw[Hn.out];exact hlt);have hst:=zh (fun h=>x2l ht.out (k:=k) h);have hbad:Hid (okI (ia l k)=false→CC=false):=fun h=>hno2.out (fun h2=>by have:=h2 k hlt;rw[h] at this;cases this)
    have hc:=zh (y0w (ia l k) w);generalize ia l k=y at*;generalize okI y=D at*;clear hcell ht hno2
    cases D with
    | false=>
     have hy:=zh (hbad.out rfl);clear hst hbad hyes2;go_wp2_with fail;refine hc.out.mono ?_;rintro e w' ⟨rfl,rfl⟩;go_wp2;go_ret;exact⟨by rw[hy.out];rfl,rfl⟩
    | true=>
     have hy:=zh (hst.out rfl);clear hst hbad;go_wp2_with fail;refine hc.out.mono ?_;rintro e w' ⟨rfl,rfl⟩;go_wp2
     go_roundw
     case rel=>exact⟨k+1,by go_num,by omega,hy,trivial⟩
     case measure=>simp[intOf];omega
   ·obtain rfl:k=n:=by omega
    have hy:=zh (hyes2.out ht.out);clear ht hno2 hyes2;go_wp2;go_ret;exact⟨by rw[hy.out];rfl,rfl⟩
set_option maxRecDepth 100000 in
theorem x0p (a:Option Addr)(n c:Nat)(l:List Int)(w:World)(hn:l.length=n)(hs:PgS w a l)(h2:2≤n)(hl:n≤1024)(hnc:n≤c)(hc:c≤maxLen)(hok:okTo l n):
  Calls Tryz.prog 177 #[.slice a n c] w fun e w'=>e=.returned (.tuple #[.int .i64 (bst l (n-2):Nat),.int .i64 (gr l (bst l (n-2)))])∧w=w':=by
 have Hs:=zh hs;have Hn:=zh hn;have Hok:=zh hok;obtain⟨g,o,rfl,hcell⟩:=hs (by rw[hn];omega);have Hc:=zh hcell;have hsum:=zh (x70 (some ⟨g,o,none⟩) n c l w hn (fun _=>⟨g,o,rfl,hcell⟩) hl hok);have Ht:=zh (z43 hok);obtain⟨T,hT⟩:=Int.eq_ofNat_of_zero_le (z43 hok).1;rw[hT] at hsum;have hTt:Hid (pf l n=(T:Int)):=hT;have hT9:T≤1048576:=by have:=Ht.out;omega
 have z1:IntKind.i64.wrap ((n:Int)-1)=((n-1:Nat):Int):=by rw[IntKind.wrap_i64];omega
 have z2:((n-1:Nat):Int)≤(c:Int):=by omega
 have z3:(n-1:Nat)≤c:=by omega
 obtain⟨m,hm⟩:∃m,m=n-1:=⟨_,rfl⟩
 rw[←hm] at z1 z2 z3;have hmn:Hid (n=m+1∧1≤m):=by show _∧_;omega
 have hm9:m≤1024:=by omega
 have hcm:c≤9223372036854775807:=by unfold maxLen at hc;omega
 clear hs hn hok hcell hT Ht hc hm h2 hl hnc
 go_enter Tryz.func177,Tryz.ntmps177
 go_wp2_with fail;refine hsum.out.mono ?_;rintro e w' ⟨rfl,rfl⟩;clear hsum;go_wp2_with fail
 go_loopw [4,5,6,7,8,9,10,19] (fun A B P L _ _ _ i wr=>∃(k s r p:Nat) (q:Int),A=.int .i64 s∧B=.int .i64 r∧P=.int .i64 p∧L=.int .i64 q∧i=.int .i64 k∧k≤m∧s≤1048576∧r≤1048576∧Hid ((s:Int)=pf l k)∧Hid ((r:Int)=(T:Int)-pf l k)∧Hid (0<k→p=bst l (k-1)∧q=gr l p)∧w=wr) (fun _ _ _ _ _ _ _ i _=>n-(intOf i).toNat)
 case atStart=>exact⟨0,0,T,0,0,rfl,rfl,rfl,rfl,rfl,by omega,by omega,by omega,(z5o l).symm,by show _=_;rw[z5o];omega,fun h=>by omega,by first|trivial|rfl⟩
 case round=>
  obtain⟨k,s,r,p,q,rfl,rfl,rfl,rfl,rfl,hk,hs9,hr9,hsk,hrk,hbest,rfl⟩:=hrel
  by_cases hlt:k<m
  ·have q0:=Hc.out k (by rw[Hn.out];have:=hmn.out;omega);have h1:=(z3i _).1 (Hok.out k (by have:=hmn.out;omega));have h5:=z68 l k;have h6:=y6f Hok.out (show k+1≤n by have:=hmn.out;omega);have h7:=(z43 (z6b Hok.out (show k+1≤n by have:=hmn.out;omega))).1;rw[hTt.out] at h6;obtain⟨x,hx⟩:=Int.eq_ofNat_of_zero_le h1.1;rw[hx] at q0 h1 h5;rw[h5,←hsk.out] at h6 h7;have e1:x≤r:=by have:=hrk.out;rw[←hsk.out] at this;omega
   have e2:Hid (((s+x:Nat):Int)=pf l (k+1)):=by show _=_;rw[h5,←hsk.out];omega
   have e3:Hid (((r-x:Nat):Int)=(T:Int)-pf l (k+1)):=by show _=_;have:=hrk.out;rw[h5,←hsk.out];rw[←hsk.out] at this;omega
   have e4:(s+x:Nat)≤1048576:=by omega
   have e5:(r-x:Nat)≤1048576:=by omega
   have z4:IntKind.i64.wrap ((s:Int)+(x:Int))=((s+x:Nat):Int):=by rw[IntKind.wrap_i64];omega
   have z5:IntKind.i64.wrap ((r:Int)-(x:Int))=((r-x:Nat):Int):=by rw[IntKind.wrap_i64];omega
   obtain⟨S',hS'⟩:∃S',S'=s+x:=⟨_,rfl⟩
   obtain⟨R',hR'⟩:∃R',R'=r-x:=⟨_,rfl⟩
   rw[←hS'] at e2 e4 z4;rw[←hR'] at e3 e5 z5;obtain⟨G,hG⟩:∃G:Nat,(G:Int)=max (S':Int) (R':Int):=⟨max S' R',by omega⟩
   have hG2:Hid ((G:Int)=gr l (k+1)):=by show _=_;rw[hG];unfold gr;rw[Hn.out,hTt.out,←e3.out,←e2.out]
   have hG3:(if S'<R' then (R':Int) else (S':Int))=(G:Int):=by rw[hG];split<;>omega
   have hG4:max (S':Int) (R':Int)=(G:Int):=hG.symm;clear h5 h6 h7 hx h1 hS' hR' e1 hG hsk hrk
   by_cases hk0:k=0
   ·subst hk0;have b1:Hid ((0:Nat)+1=bst l 0∧(G:Int)=gr l (0+1)):=⟨rfl,hG2.out⟩
    clear hbest;simp only[Nat.add_zero] at q0;go_wp2
    go_roundw
    case rel=>exact⟨1,S',R',1,G,rfl,rfl,rfl,rfl,by go_num,by omega,e4,e5,e2,e3,fun _=>b1.out,trivial⟩
    case measure=>have:=hmn.out;simp[intOf];omega
   ·have hb:=zh (hbest.out (by omega));have dk:((k:Int)==0)=false:=by rw[beq_eq_false_iff_ne];omega
    have dk':(k==0)=false:=by rw[beq_eq_false_iff_ne];omega
    have hbs:Hid (bst l k=if (G:Int)<q then k+1 else p):=by
     show _=_;obtain⟨j,rfl⟩:∃j,k=j+1:=⟨k-1,by omega⟩
     have h1:=hb.out;rw[Nat.add_sub_cancel] at h1;rw[bst,←h1.1,←hG2.out,←h1.2]
    by_cases hd:(G:Int)<q
    ·have d1:decide ((G:Int)<q)=true:=zdt hd;have b2:Hid (k+1=bst l k∧(G:Int)=gr l (k+1)):=⟨by rw[hbs.out,if_pos hd],hG2.out⟩
     clear hbest hb hbs hG2;go_wp2
     go_roundw
     case rel=>exact⟨k+1,S',R',k+1,G,rfl,rfl,by go_num,rfl,by go_num,by omega,e4,e5,e2,e3,fun _=>b2.out,trivial⟩
     case measure=>have:=hmn.out;simp[intOf];omega
    ·have d1:decide ((G:Int)<q)=false:=zdf hd;have b2:Hid (p=bst l k∧q=gr l p):=⟨by rw[hbs.out,if_neg hd],hb.out.2⟩
     clear hbest hb hbs hG2;go_wp2
     go_roundw
     case rel=>exact⟨k+1,S',R',p,q,rfl,rfl,rfl,rfl,by go_num,by omega,e4,e5,e2,e3,fun _=>b2.out,trivial⟩
     case measure=>have:=hmn.out;simp[intOf];omega
  ·obtain rfl:k=m:=by omega
   have hfin:=zh (hbest.out hmn.out.2);have e7:Hid (n-2=k-1):=by show _=_;have:=hmn.out;omega
   clear hbest;go_wp2
   go_ret2
   exact⟨by rw[e7.out,←hfin.out.1,←hfin.out.2];rfl,rfl⟩
set_option maxRecDepth 100000 in
theorem y4n (a:Option Addr)(n c:Nat)(l:List Int)(b:Int)(w:World)(hn:l.length=n)(hs:PgS w a l)(hnc:n≤c)(hc:c≤maxLen):
  Calls Tryz.prog 145 #[.slice a n c,.int .i64 b] w fun e w'=>e=.returned (.tuple #[.int .i64 (spN l b),errC (spE l b)])∧w=w':=by
 have hcm:n≤9223372036854775807:=by unfold maxLen at hc;omega
 have hcan:=zh (y4m a n c l b w hn hs (by omega))
 cases hB:canB l b with
 | false=>
  rw[hB] at hcan;rw[(q38 hB).1,(q38 hB).2,q3r]
  go_enter Tryz.func145,Tryz.ntmps145
  go_wp2_with fail;refine hcan.out.mono ?_;rintro e w' ⟨rfl,rfl⟩;go_wp2
  go_ret2
  exact⟨rfl,rfl⟩
 | true=>
  rw[hB] at hcan;obtain⟨h1,h2,h3,h4⟩:=(z8h l b).1 hB;rw[hn] at h1 h2 h4;have hmid:=zh (x0p a n c l w hn hs h1 h2 hnc hc h4);have hbr:=z82 l (n-2);have hgr:=x68 (by rw[hn];exact h4) (by omega) (bst l (n-2)) (by omega);have hb:=(z3i b).1 h3;have hlong:=zh (q1r (l:=l) (b:=b) hB);have hyes:=zh (x97 (l:=l) (b:=b) hB);rw[hn] at hlong hyes;generalize bst l (n-2)=p at*;generalize gr l p=q at*;obtain⟨Q,rfl⟩:=Int.eq_ofNat_of_zero_le hgr.1;obtain⟨B,rfl⟩:=Int.eq_ofNat_of_zero_le hb.1;have z1:IntKind.i64.wrap ((Q:Int)+(B:Int))=((Q+B:Nat):Int):=by rw[IntKind.wrap_i64];omega
  have hQB:((Q+B:Nat):Int)=(Q:Int)+(B:Int):=by omega
  rw[←hQB] at hlong hyes;have hfit:=zh (z8m ((Q+B:Nat):Int) w);generalize Q+B=R at*;unfold fiB at hfit;have e0:decide ((0:Int)≤(R:Int))=true:=zdt (by omega);rw[e0,Bool.true_and] at hfit
  by_cases hlt:504<R
  ·have e1:decide ((R:Int)≤504)=false:=zdf (by omega);rw[e1] at hfit;have hy:=hlong.out (by omega);rw[hy.1,hy.2,q3s];clear hlong hyes hy hQB hgr hb hbr h1 h2 h3 h4 hB e0 e1
   go_enter Tryz.func145,Tryz.ntmps145
   go_wp2_with fail;refine hcan.out.mono ?_;rintro e w' ⟨rfl,rfl⟩;go_wp2_with fail;refine hmid.out.mono ?_;rintro e w' ⟨rfl,rfl⟩;go_wp2_with fail;refine hfit.out.mono ?_;rintro e w' ⟨rfl,rfl⟩;go_wp2
   go_ret2
   exact⟨rfl,rfl⟩
  ·have e1:decide ((R:Int)≤504)=true:=zdt (by omega);rw[e1] at hfit;have hy:=hyes.out (by omega);rw[hy.1,hy.2,x1p];clear hlong hyes hy hQB hgr hb hbr h1 h2 h3 h4 hB e0 e1
   go_enter Tryz.func145,Tryz.ntmps145
   go_wp2_with fail;refine hcan.out.mono ?_;rintro e w' ⟨rfl,rfl⟩;go_wp2_with fail;refine hmid.out.mono ?_;rintro e w' ⟨rfl,rfl⟩;go_wp2_with fail;refine hfit.out.mono ?_;rintro e w' ⟨rfl,rfl⟩;go_wp2
   go_ret2
   exact⟨rfl,rfl⟩
def errS (n:Nat):Value:=if n=0 then .nilIface else .iface 94 (.int .i64 n)
section
variable {P:Program} {w:World} {ops:Array Oper} {rest:List Oper} {o:Oper} {a:Act} {Q:Exit→Act→World→Prop}
theorem z8e (hgd:o.guard=none)(d s:Operand)(dT sT:TypeId)
  (ho:o.op=.call {callee:=.builtin .copy,args:= #[d,s],argTypes:= #[dT,sT]}) (e:TypeId) (hu:P.underlying dT=some (.slice e)) (hsz:(P.info? e).map (·.size)=some 1)
  (g dLen dCap:Nat) (sp:Option Addr) (sLen sCap:Nat) (cur l:List Nat) (hd:a.eval d=.slice (some ⟨g,0,none⟩) dLen dCap) (hs:a.eval s=.slice sp sLen sCap)
  (hrow:Hid (Row w g e cur)) (hcur:cur.length=dLen) (hl:l.length=dLen) (hle:dLen≤sLen) (hsrc:Src w sp l) (B:Nat) (w0:World) (hb:Below B w0 w) (hBg:B≤g)
  (h:∀w',Hid (Row w' g e l)→Below B w0 w'→wpList P ops Q rest (a.put o.dst (goInt dLen)) w'):
  wpList P ops Q (o::rest) a w:=by
 subst hl;refine wpList_copy_splice hgd d s dT sT ho e hu hsz _ sp l.length dCap sLen sCap hd hs g 0 (bv cur) e hrow.out (bv l) (by rw[z02];exact(Nat.min_eq_right hle).symm) ?_ (by rw[z02,z02,hcur];omega) (y76 l) B w0 hb hBg ?_
 ·intro h0;exact⟨rfl,hsrc.cells (by rw[z02] at h0;exact h0)⟩
 ·intro w' hr hb';rw[z02];refine h w' ?_ hb';have:=hr.out;rw[z8v,z29,List.drop_of_length_le (by rw[hcur];exact zlr _),List.append_nil] at this;exact this
end
theorem x71 {b:List Nat}(h:b.length=512)(hs:numL (b.drop 508)=(more 0#32 (b.take 508)).toNat)
  (hf:¬((1≤b.getD 0 0∧b.getD 0 0≤5)∧b.getD 1 0=0∧b.getD 2 0*256+b.getD 3 0≤504∧z20 ((b.take 508).drop (4+(b.getD 2 0*256+b.getD 3 0)))=true)):opS b=(0,[],3):=by
 unfold opS;rw[if_neg (by omega),if_neg (by simp[hs]),if_neg hf]
theorem x72 {b:List Nat}(h:b.length=512)(hs:numL (b.drop 508)=(more 0#32 (b.take 508)).toNat)
  (hf:(1≤b.getD 0 0∧b.getD 0 0≤5)∧b.getD 1 0=0∧b.getD 2 0*256+b.getD 3 0≤504∧z20 ((b.take 508).drop (4+(b.getD 2 0*256+b.getD 3 0)))=true):opS b=(b.getD 0 0,(b.drop 4).take (b.getD 2 0*256+b.getD 3 0),0):=by
 unfold opS;rw[if_neg (by omega),if_neg (by simp[hs]),if_pos hf]
theorem q0e (b o c:Nat)(l:List Nat)(w:World)(hl:l.length=512)(hc:512≤c)(hcm:c≤9223372036854775807)(hcs:Cs w b o l)(hb:B8 l)(hT:z0x w):
  Calls Tryz.prog 167 #[.slice (some ⟨b,o,none⟩) 512 c] w fun e w'=>e=.returned (.bool (decide (numL (l.drop 508)=(more 0#32 (l.take 508)).toNat)))∧w=w':=by
 have h:=q1k b o c (l.take 508) (l.drop 508) w (by rw[zld];omega) (by rw[zlk];omega) hcm (by rw[List.take_append_drop];exact hcs) (by rw[List.take_append_drop];exact hb) hT;rw[show((l.take 508).length+4:Nat)=512 by rw[zlk];omega] at h;exact h
theorem q2g (b o c:Nat)(l:List Nat)(w:World)(hl:l.length=512)(hcs:Cs w b o l)(hb:B8 l):
  Calls Tryz.prog 168 #[.slice (some ⟨b,o+2,none⟩) 2 (c-2:Nat)] w fun e w'=>e=.returned (.tuple #[.int .u64 (l.getD 2 0*256+l.getD 3 0:Nat),.nilIface])∧w=w':=by
 have hlen:((l.drop 2).take 2).length=2:=by rw[zlk,zld];omega
 have h:=y3p b (o+2) (c-2) ((l.drop 2).take 2) w (by omega) (by omega) (hcs.cut 2 2) ((hb.drop 2).take 2);rw[hlen] at h;have e:numL ((l.drop 2).take 2)=l.getD 2 0*256+l.getD 3 0:=by
  match l,hl with
  | _::_::x::y::r,_=>simp[numL]
 rw[e] at h;exact h
theorem x73 (a:Option Addr)(n c:Nat)(w:World)(h:n≠512):
  Calls Tryz.prog 130 #[.slice a n c] w fun e w'=>e=.returned (.tuple #[.int .u8 0,.slice none 0 0,errS 3])∧w=w':=by
 have d1:((n:Int) !=512)=true:=by simp;omega
 go_enter Tryz.func130,Tryz.ntmps130
 go_wp2
 go_ret3
 exact⟨rfl,rfl⟩
theorem x74 (b o c:Nat)(l:List Nat)(w:World)(hl:l.length=512)(hc:512≤c)(hcm:c≤9223372036854775807)(hcs:Cs w b o l)(hb:B8 l)(hT:z0x w)(hs:¬numL (l.drop 508)=(more 0#32 (l.take 508)).toNat):
  Calls Tryz.prog 130 #[.slice (some ⟨b,o,none⟩) 512 c] w fun e w'=>e=.returned (.tuple #[.int .u8 0,.slice none 0 0,errS 4])∧w=w':=by
 have hI:=q0e b o c l w hl hc hcm hcs hb hT;rw[zdf hs] at hI;clear hl hcs hb hT hs
 go_enter Tryz.func130,Tryz.ntmps130
 go_wp2_with (go_at_call 167;refine hI.mono ?_;rintro e w' ⟨rfl,rfl⟩)
 go_ret3
 exact⟨rfl,rfl⟩
set_option maxRecDepth 100000 in
theorem x75 (b o c x0 x1 N:Nat)(kb zb:Bool)(w:World)(hc:512≤c)(hcm:c≤9223372036854775807)
  (hI:Calls Tryz.prog 167 #[.slice (some ⟨b,o,none⟩) 512 c] w fun e w'=>e=.returned (.bool true)∧w=w')
  (hG:Calls Tryz.prog 168 #[.slice (some ⟨b,o+2,none⟩) 2 (c-2:Nat)] w fun e w'=>e=.returned (.tuple #[.int .u64 N,.nilIface])∧w=w')
  (hB:N≤504→Calls Tryz.prog 169 #[.slice (some ⟨b,o+(4+N),none⟩) (508-(4+N):Nat) (c-(4+N):Nat)] w fun e w'=>e=.returned (.bool zb)∧w=w')
  (hK:Calls Tryz.prog 163 #[.int .u8 x0] w fun e w'=>e=.returned (.bool kb)∧w=w')
  (c0:w.cell? ⟨b,o,none⟩=some (.int .u8 x0)) (c1:w.cell? ⟨b,o+1,none⟩=some (.int .u8 x1))
  (hx1:x1<256) (hN:N<65536)
  (hbad:¬(kb=true∧x1=0∧N≤504∧zb=true)):
  Calls Tryz.prog 130 #[.slice (some ⟨b,o,none⟩) 512 c] w fun e w'=>e=.returned (.tuple #[.int .u8 0,.slice none 0 0,errS 3])∧w=w':=by
 by_cases h1:N≤504
 ·have d1:decide (504<(N:Int))=false:=by simp;omega
  have hB:=hB h1
  cases kb with
  | false=>
   clear hbad hB
   go_enter Tryz.func130,Tryz.ntmps130
   go_wp2_with fail;refine hI.mono ?_;rintro e w' ⟨rfl,rfl⟩;go_wp2_with fail;refine hG.mono ?_;rintro e w' ⟨rfl,rfl⟩;go_wp2_with fail;refine hK.mono ?_;rintro e w' ⟨rfl,rfl⟩;go_wp2_with fail
   go_ret3
   exact⟨rfl,rfl⟩
  | true=>
   by_cases h3:x1=0
   ·obtain rfl:zb=false:=by
     cases zb with
     | false=>rfl
     | true=>exact absurd ⟨rfl,h3,h1,rfl⟩ hbad
    subst h3;clear hbad;have s1:(4:Int)+(N:Int)≤508:=by omega
    have s2:(0:Int)≤4+(N:Int):=by omega
    have z1:IntKind.u64.wrap (4+(N:Int))=4+(N:Int):=by rw[IntKind.wrap_u64];omega
    go_enter Tryz.func130,Tryz.ntmps130
    go_wp2_with fail;refine hI.mono ?_;rintro e w' ⟨rfl,rfl⟩;go_wp2_with fail;refine hG.mono ?_;rintro e w' ⟨rfl,rfl⟩;go_wp2_with fail;refine hK.mono ?_;rintro e w' ⟨rfl,rfl⟩;go_wp2_with fail;refine hB.mono ?_;rintro e w' ⟨rfl,rfl⟩;go_wp2_with fail
    go_ret3
    exact⟨rfl,rfl⟩
   ·have d2:((x1:Int) !=0)=true:=by simp;omega
    clear hbad hB
    go_enter Tryz.func130,Tryz.ntmps130
    go_wp2_with fail;refine hI.mono ?_;rintro e w' ⟨rfl,rfl⟩;go_wp2_with fail;refine hG.mono ?_;rintro e w' ⟨rfl,rfl⟩;go_wp2_with fail;refine hK.mono ?_;rintro e w' ⟨rfl,rfl⟩;go_wp2_with fail
    go_ret3
    exact⟨rfl,rfl⟩
 ·have d1:decide (504<(N:Int))=true:=by simp;omega
  clear hB hbad hK
  go_enter Tryz.func130,Tryz.ntmps130
  go_wp2_with fail;refine hI.mono ?_;rintro e w' ⟨rfl,rfl⟩;go_wp2_with fail;refine hG.mono ?_;rintro e w' ⟨rfl,rfl⟩;go_wp2_with fail
  go_ret3
  exact⟨rfl,rfl⟩
set_option maxRecDepth 100000 in
theorem x38 (b o c x0 N:Nat)(L:List Nat)(w:World)(hc:512≤c)(hcm:c≤9223372036854775807)
  (hI:Calls Tryz.prog 167 #[.slice (some ⟨b,o,none⟩) 512 c] w fun e w'=>e=.returned (.bool true)∧w=w')
  (hG:Calls Tryz.prog 168 #[.slice (some ⟨b,o+2,none⟩) 2 (c-2:Nat)] w fun e w'=>e=.returned (.tuple #[.int .u64 N,.nilIface])∧w=w')
  (hB:Calls Tryz.prog 169 #[.slice (some ⟨b,o+(4+N),none⟩) (508-(4+N):Nat) (c-(4+N):Nat)] w fun e w'=>e=.returned (.bool true)∧w=w')
  (hK:Calls Tryz.prog 163 #[.int .u8 x0] w fun e w'=>e=.returned (.bool true)∧w=w')
  (c0:w.cell? ⟨b,o,none⟩=some (.int .u8 x0)) (c1:w.cell? ⟨b,o+1,none⟩=some (.int .u8 (0:Nat)))
  (hN:N≤504) (hsrc:Src w (some ⟨b,o+4,none⟩) L) (hlen:L.length=N):
  Calls Tryz.prog 130 #[.slice (some ⟨b,o,none⟩) 512 c] w fun e w'=>e=.returned (.tuple #[.int .u8 x0,.slice (some ⟨w.heap.size,0,none⟩) N N,.nilIface])∧Row w' w.heap.size 5 L∧Below w.heap.size w w':=by
 have d1:decide (504<(N:Int))=false:=by simp;omega
 have s1:(4:Int)+(N:Int)≤508:=by omega
 have s2:(0:Int)≤4+(N:Int):=by omega
 have z1:IntKind.u64.wrap (4+(N:Int))=4+(N:Int):=by rw[IntKind.wrap_u64];omega
 have hlt:b<w.heap.size:=by
  rcases zng b w.heap.size with h1|h1
  ·exact h1
  ·simp[World.cell?,Array.getElem?_eq_none h1] at c0
 have Hl:=zh hlen;have Hs:=zh hsrc;clear hlen hsrc
 go_enter Tryz.func130,Tryz.ntmps130
 go_wp2_with fail;refine hI.mono ?_;rintro e w' ⟨rfl,rfl⟩;go_wp2_with fail;refine hG.mono ?_;rintro e w' ⟨rfl,rfl⟩;go_wp2_with fail;refine hK.mono ?_;rintro e w' ⟨rfl,rfl⟩;go_wp2_with fail;refine hB.mono ?_;rintro e w' ⟨rfl,rfl⟩;clear hI hG hK hB
 go_wp2_with (first
  | (at_make;refine z06 rfl _ _ 46 rfl 5 Tryz.underlying46 z8g _ _ _ _ N rfl rfl rfl rfl (by omega) ?_;intro w1 hr1 hb1;have hs1:=zh (Hs.out.below hb1 (zlr _)))
  | (show wpList _ _ _ (⟨some 54,_,_,_,_,_⟩::_) _ _;refine z8e rfl (.tmp 51) (.tmp 53) 46 46 rfl 5 Tryz.underlying46 z41 w.heap.size N N (some ⟨b,o+4,none⟩) 508 (c-4:Nat) (List.replicate N 0) L (by rfl) (by rfl) hr1 (by rw[List.length_replicate]) Hl.out (by omega) hs1.out w.heap.size w hb1 (zlr _) ?_;intro w2 hr2 hb2;have hc2:=(hb2.cell (p:=⟨b,o,none⟩) hlt).trans c0;clear hr1 hs1 hb1))
 go_ret3
 exact⟨rfl,hr2.out,hb2⟩
set_option maxRecDepth 100000 in
theorem z5s (a:Option Addr)(n c:Nat)(ks:List ByteArray)(w:World)(hn:ks.length=n)(hs:TxS w a ks)(hl:n≤1000000)(hm:z3j ks):
  Calls Tryz.prog 127 #[.slice a n c] w fun e w'=>e=.returned (.int .i64 (z1c ks n:Nat))∧w=w':=by
 have Hs:=zh hs;have Hn:=zh hn;have Hm:=zh hm;clear hs hn hm
 go_enter Tryz.func127,Tryz.ntmps127
 go_wp2_with fail
 go_loopw [3,5,8] (fun s _ i wr=>∃k t:Nat,s=.int .i64 t∧i=.int .i64 k∧k≤n∧t≤2+43*k∧Hid (t=z1c ks k)∧w=wr) (fun _ _ i _=>n-(intOf i).toNat)
 case atStart=>exact⟨0,2,rfl,rfl,by omega,by omega,rfl,by first|trivial|rfl⟩
 case round=>
  obtain⟨k,t,rfl,rfl,hk,ht,hts,rfl⟩:=hrel
  by_cases hlt:k<n
  ·obtain⟨g,o,rfl,hcell⟩:=Hs.out (by rw[Hn.out];omega);have q0:=hcell k (by rw[Hn.out];exact hlt);have h1:=(z1a (Hm.out k (by rw[Hn.out];exact hlt)).1).2;have h5:Hid (t+(3+(sa ks k).size)=z1c ks (k+1)):=by show _=_;rw[z1c,←hts.out]
   generalize sa ks k=y at*;clear hcell hts;go_wp2
   go_roundw
   case rel=>exact⟨k+1,t+(3+y.size),by go_num,by go_num,by omega,by omega,h5,by first|trivial|rfl⟩
   case measure=>simp[intOf];omega
  ·obtain rfl:k=n:=by omega
   go_wp2;go_ret;exact⟨by rw[←hts.out];rfl,rfl⟩
theorem x39 (x:Int)(w:World)(h1: -9223372036854775808≤x)(h2:x≤9223372036854775807):Calls Tryz.prog 73 #[.int .i64 x] w fun e w'=>e=.returned (.int .i64 (cntS x))∧w=w':=by
 by_cases h:x<1
 ·have d1:decide (x<1)=true:=zdt h;have e:cntS x=0:=by unfold cntS;rw[if_pos h]
  rw[e];clear e
  go_enter Tryz.func73,Tryz.ntmps73
  go_wp2;go_ret;exact⟨rfl,rfl⟩
 ·have d1:decide (x<1)=false:=zdf h;have e:Hid (cntS x=(x-1).tdiv 502+1):=by
   show _=_;unfold cntS;rw[if_neg h,Int.tdiv_eq_ediv_of_nonneg (by omega)]
  have b1:0≤(x-1).tdiv 502:=by rw[Int.tdiv_eq_ediv_of_nonneg (by omega)];omega
  have b2:(x-1).tdiv 502≤9223372036854775806:=by rw[Int.tdiv_eq_ediv_of_nonneg (by omega)];omega
  generalize hq:(x-1).tdiv 502=q at*
  go_enter Tryz.func73,Tryz.ntmps73
  go_wp2;go_ret;exact⟨by rw[e.out];rfl,rfl⟩
end Go.Proofs.YtdnfhjfbanhhcaaGreatDoor
