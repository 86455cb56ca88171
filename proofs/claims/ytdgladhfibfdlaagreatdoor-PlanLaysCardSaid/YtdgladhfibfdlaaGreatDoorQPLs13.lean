/-
  Steps.
-/
import Derived.Test.YtdgladhfibfdlaaGreatDoorQPLs02
import Derived.Test.YtdgladhfibfdlaaGreatDoorProg
import Derived.Test.YtdgladhfibfdlaaGreatDoorQPLs09
namespace Go.Proofs.YtdgladhfibfdlaaGreatDoor
open Go Go.RowKit
theorem y0u (p:Int)(w:World):Calls Tryz.prog 198 #[.int .i64 p] w fun e w'=>e=.returned (.bool (okI p))∧w=w':=by
 unfold okI
 by_cases h2:0≤p
 ·have e2:decide (0≤p)=true:=zdt h2
  by_cases h3:p≤1024
  ·have e3:decide (p≤1024)=true:=zdt h3;rw[e2,e3]
   go_enter Tryz.func198,Tryz.ntmps198
   go_wp2;go_ret;exact⟨rfl,rfl⟩
  ·have e3:decide (p≤1024)=false:=zdf h3;rw[e2,e3]
   go_enter Tryz.func198,Tryz.ntmps198
   go_wp2;go_ret;exact⟨rfl,rfl⟩
 ·have e2:decide (0≤p)=false:=zdf h2;rw[e2]
  go_enter Tryz.func198,Tryz.ntmps198
  go_wp2;go_ret;exact⟨rfl,rfl⟩
theorem z7f (p:Int)(w:World):Calls Tryz.prog 151 #[.int .i64 p] w fun e w'=>e=.returned (.bool (decide (126≤p)))∧w=w':=by
 go_enter Tryz.func151,Tryz.ntmps151
 go_wp2;go_ret;exact⟨rfl,rfl⟩
def fiB (p:Int):Bool:=decide (0≤p)&&decide (p≤504)
theorem z8n (p:Int)(w:World):Calls Tryz.prog 145 #[.int .i64 p] w fun e w'=>e=.returned (.bool (fiB p))∧w=w':=by
 unfold fiB
 by_cases h2:0≤p
 ·have e2:decide (0≤p)=true:=zdt h2
  by_cases h3:p≤504
  ·have e3:decide (p≤504)=true:=zdt h3;rw[e2,e3]
   go_enter Tryz.func145,Tryz.ntmps145
   go_wp2;go_ret;exact⟨rfl,rfl⟩
  ·have e3:decide (p≤504)=false:=zdf h3;rw[e2,e3]
   go_enter Tryz.func145,Tryz.ntmps145
   go_wp2;go_ret;exact⟨rfl,rfl⟩
 ·have e2:decide (0≤p)=false:=zdf h2;rw[e2]
  go_enter Tryz.func145,Tryz.ntmps145
  go_wp2;go_ret;exact⟨rfl,rfl⟩
set_option maxRecDepth 100000 in
theorem x76 (a:Option Addr)(n c:Nat)(l:List Int)(w:World)(hn:l.length=n)(hs:PgS w a l)(hl:n≤1024)(hok:okTo l n):
  Calls Tryz.prog 199 #[.slice a n c] w fun e w'=>e=.returned (.int .i64 (pf l n))∧w=w':=by
 have Hs:=zh hs;have Hn:=zh hn;have Hok:=zh hok;clear hs hn hok
 go_enter Tryz.func199,Tryz.ntmps199
 go_wp2_with fail
 go_loopw [3,5,8] (fun s _ i wr=>∃k t:Nat,s=.int .i64 t∧i=.int .i64 k∧k≤n∧t≤1024*k∧Hid ((t:Int)=pf l k)∧w=wr) (fun _ _ i _=>n-(intOf i).toNat)
 case atStart=>exact⟨0,0,rfl,rfl,by omega,by omega,(z5r l).symm,by first|trivial|rfl⟩
 case round=>
  obtain⟨k,t,rfl,rfl,hk,ht,hts,rfl⟩:=hrel
  by_cases hlt:k<n
  ·obtain⟨g,o,rfl,hcell⟩:=Hs.out (by rw[Hn.out];omega);have q0:=hcell k (by rw[Hn.out];exact hlt);have h1:=(z3y _).1 (Hok.out k hlt);have h5:Hid ((t:Int)+ia l k=pf l (k+1)):=by show _=_;rw[z67,←hts.out]
   obtain⟨x,hx⟩:=Int.eq_ofNat_of_zero_le h1.1;rw[hx] at q0 h1 h5;have h6:x≤1024:=by omega
   clear hcell hts hx h1;go_wp2
   go_roundw
   case rel=>exact⟨k+1,t+x,by go_num,by go_num,by omega,by omega,by show _=_;rw[←h5.out];omega,trivial⟩
   case measure=>simp[intOf];omega
  ·obtain rfl:k=n:=by omega
   go_wp2;go_ret;exact⟨by rw[←hts.out];rfl,rfl⟩
set_option maxRecDepth 100000 in
theorem y4s (a:Option Addr)(n c:Nat)(l:List Int)(b:Int)(w:World)(hn:l.length=n)(hs:PgS w a l)(hl:n≤9223372036854775807):
  Calls Tryz.prog 180 #[.slice a n c,.int .i64 b] w fun e w'=>e=.returned (.bool (canB l b))∧w=w':=by
 have Hs:=zh hs;have Hn:=zh hn;have hno:=zh (fun h=>q12 (l:=l) (b:=b) h);have hyes:=zh ((z8i l b).2);have hb:=zh (y0u b w);generalize canB l b=CC at*;rw[hn] at hno hyes;clear hs hn
 by_cases h1:n<2
 ·have d1:decide ((n:Int)<2)=true:=zdt (by omega);have hy:=zh (hno.out (by omega));clear hno hyes
  go_enter Tryz.func180,Tryz.ntmps180
  go_wp2;go_ret;exact⟨by rw[hy.out];rfl,rfl⟩
 have d1:decide ((n:Int)<2)=false:=zdf (by omega)
 by_cases h2:1024<n
 ·have d2:decide (1024<(n:Int))=true:=zdt (by omega);have d2':decide (1024<n)=true:=zdt (by omega);have hy:=zh (hno.out (by omega));clear hno hyes
  go_enter Tryz.func180,Tryz.ntmps180
  go_wp2;go_ret;exact⟨by rw[hy.out];rfl,rfl⟩
 have d2:decide (1024<(n:Int))=false:=zdf (by omega);have d2':decide (1024<n)=false:=zdf (by omega)
 cases hB:okI b with
 | false=>
  rw[hB] at hb;have hy:=zh (hno.out (fun h=>by rw[hB] at h;cases h.2.2.1));clear hno hyes hB
  go_enter Tryz.func180,Tryz.ntmps180
  go_wp2_with fail;refine hb.out.mono ?_;rintro e w' ⟨rfl,rfl⟩;go_wp2;go_ret;exact⟨by rw[hy.out];rfl,rfl⟩
 | true=>
  rw[hB] at hb;have hyes2:=zh (fun h=>hyes.out ⟨by omega,by omega,hB,h⟩);have hno2:Hid (¬okTo l n→CC=false):=fun h=>hno.out (fun h2=>h h2.2.2.2)
  clear hno hyes hB
  go_enter Tryz.func180,Tryz.ntmps180
  go_wp2_with fail;refine hb.out.mono ?_;rintro e w' ⟨rfl,rfl⟩;clear hb;go_wp2_with fail
  go_loopw [6,22] (fun _ i wr=>∃k:Nat,i=.int .i64 k∧k≤n∧Hid (okTo l k)∧w=wr) (fun _ i _=>n-(intOf i).toNat)
  case atStart=>exact⟨0,rfl,by omega,fun i hi=>by omega,by first|trivial|rfl⟩
  case round=>
   obtain⟨k,rfl,hk,ht,rfl⟩:=hrel
   by_cases hlt:k<n
   ·obtain⟨g,o,rfl,hcell⟩:=Hs.out (by rw[Hn.out];omega);have q0:=hcell k (by rw[Hn.out];exact hlt);have hst:=zh (fun h=>x25 ht.out (k:=k) h);have hbad:Hid (okI (ia l k)=false→CC=false):=fun h=>hno2.out (fun h2=>by have:=h2 k hlt;rw[h] at this;cases this)
    have hc:=zh (y0u (ia l k) w);generalize ia l k=y at*;generalize okI y=D at*;clear hcell ht hno2
    cases D with
    | false=>
     have hy:=zh (hbad.out rfl);clear hst hbad hyes2;go_wp2_with fail;refine hc.out.mono ?_;rintro e w' ⟨rfl,rfl⟩;go_wp2;go_ret;exact⟨by rw[hy.out];rfl,rfl⟩
    | true=>
     have hy:=zh (hst.out rfl);clear hst hbad;go_wp2_with fail;refine hc.out.mono ?_;rintro e w' ⟨rfl,rfl⟩;go_wp2
     go_roundw
     case rel=>exact⟨k+1,by go_num,by omega,hy,trivial⟩
     case measure=>simp[intOf];omega
   ·obtain rfl:k=n:=by omega
    have hy:=zh (hyes2.out ht.out);clear ht hno2 hyes2;go_wp2;go_ret;exact⟨by rw[hy.out];rfl,rfl⟩
set_option maxRecDepth 100000 in
theorem x0y (a:Option Addr)(n c:Nat)(l:List Int)(w:World)(hn:l.length=n)(hs:PgS w a l)(h2:2≤n)(hl:n≤1024)(hnc:n≤c)(hc:c≤maxLen)(hok:okTo l n):
  Calls Tryz.prog 181 #[.slice a n c] w fun e w'=>e=.returned (.tuple #[.int .i64 (bst l (n-2):Nat),.int .i64 (gr l (bst l (n-2)))])∧w=w':=by
 have Hs:=zh hs;have Hn:=zh hn;have Hok:=zh hok;obtain⟨g,o,rfl,hcell⟩:=hs (by rw[hn];omega);have Hc:=zh hcell;have hsum:=zh (x76 (some ⟨g,o,none⟩) n c l w hn (fun _=>⟨g,o,rfl,hcell⟩) hl hok);have Ht:=zh (z47 hok);obtain⟨T,hT⟩:=Int.eq_ofNat_of_zero_le (z47 hok).1;rw[hT] at hsum;have hTt:Hid (pf l n=(T:Int)):=hT;have hT9:T≤1048576:=by have:=Ht.out;omega
 have z1:IntKind.i64.wrap ((n:Int)-1)=((n-1:Nat):Int):=by rw[IntKind.wrap_i64];omega
 have z2:((n-1:Nat):Int)≤(c:Int):=by omega
 have z3:(n-1:Nat)≤c:=by omega
 obtain⟨m,hm⟩:∃m,m=n-1:=⟨_,rfl⟩
 rw[←hm] at z1 z2 z3;have hmn:Hid (n=m+1∧1≤m):=by show _∧_;omega
 have hm9:m≤1024:=by omega
 have hcm:c≤9223372036854775807:=by unfold maxLen at hc;omega
 clear hs hn hok hcell hT Ht hc hm h2 hl hnc
 go_enter Tryz.func181,Tryz.ntmps181
 go_wp2_with fail;refine hsum.out.mono ?_;rintro e w' ⟨rfl,rfl⟩;clear hsum;go_wp2_with fail
 go_loopw [4,5,6,7,8,9,10,19] (fun A B P L _ _ _ i wr=>∃(k s r p:Nat) (q:Int),A=.int .i64 s∧B=.int .i64 r∧P=.int .i64 p∧L=.int .i64 q∧i=.int .i64 k∧k≤m∧s≤1048576∧r≤1048576∧Hid ((s:Int)=pf l k)∧Hid ((r:Int)=(T:Int)-pf l k)∧Hid (0<k→p=bst l (k-1)∧q=gr l p)∧w=wr) (fun _ _ _ _ _ _ _ i _=>n-(intOf i).toNat)
 case atStart=>exact⟨0,0,T,0,0,rfl,rfl,rfl,rfl,rfl,by omega,by omega,by omega,(z5r l).symm,by show _=_;rw[z5r];omega,fun h=>by omega,by first|trivial|rfl⟩
 case round=>
  obtain⟨k,s,r,p,q,rfl,rfl,rfl,rfl,rfl,hk,hs9,hr9,hsk,hrk,hbest,rfl⟩:=hrel
  by_cases hlt:k<m
  ·have q0:=Hc.out k (by rw[Hn.out];have:=hmn.out;omega);have h1:=(z3y _).1 (Hok.out k (by have:=hmn.out;omega));have h5:=z67 l k;have h6:=y6e Hok.out (show k+1≤n by have:=hmn.out;omega);have h7:=(z47 (z6d Hok.out (show k+1≤n by have:=hmn.out;omega))).1;rw[hTt.out] at h6;obtain⟨x,hx⟩:=Int.eq_ofNat_of_zero_le h1.1;rw[hx] at q0 h1 h5;rw[h5,←hsk.out] at h6 h7;have e1:x≤r:=by have:=hrk.out;rw[←hsk.out] at this;omega
   have e2:Hid (((s+x:Nat):Int)=pf l (k+1)):=by show _=_;rw[h5,←hsk.out];omega
   have e3:Hid (((r-x:Nat):Int)=(T:Int)-pf l (k+1)):=by show _=_;have:=hrk.out;rw[h5,←hsk.out];rw[←hsk.out] at this;omega
   have e4:(s+x:Nat)≤1048576:=by omega
   have e5:(r-x:Nat)≤1048576:=by omega
   have z4:IntKind.i64.wrap ((s:Int)+(x:Int))=((s+x:Nat):Int):=by rw[IntKind.wrap_i64];omega
   have z5:IntKind.i64.wrap ((r:Int)-(x:Int))=((r-x:Nat):Int):=by rw[IntKind.wrap_i64];omega
   obtain⟨S',hS'⟩:∃S',S'=s+x:=⟨_,rfl⟩
   obtain⟨R',hR'⟩:∃R',R'=r-x:=⟨_,rfl⟩
   rw[←hS'] at e2 e4 z4;rw[←hR'] at e3 e5 z5;obtain⟨G,hG⟩:∃G:Nat,(G:Int)=max (S':Int) (R':Int):=⟨max S' R',by omega⟩
   have hG2:Hid ((G:Int)=gr l (k+1)):=by show _=_;rw[hG];unfold gr;rw[Hn.out,hTt.out,←e3.out,←e2.out]
   have hG3:(if S'<R' then (R':Int) else (S':Int))=(G:Int):=by rw[hG];split<;>omega
   have hG4:max (S':Int) (R':Int)=(G:Int):=hG.symm;clear h5 h6 h7 hx h1 hS' hR' e1 hG hsk hrk
   by_cases hk0:k=0
   ·subst hk0;have b1:Hid ((0:Nat)+1=bst l 0∧(G:Int)=gr l (0+1)):=⟨rfl,hG2.out⟩
    clear hbest;simp only[Nat.add_zero] at q0;go_wp2
    go_roundw
    case rel=>exact⟨1,S',R',1,G,rfl,rfl,rfl,rfl,by go_num,by omega,e4,e5,e2,e3,fun _=>b1.out,trivial⟩
    case measure=>have:=hmn.out;simp[intOf];omega
   ·have hb:=zh (hbest.out (by omega));have dk:((k:Int)==0)=false:=by rw[beq_eq_false_iff_ne];omega
    have dk':(k==0)=false:=by rw[beq_eq_false_iff_ne];omega
    have hbs:Hid (bst l k=if (G:Int)<q then k+1 else p):=by
     show _=_;obtain⟨j,rfl⟩:∃j,k=j+1:=⟨k-1,by omega⟩
     have h1:=hb.out;rw[Nat.add_sub_cancel] at h1;rw[bst,←h1.1,←hG2.out,←h1.2]
    by_cases hd:(G:Int)<q
    ·have d1:decide ((G:Int)<q)=true:=zdt hd;have b2:Hid (k+1=bst l k∧(G:Int)=gr l (k+1)):=⟨by rw[hbs.out,if_pos hd],hG2.out⟩
     clear hbest hb hbs hG2;go_wp2
     go_roundw
     case rel=>exact⟨k+1,S',R',k+1,G,rfl,rfl,by go_num,rfl,by go_num,by omega,e4,e5,e2,e3,fun _=>b2.out,trivial⟩
     case measure=>have:=hmn.out;simp[intOf];omega
    ·have d1:decide ((G:Int)<q)=false:=zdf hd;have b2:Hid (p=bst l k∧q=gr l p):=⟨by rw[hbs.out,if_neg hd],hb.out.2⟩
     clear hbest hb hbs hG2;go_wp2
     go_roundw
     case rel=>exact⟨k+1,S',R',p,q,rfl,rfl,rfl,rfl,by go_num,by omega,e4,e5,e2,e3,fun _=>b2.out,trivial⟩
     case measure=>have:=hmn.out;simp[intOf];omega
  ·obtain rfl:k=m:=by omega
   have hfin:=zh (hbest.out hmn.out.2);have e7:Hid (n-2=k-1):=by show _=_;have:=hmn.out;omega
   clear hbest;go_wp2
   go_ret2
   exact⟨by rw[e7.out,←hfin.out.1,←hfin.out.2];rfl,rfl⟩
set_option maxRecDepth 100000 in
theorem y4t (a:Option Addr)(n c:Nat)(l:List Int)(b:Int)(w:World)(hn:l.length=n)(hs:PgS w a l)(hnc:n≤c)(hc:c≤maxLen):
  Calls Tryz.prog 147 #[.slice a n c,.int .i64 b] w fun e w'=>e=.returned (.tuple #[.int .i64 (spN l b),errC (spE l b)])∧w=w':=by
 have hcm:n≤9223372036854775807:=by unfold maxLen at hc;omega
 have hcan:=zh (y4s a n c l b w hn hs (by omega))
 cases hB:canB l b with
 | false=>
  rw[hB] at hcan;rw[(q4j hB).1,(q4j hB).2,q31]
  go_enter Tryz.func147,Tryz.ntmps147
  go_wp2_with fail;refine hcan.out.mono ?_;rintro e w' ⟨rfl,rfl⟩;go_wp2
  go_ret2
  exact⟨rfl,rfl⟩
 | true=>
  rw[hB] at hcan;obtain⟨h1,h2,h3,h4⟩:=(z8i l b).1 hB;rw[hn] at h1 h2 h4;have hmid:=zh (x0y a n c l w hn hs h1 h2 hnc hc h4);have hbr:=z82 l (n-2);have hgr:=x7j (by rw[hn];exact h4) (by omega) (bst l (n-2)) (by omega);have hb:=(z3y b).1 h3;have hlong:=zh (q13 (l:=l) (b:=b) hB);have hyes:=zh (q0h (l:=l) (b:=b) hB);rw[hn] at hlong hyes;generalize bst l (n-2)=p at*;generalize gr l p=q at*;obtain⟨Q,rfl⟩:=Int.eq_ofNat_of_zero_le hgr.1;obtain⟨B,rfl⟩:=Int.eq_ofNat_of_zero_le hb.1;have z1:IntKind.i64.wrap ((Q:Int)+(B:Int))=((Q+B:Nat):Int):=by rw[IntKind.wrap_i64];omega
  have hQB:((Q+B:Nat):Int)=(Q:Int)+(B:Int):=by omega
  rw[←hQB] at hlong hyes;have hfit:=zh (z8n ((Q+B:Nat):Int) w);generalize Q+B=R at*;unfold fiB at hfit;have e0:decide ((0:Int)≤(R:Int))=true:=zdt (by omega);rw[e0,Bool.true_and] at hfit
  by_cases hlt:504<R
  ·have e1:decide ((R:Int)≤504)=false:=zdf (by omega);rw[e1] at hfit;have hy:=hlong.out (by omega);rw[hy.1,hy.2,q32];clear hlong hyes hy hQB hgr hb hbr h1 h2 h3 h4 hB e0 e1
   go_enter Tryz.func147,Tryz.ntmps147
   go_wp2_with fail;refine hcan.out.mono ?_;rintro e w' ⟨rfl,rfl⟩;go_wp2_with fail;refine hmid.out.mono ?_;rintro e w' ⟨rfl,rfl⟩;go_wp2_with fail;refine hfit.out.mono ?_;rintro e w' ⟨rfl,rfl⟩;go_wp2
   go_ret2
   exact⟨rfl,rfl⟩
  ·have e1:decide ((R:Int)≤504)=true:=zdt (by omega);rw[e1] at hfit;have hy:=hyes.out (by omega);rw[hy.1,hy.2,x19];clear hlong hyes hy hQB hgr hb hbr h1 h2 h3 h4 hB e0 e1
   go_enter Tryz.func147,Tryz.ntmps147
   go_wp2_with fail;refine hcan.out.mono ?_;rintro e w' ⟨rfl,rfl⟩;go_wp2_with fail;refine hmid.out.mono ?_;rintro e w' ⟨rfl,rfl⟩;go_wp2_with fail;refine hfit.out.mono ?_;rintro e w' ⟨rfl,rfl⟩;go_wp2
   go_ret2
   exact⟨rfl,rfl⟩
theorem x77 {b:List Nat}(h:b.length=512)(hs:numL (b.drop 508)=(more 0#32 (b.take 508)).toNat)
  (hf:¬((1≤b.getD 0 0∧b.getD 0 0≤5)∧b.getD 1 0=0∧b.getD 2 0*256+b.getD 3 0≤504∧z2o ((b.take 508).drop (4+(b.getD 2 0*256+b.getD 3 0)))=true)):opS b=(0,[],3):=by
 unfold opS;rw[if_neg (by omega),if_neg (by simp[hs]),if_neg hf]
theorem x78 {b:List Nat}(h:b.length=512)(hs:numL (b.drop 508)=(more 0#32 (b.take 508)).toNat)
  (hf:(1≤b.getD 0 0∧b.getD 0 0≤5)∧b.getD 1 0=0∧b.getD 2 0*256+b.getD 3 0≤504∧z2o ((b.take 508).drop (4+(b.getD 2 0*256+b.getD 3 0)))=true):opS b=(b.getD 0 0,(b.drop 4).take (b.getD 2 0*256+b.getD 3 0),0):=by
 unfold opS;rw[if_neg (by omega),if_neg (by simp[hs]),if_pos hf]
theorem x4f (b o c:Nat)(l:List Nat)(w:World)(hl:l.length=512)(hc:512≤c)(hcm:c≤140737488355328)(hcs:Cs w b o l)(hb:B8 l):
  Calls Tryz.prog 143 #[.slice (some ⟨b,o,none⟩) 512 c] w fun e w'=>e=.returned (.bool (decide (numL (l.drop 508)=(more 0#32 (l.take 508)).toNat)))∧w=w':=by
 have h:=x0m b o c (l.take 508) (l.drop 508) w (by rw[zld];omega) (by rw[zlk];omega) hcm (by rw[List.take_append_drop];exact hcs) (by rw[List.take_append_drop];exact hb);rw[show((l.take 508).length+4:Nat)=512 by rw[zlk];omega] at h;exact h
theorem y6q (a:Option Addr)(n c:Nat)(w:World)(h:n≠512):
  Calls Tryz.prog 107 #[.slice a n c] w fun e w'=>e=.returned (.tuple #[.int .u8 0,.slice none 0 0,.int .i64 3])∧w=w':=by
 have d1:((n:Int) !=512)=true:=by simp;omega
 go_enter Tryz.func107,Tryz.ntmps107
 go_wp2
 go_ret3
 exact⟨rfl,rfl⟩
theorem y6r (b o c:Nat)(w:World)
  (hI:Calls Tryz.prog 143 #[.slice (some ⟨b,o,none⟩) 512 c] w fun e w'=>e=.returned (.bool false)∧w=w'):
  Calls Tryz.prog 107 #[.slice (some ⟨b,o,none⟩) 512 c] w fun e w'=>e=.returned (.tuple #[.int .u8 0,.slice none 0 0,.int .i64 4])∧w=w':=by
 go_enter Tryz.func107,Tryz.ntmps107
 go_wp2_with (go_at_call 143;refine hI.mono ?_;rintro e w' ⟨rfl,rfl⟩)
 go_ret3
 exact⟨rfl,rfl⟩
theorem y4u (l:List Nat)(k:Nat)(h:k<508)(hl:l.length=512):z2o ((l.take 508).drop k)=(l.getD k 0==0&&z2o ((l.take 508).drop (k+1))):=by
 have hk:k<(l.take 508).length:=by rw[zlk];omega
 rw[List.drop_eq_getElem_cons hk];have e:(l.take 508)[k]=l.getD k 0:=by
  rw[List.getElem_take];simp[List.getD,show k<l.length by omega]
 rw[e];rfl
theorem y6s (l:List Nat):z2o ((l.take 508).drop 508)=true:=by
 rw[List.drop_of_length_le (by rw[zlk];omega)];rfl
set_option maxRecDepth 100000 in
set_option maxHeartbeats 1000000 in
theorem y4v (b o c x0 x1 x2 x3 N:Nat)(zb gb:Bool)(l:List Nat)(w:World)(hl:l.length=512)(hc:512≤c)(hcm:c≤140737488355328)(hcs:Cs w b o l)(hb:B8 l)
  (hI:Calls Tryz.prog 143 #[.slice (some ⟨b,o,none⟩) 512 c] w fun e w'=>e=.returned (.bool true)∧w=w')
  (h0:l.getD 0 0=x0) (h1:l.getD 1 0=x1) (h2:l.getD 2 0=x2) (h3:l.getD 3 0=x3) (hN:x2*256+x3=N) (hz:z2o ((l.take 508).drop (4+N))=zb)
  (hg:decide ((1≤x0∧x0≤5)∧x1=0∧N≤504)=gb):
  Calls Tryz.prog 107 #[.slice (some ⟨b,o,none⟩) 512 c] w fun e w'=>
   e=.returned (if gb&&zb then .tuple #[.int .u8 x0,.slice (some ⟨b,o+4,none⟩) N (c-4:Nat),.int .i64 0] else .tuple #[.int .u8 0,.slice none 0 0,.int .i64 3])∧Below w.heap.size w w':=by
 have b0:=hb.get 0;have b1:=hb.get 1;have b2:=hb.get 2;have b3:=hb.get 3;rw[h0] at b0;rw[h1] at b1;rw[h2] at b2;rw[h3] at b3;have hlt:=hcs.lt (by omega);have Hcs:=zh (hcs.below (Ext.drew w) hlt);have Hbd:Hid (Below w.heap.size w w.drew):=Ext.drew w;have hdz:w.drew.heap.size=w.heap.size:=rfl;have Hlt:Hid (b<w.drew.heap.size):=hlt;have Hx:=zh (zai h0 (zai h1 (zai h2 h3)));have Hb:=zh hb;have Hl:=zh hl;have Hz:=zh hz;have Hg:=zh hg;have HN:=zh hN;clear h0 h1 h2 h3 hb hl hz hg hcs hlt hdz hN
 go_enter Tryz.func107,Tryz.ntmps107
 go_wp2_with fail;refine hI.mono ?_;rintro e w' ⟨rfl,rfl⟩;go_wp2_with fail;refine z0i (F:=fun _=>False) [(0,true),(1,true),(2,true),(3,true),(4,true),(5,true),(6,true),(7,true),(8,true),(9,true),(10,true)] (by kernel_rfl) (by kernel_rfl) (by kernel_rfl) (by kernel_rfl) (fun _ _ _ _ _ h=>h) ?_;clear hI;generalize w.drew=w3 at*;have c0:∀w',Turn (fun _=>False) w3 w'→w'.cell? ⟨b,o,none⟩=some (.int .u8 x0):=fun w' t=>by
  have:=Hcs.out 0 (by rw[Hl.out];omega);rw[Hx.out.1] at this;exact(t.cell Hlt.out (fun h=>h)).trans this
 have c1:∀w',Turn (fun _=>False) w3 w'→w'.cell? ⟨b,o+1,none⟩=some (.int .u8 x1):=fun w' t=>by
  have:=Hcs.out 1 (by rw[Hl.out];omega);rw[Hx.out.2.1] at this;exact(t.cell Hlt.out (fun h=>h)).trans this
 have c2:∀w',Turn (fun _=>False) w3 w'→w'.cell? ⟨b,o+2,none⟩=some (.int .u8 x2):=fun w' t=>by
  have:=Hcs.out 2 (by rw[Hl.out];omega);rw[Hx.out.2.2.1] at this;exact(t.cell Hlt.out (fun h=>h)).trans this
 have c3:∀w',Turn (fun _=>False) w3 w'→w'.cell? ⟨b,o+3,none⟩=some (.int .u8 x3):=fun w' t=>by
  have:=Hcs.out 3 (by rw[Hl.out];omega);rw[Hx.out.2.2.2] at this;exact(t.cell Hlt.out (fun h=>h)).trans this
 have y1:IntKind.i64.wrap (x2:Int)=(x2:Int):=IntWalk.i64_in _ (by omega);have y2:IntKind.i64.wrap (x3:Int)=(x3:Int):=IntWalk.i64_in _ (by omega);have y3:IntKind.i64.wrap (256*(x2:Int))=256*(x2:Int):=IntWalk.i64_in _ (by omega);have y4:IntKind.i64.wrap (256*(x2:Int)+(x3:Int))=(N:Int):=by rw[IntWalk.i64_in _ (by omega)];have:=HN.out;omega
 have hNl:N<65536:=by have:=HN.out;omega
 iterate 11 (refine gtr (v:= ?_) rfl (by rfl) ?_ ?_;rotate_left;(intro w' hw';go_simp;with_reducible rfl);simp only[Act.put,zs0,zs1,zs2])
 refine z0o ?_;have f0:=c0 w3 (Turn.refl _ _);have f1:=c1 w3 (Turn.refl _ _);clear y1 y2 y3 y4 c1 c2 c3
 by_cases k1:x0<1
 ·have d1:decide ((x0:Int)<1)=true:=by simp;omega
  obtain rfl:gb=false:=by rw[←Hg.out,decide_eq_false_iff_not];omega
  clear c0 Hcs;go_wp2_with fail
  go_ret3
  exact⟨rfl,Hbd.out⟩
 have d1:decide ((x0:Int)<1)=false:=by simp;omega
 by_cases k2:5<x0
 ·have d2:decide (5<(x0:Int))=true:=by simp;omega
  obtain rfl:gb=false:=by rw[←Hg.out,decide_eq_false_iff_not];omega
  clear c0 Hcs;go_wp2_with fail
  go_ret3
  exact⟨rfl,Hbd.out⟩
 have d2:decide (5<(x0:Int))=false:=by simp;omega
 by_cases k3:¬x1=0
 ·have d3:((x1:Int) !=0)=true:=by simp;omega
  obtain rfl:gb=false:=by rw[←Hg.out,decide_eq_false_iff_not];omega
  clear c0 Hcs;go_wp2_with fail
  go_ret3
  exact⟨rfl,Hbd.out⟩
 obtain rfl:x1=0:=by omega
 by_cases k4:504<N
 ·have d4:decide (504<(N:Int))=true:=by simp;omega
  obtain rfl:gb=false:=by rw[←Hg.out,decide_eq_false_iff_not];omega
  clear c0 Hcs;go_wp2_with fail
  go_ret3
  exact⟨rfl,Hbd.out⟩
 have d4:decide (504<(N:Int))=false:=by simp;omega
 obtain rfl:gb=true:=by rw[←Hg.out,decide_eq_true_iff];omega
 have s1:(4:Int)+(N:Int)≤508:=by omega
 go_wp2_with fail
 go_loop [6] (fun i=>∃k:Nat,4+N≤k∧k≤508∧i=.int .i64 k∧Hid (z2o ((l.take 508).drop k)=zb)) (fun i=>508-(intOf i).toNat)
 case atStart=>exact⟨4+N,zlr _,by omega,by go_num,Hz.out⟩
 case round=>
  obtain⟨k,hk4,hk8,rfl,hzk⟩:=hrel
  by_cases hlt:k<508
  ·have hstep:=y4u l k hlt Hl.out;have hck:=Hcs.out k (by rw[Hl.out];omega);generalize l.getD k 0=X at*;have hzk':=hzk.out;rw[hstep] at hzk';have d5:decide ((k:Int)<508)=true:=by simp;omega
   have j1:(k:Int)<512:=by omega
   by_cases hX:X=0
   ·subst hX;have Hr:Hid (z2o ((l.take 508).drop (k+1))=zb):=by rwa [show((0==0):Bool)=true from rfl,Bool.true_and] at hzk'
    clear hzk hzk' hstep c0;go_wp2_with fail
    go_round
    case rel=>exact⟨k+1,by omega,by omega,by go_num,Hr⟩
    case measure=>simp[intOf];omega
   ·have d6:((X:Int) !=0)=true:=by simp;omega
    obtain rfl:zb=false:=by rw[←hzk',show((X==0):Bool)=false by simp[hX],Bool.false_and]
    clear hzk hzk' hstep c0;go_wp2_with fail
    go_ret3
    exact⟨rfl,Hbd.out⟩
  ·obtain rfl:k=508:=by omega
   obtain rfl:zb=true:=by rw[←hzk.out,y6s]
   clear hzk f0 c0;go_wp2_with fail;refine z0i (F:=fun _=>False) [(0,true),(1,true),(2,true),(3,true),(4,true),(5,true),(6,true),(7,true),(8,true),(9,true)] (by kernel_rfl) (by kernel_rfl) (by kernel_rfl) (by kernel_rfl) (fun _ _ _ _ _ h=>h) ?_;have c0:∀w',Turn (fun _=>False) w3.drew w'→w'.cell? ⟨b,o,none⟩=some (.int .u8 x0):=fun w' t=>by
    have:=Hcs.out 0 (by rw[Hl.out];omega);rw[Hx.out.1] at this;exact(t.cell Hlt.out (fun h=>h)).trans this
   have Hbd2:=zh Hbd.out.drew;clear Hbd;generalize w3.drew=w4 at*;have z1:IntKind.i64.wrap (4+(N:Int))=4+(N:Int):=IntWalk.i64_in _ (by omega);have z2:(4:Int)≤4+(N:Int):=by omega
   have z3:(4:Int)+(N:Int)≤(c:Int):=by omega
   have z4:((4:Int)+(N:Int)).toNat-4=N:=by omega
   iterate 10 (refine gtr (v:= ?_) rfl (by rfl) ?_ ?_;rotate_left;(intro w' hw';go_simp;with_reducible rfl);simp only[Act.put,zs0,zs1,zs2])
   refine z0o ?_;clear c0;go_wp2_with fail
   go_ret3
   exact⟨rfl,Hbd2.out⟩
set_option maxRecDepth 100000 in
theorem z5y (a:Option Addr)(n c:Nat)(ks:List ByteArray)(w:World)(hn:ks.length=n)(hs:TxS w a ks)(hl:n≤1000000)(hm:z3l ks):
  Calls Tryz.prog 140 #[.slice a n c] w fun e w'=>e=.returned (.int .i64 (z1k ks n:Nat))∧w=w':=by
 have Hs:=zh hs;have Hn:=zh hn;have Hm:=zh hm;clear hs hn hm
 go_enter Tryz.func140,Tryz.ntmps140
 go_wp2_with fail
 go_loopw [3,5,8] (fun s _ i wr=>∃k t:Nat,s=.int .i64 t∧i=.int .i64 k∧k≤n∧t≤2+43*k∧Hid (t=z1k ks k)∧w=wr) (fun _ _ i _=>n-(intOf i).toNat)
 case atStart=>exact⟨0,2,rfl,rfl,by omega,by omega,rfl,by first|trivial|rfl⟩
 case round=>
  obtain⟨k,t,rfl,rfl,hk,ht,hts,rfl⟩:=hrel
  by_cases hlt:k<n
  ·obtain⟨g,o,rfl,hcell⟩:=Hs.out (by rw[Hn.out];omega);have q0:=hcell k (by rw[Hn.out];exact hlt);have h1:=(z08 (Hm.out k (by rw[Hn.out];exact hlt)).1).2;have h5:Hid (t+(3+(sa ks k).size)=z1k ks (k+1)):=by show _=_;rw[z1k,←hts.out]
   generalize sa ks k=y at*;clear hcell hts;go_wp2
   go_roundw
   case rel=>exact⟨k+1,t+(3+y.size),by go_num,by go_num,by omega,by omega,h5,by first|trivial|rfl⟩
   case measure=>simp[intOf];omega
  ·obtain rfl:k=n:=by omega
   go_wp2;go_ret;exact⟨by rw[←hts.out];rfl,rfl⟩
theorem x4g (x:Int)(w:World)(h1: -9223372036854775808≤x)(h2:x≤9223372036854775807):Calls Tryz.prog 69 #[.int .i64 x] w fun e w'=>e=.returned (.int .i64 (cntS x))∧w=w':=by
 by_cases h:x<1
 ·have d1:decide (x<1)=true:=zdt h;have e:cntS x=0:=by unfold cntS;rw[if_pos h]
  rw[e];clear e
  go_enter Tryz.func69,Tryz.ntmps69
  go_wp2;go_ret;exact⟨rfl,rfl⟩
 ·have d1:decide (x<1)=false:=zdf h;have e:Hid (cntS x=(x-1).tdiv 502+1):=by
   show _=_;unfold cntS;rw[if_neg h,Int.tdiv_eq_ediv_of_nonneg (by omega)]
  have b1:0≤(x-1).tdiv 502:=by rw[Int.tdiv_eq_ediv_of_nonneg (by omega)];omega
  have b2:(x-1).tdiv 502≤9223372036854775806:=by rw[Int.tdiv_eq_ediv_of_nonneg (by omega)];omega
  generalize hq:(x-1).tdiv 502=q at*
  go_enter Tryz.func69,Tryz.ntmps69
  go_wp2;go_ret;exact⟨by rw[e.out];rfl,rfl⟩
end Go.Proofs.YtdgladhfibfdlaaGreatDoor
