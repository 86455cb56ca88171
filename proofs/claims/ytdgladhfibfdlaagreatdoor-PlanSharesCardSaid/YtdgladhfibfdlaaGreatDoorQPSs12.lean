/-
  Steps.
-/
import Derived.Test.YtdgladhfibfdlaaGreatDoorQPSs02
import Derived.Test.YtdgladhfibfdlaaGreatDoorProg
import Derived.Test.YtdgladhfibfdlaaGreatDoorQPSs09
namespace Go.Proofs.YtdgladhfibfdlaaGreatDoor
open Go Go.RowKit Tryz
set_option maxRecDepth 100000
theorem JC (p:Int)(w:World):Calls prog 198 #[.int .i64 p] w fun e w'=>e=.returned (.bool (okI p))∧w=w':=by
 unfold okI
 by_cases h2:0≤p
 ·have e2:decide (0≤p)=true:=zdt h2
  by_cases h3:p≤1024
  ·have e3:decide (p≤1024)=true:=zdt h3;rw[e2,e3]
   go_enter func198,ntmps198
   go_wp2;go_ret;exact⟨rfl,rfl⟩
  ·have e3:decide (p≤1024)=false:=zdf h3;rw[e2,e3]
   go_enter func198,ntmps198
   go_wp2;go_ret;exact⟨rfl,rfl⟩
 ·have e2:decide (0≤p)=false:=zdf h2;rw[e2]
  go_enter func198,ntmps198
  go_wp2;go_ret;exact⟨rfl,rfl⟩
theorem E6 (p:Int)(w:World):Calls prog 151 #[.int .i64 p] w fun e w'=>e=.returned (.bool (decide (126≤p)))∧w=w':=by
 go_enter func151,ntmps151
 go_wp2;go_ret;exact⟨rfl,rfl⟩
def fiB (p:Int):Bool:=decide (0≤p)&&decide (p≤504)
theorem ZK (p:Int)(w:World):Calls prog 145 #[.int .i64 p] w fun e w'=>e=.returned (.bool (fiB p))∧w=w':=by
 unfold fiB
 by_cases h2:0≤p
 ·have e2:decide (0≤p)=true:=zdt h2
  by_cases h3:p≤504
  ·have e3:decide (p≤504)=true:=zdt h3;rw[e2,e3]
   go_enter func145,ntmps145
   go_wp2;go_ret;exact⟨rfl,rfl⟩
  ·have e3:decide (p≤504)=false:=zdf h3;rw[e2,e3]
   go_enter func145,ntmps145
   go_wp2;go_ret;exact⟨rfl,rfl⟩
 ·have e2:decide (0≤p)=false:=zdf h2;rw[e2]
  go_enter func145,ntmps145
  go_wp2;go_ret;exact⟨rfl,rfl⟩
theorem y4x (a:Option Addr)(n c:Nat)(l:List Int)(w:World)(hn:l.length=n)(hs:PgS w a l)(hl:n≤1024)(hok:xT l n):
  Calls prog 199 #[.slice a n c] w fun e w'=>e=.returned (.int .i64 (pf l n))∧w=w':=by
 have Hs:=zh hs;have Hn:=zh hn;have Hok:=zh hok;clear hs hn hok
 go_enter func199,ntmps199
 go_wp2_with fail
 go_loopw [3,5,8] (fun s _ i wr=>∃k t:Nat,s=.int .i64 t∧i=.int .i64 k∧k≤n∧t≤1024*k∧Hid ((t:Int)=pf l k)∧w=wr) (fun _ _ i _=>n-(intOf i).toNat)
 case atStart=>exact⟨0,0,rfl,rfl,by omega,by omega,(J0 l).symm,by first|trivial|rfl⟩
 case round=>
  obtain⟨k,t,rfl,rfl,hk,ht,hts,rfl⟩:=hrel
  by_cases hlt:k<n
  ·obtain⟨g,o,rfl,hcell⟩:=Hs.out (by rw[Hn.out];omega);have q0:=hcell k (by rw[Hn.out];exact hlt);have h1:=(Ou _).1 (Hok.out k hlt);have h5:Hid ((t:Int)+ia l k=pf l (k+1)):=by show _=_;rw[Ez,←hts.out]
   obtain⟨x,hx⟩:=Int.eq_ofNat_of_zero_le h1.1;rw[hx] at q0 h1 h5;have h6:x≤1024:=by omega
   clear hcell hts hx h1;go_wp2
   go_roundw
   case rel=>exact⟨k+1,t+x,by go_num,by go_num,by omega,by omega,by show _=_;rw[←h5.out];omega,trivial⟩
   case measure=>simp[intOf];omega
  ·obtain rfl:k=n:=by omega
   go_wp2;go_ret;exact⟨by rw[←hts.out];rfl,rfl⟩
theorem jU (a:Option Addr)(n c:Nat)(l:List Int)(b:Int)(w:World)(hn:l.length=n)(hs:PgS w a l)(hl:n≤9223372036854775807):
  Calls prog 180 #[.slice a n c,.int .i64 b] w fun e w'=>e=.returned (.bool (z73 l b))∧w=w':=by
 have Hs:=zh hs;have Hn:=zh hn;have hno:=zh (fun h=>y8t (l:=l) (b:=b) h);have hyes:=zh ((ZF l b).2);have hb:=zh (JC b w);generalize z73 l b=CC at*;rw[hn] at hno hyes;clear hs hn
 by_cases h1:n<2
 ·have d1:decide ((n:Int)<2)=true:=zdt (by omega);have hy:=zh (hno.out (by omega));clear hno hyes
  go_enter func180,ntmps180
  go_wp2;go_ret;exact⟨by rw[hy.out];rfl,rfl⟩
 have d1:decide ((n:Int)<2)=false:=zdf (by omega)
 by_cases h2:1024<n
 ·have d2:decide (1024<(n:Int))=true:=zdt (by omega);have d2':decide (1024<n)=true:=zdt (by omega);have hy:=zh (hno.out (by omega));clear hno hyes
  go_enter func180,ntmps180
  go_wp2;go_ret;exact⟨by rw[hy.out];rfl,rfl⟩
 have d2:decide (1024<(n:Int))=false:=zdf (by omega);have d2':decide (1024<n)=false:=zdf (by omega)
 cases hB:okI b with
 | false=>
  rw[hB] at hb;have hy:=zh (hno.out (fun h=>by rw[hB] at h;cases h.2.2.1));clear hno hyes hB
  go_enter func180,ntmps180
  go_wp2_with fail;refine hb.out.mono ?_;rintro e w' ⟨rfl,rfl⟩;go_wp2;go_ret;exact⟨by rw[hy.out];rfl,rfl⟩
 | true=>
  rw[hB] at hb;have hyes2:=zh (fun h=>hyes.out ⟨by omega,by omega,hB,h⟩);have hno2:Hid (¬xT l n→CC=false):=fun h=>hno.out (fun h2=>h h2.2.2.2)
  clear hno hyes hB
  go_enter func180,ntmps180
  go_wp2_with fail;refine hb.out.mono ?_;rintro e w' ⟨rfl,rfl⟩;clear hb;go_wp2_with fail
  go_loopw [6,22] (fun _ i wr=>∃k:Nat,i=.int .i64 k∧k≤n∧Hid (xT l k)∧w=wr) (fun _ i _=>n-(intOf i).toNat)
  case atStart=>exact⟨0,rfl,by omega,fun i hi=>by omega,by first|trivial|rfl⟩
  case round=>
   obtain⟨k,rfl,hk,ht,rfl⟩:=hrel
   by_cases hlt:k<n
   ·obtain⟨g,o,rfl,hcell⟩:=Hs.out (by rw[Hn.out];omega);have q0:=hcell k (by rw[Hn.out];exact hlt);have hst:=zh (fun h=>z9d ht.out (k:=k) h);have hbad:Hid (okI (ia l k)=false→CC=false):=fun h=>hno2.out (fun h2=>by have:=h2 k hlt;rw[h] at this;cases this)
    have hc:=zh (JC (ia l k) w);generalize ia l k=y at*;generalize okI y=D at*;clear hcell ht hno2
    cases D with
    | false=>
     have hy:=zh (hbad.out rfl);clear hst hbad hyes2;go_wp2_with fail;refine hc.out.mono ?_;rintro e w' ⟨rfl,rfl⟩;go_wp2;go_ret;exact⟨by rw[hy.out];rfl,rfl⟩
    | true=>
     have hy:=zh (hst.out rfl);clear hst hbad;go_wp2_with fail;refine hc.out.mono ?_;rintro e w' ⟨rfl,rfl⟩;go_wp2
     go_roundw
     case rel=>exact⟨k+1,by go_num,by omega,hy,trivial⟩
     case measure=>simp[intOf];omega
   ·obtain rfl:k=n:=by omega
    have hy:=zh (hyes2.out ht.out);clear ht hno2 hyes2;go_wp2;go_ret;exact⟨by rw[hy.out];rfl,rfl⟩
theorem z6z (a:Option Addr)(n c:Nat)(l:List Int)(w:World)(hn:l.length=n)(hs:PgS w a l)(h2:2≤n)(hl:n≤1024)(hnc:n≤c)(hc:c≤maxLen)(hok:xT l n):
  Calls prog 181 #[.slice a n c] w fun e w'=>e=.returned (.tuple #[.int .i64 (bst l (n-2):Nat),.int .i64 (gr l (bst l (n-2)))])∧w=w':=by
 have Hs:=zh hs;have Hn:=zh hn;have Hok:=zh hok;obtain⟨g,o,rfl,hcell⟩:=hs (by rw[hn];omega);have Hc:=zh hcell;have hsum:=zh (y4x (some ⟨g,o,none⟩) n c l w hn (fun _=>⟨g,o,rfl,hcell⟩) hl hok);have Ht:=zh (L8 hok);obtain⟨T,hT⟩:=Int.eq_ofNat_of_zero_le (L8 hok).1;rw[hT] at hsum;have hTt:Hid (pf l n=(T:Int)):=hT;have hT9:T≤1048576:=by have:=Ht.out;omega
 have z1:IntKind.i64.wrap ((n:Int)-1)=((n-1:Nat):Int):=by rw[IntKind.wrap_i64];omega
 have z2:((n-1:Nat):Int)≤(c:Int):=by omega
 have z3:(n-1:Nat)≤c:=by omega
 obtain⟨m,hm⟩:∃m,m=n-1:=⟨_,rfl⟩
 rw[←hm] at z1 z2 z3;have hmn:Hid (n=m+1∧1≤m):=by show _∧_;omega
 have hm9:m≤1024:=by omega
 have hcm:c≤9223372036854775807:=by unfold maxLen at hc;omega
 clear hs hn hok hcell hT Ht hc hm h2 hl hnc
 go_enter func181,ntmps181
 go_wp2_with fail;refine hsum.out.mono ?_;rintro e w' ⟨rfl,rfl⟩;clear hsum;go_wp2_with fail
 go_loopw [4,5,6,7,8,9,10,19] (fun A B P L _ _ _ i wr=>∃(k s r p:Nat) (q:Int),A=.int .i64 s∧B=.int .i64 r∧P=.int .i64 p∧L=.int .i64 q∧i=.int .i64 k∧k≤m∧s≤1048576∧r≤1048576∧Hid ((s:Int)=pf l k)∧Hid ((r:Int)=(T:Int)-pf l k)∧Hid (0<k→p=bst l (k-1)∧q=gr l p)∧w=wr) (fun _ _ _ _ _ _ _ i _=>n-(intOf i).toNat)
 case atStart=>exact⟨0,0,T,0,0,rfl,rfl,rfl,rfl,rfl,by omega,by omega,by omega,(J0 l).symm,by show _=_;rw[J0];omega,fun h=>by omega,by first|trivial|rfl⟩
 case round=>
  obtain⟨k,s,r,p,q,rfl,rfl,rfl,rfl,rfl,hk,hs9,hr9,hsk,hrk,hbest,rfl⟩:=hrel
  by_cases hlt:k<m
  ·have q0:=Hc.out k (by rw[Hn.out];have:=hmn.out;omega);have h1:=(Ou _).1 (Hok.out k (by have:=hmn.out;omega));have h5:=Ez l k;have h6:=z1z Hok.out (show k+1≤n by have:=hmn.out;omega);have h7:=(L8 (Gx Hok.out (show k+1≤n by have:=hmn.out;omega))).1;rw[hTt.out] at h6;obtain⟨x,hx⟩:=Int.eq_ofNat_of_zero_le h1.1;rw[hx] at q0 h1 h5;rw[h5,←hsk.out] at h6 h7;have e1:x≤r:=by have:=hrk.out;rw[←hsk.out] at this;omega
   have e2:Hid (((s+x:Nat):Int)=pf l (k+1)):=by show _=_;rw[h5,←hsk.out];omega
   have e3:Hid (((r-x:Nat):Int)=(T:Int)-pf l (k+1)):=by show _=_;have:=hrk.out;rw[h5,←hsk.out];rw[←hsk.out] at this;omega
   have e4:(s+x:Nat)≤1048576:=by omega
   have e5:(r-x:Nat)≤1048576:=by omega
   have z4:IntKind.i64.wrap ((s:Int)+(x:Int))=((s+x:Nat):Int):=by rw[IntKind.wrap_i64];omega
   have z5:IntKind.i64.wrap ((r:Int)-(x:Int))=((r-x:Nat):Int):=by rw[IntKind.wrap_i64];omega
   obtain⟨S',hS'⟩:∃S',S'=s+x:=⟨_,rfl⟩
   obtain⟨R',hR'⟩:∃R',R'=r-x:=⟨_,rfl⟩
   rw[←hS'] at e2 e4 z4;rw[←hR'] at e3 e5 z5;obtain⟨G,hG⟩:∃G:Nat,(G:Int)=max (S':Int) (R':Int):=⟨max S' R',by omega⟩
   have hG2:Hid ((G:Int)=gr l (k+1)):=by show _=_;rw[hG];unfold gr;rw[Hn.out,hTt.out,←e3.out,←e2.out]
   have hG3:(if S'<R' then (R':Int) else (S':Int))=(G:Int):=by rw[hG];split<;>omega
   have hG4:max (S':Int) (R':Int)=(G:Int):=hG.symm;clear h5 h6 h7 hx h1 hS' hR' e1 hG hsk hrk
   by_cases hk0:k=0
   ·subst hk0;have b1:Hid ((0:Nat)+1=bst l 0∧(G:Int)=gr l (0+1)):=⟨rfl,hG2.out⟩
    clear hbest;simp only[Nat.add_zero] at q0;go_wp2
    go_roundw
    case rel=>exact⟨1,S',R',1,G,rfl,rfl,rfl,rfl,by go_num,by omega,e4,e5,e2,e3,fun _=>b1.out,trivial⟩
    case measure=>have:=hmn.out;simp[intOf];omega
   ·have hb:=zh (hbest.out (by omega));have dk:((k:Int)==0)=false:=by rw[beq_eq_false_iff_ne];omega
    have dk':(k==0)=false:=by rw[beq_eq_false_iff_ne];omega
    have hbs:Hid (bst l k=if (G:Int)<q then k+1 else p):=by
     show _=_;obtain⟨j,rfl⟩:∃j,k=j+1:=⟨k-1,by omega⟩
     have h1:=hb.out;rw[Nat.add_sub_cancel] at h1;rw[bst,←h1.1,←hG2.out,←h1.2]
    by_cases hd:(G:Int)<q
    ·have d1:decide ((G:Int)<q)=true:=zdt hd;have b2:Hid (k+1=bst l k∧(G:Int)=gr l (k+1)):=⟨by rw[hbs.out,if_pos hd],hG2.out⟩
     clear hbest hb hbs hG2;go_wp2
     go_roundw
     case rel=>exact⟨k+1,S',R',k+1,G,rfl,rfl,by go_num,rfl,by go_num,by omega,e4,e5,e2,e3,fun _=>b2.out,trivial⟩
     case measure=>have:=hmn.out;simp[intOf];omega
    ·have d1:decide ((G:Int)<q)=false:=zdf hd;have b2:Hid (p=bst l k∧q=gr l p):=⟨by rw[hbs.out,if_neg hd],hb.out.2⟩
     clear hbest hb hbs hG2;go_wp2
     go_roundw
     case rel=>exact⟨k+1,S',R',p,q,rfl,rfl,rfl,rfl,by go_num,by omega,e4,e5,e2,e3,fun _=>b2.out,trivial⟩
     case measure=>have:=hmn.out;simp[intOf];omega
  ·obtain rfl:k=m:=by omega
   have hfin:=zh (hbest.out hmn.out.2);have e7:Hid (n-2=k-1):=by show _=_;have:=hmn.out;omega
   clear hbest;go_wp2
   go_ret2
   exact⟨by rw[e7.out,←hfin.out.1,←hfin.out.2];rfl,rfl⟩
theorem jV (a:Option Addr)(n c:Nat)(l:List Int)(b:Int)(w:World)(hn:l.length=n)(hs:PgS w a l)(hnc:n≤c)(hc:c≤maxLen):
  Calls prog 147 #[.slice a n c,.int .i64 b] w fun e w'=>e=.returned (.tuple #[.int .i64 (spN l b),XY (spE l b)])∧w=w':=by
 have hcm:n≤9223372036854775807:=by unfold maxLen at hc;omega
 have hcan:=zh (jU a n c l b w hn hs (by omega))
 cases hB:z73 l b with
 | false=>
  rw[hB] at hcan;rw[(x1f hB).1,(x1f hB).2,x0w]
  go_enter func147,ntmps147
  go_wp2_with fail;refine hcan.out.mono ?_;rintro e w' ⟨rfl,rfl⟩;go_wp2
  go_ret2
  exact⟨rfl,rfl⟩
 | true=>
  rw[hB] at hcan;obtain⟨h1,h2,h3,h4⟩:=(ZF l b).1 hB;rw[hn] at h1 h2 h4;have hmid:=zh (z6z a n c l w hn hs h1 h2 hnc hc h4);have hbr:=YG l (n-2);have hgr:=y35 (by rw[hn];exact h4) (by omega) (bst l (n-2)) (by omega);have hb:=(Ou b).1 h3;have hlong:=zh (y8u (l:=l) (b:=b) hB);have hyes:=zh (y67 (l:=l) (b:=b) hB);rw[hn] at hlong hyes;generalize bst l (n-2)=p at*;generalize gr l p=q at*;obtain⟨Q,rfl⟩:=Int.eq_ofNat_of_zero_le hgr.1;obtain⟨B,rfl⟩:=Int.eq_ofNat_of_zero_le hb.1;have z1:IntKind.i64.wrap ((Q:Int)+(B:Int))=((Q+B:Nat):Int):=by rw[IntKind.wrap_i64];omega
  have hQB:((Q+B:Nat):Int)=(Q:Int)+(B:Int):=by omega
  rw[←hQB] at hlong hyes;have hfit:=zh (ZK ((Q+B:Nat):Int) w);generalize Q+B=R at*;unfold fiB at hfit;have e0:decide ((0:Int)≤(R:Int))=true:=zdt (by omega);rw[e0,Bool.true_and] at hfit
  by_cases hlt:504<R
  ·have e1:decide ((R:Int)≤504)=false:=zdf (by omega);rw[e1] at hfit;have hy:=hlong.out (by omega);rw[hy.1,hy.2,x0x];clear hlong hyes hy hQB hgr hb hbr h1 h2 h3 h4 hB e0 e1
   go_enter func147,ntmps147
   go_wp2_with fail;refine hcan.out.mono ?_;rintro e w' ⟨rfl,rfl⟩;go_wp2_with fail;refine hmid.out.mono ?_;rintro e w' ⟨rfl,rfl⟩;go_wp2_with fail;refine hfit.out.mono ?_;rintro e w' ⟨rfl,rfl⟩;go_wp2
   go_ret2
   exact⟨rfl,rfl⟩
  ·have e1:decide ((R:Int)≤504)=true:=zdt (by omega);rw[e1] at hfit;have hy:=hyes.out (by omega);rw[hy.1,hy.2,z8g];clear hlong hyes hy hQB hgr hb hbr h1 h2 h3 h4 hB e0 e1
   go_enter func147,ntmps147
   go_wp2_with fail;refine hcan.out.mono ?_;rintro e w' ⟨rfl,rfl⟩;go_wp2_with fail;refine hmid.out.mono ?_;rintro e w' ⟨rfl,rfl⟩;go_wp2_with fail;refine hfit.out.mono ?_;rintro e w' ⟨rfl,rfl⟩;go_wp2
   go_ret2
   exact⟨rfl,rfl⟩
theorem y4y {b:List Nat}(h:b.length=512)(hs:XZ (b.drop 508)=(YA 0#32 (b.take 508)).toNat)
  (hf:¬((1≤b.getD 0 0∧b.getD 0 0≤5)∧b.getD 1 0=0∧b.getD 2 0*256+b.getD 3 0≤504∧S6 ((b.take 508).drop (4+(b.getD 2 0*256+b.getD 3 0)))=true)):opS b=(0,[],3):=by
 unfold opS;rw[if_neg (by omega),if_neg (by simp[hs]),if_neg hf]
theorem y4z {b:List Nat}(h:b.length=512)(hs:XZ (b.drop 508)=(YA 0#32 (b.take 508)).toNat)
  (hf:(1≤b.getD 0 0∧b.getD 0 0≤5)∧b.getD 1 0=0∧b.getD 2 0*256+b.getD 3 0≤504∧S6 ((b.take 508).drop (4+(b.getD 2 0*256+b.getD 3 0)))=true):opS b=(b.getD 0 0,(b.drop 4).take (b.getD 2 0*256+b.getD 3 0),0):=by
 unfold opS;rw[if_neg (by omega),if_neg (by simp[hs]),if_pos hf]
theorem y0x (b o c:Nat)(l:List Nat)(w:World)(hl:l.length=512)(hc:512≤c)(hcm:c≤140737488355328)(hcs:Cs w b o l)(hb:B8 l):
  Calls prog 143 #[.slice (some ⟨b,o,none⟩) 512 c] w fun e w'=>e=.returned (.bool (decide (XZ (l.drop 508)=(YA 0#32 (l.take 508)).toNat)))∧w=w':=by
 have h:=z6m b o c (l.take 508) (l.drop 508) w (by rw[zld];omega) (by rw[zlk];omega) hcm (by rw[List.take_append_drop];exact hcs) (by rw[List.take_append_drop];exact hb);rw[show((l.take 508).length+4:Nat)=512 by rw[zlk];omega] at h;exact h
theorem z2c (a:Option Addr)(n c:Nat)(w:World)(h:n≠512):
  Calls prog 107 #[.slice a n c] w fun e w'=>e=.returned (.tuple #[.int .u8 0,.slice none 0 0,.int .i64 3])∧w=w':=by
 have d1:((n:Int) !=512)=true:=by simp;omega
 go_enter func107,ntmps107
 go_wp2
 go_ret3
 exact⟨rfl,rfl⟩
theorem z2d (b o c:Nat)(w:World)
  (hI:Calls prog 143 #[.slice (some ⟨b,o,none⟩) 512 c] w fun e w'=>e=.returned (.bool false)∧w=w'):
  Calls prog 107 #[.slice (some ⟨b,o,none⟩) 512 c] w fun e w'=>e=.returned (.tuple #[.int .u8 0,.slice none 0 0,.int .i64 4])∧w=w':=by
 go_enter func107,ntmps107
 go_wp2_with (go_at_call 143;refine hI.mono ?_;rintro e w' ⟨rfl,rfl⟩)
 go_ret3
 exact⟨rfl,rfl⟩
theorem jW (l:List Nat)(k:Nat)(h:k<508)(hl:l.length=512):S6 ((l.take 508).drop k)=(l.getD k 0==0&&S6 ((l.take 508).drop (k+1))):=by
 have hk:k<(l.take 508).length:=by rw[zlk];omega
 rw[List.drop_eq_getElem_cons hk];have e:(l.take 508)[k]=l.getD k 0:=by
  rw[List.getElem_take];simp[List.getD,show k<l.length by omega]
 rw[e];rfl
theorem z2e (l:List Nat):S6 ((l.take 508).drop 508)=true:=by
 rw[List.drop_of_length_le (by rw[zlk];omega)];rfl
set_option maxHeartbeats 1000000 in
theorem jX (b o c x0 x1 x2 x3 N:Nat)(zb gb:Bool)(l:List Nat)(w:World)(hl:l.length=512)(hc:512≤c)(hcm:c≤140737488355328)(hcs:Cs w b o l)(hb:B8 l)
  (hI:Calls prog 143 #[.slice (some ⟨b,o,none⟩) 512 c] w fun e w'=>e=.returned (.bool true)∧w=w')
  (h0:l.getD 0 0=x0) (h1:l.getD 1 0=x1) (h2:l.getD 2 0=x2) (h3:l.getD 3 0=x3) (hN:x2*256+x3=N) (hz:S6 ((l.take 508).drop (4+N))=zb)
  (hg:decide ((1≤x0∧x0≤5)∧x1=0∧N≤504)=gb):
  Calls prog 107 #[.slice (some ⟨b,o,none⟩) 512 c] w fun e w'=>
   e=.returned (if gb&&zb then .tuple #[.int .u8 x0,.slice (some ⟨b,o+4,none⟩) N (c-4:Nat),.int .i64 0] else .tuple #[.int .u8 0,.slice none 0 0,.int .i64 3])∧zB w w':=by
 have b0:=hb.get 0;have b1:=hb.get 1;have b2:=hb.get 2;have b3:=hb.get 3;rw[h0] at b0;rw[h1] at b1;rw[h2] at b2;rw[h3] at b3;have hlt:=hcs.lt (by omega);have Hcs:=zh (hcs.below (Ext.drew w) hlt);have Hbd:Hid (zB w w.drew):=Ext.drew w;have hdz:w.drew.heap.size=w.heap.size:=rfl;have Hlt:Hid (b<w.drew.heap.size):=hlt;have Hx:=zh (zai h0 (zai h1 (zai h2 h3)));have Hb:=zh hb;have Hl:=zh hl;have Hz:=zh hz;have Hg:=zh hg;have HN:=zh hN;clear h0 h1 h2 h3 hb hl hz hg hcs hlt hdz hN
 go_enter func107,ntmps107
 go_wp2_with fail;refine hI.mono ?_;rintro e w' ⟨rfl,rfl⟩;go_wp2_with fail;refine rgt (F:=fun _=>False) [(0,true),(1,true),(2,true),(3,true),(4,true),(5,true),(6,true),(7,true),(8,true),(9,true),(10,true)] (h:= ?_);clear hI;generalize w.drew=w3 at*;have c0:∀w',Zx (fun _=>False) w3 w'→w'.cell? ⟨b,o,none⟩=some (.int .u8 x0):=fun w' t=>by
  have:=Hcs.out 0 (by rw[Hl.out];omega);rw[Hx.out.1] at this;exact(t.cell Hlt.out (fun h=>h)).trans this
 have c1:∀w',Zx (fun _=>False) w3 w'→w'.cell? ⟨b,o+1,none⟩=some (.int .u8 x1):=fun w' t=>by
  have:=Hcs.out 1 (by rw[Hl.out];omega);rw[Hx.out.2.1] at this;exact(t.cell Hlt.out (fun h=>h)).trans this
 have c2:∀w',Zx (fun _=>False) w3 w'→w'.cell? ⟨b,o+2,none⟩=some (.int .u8 x2):=fun w' t=>by
  have:=Hcs.out 2 (by rw[Hl.out];omega);rw[Hx.out.2.2.1] at this;exact(t.cell Hlt.out (fun h=>h)).trans this
 have c3:∀w',Zx (fun _=>False) w3 w'→w'.cell? ⟨b,o+3,none⟩=some (.int .u8 x3):=fun w' t=>by
  have:=Hcs.out 3 (by rw[Hl.out];omega);rw[Hx.out.2.2.2] at this;exact(t.cell Hlt.out (fun h=>h)).trans this
 have y1:IntKind.i64.wrap (x2:Int)=(x2:Int):=IntWalk.i64_in _ (by omega);have y2:IntKind.i64.wrap (x3:Int)=(x3:Int):=IntWalk.i64_in _ (by omega);have y3:IntKind.i64.wrap (256*(x2:Int))=256*(x2:Int):=IntWalk.i64_in _ (by omega);have y4:IntKind.i64.wrap (256*(x2:Int)+(x3:Int))=(N:Int):=by rw[IntWalk.i64_in _ (by omega)];have:=HN.out;omega
 have hNl:N<65536:=by have:=HN.out;omega
 iterate 11 (refine gtr (v:= ?_) rfl (by rfl) ?_ ?_;rotate_left;(intro w' hw';go_simp;with_reducible rfl);simp only[Act.put,zs0,zs1,zs2])
 refine Yj ?_;have f0:=c0 w3 (Zx.refl _ _);have f1:=c1 w3 (Zx.refl _ _);clear y1 y2 y3 y4 c1 c2 c3
 by_cases k1:x0<1
 ·have d1:decide ((x0:Int)<1)=true:=by simp;omega
  obtain rfl:gb=false:=by rw[←Hg.out,decide_eq_false_iff_not];omega
  clear c0 Hcs;go_wp2_with fail
  go_ret3
  exact⟨rfl,Hbd.out⟩
 have d1:decide ((x0:Int)<1)=false:=by simp;omega
 by_cases k2:5<x0
 ·have d2:decide (5<(x0:Int))=true:=by simp;omega
  obtain rfl:gb=false:=by rw[←Hg.out,decide_eq_false_iff_not];omega
  clear c0 Hcs;go_wp2_with fail
  go_ret3
  exact⟨rfl,Hbd.out⟩
 have d2:decide (5<(x0:Int))=false:=by simp;omega
 by_cases k3:¬x1=0
 ·have d3:((x1:Int) !=0)=true:=by simp;omega
  obtain rfl:gb=false:=by rw[←Hg.out,decide_eq_false_iff_not];omega
  clear c0 Hcs;go_wp2_with fail
  go_ret3
  exact⟨rfl,Hbd.out⟩
 obtain rfl:x1=0:=by omega
 by_cases k4:504<N
 ·have d4:decide (504<(N:Int))=true:=by simp;omega
  obtain rfl:gb=false:=by rw[←Hg.out,decide_eq_false_iff_not];omega
  clear c0 Hcs;go_wp2_with fail
  go_ret3
  exact⟨rfl,Hbd.out⟩
 have d4:decide (504<(N:Int))=false:=by simp;omega
 obtain rfl:gb=true:=by rw[←Hg.out,decide_eq_true_iff];omega
 have s1:(4:Int)+(N:Int)≤508:=by omega
 go_wp2_with fail
 go_loop [6] (fun i=>∃k:Nat,4+N≤k∧k≤508∧i=.int .i64 k∧Hid (S6 ((l.take 508).drop k)=zb)) (fun i=>508-(intOf i).toNat)
 case atStart=>exact⟨4+N,zlr _,by omega,by go_num,Hz.out⟩
 case round=>
  obtain⟨k,hk4,hk8,rfl,hzk⟩:=hrel
  by_cases hlt:k<508
  ·have hstep:=jW l k hlt Hl.out;have hck:=Hcs.out k (by rw[Hl.out];omega);generalize l.getD k 0=X at*;have hzk':=hzk.out;rw[hstep] at hzk';have d5:decide ((k:Int)<508)=true:=by simp;omega
   have j1:(k:Int)<512:=by omega
   by_cases hX:X=0
   ·subst hX;have Hr:Hid (S6 ((l.take 508).drop (k+1))=zb):=by rwa [show((0==0):Bool)=true from rfl,Bool.true_and] at hzk'
    clear hzk hzk' hstep c0;go_wp2_with fail
    go_round
    case rel=>exact⟨k+1,by omega,by omega,by go_num,Hr⟩
    case measure=>simp[intOf];omega
   ·have d6:((X:Int) !=0)=true:=by simp;omega
    obtain rfl:zb=false:=by rw[←hzk',show((X==0):Bool)=false by simp[hX],Bool.false_and]
    clear hzk hzk' hstep c0;go_wp2_with fail
    go_ret3
    exact⟨rfl,Hbd.out⟩
  ·obtain rfl:k=508:=by omega
   obtain rfl:zb=true:=by rw[←hzk.out,z2e]
   clear hzk f0 c0;go_wp2_with fail;refine rgt (F:=fun _=>False) [(0,true),(1,true),(2,true),(3,true),(4,true),(5,true),(6,true),(7,true),(8,true),(9,true)] (h:= ?_);have c0:∀w',Zx (fun _=>False) w3.drew w'→w'.cell? ⟨b,o,none⟩=some (.int .u8 x0):=fun w' t=>by
    have:=Hcs.out 0 (by rw[Hl.out];omega);rw[Hx.out.1] at this;exact(t.cell Hlt.out (fun h=>h)).trans this
   have Hbd2:=zh Hbd.out.drew;clear Hbd;generalize w3.drew=w4 at*;have z1:IntKind.i64.wrap (4+(N:Int))=4+(N:Int):=IntWalk.i64_in _ (by omega);have z2:(4:Int)≤4+(N:Int):=by omega
   have z3:(4:Int)+(N:Int)≤(c:Int):=by omega
   have z4:((4:Int)+(N:Int)).toNat-4=N:=by omega
   iterate 10 (refine gtr (v:= ?_) rfl (by rfl) ?_ ?_;rotate_left;(intro w' hw';go_simp;with_reducible rfl);simp only[Act.put,zs0,zs1,zs2])
   refine Yj ?_;clear c0;go_wp2_with fail
   go_ret3
   exact⟨rfl,Hbd2.out⟩
theorem Ik (a:Option Addr)(n c:Nat)(ks:List ByteArray)(w:World)(hn:ks.length=n)(hs:TxS w a ks)(hl:n≤1000000)(hm:Pw ks):
  Calls prog 140 #[.slice a n c] w fun e w'=>e=.returned (.int .i64 (X7 ks n:Nat))∧w=w':=by
 have Hs:=zh hs;have Hn:=zh hn;have Hm:=zh hm;clear hs hn hm
 go_enter func140,ntmps140
 go_wp2_with fail
 go_loopw [3,5,8] (fun s _ i wr=>∃k t:Nat,s=.int .i64 t∧i=.int .i64 k∧k≤n∧t≤2+43*k∧Hid (t=X7 ks k)∧w=wr) (fun _ _ i _=>n-(intOf i).toNat)
 case atStart=>exact⟨0,2,rfl,rfl,by omega,by omega,rfl,by first|trivial|rfl⟩
 case round=>
  obtain⟨k,t,rfl,rfl,hk,ht,hts,rfl⟩:=hrel
  by_cases hlt:k<n
  ·obtain⟨g,o,rfl,hcell⟩:=Hs.out (by rw[Hn.out];omega);have q0:=hcell k (by rw[Hn.out];exact hlt);have h1:=(Xv (Hm.out k (by rw[Hn.out];exact hlt)).1).2;have h5:Hid (t+(3+(sa ks k).size)=X7 ks (k+1)):=by show _=_;rw[X7,←hts.out]
   generalize sa ks k=y at*;clear hcell hts;go_wp2
   go_roundw
   case rel=>exact⟨k+1,t+(3+y.size),by go_num,by go_num,by omega,by omega,h5,by first|trivial|rfl⟩
   case measure=>simp[intOf];omega
  ·obtain rfl:k=n:=by omega
   go_wp2;go_ret;exact⟨by rw[←hts.out];rfl,rfl⟩
theorem y0y (x:Int)(w:World)(h1: -9223372036854775808≤x)(h2:x≤9223372036854775807):Calls prog 69 #[.int .i64 x] w fun e w'=>e=.returned (.int .i64 (y9f x))∧w=w':=by
 by_cases h:x<1
 ·have d1:decide (x<1)=true:=zdt h;have e:y9f x=0:=by unfold y9f;rw[if_pos h]
  rw[e];clear e
  go_enter func69,ntmps69
  go_wp2;go_ret;exact⟨rfl,rfl⟩
 ·have d1:decide (x<1)=false:=zdf h;have e:Hid (y9f x=(x-1).tdiv 502+1):=by
   show _=_;unfold y9f;rw[if_neg h,Int.tdiv_eq_ediv_of_nonneg (by omega)]
  have b1:0≤(x-1).tdiv 502:=by rw[Int.tdiv_eq_ediv_of_nonneg (by omega)];omega
  have b2:(x-1).tdiv 502≤9223372036854775806:=by rw[Int.tdiv_eq_ediv_of_nonneg (by omega)];omega
  generalize hq:(x-1).tdiv 502=q at*
  go_enter func69,ntmps69
  go_wp2;go_ret;exact⟨by rw[e.out];rfl,rfl⟩
abbrev ET:TypeId:=113
abbrev RET:TypeId:=75
abbrev NT:TypeId:=95
abbrev VT:TypeId:=97
abbrev TCT:TypeId:=128
abbrev SCT:TypeId:=91
abbrev My:TypeId:=29
abbrev PNT:TypeId:=26
abbrev Z0:Value:=.slice none 0 0
abbrev pt (b:Nat):Value:=.pointer (some ⟨b,0,none⟩)
def Y9:Elt En:=⟨2,32,.agg #[.string ⟨#[]⟩,.string ⟨#[]⟩],fun e=> [.string e.k,.string e.v],fun _=>rfl,fun e u hu=>by
 simp only[List.mem_cons,List.not_mem_nil,or_false] at hu;rcases hu with rfl|rfl<;>rfl,by decide,rfl,fun T=>T==ET||T==RET⟩
def V5:Elt ByteArray:=⟨1,16,.string ⟨#[]⟩,fun s=> [.string s],fun _=>rfl,fun e u hu=>by
 simp only[List.mem_cons,List.not_mem_nil,or_false] at hu;subst hu;rfl,by decide,rfl,fun T=>T==9⟩
def V8:Elt Nat:=⟨1,8,.pointer none,fun b=> [pt b],fun _=>rfl,fun e u hu=>by
 simp only[List.mem_cons,List.not_mem_nil,or_false] at hu;subst hu;rfl,by decide,rfl,fun T=>T==PNT⟩
def pgE:Elt Nat:=⟨1,8,.int .i64 0,fun p=> [.int .i64 p],fun _=>rfl,fun e u hu=>by
 simp only[List.mem_cons,List.not_mem_nil,or_false] at hu;subst hu;rfl,by decide,rfl,fun T=>T==3⟩
structure Rw where
 k:ByteArray
 v:ByteArray
 a:Option Addr
 n:Nat
 c:Nat
def Rw.sl (x:Rw):Value:=.slice x.a x.n x.c
instance :Inhabited Rw:=⟨⟨ByteArray.empty,ByteArray.empty,none,0,0⟩⟩
def Uw:Elt Rw:=⟨3,56,.agg #[.string ⟨#[]⟩,.string ⟨#[]⟩,.slice none 0 0],fun e=> [.string e.k,.string e.v,.slice e.a e.n e.c],fun _=>rfl,fun e u hu=>by
 simp only[List.mem_cons,List.not_mem_nil,or_false] at hu;rcases hu with rfl|rfl|rfl<;>rfl,by decide,rfl,fun T=>T==TCT⟩
theorem jY:(prog.info? TCT).map (fun i=>(i.zero,i.size,i.bytes))=some (some Uw.zero,Uw.sz,Uw.by_):=by kernel_rfl
theorem jZ:(prog.info? 3).map (fun i=>(i.zero,i.size,i.bytes))=some (some pgE.zero,pgE.sz,pgE.by_):=by kernel_rfl
theorem y9n:(prog.info? ET).map (fun i=>(i.zero,i.size,i.bytes))=some (some Y9.zero,Y9.sz,Y9.by_):=by kernel_rfl
theorem z0a:(prog.info? RET).map (fun i=>(i.zero,i.size,i.bytes))=some (some Y9.zero,Y9.sz,Y9.by_):=by kernel_rfl
theorem z0b:(prog.info? 9).map (fun i=>(i.zero,i.size,i.bytes))=some (some V5.zero,V5.sz,V5.by_):=by kernel_rfl
theorem y0z:(prog.info? PNT).map (fun i=>(i.zero,i.size,i.bytes))=some (some V8.zero,V8.sz,V8.by_):=by kernel_rfl
section
variable {w:World}
theorem ES.ents {a:Option Addr}{es:List En}(h:ES Y9 w a es)(h0:0<es.length):∃g o,a=some ⟨g,o,none⟩∧∀i,i<es.length→w.cell? ⟨g,o+i*2,none⟩=some (.string (ea es i).k)∧w.cell? ⟨g,o+i*2+1,none⟩=some (.string (ea es i).v):=by
 obtain⟨g,o,rfl,hc⟩:=h.at h0;refine⟨g,o,rfl,fun i hi=> ?_⟩;have e:es[i]? =some (ea es i):=by unfold ea;simp[List.getD,hi]
 have h1:=hc (i*2+0) _ (Y9.row_at es i 0 _ e (by decide));have h2:=hc (i*2+1) _ (Y9.row_at es i 1 _ e (by decide));exact⟨h1,h2⟩
theorem ES.texts {a:Option Addr}{ks:List ByteArray}(h:ES V5 w a ks):TxS w a ks:=fun h0=>by
 obtain⟨g,o,rfl,hc⟩:=h.at h0;refine⟨g,o,rfl,fun i hi=> ?_⟩;have e:ks[i]? =some (sa ks i):=by unfold sa;simp[List.getD,hi]
 have h1:=hc (i*1+0) _ (V5.row_at ks i 0 _ e (by decide));rw[show i*1+0=i by omega] at h1;exact h1
def na (ps:List Nat)(i:Nat):Nat:=ps.getD i 0
theorem ES.ptrs {a:Option Addr}{ps:List Nat}(h:ES V8 w a ps)(h0:0<ps.length):∃g o,a=some ⟨g,o,none⟩∧∀i,i<ps.length→w.cell? ⟨g,o+i,none⟩=some (pt (na ps i)):=by
 obtain⟨g,o,rfl,hc⟩:=h.at h0;refine⟨g,o,rfl,fun i hi=> ?_⟩;have e:ps[i]? =some (na ps i):=by unfold na;simp[List.getD,hi]
 have h1:=hc (i*1+0) _ (V8.row_at ps i 0 _ e (by decide));rw[show i*1+0=i by omega] at h1;exact h1
theorem ES.pages {a:Option Addr}{ps:List Nat}(h:ES pgE w a ps)(h0:0<ps.length):∃g o,a=some ⟨g,o,none⟩∧∀i,i<ps.length→w.cell? ⟨g,o+i,none⟩=some (.int .i64 (na ps i:Nat)):=by
 obtain⟨g,o,rfl,hc⟩:=h.at h0;refine⟨g,o,rfl,fun i hi=> ?_⟩;have e:ps[i]? =some (na ps i):=by unfold na;simp[List.getD,hi]
 have h1:=hc (i*1+0) _ (pgE.row_at ps i 0 _ e (by decide));rw[show i*1+0=i by omega] at h1;exact h1
def ROk (w:World)(x:Rw)(e:En):Prop:=x.k=e.k∧x.v=e.v∧EV pgE w x.sl e.ch
theorem ROk.below {w':World}{x:Rw}{e:En}{B:Nat}(h:ROk w x e)(hb:Below B w w')(hB:w.heap.size≤B):ROk w' x e:=⟨h.1,h.2.1,h.2.2.below hb hB⟩
def RW (w:World):List Rw→List En→Prop
 | [],[]=>True
 | x::xs,e::es=>ROk w x e∧RW w xs es
 | _,_=>False
theorem RW.len:∀{xs:List Rw} {es:List En},RW w xs es→xs.length=es.length
 | [],[],_=>rfl
 | _::_,_::_,h=>by rw[List.length_cons,List.length_cons,RW.len h.2]
 | [],_::_,h=>h.elim
 | _::_,[],h=>h.elim
theorem RW.below {w':World}{B:Nat}(hb:Below B w w')(hB:w.heap.size≤B):∀{xs:List Rw} {es:List En},RW w xs es→RW w' xs es
 | [],[],_=>trivial
 | _::_,_::_,h=>⟨h.1.below hb hB,RW.below hb hB h.2⟩
 | [],_::_,h=>h.elim
 | _::_,[],h=>h.elim
theorem RW.take:∀{xs:List Rw} {es:List En} (k:Nat),RW w xs es→RW w (xs.take k) (es.take k)
 | [],[],k,_=>by simp[RW]
 | _::_,_::_,0,_=>trivial
 | _::_,_::_,k+1,h=>⟨h.1,RW.take k h.2⟩
 | [],_::_,_,h=>h.elim
 | _::_,[],_,h=>h.elim
theorem RW.drop:∀{xs:List Rw} {es:List En} (k:Nat),RW w xs es→RW w (xs.drop k) (es.drop k)
 | [],[],k,_=>by simp[RW]
 | _::_,_::_,0,h=>h
 | _::_,_::_,k+1,h=>RW.drop k h.2
 | [],_::_,_,h=>h.elim
 | _::_,[],_,h=>h.elim
theorem RW.app:∀{xs:List Rw} {es:List En} {xs2:List Rw} {es2:List En},RW w xs es→RW w xs2 es2→RW w (xs++xs2) (es++es2)
 | [],[],_,_,_,h2=>h2
 | _::_,_::_,_,_,h,h2=>⟨h.1,RW.app h.2 h2⟩
 | [],_::_,_,_,h,_=>h.elim
 | _::_,[],_,_,h,_=>h.elim
theorem RW.at:∀{xs:List Rw} {es:List En} {i:Nat},RW w xs es→i<es.length→ROk w (xs.getD i default) (ea es i)
 | [],[],i,_,hi=>by simp at hi
 | _::_,_::_,0,h,_=>h.1
 | _::_,_::_,i+1,h,hi=>by
  have:=RW.at (i:=i) h.2 (by simpa using hi);exact this
 | [],_::_,_,h,_=>h.elim
 | _::_,[],_,h,_=>h.elim
def CS (w:World)(a:Option Addr)(es:List En):Prop:=∃xs,ES Uw w a xs∧RW w xs es
theorem CS.nil (w:World):CS w none []:=⟨[],ES.nil w,trivial⟩
theorem CS.below {w':World}{a:Option Addr}{es:List En}{B:Nat}(h:CS w a es)(hb:Below B w w')(hB:w.heap.size≤B):CS w' a es:=by
 obtain⟨xs,h1,h2⟩:=h;exact⟨xs,h1.below hb hB,h2.below hb hB⟩
theorem CS.take {a:Option Addr}{es:List En}(h:CS w a es)(k:Nat):CS w a (es.take k):=by
 obtain⟨xs,h1,h2⟩:=h;exact⟨xs.take k,h1.take k,h2.take k⟩
theorem CS.drop {g o:Nat}{es:List En}(h:CS w (some ⟨g,o,none⟩) es)(k q:Nat)(hk:k≤es.length)(hq:q=o+k*3):CS w (some ⟨g,q,none⟩) (es.drop k):=by
 obtain⟨xs,h1,h2⟩:=h;exact⟨xs.drop k,h1.drop k q (by rw[h2.len];exact hk) hq,h2.drop k⟩
theorem CS.ents {a:Option Addr}{es:List En}(h:CS w a es)(h0:0<es.length):∃g o,a=some ⟨g,o,none⟩∧∀i,i<es.length→w.cell? ⟨g,o+i*3,none⟩=some (.string (ea es i).k)∧w.cell? ⟨g,o+i*3+1,none⟩=some (.string (ea es i).v)∧
  ∃v,w.cell? ⟨g,o+i*3+2,none⟩=some v∧EV pgE w v (ea es i).ch:=by
 obtain⟨xs,h1,h2⟩:=h;have hl:=h2.len;obtain⟨g,o,rfl,hc⟩:=h1.at (by omega);refine⟨g,o,rfl,fun i hi=> ?_⟩;obtain⟨e1,e2,e3⟩:=h2.at hi;have e:xs[i]? =some (xs.getD i default):=by simp[List.getD,show i<xs.length by omega]
 have c0:=hc (i*3+0) _ (Uw.row_at xs i 0 _ e (by decide));have c1:=hc (i*3+1) _ (Uw.row_at xs i 1 _ e (by decide));have c2:=hc (i*3+2) _ (Uw.row_at xs i 2 _ e (by decide));refine⟨by rw[←e1];exact c0,by rw[←e2];exact c1,_,c2,e3⟩
def CV (w:World)(v:Value)(es:List En):Prop:=∃a c,v=.slice a es.length c∧CS w a es∧(a=none→c=0)∧es.length≤c∧c≤maxLen
theorem CV.below {w':World}{v:Value}{es:List En}{B:Nat}(h:CV w v es)(hb:Below B w w')(hB:w.heap.size≤B):CV w' v es:=by
 obtain⟨a,c,rfl,hs,h1⟩:=h;exact⟨a,c,rfl,hs.below hb hB,h1⟩
theorem CV.ext {w':World}{v:Value}{es:List En}(h:CV w v es)(hb:zB w w'):CV w' v es:=h.below hb (zlr _)
theorem CV.none (w:World):CV w (.slice none 0 0) []:=⟨Option.none,0,rfl,CS.nil w,fun _=>rfl,zlr _,by unfold maxLen;omega⟩
theorem x4s {v:Value}{xs:List Rw}{es:List En}(h:EV Uw w v xs)(h2:RW w xs es):CV w v es:=by
 obtain⟨a,c,rfl,hs,hz,h3,h4⟩:=h;have hl:=h2.len;exact⟨a,c,by rw[hl],⟨xs,hs,h2⟩,hz,by omega,h4⟩
theorem CV.raw {v:Value}{es:List En}(h:CV w v es):∃xs,EV Uw w v xs∧RW w xs es:=by
 obtain⟨a,c,rfl,⟨xs,hs,h2⟩,hz,h3,h4⟩:=h;have hl:=h2.len;exact⟨xs,⟨a,c,by rw[hl],hs,hz,by omega,h4⟩,h2⟩
def nty (T:TypeId):Bool:=T==NT||T==VT
def NP (w:World)(b pg:Nat)(vc vk vp:Value):Prop:=∃T,nty T=true∧w.heap[b]? =some (.cells #[.int .i64 (pg:Nat),vc,vk,vp] T (0,0))
theorem NP.c0 {b pg:Nat}{vc vk vp:Value}(h:NP w b pg vc vk vp):w.cell? ⟨b,0,none⟩=some (.int .i64 (pg:Nat)):=by
 obtain⟨T,_,h'⟩:=h;simp[World.cell?,h']
theorem NP.c1 {b pg:Nat}{vc vk vp:Value}(h:NP w b pg vc vk vp):w.cell? ⟨b,1,none⟩=some vc:=by
 obtain⟨T,_,h'⟩:=h;simp[World.cell?,h']
theorem NP.c2 {b pg:Nat}{vc vk vp:Value}(h:NP w b pg vc vk vp):w.cell? ⟨b,2,none⟩=some vk:=by
 obtain⟨T,_,h'⟩:=h;simp[World.cell?,h']
theorem NP.c3 {b pg:Nat}{vc vk vp:Value}(h:NP w b pg vc vk vp):w.cell? ⟨b,3,none⟩=some vp:=by
 obtain⟨T,_,h'⟩:=h;simp[World.cell?,h']
theorem NP.lt {b pg:Nat}{vc vk vp:Value}(h:NP w b pg vc vk vp):b<w.heap.size:=h.elim fun _ h=>(zag.1 h.2).1
theorem NP.new (w:World)(pg:Nat)(vc vk vp:Value):NP (w.alloc (.cells #[.int .i64 (pg:Nat),vc,vk,vp] NT)) w.heap.size pg vc vk vp:=
 ⟨NT,rfl,by show(w.heap.push _)[w.heap.size]? =_;rw[Array.getElem?_push_size]⟩
theorem x4w (w:World)(pg:Nat)(vc vk vp:Value):NP (w.alloc (.cells #[.int .i64 (pg:Nat),vc,vk,vp] VT)) w.heap.size pg vc vk vp:=
 ⟨VT,by simp[nty],by show(w.heap.push _)[w.heap.size]? =_;rw[Array.getElem?_push_size]⟩
theorem NP.ext {w':World}{b pg:Nat}{vc vk vp:Value}(h:NP w b pg vc vk vp)(hb:zB w w'):NP w' b pg vc vk vp:=h.elim fun T h'=>⟨T,h'.1,(hb.block b (zag.1 h'.2).1).trans h'.2⟩
def NB (w:World)(b:Nat)(vc vk vp:Value):Prop:=∃pg,NP w b pg vc vk vp
theorem NP.nb {b pg:Nat}{vc vk vp:Value}(h:NP w b pg vc vk vp):NB w b vc vk vp:=⟨pg,h⟩
theorem NB.c1 {b:Nat}{vc vk vp:Value}(h:NB w b vc vk vp):w.cell? ⟨b,1,none⟩=some vc:=h.elim fun _ h=>h.c1
theorem NB.c2 {b:Nat}{vc vk vp:Value}(h:NB w b vc vk vp):w.cell? ⟨b,2,none⟩=some vk:=h.elim fun _ h=>h.c2
theorem NB.c3 {b:Nat}{vc vk vp:Value}(h:NB w b vc vk vp):w.cell? ⟨b,3,none⟩=some vp:=h.elim fun _ h=>h.c3
theorem NB.lt {b:Nat}{vc vk vp:Value}(h:NB w b vc vk vp):b<w.heap.size:=h.elim fun _ h=>h.lt
theorem NB.ext {w':World}{b:Nat}{vc vk vp:Value}(h:NB w b vc vk vp)(hb:zB w w'):NB w' b vc vk vp:=h.elim fun pg h=>⟨pg,h.ext hb⟩
end
def QG (w:World)(b pg:Nat)(es:List En):Prop:=∃vc,NP w b pg vc Z0 Z0∧CV w vc es
def K2 (w:World)(b pg:Nat)(ks:List ByteArray)(ps:List Nat):Prop:=∃vk vp,NP w b pg Z0 vk vp∧EV V5 w vk ks∧EV V8 w vp ps
theorem QG.ext {w w':World}{b pg:Nat}{es:List En}(h:QG w b pg es)(hb:zB w w'):QG w' b pg es:=by
 obtain⟨vc,h1,h2⟩:=h;exact⟨vc,h1.ext hb,h2.ext hb⟩
theorem K2.ext {w w':World}{b pg:Nat}{ks:List ByteArray}{ps:List Nat}(h:K2 w b pg ks ps)(hb:zB w w'):K2 w' b pg ks ps:=by
 obtain⟨vk,vp,h1,h2,h3⟩:=h;exact⟨vk,vp,h1.ext hb,h2.ext hb,h3.ext hb⟩
def y00 (w:World)(b:Nat)(es:List En):Prop:=∃vc,NB w b vc Z0 Z0∧CV w vc es
def z2f (w:World)(b:Nat)(ks:List ByteArray)(ps:List Nat):Prop:=∃vk vp,NB w b Z0 vk vp∧EV V5 w vk ks∧EV V8 w vp ps
theorem QG.leaf {w:World}{b pg:Nat}{es:List En}(h:QG w b pg es):y00 w b es:=by
 obtain⟨vc,h1,h2⟩:=h;exact⟨vc,h1.nb,h2⟩
theorem K2.bran {w:World}{b pg:Nat}{ks:List ByteArray}{ps:List Nat}(h:K2 w b pg ks ps):z2f w b ks ps:=by
 obtain⟨vk,vp,h1,h2,h3⟩:=h;exact⟨vk,vp,h1.nb,h2,h3⟩
theorem y00.ext {w w':World}{b:Nat}{es:List En}(h:y00 w b es)(hb:zB w w'):y00 w' b es:=by
 obtain⟨vc,h1,h2⟩:=h;exact⟨vc,h1.ext hb,h2.ext hb⟩
theorem z2f.ext {w w':World}{b:Nat}{ks:List ByteArray}{ps:List Nat}(h:z2f w b ks ps)(hb:zB w w'):z2f w' b ks ps:=by
 obtain⟨vk,vp,h1,h2,h3⟩:=h;exact⟨vk,vp,h1.ext hb,h2.ext hb,h3.ext hb⟩
def Nd (w:World):Nat→SB→SB→Nat→List En→Nat→Prop
 | 0,lo,hi,b,es,s=>y00 w b es∧ltO lo hi∧srt es∧(∀x∈es,okE x∧ins lo hi x.k)∧s=Y3 es
 | h+1,lo,hi,b,es,s=>∃ks ps ess,z2f w b ks ps∧X8 (fun lo hi p e=>∃s,Nd w h lo hi p e s∧126≤s∧s≤504) ks lo hi ps ess∧es=ess.flatten∧s=T8 ks
def zU (w:World)(h:Nat)(lo hi:SB)(p:Nat)(e:List En):Prop:=∃s,Nd w h lo hi p e s∧126≤s∧s≤504
theorem Nd.ext {w w':World}(hb:zB w w'):∀(h:Nat) {lo hi:SB} {b:Nat} {es:List En} {s:Nat},Nd w h lo hi b es s→Nd w' h lo hi b es s
 | 0,_,_,_,_,_,⟨h1,h2⟩=>⟨h1.ext hb,h2⟩
 | h+1,_,_,_,_,_,⟨ks,ps,ess,h1,h2,h3⟩=>⟨ks,ps,ess,h1.ext hb,h2.mono (fun _ _ _ _ ⟨s,h4,h5⟩=>⟨s,Nd.ext hb h h4,h5⟩),h3⟩
theorem Nd.facts {w:World}:∀(h:Nat) {lo hi:SB} {b:Nat} {es:List En} {s:Nat},Nd w h lo hi b es s→ltO lo hi∧srt es∧∀x∈es,okE x∧ins lo hi x.k
 | 0,_,_,_,_,_,⟨_,h2,h3,h4,_⟩=>⟨h2,h3,h4⟩
 | h+1,_,_,_,_,_,⟨ks,ps,ess,_,h2,h3,_⟩=>by
  have:=h2.facts (fun lo hi p e hg=>by
   obtain⟨s,h4,_⟩:=hg;exact Nd.facts h h4)
  rw[h3];exact⟨this.1,this.2.1,this.2.2.1⟩
theorem zU.facts {w:World}{h:Nat}:∀lo hi p e,zU w h lo hi p e→ltO lo hi∧srt e∧∀x∈e,okE x∧ins lo hi x.k:=fun _ _ _ _ ⟨_,h4,_⟩=>Nd.facts h h4
theorem zU.count {w:World}:∀(h:Nat) lo hi p e,zU w h lo hi p e→2*4^h≤e.length
 | 0,lo,hi,p,e,⟨s,⟨_,_,_,h4,h5⟩,h6,_⟩=>by
  have h7:=Vu (fun x hx=>(h4 x hx).1);unfold Y3 at h5
  rcases zng e.length 2 with h8|h8
  ·have:vs e.length=1:=Uj (by omega);omega
  ·exact h8
 | h+1,lo,hi,p,e,⟨s,⟨ks,ps,ess,_,h2,h3,h4⟩,h6,_⟩=>by
  have h7:=h2.count (m:=2*4^h) (fun lo hi p e hg=>zU.count h lo hi p e hg);have h8:=Y5 (h2.facts zU.facts).2.2.2;unfold T8 at h4;have h9:3≤ks.length:=by omega
  rw[h3];have h10:2*4^h*4≤2*4^h*(ks.length+1):=Nat.mul_le_mul_left _ (by omega);rw[Nat.pow_succ];omega
def NdT (w:World):Nat→SB→SB→Nat→Tr→Prop
 | 0,lo,hi,b,t=>∃pg es,t=.leaf pg es∧QG w b pg es∧ltO lo hi∧srt es∧∀x∈es,okE x∧ins lo hi x.k
 | h+1,lo,hi,b,t=>∃pg ks ps ts,t=.bran pg ks ts∧K2 w b pg ks ps∧X8 (fun lo hi p t=>NdT w h lo hi p t∧126≤t.sz∧t.sz≤504) ks lo hi ps ts
def X2 (w:World)(h:Nat)(lo hi:SB)(p:Nat)(t:Tr):Prop:=NdT w h lo hi p t∧126≤t.sz∧t.sz≤504
theorem G8 {w:World}{h:Nat}{lo hi:SB}{b:Nat}{t:Tr}:NdT w (h+1) lo hi b t↔∃pg ks ps ts,t=.bran pg ks ts∧K2 w b pg ks ps∧X8 (X2 w h) ks lo hi ps ts:=Iff.rfl
theorem NdT.ext {w w':World}(hb:zB w w'):∀(h:Nat) {lo hi:SB} {b:Nat} {t:Tr},NdT w h lo hi b t→NdT w' h lo hi b t
 | 0,_,_,_,_,⟨pg,es,h0,h1,h2⟩=>⟨pg,es,h0,h1.ext hb,h2⟩
 | h+1,_,_,_,_,⟨pg,ks,ps,ts,h0,h1,h2⟩=>⟨pg,ks,ps,ts,h0,h1.ext hb,h2.mono (fun _ _ _ _ ⟨h4,h5⟩=>⟨NdT.ext hb h h4,h5⟩)⟩
theorem X2.ext {w w':World}(hb:zB w w'){h:Nat}{lo hi:SB}{p:Nat}{t:Tr}(hg:X2 w h lo hi p t):X2 w' h lo hi p t:=⟨NdT.ext hb h hg.1,hg.2⟩
theorem NdT.nd {w:World}:∀(h:Nat) {lo hi:SB} {b:Nat} {t:Tr},NdT w h lo hi b t→Nd w h lo hi b t.es t.sz
 | 0,_,_,_,_,⟨pg,es,h0,h1,h2,h3,h4⟩=>by
  subst h0;rw[Tr.es];exact⟨h1.leaf,h2,h3,h4,rfl⟩
 | h+1,_,_,_,_,⟨pg,ks,ps,ts,h0,h1,h2⟩=>by
  subst h0;rw[Tr.es];exact⟨ks,ps,ts.map Tr.es,h1.bran,h2.map Tr.es (fun _ _ _ t ⟨h4,h5⟩=>⟨t.sz,NdT.nd h h4,h5⟩),Rq ts,rfl⟩
theorem X2.good {w:World}{h:Nat}{lo hi:SB}{p:Nat}{t:Tr}(hg:X2 w h lo hi p t):zU w h lo hi p t.es:=⟨t.sz,NdT.nd h hg.1,hg.2⟩
theorem X8.good {w:World}{h:Nat}{ks:List ByteArray}{lo hi:SB}{ps:List Nat}{ts:List Tr}(hr:X8 (X2 w h) ks lo hi ps ts):X8 (zU w h) ks lo hi ps (ts.map Tr.es):=hr.map Tr.es (fun _ _ _ _ hg=>hg.good)
theorem X8.factsT {w:World}{h:Nat}{ks:List ByteArray}{lo hi:SB}{ps:List Nat}{ts:List Tr}(hr:X8 (X2 w h) ks lo hi ps ts):ltO lo hi∧srt (esL ts)∧(∀x∈esL ts,okE x∧ins lo hi x.k)∧∀k∈ks,okK k=true:=by
 rw[Rq];exact hr.good.facts zU.facts
end Go.Proofs.YtdgladhfibfdlaaGreatDoor
