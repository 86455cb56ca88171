/-
  Steps.
-/
import Derived.Test.YtdnfhjfbanhhcaaGreatDoorQLBk21
import Derived.Test.YtdnfhjfbanhhcaaGreatDoorProg
namespace Go.Proofs.YtdnfhjfbanhhcaaGreatDoor
open Go Go.RowKit
def St (l:List Nat)(i:Nat)(cs:List Ce)(S:RS):Prop:=(S.wr=false∧(numS ⟨l,false⟩ 504).2.wr=false∧decN i (numS ⟨l,false⟩ 504).2.l=some (cs,S.l))∨(S.wr=true∧S.l=[]∧decS l=none)
theorem x8o (l:List Nat)(h:(numS ⟨l,false⟩ 504).2.wr=true→(numS ⟨l,false⟩ 504).2.l=[]):St l 0 [] (numS ⟨l,false⟩ 504).2:=by
 cases hw:(numS ⟨l,false⟩ 504).2.wr with
 | false=>exact .inl ⟨hw,hw,by rw[decN]⟩
 | true=>exact .inr ⟨hw,h hw,q1x hw⟩
theorem st_no {l:List Nat}{i:Nat}{cs:List Ce}{S:RS}(h:St l i cs S)(hi:i<(numS ⟨l,false⟩ 504).1)(hm:mayB (tkS S).1=false):decS l=none:=by
 rcases h with ⟨hw,_,hd⟩|⟨_,_,h2⟩
 ·rw[y84 rfl hw] at hm
  cases hc:z5f S.l with
  | none=>exact z86 (y32 hd hc) (by omega)
  | some x=>
   obtain⟨c,r⟩:=x;rw[x23 hc] at hm;exact z86 (x7d hd hc hm) (by omega)
 ·exact h2
theorem q4y {l:List Nat}{i:Nat}{cs:List Ce}{S:RS}(h:St l i cs S)(hi:i<(numS ⟨l,false⟩ 504).1)(hm:mayB (tkS S).1=true)(hinv:(tkS S).2.wr=true→(tkS S).2.l=[]):St l (i+1) (cs++[(tkS S).1]) (tkS S).2:=by
 rcases h with ⟨hw,hw0,hd⟩|⟨hw,hl,h2⟩
 ·rw[y84 rfl hw] at hm hinv⊢
  cases hc:z5f S.l with
  | none=>exact .inr ⟨x24 hc,hinv (x24 hc),z86 (y32 hd hc) (by omega)⟩
  | some x=>
   obtain⟨c,r⟩:=x;rw[x23 hc] at hm⊢
   exact .inl ⟨rfl,hw0,y31 hd hc hm⟩
 ·rw[y84 hl hw,tk_wr] at hm;cases hm
theorem q4z {l:List Nat}{cs:List Ce}{S:RS}(h:St l (numS ⟨l,false⟩ 504).1 cs S)(hl:l.length≤504):
  (okS S=false→decS l=none)∧(okS S=true→¬asc cs→decS l=none)∧(okS S=true→asc cs→decS l=some cs):=by
 rcases h with ⟨hw,h0,hd⟩|⟨hw,_,h2⟩
 ·have:=y8f hl h0 hd;refine⟨fun ho=>this.2.1 (fun hx=> ?_),fun _ ha=>this.2.2 ha,fun ho ha=>this.1 ?_ ha⟩
  ·unfold okS at ho;rw[hw,hx] at ho;cases ho
  ·unfold okS at ho;rw[hw] at ho;simpa using ho
 ·have:okS S=false:=by unfold okS;rw[hw];rfl
  exact⟨fun _=>h2,(fun ho=>by rw[this] at ho;cases ho),(fun ho=>by rw[this] at ho;cases ho)⟩
noncomputable def decC (l:List Nat):List Ce:=match decS l with
 | none=> []
 | some cs=>cs
noncomputable def decE (l:List Nat):Nat:=match decS l with
 | none=>3
 | some _=>0
theorem z6t {l:List Nat}(h:decS l=none):decC l=[]∧decE l=3:=by unfold decC decE;rw[h];exact⟨rfl,rfl⟩
theorem y86 {l:List Nat}{cs:List Ce}(h:decS l=some cs):decC l=cs∧decE l=0:=by unfold decC decE;rw[h];exact⟨rfl,rfl⟩
theorem x8p {w w':World}{B b n:Nat}{v:Value}{xs:List Value}{S:RS}(h:w.ownsRow B CT 4 v n xs)(hr:Rd w b S)(t:Turn (fun i=>i=b) w w'):w'.ownsRow B CT 4 v n xs:=by
 refine⟨h.1,?_⟩
 rcases h.2 with h1|⟨g,cap,cur,h1,h2,h3,h4⟩
 ·exact .inl h1
 ·refine .inr ⟨g,cap,cur,h1,h2,t.hg h3 (fun e=> ?_),h4⟩;subst e;obtain⟨u,hu,_⟩:=hr.ex;have hu':w.heap[g]? =_:=hu;rw[h3] at hu';have:(CT:Nat)=RDT:=by cases hu'
  exact absurd this (by decide)
theorem q40 {w:World}{B b n:Nat}{v:Value}{xs:List Value}{S:RS}(h:w.ownsRow B CT 4 v n xs)(hr:Rd w b S):∀i,v.ownBlock=some i→B≤i∧i≠b:=fun i hi=>by
 refine⟨(h.lt i hi).1,fun e=> ?_⟩;subst e
 rcases h.2 with ⟨h1,_⟩|⟨g,cap,cur,h1,h2,h3,h4⟩
 ·subst h1;cases hi
 ·subst h1;simp only[Value.ownBlock,Option.some.injEq] at hi;subst hi;obtain⟨u,hu,_⟩:=hr.ex;have hu':w.heap[g]? =_:=hu;rw[h3] at hu';have:(CT:Nat)=RDT:=by cases hu'
  exact absurd this (by decide)
set_option maxRecDepth 100000 in
set_option maxHeartbeats 1000000 in
theorem x03 (a:Option Addr)(n c:Nat)(l:List Nat)(w:World)(hn:l.length=n)(hs:Src w a l)(hz:a=none→c=0)(hl:n≤65536)(hb8:B8 l):
  Calls Tryz.prog 131 #[.slice a n c] w fun e w'=>∃v,e=.returned (.tuple #[v,errV (decE l)])∧Cl w' v (decC l)∧Below w.heap.size w w':=by
 have Hs:=zh (zai hs hz);have Hn:=zh hn;have H8:=zh hb8;clear hs hz hn hb8
 by_cases hlong:504<n
 ·have hd:=zh (z6t (x2z (l:=l) (by rw[Hn.out];exact hlong)));have d1:decide (504<(n:Int))=true:=by simp;omega
  go_enter Tryz.func131,Tryz.ntmps131
  go_wp2
  go_ret2
  exact⟨.slice none 0 0,by rw[hd.out.2];rfl,by rw[hd.out.1];exact Cl.none _,zbr _ _⟩
 ·have d1:decide (504<(n:Int))=false:=by simp;omega
  have hN:=z80 ⟨l,false⟩ 504;have hst:=zh (x8o l);have hno:=zh (fun i cs S=>st_no (l:=l) (i:=i) (cs:=cs) (S:=S));have hyes:=zh (fun i cs S=>q4y (l:=l) (i:=i) (cs:=cs) (S:=S));have hend:=zh (fun cs S=>q4z (l:=l) (cs:=cs) (S:=S));obtain⟨NS,hNS⟩:∃NS,NS=numS ⟨l,false⟩ 504:=⟨_,rfl⟩
  rw[←hNS] at hN hst hno hyes hend;obtain⟨N,S0⟩:=NS;dsimp only at hN hst hno hyes hend;have HNS:=zh hNS.symm;clear hNS
  go_enter Tryz.func131,Tryz.ntmps131
  go_wp2_with fail;refine(x4k a n c l Hn.out w Hs.out.1 Hs.out.2 (by omega) H8.out).mono ?_;rintro e w1 ⟨b,rfl,hbb,hr1,hb1⟩;have Hbb:=zh hbb;have Hr1:=zh hr1.rb;have Hb1:=zh hb1;clear hbb hr1 hb1;go_wp2_with fail;refine(z4w w1 b w1.heap.size ⟨l,false⟩ Hr1.out 504).mono ?_;rintro e w2 ⟨rfl,hr2,ht2⟩;rw[HNS.out] at hr2⊢
  have Hb2:=zh (Turn.own Hb1.out ht2 Hbb.out (zlr _));have Hz2:Hid (w1.heap.size≤w2.heap.size):=ht2.size;have Hz1:Hid (w.heap.size≤w1.heap.size):=Hb1.out.size;have hst0:=zh (hst.out hr2.inv);have Hr2:=zh hr2;clear hr2 ht2 Hb1 Hr1;dsimp only;go_wp2_with fail
  go_loopw [5,15] (fun lv i wr=>∃(k:Nat) (cs:List Ce) (S:RS) (v:Value),i=.int .u64 k∧lv=v∧k≤N∧Hid (cs.length=k)∧Hid (St l k cs S)∧Hid (wr.ownsRow w1.heap.size CT 4 v cs.length (cvs cs))∧Hid (Rb wr b w1.heap.size S)∧Hid (w1.heap.size≤wr.heap.size)∧Hid (Below w.heap.size w wr)) (fun _ i _=>N-(intOf i).toNat)
  case atStart=>exact⟨0,[],S0,.slice none 0 0,rfl,rfl,by omega,rfl,hst0,World.ownsRow_nil w2 w1.heap.size CT 4,Hr2,Hz2,Hb2⟩
  case round=>
   obtain⟨k,cs,S,v,rfl,rfl,hk,hcl,hS,hown,hr,hz,hB⟩:=hrel
   by_cases hlt:k<N
   ·have hno1:=zh (fun h=>z6t (hno.out k cs S hS.out hlt h));have hyes1:=zh (hyes.out k cs S hS.out hlt);have htk:=zh (y5a wr b w1.heap.size S hr.out hz.out);obtain⟨T,hT⟩:∃T,T=tkS S:=⟨_,rfl⟩
    rw[←hT] at hno1 hyes1 htk;obtain⟨⟨x0,x1,x2,x3⟩,S3⟩:=T;unfold Ce.val at htk;dsimp only at hno1 hyes1 htk;clear hT;go_wp2_with fail;refine htk.out.mono ?_;rintro e w3 ⟨rfl,hr3,ht3⟩;have Hb3:=zh (Turn.own hB.out ht3 Hbb.out (zlr _));have Ho3:=zh (x8p hown.out hr.out.rd ht3);have Hz3:Hid (w1.heap.size≤w3.heap.size):=znt hz.out ht3.size;have Hr3:=zh hr3;have hsz3:=Hb3.out.size;clear htk ht3 hr3 hown hB hr hS hz;have hnew:Below w3.heap.size w3 (w3.alloc (.cells #[.string x0,.string x1,.int .i64 x2,.int .i64 x3] CT)):=(zbr _ _).alloc (zlr _) _;have hchk:=zh (z6p x0 x1 x2 x3 (w3.alloc (.cells #[.string x0,.string x1,.int .i64 x2,.int .i64 x3] CT)));have Hn4:=zh hnew;have hci:=zh (CIn.new w3 CT ⟨x0,x1,x2,x3⟩);clear hnew;generalize mayB ⟨x0,x1,x2,x3⟩=M at*;unfold chkC at hchk
    cases M with
    | false=>
     have hd:=zh (hno1.out rfl);clear hno1 hyes1 Ho3 Hr3;simp only[Bool.false_eq_true,if_false] at hchk;go_wp2_with fail;refine hchk.out.mono ?_;rintro e w4 ⟨rfl,hb4⟩;have Hb4:=zh (Hb3.out.trans ((Hn4.out.trans (hb4.mono Hn4.out.size)).mono hsz3));clear hb4;go_wp2
     go_ret2
     exact⟨.slice none 0 0,by rw[hd.out.2];rfl,by rw[hd.out.1];exact Cl.none _,Hb4.out⟩
    | true=>
     have hst2:=zh (hyes1.out rfl Hr3.out.inv);clear hno1 hyes1;simp only[if_true] at hchk;go_wp2_with fail;refine hchk.out.mono ?_;rintro e w4 ⟨rfl,hb4⟩;have hb34:Below w3.heap.size w3 w4:=Hn4.out.trans (hb4.mono Hn4.out.size);have Hb4:=zh (Hb3.out.trans (hb34.mono hsz3));have Ho4:=zh (z0p Ho3.out hb34 (zlr _));have Hr4:=zh (Hr3.out.below hb34);have hz4:w1.heap.size≤w4.heap.size:=znt Hz3.out hb34.size;have ci4:=hci.out.ext hb4;have r0:=ci4.c0;have r1:=ci4.c1;have r2:=ci4.c2;have r3:=ci4.c3;dsimp only at r0 r1 r2 r3;have hsz4:=Hb4.out.size;have hn5:=zh (x42 w4 CT ⟨x0,x1,x2,x3⟩);clear hb4 hb34 ci4 hci Hn4 hchk Hb3 Ho3 Hr3
     go_wp2_with (at_builtin;refine z3e rfl (.tmp 23) (.tmp 25) 168 rfl w1.heap.size CT Tryz.underlying168 q4v _ cs (by rfl) (Ho4.out.alloc _) w4.heap.size 1 ⟨x0,x1,x2,x3⟩ (by rfl) hn5.out (by rw[hcl.out];omega) (by simp;omega) ?_;intro v' w5 hown5 hgrow5)
     have hal:Below w4.heap.size w4 (w4.alloc (.cells #[.string x0,.string x1,.int .i64 x2,.int .i64 x3] CT)):=(zbr _ _).alloc (zlr _) _;have hr5:Hid (Rb w5 b w1.heap.size S3):=(Hr4.out.below hal).overF (z3y hgrow5.out) (q40 (Ho4.out.alloc _) (Hr4.out.below hal).rd);have hB5:Hid (Below w.heap.size w w5):=(Hb4.out.alloc hsz4 _).grown hgrow5.out (by simp;omega) (fun j hj=>znt Hz1.out (Ho4.out.lt j hj).1);have hz5:Hid (w1.heap.size≤w5.heap.size):=znt hz4 (znt hal.size hgrow5.out.size);have hcl5:Hid ((cs++[(⟨x0,x1,x2,x3⟩:Ce)]).length=k+1):=by show _=_;rw[zla,hcl.out];rfl
     clear hgrow5 hal Ho4 Hr4 Hb4 hn5;go_wp2
     go_roundw
     case rel=>exact⟨k+1,cs++[⟨x0,x1,x2,x3⟩],S3,v',by go_num,rfl,by omega,hcl5,hst2,hown5,hr5,hz5,hB5⟩
     case measure=>simp[intOf];omega
   ·obtain rfl:k=N:=by omega
    have he:=hend.out cs S hS.out (by rw[Hn.out];omega);have he1:=zh (fun h=>z6t (he.1 h));have he2:=zh (fun h h2=>z6t (he.2.1 h h2));have he3:=zh (fun h h2=>y86 (he.2.2 h h2));have hcell:=zh (z9o hown.out);obtain⟨av,cv,hv,hcs,hcz,hcl2⟩:=z9o hown.out;have hdn:=zh (y82 wr b S hr.out.rd);clear he
    cases hok:okS S with
    | false=>
     have hd:=zh (he1.out hok);have hdv:z5w S=errV 3:=by unfold z5w;rw[hok];rfl
     rw[hdv] at hdn;clear he1 he2 he3 hok hdv hcs hcz;go_wp2_with fail;refine hdn.out.mono ?_;rintro e w' ⟨rfl,rfl⟩;rw[q0f];go_wp2
     go_ret2
     exact⟨.slice none 0 0,by rw[hd.out.2];rfl,by rw[hd.out.1];exact Cl.none _,hB.out⟩
    | true=>
     have hdv:z5w S=.nilIface:=by unfold z5w;rw[hok];rfl
     rw[hdv] at hdn;have he2':=zh (he2.out hok);have he3':=zh (he3.out hok);clear he1 he2 he3 hok hdv;subst hv;have hasc:=zh (y03 av _ cv cs wr rfl hcs (by rw[hcl.out];omega));have hLL:Hid (cs.length=cs.length):=rfl;obtain⟨L,hL⟩:∃L,L=cs.length:=⟨_,rfl⟩
     rw[←hL] at hasc⊢
     replace hLL:Hid (cs.length=L):=hL.symm;clear hL;go_wp2_with fail;refine hdn.out.mono ?_;rintro e w' ⟨rfl,rfl⟩;go_wp2_with fail;refine hasc.out.mono ?_;rintro e w6 ⟨D,rfl,hD,hb6⟩;have hB6:=zh (hB.out.trans (hb6.mono hB.out.size));have Hcs:=zh (zai hcs (zai hcz hcl2));have hb6':=zh hb6;have HD:=zh hD;clear hD hb6 hcs hcz hcl2 hasc hB
     cases D with
     | false=>
      have hd:=zh (he2'.out (fun h=>by have:=HD.out.2 h;cases this));clear he2' he3' HD;go_wp2
      go_ret2
      exact⟨.slice none 0 0,by rw[hd.out.2];rfl,by rw[hd.out.1];exact Cl.none _,hB6.out⟩
     | true=>
      have hd:=zh (he3'.out (HD.out.1 rfl));clear he2' he3' HD;go_wp2
      go_ret2
      refine⟨_,by rw[hd.out.2];rfl,?_,hB6.out⟩;rw[hd.out.1];exact⟨av,cv,by rw[hLL.out];rfl,Hcs.out.1.below hb6'.out (zlr _),Hcs.out.2.1,Hcs.out.2.2⟩
theorem x46 (c:Ce)(l:List Nat):l++oneS c=((l++vb c.k.size++bn c.k)++vb c.n.toNat)++z6c c:=by
 unfold oneS;simp only[List.append_assoc]
set_option maxRecDepth 100000 in
set_option maxHeartbeats 1000000 in
theorem y7a (a:Option Addr)(m cap:Nat)(l:List Nat)(k v:ByteArray)(n p:Int)(w:World)(hm:l.length=m)(hs:Src w a l)(hl:m≤32768)(h:mayB ⟨k,v,n,p⟩=true):
  Calls Tryz.prog 122 #[.slice a m cap,.agg #[.string k,.string v,.int .i64 n,.int .i64 p]] w fun e w'=>∃r,e=.returned r∧Sl w' r (l++oneS ⟨k,v,n,p⟩)∧Below w.heap.size w w':=by
 have hk:=x7c h;obtain⟨N,rfl⟩:=Int.eq_ofNat_of_zero_le (y3y h);have hn:=x2q h;have hin:=x2r h;have hout:=x2s h;dsimp only at hk hn hin hout;have hN:N≤2048:=by omega
 have hk40:k.size≤40:=hk.2;have hparts:=x46 ⟨k,v,(N:Int),p⟩ l;dsimp only at hparts;rw[show((N:Int)).toNat=N from rfl] at hparts;have v1:=z6a (show k.size<18446744073709551616 by omega);have v2:=z6a (show N<18446744073709551616 by omega);obtain⟨w0,hw0⟩:∃w0,w0=w.alloc (.cells #[.string k,.string v,.int .i64 (N:Int),.int .i64 p] CT):=⟨_,rfl⟩
 have hb0:Below w.heap.size w w0:=by rw[hw0];exact(zbr _ _).alloc (zlr _) _
 have c0:w0.cell? ⟨w.heap.size,0,none⟩=some (.string k):=by rw[hw0];simp
 have c1:w0.cell? ⟨w.heap.size,1,none⟩=some (.string v):=by rw[hw0];simp
 have c2:w0.cell? ⟨w.heap.size,2,none⟩=some (.int .i64 (N:Int)):=by rw[hw0];simp
 have c3:w0.cell? ⟨w.heap.size,3,none⟩=some (.int .i64 p):=by rw[hw0];simp
 have hlt:w.heap.size<w0.heap.size:=by rw[hw0];simp
 obtain⟨g,c,w1,hcv,hsrc,hc1,hc2,hb1⟩:=y1x w0 k (by omega);have hcs:∀w':World,Below w0.heap.size w0 w'→w'.cell? ⟨w.heap.size,1,none⟩=some (.string v)∧w'.cell? ⟨w.heap.size,2,none⟩=some (.int .i64 (N:Int))∧w'.cell? ⟨w.heap.size,3,none⟩=some (.int .i64 p):=fun w' hb=>
  ⟨by rw[hb.cell (p:=⟨w.heap.size,1,none⟩) hlt];exact c1,by rw[hb.cell (p:=⟨w.heap.size,2,none⟩) hlt];exact c2,by rw[hb.cell (p:=⟨w.heap.size,3,none⟩) hlt];exact c3⟩
 have Hsrc:=zh hsrc;have Hb1:=zh hb1;have Hb0:=zh hb0;have Hcs:=zh hcs;have Hm:=zh hm;have hl1:Hid ((l++vb k.size++bn k).length=m+vs k.size+k.size):=by show _=_;rw[zla,z2h,zla,hm];rfl
 have hl2:Hid ((l++vb k.size++bn k++vb N).length=m+vs k.size+k.size+vs N):=by show _=_;rw[zla,hl1.out];rfl
 have hp:=zh (z6q a (some ⟨g,0,none⟩) m cap k.size c l (bn k) hm (z2h k) w1 ((hs.below hb0 (zlr _)).below hb1 (zlr _)) Hsrc.out (fun h=>by cases h) (by omega) (by omega));have Hparts:=zh hparts;have hi:=fun w=>z8n (N:Int) w
 have htail:Hid (z6c ⟨k,v,(N:Int),p⟩=if (N:Int)≤64 then bn v else [p.toNat/256%256,p.toNat%256]):=rfl;clear hparts hs hm hcs hb0 hb1 hsrc hc2 hk h hn;generalize oneS ⟨k,v,(N:Int),p⟩=ONE at*;generalize z6c ⟨k,v,(N:Int),p⟩=TL at*;generalize vs k.size=A at*;generalize l++vb k.size++bn k=L at*;generalize hLN:L++vb N=LN at*;have HLN:=zh hLN;clear hLN;generalize vs N=B at*;clear c0 c1 c2 c3 hlt;subst hw0
 go_enter Tryz.func122,Tryz.ntmps122
 go_wp2_with fail;refine hp.out.mono ?_;rintro e w2 ⟨r,rfl,hv,hb2⟩;obtain⟨a2,cp2,rfl,hs2,hz2,_⟩:=hv.arg;have hb02:=Hb1.out.trans (hb2.mono Hb1.out.size);obtain⟨d1,d2,d3⟩:=Hcs.out w2 hb02;have Hb02:=zh hb02;have Hs2:=zh hs2;clear hv hs2 hz2 hb2 hp Hb1 Hsrc hcv hb02;rw[hl1.out];go_wp2_with fail;refine(z5v a2 _ cp2 L hl1.out N w2 Hs2.out (by omega) (by omega)).mono ?_;rintro e w3 ⟨r,rfl,hv,hb3⟩;rw[HLN.out] at hv;obtain⟨a3,cp3,rfl,hs3,hz3,_⟩:=hv.arg;have hb03:=Hb02.out.trans (hb3.mono Hb02.out.size);obtain⟨d1',d2',d3'⟩:=Hcs.out w3 hb03;have Hb03:=zh hb03;have Hs3:=zh hs3;have Hz3:=zh hz3;clear hv hs3 hz3 hb3 Hb02 Hs2 hb03 d1 d2 d3;rw[hl2.out]
 by_cases h64:(N:Int)≤64
 ·have e1:decide ((N:Int)≤64)=true:=by simpa using h64
  rw[e1] at hi;have hT:Hid (TL=bn v):=by show _=_;rw[htail.out,if_pos h64]
  have hvs:=(hin h64).1;have hvn:v.size≤64:=by omega
  clear htail h64 hin hout e1;obtain⟨g4,c4,w4,hcv4,hsrc4,_,hc4,hb4⟩:=y1x w3 v (by omega);have Hs4:=zh (zai (Hs3.out.below hb4 (zlr _)) hsrc4);have Hb4:=zh (Hb03.out.trans (hb4.mono Hb03.out.size));clear hsrc4 hb4 hc4 Hs3;go_wp2_with fail;refine(hi _).mono ?_;rintro e w' ⟨rfl,rfl⟩;go_wp2_with fail;refine(y00 w4 _ _ _ a3 (some ⟨g4,0,none⟩) _ cp3 v.size c4 LN (bn v) (by rfl) rfl hl2.out (z2h v) Hs4.out.1 Hs4.out.2 Hz3.out (fun h=>by cases h) (by omega)).mono ?_;rintro e w5 ⟨r,rfl,hv,hb5⟩;have hbn:=Hb0.out.trans ((Hb4.out.trans (hb5.mono Hb4.out.size)).mono Hb0.out.size);rw[←hT.out,←Hparts.out] at hv;go_wp2;go_ret;exact⟨_,rfl,hv,hbn⟩
 ·have e1:decide ((N:Int)≤64)=false:=by simpa using h64
  rw[e1] at hi;have hT:Hid (TL=[p.toNat/256%256,p.toNat%256]):=by show _=_;rw[htail.out,if_neg h64]
  obtain⟨h1,h2,h3⟩:=hout (by omega);obtain⟨P,rfl⟩:=Int.eq_ofNat_of_zero_le (show 0≤p by omega);have hP:P≤1023:=by omega
  rw[show((P:Int)).toNat=P from rfl] at hT;clear htail h64 hin hout e1 h1 h2 h3;have hput:=zh (z83 a3 cp3 LN P 2 w3 (by rw[hl2.out];omega) (by omega) (by omega) (by omega) Hs3.out);rw[hl2.out] at hput;go_wp2_with fail;refine(hi _).mono ?_;rintro e w' ⟨rfl,rfl⟩;go_wp2_with fail;refine hput.out.mono ?_;rintro e w5 ⟨rfl,hr,hb5⟩;have hbn:=Hb0.out.trans ((Hb03.out.trans (hb5.mono Hb03.out.size)).mono Hb0.out.size);have e5:(LN++beL P 2).length=m+A+k.size+B+2:=by rw[zla,hl2.out];rfl
  have hsl:=Sl.row hr (by rw[e5];unfold maxLen;omega);rw[e5,q2u,←hT.out,←Hparts.out] at hsl;go_wp2;go_ret;exact⟨_,rfl,hsl,hbn⟩
end Go.Proofs.YtdnfhjfbanhhcaaGreatDoor
