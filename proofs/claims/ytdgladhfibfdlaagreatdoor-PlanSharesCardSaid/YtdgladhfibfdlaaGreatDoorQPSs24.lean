/-
  Steps.
-/
import Derived.Test.YtdgladhfibfdlaaGreatDoorQPSs20
import Derived.Test.YtdgladhfibfdlaaGreatDoorQPSs19
namespace Go.Proofs.YtdgladhfibfdlaaGreatDoor
open Go Go.RowKit Go.Shelf Go.Proofs.Tryz
theorem z7h (k v:ByteArray)(n p:Int)(w:World):Calls prog 132 #[.agg #[.string k,.string v,.int .i64 n,.int .i64 p]] w fun e w'=>e=.returned (.bool (!Nk ⟨k,v,n,p⟩))∧zB w w':=by
 have hb0:zB w (w.alloc (.cells #[.string k,.string v,.int .i64 n,.int .i64 p] CT)):=(zbr _ _).alloc (zlr _) _;have hb:=zh hb0;have hc:=zh (yH k v n p (w.alloc (.cells #[.string k,.string v,.int .i64 n,.int .i64 p] CT)));clear hb0;generalize Nk ⟨k,v,n,p⟩=M at*;unfold x3r at hc
 cases M
 all_goals
  simp only[Bool.false_eq_true,if_false,if_true] at hc
  go_enter func132,ntmps132
  go_wp2_with fail;refine hc.out.mono ?_;rintro e w' ⟨rfl,hb2⟩;have hbn:=zh (hb.out.trans (hb2.mono hb.out.size));clear hb2;go_wp2;go_ret;exact⟨rfl,hbn.out⟩
set_option maxRecDepth 100000 in
theorem z0x (a:Option Addr)(n c:Nat)(cs:List Ce)(w:World)(hn:cs.length=n)(hs:z77 w a cs)(hl:n≤9223372036854775807):
  Calls prog 169 #[.slice a n c,.func (.func 132) #[] #[]] w fun e w'=>∃R:Int,e=.returned (.int .i64 R)∧(decide (0≤R)=true↔¬Rz cs)∧zB w w':=by
 have Hs:=zh hs;have Hn:=zh hn;clear hs hn;have eg:∀args w,(callFunc 132 args).run prog w=.ok (.enter 132 args) w:=enters_of func132 (by kernel_rfl) rfl
 go_enter func169,ntmps169
 go_wp2
 go_loopw [5,8] (fun _ i wr=>∃k:Nat,k≤n∧i=.int .i64 k∧Hid (∀j,j<k→Nk (ca cs j)=true)∧Hid (zB w wr)) (fun _ i _=>n-(intOf i).toNat)
 case atStart=>exact⟨0,Nat.zero_le _,rfl,fun j h=>by omega,zbr _ _⟩
 case round=>
  obtain⟨k,hk,rfl,hall,hB⟩:=hrel
  by_cases hlt:k<n
  ·obtain⟨g,o,rfl,hcell⟩:=Hs.out.below hB.out (zlr _) (by rw[Hn.out];omega);obtain⟨q0,q1,q2,q3⟩:=hcell k (by rw[Hn.out];exact hlt);have hyes:Hid (Nk (ca cs k)=true→∀j,j<k+1→Nk (ca cs j)=true):=fun h j hj=>by
    rcases zng j k with h1|h1
    ·exact hall.out j h1
    ·obtain rfl:j=k:=by omega
     exact h
   have hno:Hid (Nk (ca cs k)=false→¬Rz cs):=fun h h2=>by
    have:=h2 k (by rw[Hn.out];exact hlt);rw[h] at this;cases this
   clear hcell hall;generalize ca cs k=y at*;obtain⟨x0,x1,x2,x3⟩:=y;dsimp only at q0 q1 q2 q3;have hcall:=zh (z7h x0 x1 x2 x3 wr);generalize Nk ⟨x0,x1,x2,x3⟩=M at*
   cases M with
   | true=>
    have hy:=zh (hyes.out rfl);rw[show(!true)=false from rfl] at hcall;clear hyes hno
    go_wp2_with (go_at_fn 132;refine hcall.out.mono ?_;rintro e w' ⟨rfl,hb⟩)
    have hB2:=zh (hB.out.trans (hb.mono hB.out.size));clear hb
    go_roundw
    case rel=>exact⟨k+1,by omega,by go_num,hy,hB2⟩
    case measure=>simp[intOf];omega
   | false=>
    have hy:=zh (hno.out rfl);rw[show(!false)=true from rfl] at hcall;clear hyes hno
    go_wp2_with (go_at_fn 132;refine hcall.out.mono ?_;rintro e w' ⟨rfl,hb⟩)
    have hB2:=zh (hB.out.trans (hb.mono hB.out.size));clear hb;go_ret;exact⟨_,rfl,⟨fun _=>hy.out,fun _=>by simp⟩,hB2.out⟩
  ·obtain rfl:k=n:=by omega
   have hy:Hid (Rz cs):=fun j hj=>hall.out j (by rw[←Hn.out];exact hj)
   clear hall;go_wp2;go_ret;exact⟨_,rfl,⟨fun h=>by simp at h,fun h=>absurd hy.out h⟩,hB.out⟩
theorem XI (a:Option Addr)(n c:Nat)(cs:List Ce)(w:World)(hn:cs.length=n)(hs:z77 w a cs)(hl:n≤9223372036854775807):
  Calls prog 131 #[.slice a n c,.func (.func 132) #[] #[]] w fun e w'=>∃D,e=.returned (.bool D)∧(D=true↔¬Rz cs)∧zB w w':=by
 have hI:=zh (z0x a n c cs w hn hs hl);clear hn hs
 go_enter func131,ntmps131
 go_wp2_with (go_at_call 169;refine hI.out.mono ?_;rintro e w' ⟨R,rfl,hR,hb⟩;have HR:=zh hR;have Hb:=zh hb;clear hR hb)
 go_ret;exact⟨_,rfl,HR.out,Hb.out⟩
set_option maxRecDepth 100000 in
set_option maxHeartbeats 1000000 in
theorem z7i (a:Option Addr)(n c:Nat)(cs:List Ce)(w:World)(hn:cs.length=n)(hs:z77 w a cs)(hl:n≤65536):
  Calls prog 98 #[.slice a n c] w fun e w'=>∃v,e=.returned (.tuple #[v,x2y (z4i cs)])∧Sl w' v (y38 cs)∧zB w w':=by
 have Hs:=zh hs;have Hn:=zh hn;have hC:=zh (XI a n c cs w hn hs (by omega));clear hs hn
 go_enter func98,ntmps98
 go_wp2_with fail;refine hC.out.mono ?_;rintro e w1 ⟨D,rfl,hD,hb1⟩;have HD:=zh hD;have Hb1:=zh hb1;clear hD hb1 hC
 cases D with
 | true=>
  have he:=zh (x3f (HD.out.1 rfl));go_wp2
  go_ret2
  exact⟨.slice none 0 0,by rw[he.out.1];rfl,by rw[he.out.2];exact Sl.none _,Hb1.out⟩
 | false=>
  have hall:Hid (Rz cs):=by
   show Rz cs
   by_cases h:Rz cs
   ·exact h
   ·have:=HD.out.2 h;cases this
  clear HD;have Hs1:=zh (Hs.out.below Hb1.out (zlr _));go_wp2_with fail;refine(z7c a n c cs w1 Hn.out Hs1.out (by omega)).mono ?_;rintro e w2 ⟨D,rfl,hD,hb2⟩;have HD:=zh hD;have Hs2:=zh (Hs1.out.below hb2 (zlr _));have Hb2:=zh (Hb1.out.trans (hb2.mono Hb1.out.size));clear hD hb2 Hb1 Hs1
  cases D with
  | false=>
   have he:=zh (x1k hall.out (fun h=>by have:=HD.out.2 h;cases this));clear HD;go_wp2
   go_ret2
   exact⟨.slice none 0 0,by rw[he.out.1];rfl,by rw[he.out.2];exact Sl.none _,Hb2.out⟩
  | true=>
   have hasc:=zh (HD.out.1 rfl);clear HD;have hll:Hid ((Tj cs).length=vs n+(Q6 cs).length):=by show _=_;rw[Gj,Hn.out]
   have hllb:(Tj cs).length≤10+124*n:=by
    have h1:=y8y hall.out cs.length (zlr _);rw[z4h cs _ (zlr _),Hn.out] at h1;have h2:=I9 (show n<18446744073709551616 by omega);rw[hll.out];omega
   have h5:=zh (fun h=>x3g hall.out hasc.out (show 504<(Tj cs).length from h));have h0:=zh (fun h=>x1l hall.out hasc.out (show(Tj cs).length≤504 from h));have hsz:=zh (yL a n c cs w2 Hn.out Hs2.out (by omega) hall.out);have hload:Hid (Tj cs=vb n++Q6 cs):=by show _=_;unfold Tj;rw[Hn.out]
   generalize hLL:(Tj cs).length=LL at*;have HLL:=zh hLL;clear hLL;go_wp2_with fail;refine hsz.out.mono ?_;rintro e w3 ⟨rfl,hb3⟩;have Hs3:=zh (Hs2.out.below hb3 (zlr _));have Hb3:=zh (Hb2.out.trans (hb3.mono Hb2.out.size));clear hb3 Hb2 Hs2 hsz
   by_cases hlong:504<LL
   ·have he:=zh (h5.out hlong);have d1:decide (504<(LL:Int))=true:=by simp;omega
    clear h5 h0;go_wp2
    go_ret2
    exact⟨.slice none 0 0,by rw[he.out.1];rfl,by rw[he.out.2];exact Sl.none _,Hb3.out⟩
   ·have he:=zh (h0.out (by omega));have d1:decide (504<(LL:Int))=false:=by simp;omega
    clear h5 h0;go_wp2_with fail;refine(Iy none 0 0 [] rfl n w3 (Src.nil _ _) (by omega) (by omega)).mono ?_;rintro e w4 ⟨v,rfl,hv,hb4⟩;have Hs4:=zh (Hs3.out.below hb4 (zlr _));have Hb4:=zh (Hb3.out.trans (hb4.mono Hb3.out.size));have Hv:=zh hv;clear hv hb4 Hb3 Hs3;go_wp2_with fail
    go_loopw [4,24] (fun b i wr=>∃k:Nat,k≤n∧i=.int .i64 k∧Hid (Sl wr b (vb n++Q6 (cs.take k)))∧Hid (zB w wr)) (fun _ i _=>n-(intOf i).toNat)
    case atStart=>exact⟨0,by omega,rfl,by show Sl _ _ _;have:=Hv.out;rw[List.nil_append] at this;rw[List.take_zero,Q6,List.append_nil];exact this,Hb4⟩
    case round=>
     obtain⟨k,hk,rfl,hsl,hB⟩:=hrel
     by_cases hlt:k<n
     ·obtain⟨g,o,rfl,hcell⟩:=Hs.out.below hB.out (zlr _) (by rw[Hn.out];omega);obtain⟨q0,q1,q2,q3⟩:=hcell k (by rw[Hn.out];exact hlt);have hmay:=hall.out k (by rw[Hn.out];exact hlt);have hbs:=zh (qY cs k (by rw[Hn.out];exact hlt));obtain⟨ab,cb,rfl,hsb,hzb,_⟩:=hsl.out.arg;have hlen:(vb n++Q6 (cs.take k)).length≤504:=by
       have h1:=z9r cs k;unfold z9o at h1;have h2:=hll.out;rw[zla];show vs n+_≤_;omega
      generalize ca cs k=y at*;obtain⟨x0,x1,x2,x3⟩:=y;dsimp only at q0 q1 q2 q3;have hnew:zB wr (wr.alloc (.cells #[.string x0,.string x1,.int .i64 x2,.int .i64 x3] CT)):=(zbr _ _).alloc (zlr _) _;have hput:=zh (z25 ab _ cb _ x0 x1 x2 x3 (wr.alloc (.cells #[.string x0,.string x1,.int .i64 x2,.int .i64 x3] CT)) rfl (hsb.below hnew (zlr _)) (by omega) hmay);have Hnew:=zh (hB.out.trans (hnew.mono hB.out.size));generalize (vb n++Q6 (cs.take k)).length=m at*;clear hcell hmay hsb hzb hnew hsl hB;go_wp2_with fail;refine hput.out.mono ?_;rintro e w5 ⟨v,rfl,hv,hb5⟩;have hB2:=zh (Hnew.out.trans (hb5.mono Hnew.out.size));have hv2:Hid (Sl w5 v (vb n++Q6 (cs.take (k+1)))):=by show Sl _ _ _;rw[hbs.out,←List.append_assoc];exact hv
      clear hv hb5 Hnew hput;go_wp2
      go_roundw
      case rel=>exact⟨k+1,by omega,by go_num,hv2,hB2⟩
      case measure=>simp[intOf];omega
     ·obtain rfl:k=n:=by omega
      have hsl2:=hsl.out;rw[List.take_of_length_le (by rw[Hn.out];exact zlr _),←hload.out] at hsl2;have Hsl2:=zh hsl2;clear hsl hsl2;go_wp2
      go_ret2
      exact⟨_,by rw[he.out.1];rfl,by rw[he.out.2];exact Hsl2.out,hB.out⟩
end Go.Proofs.YtdgladhfibfdlaaGreatDoor
namespace Go.Proofs.YtdgladhfibfdlaaGreatDoor
open Go Go.RowKit Go.Shelf Go.Proofs.Tryz
theorem z0y (a:Option Addr)(n c:Nat)(l:List Nat)(p:Nat)(w:World)(hn:l.length=n)(hs:Src w a l)(hl:n≤65536)(hp:p≤1023):
  Calls prog 141 #[.slice a n c,.int .i64 p] w fun e w'=>∃r,e=.returned r∧Sl w' r (l++z14 p)∧zB w w':=by
 subst hn;have hput:=zh (YH a c l p 2 w hl (by omega) (by omega) (by omega) hs);have z1:IntKind.u64.wrap (p:Int)=(p:Int):=by rw[IntKind.wrap_u64];omega
 have htw:Hid (z14 p=beL p 2):=rfl;have hlen:Hid ((l++beL p 2).length=l.length+2):=by show _=_;rw[zla];rfl
 clear hs
 go_enter func141,ntmps141
 go_wp2_with fail;refine hput.out.mono ?_;rintro e w' ⟨rfl,hr,hb⟩;have hs:=Sl.row hr (by rw[hlen.out];unfold maxLen;omega);rw[hlen.out] at hs;go_wp2;go_ret;exact⟨_,rfl,by rw[htw.out];exact hs,hb⟩
theorem y15 (ks:List ByteArray)(is:List Int)(k:Nat):xU ks is (k+1)=(xU ks is k++vb (sa ks k).size++bn (sa ks k))++z14 (ia is (k+1)):=by
 rw[xU];unfold pcF;simp only[List.append_assoc]
set_option maxRecDepth 100000 in
set_option maxHeartbeats 1000000 in
theorem z0z (a b:Option Addr)(n c m d:Nat)(ks:List ByteArray)(is:List Int)(w:World)(hn:ks.length=n)(hm:is.length=m)(hs:TxS w a ks)(hp:PgS w b is)(hl:n≤65536)(hl2:m≤65537):
  Calls prog 101 #[.agg #[.slice a n c,.slice b m d]] w fun e w'=>∃v,e=.returned (.tuple #[v,x2y (Ek ks is)])∧Sl w' v (zD ks is)∧zB w w':=by
 have Hn:=zh (zai hn hm);obtain⟨w0,hw0⟩:∃w0,w0=w.alloc (.cells #[.slice a n c,.slice b m d] FT):=⟨_,rfl⟩
 have hb0:Hid (zB w w0):=by rw[hw0];exact(zbr _ _).alloc (zlr _) _
 have hpb:Hid (PB w0 w.heap.size FT (.slice a n c) (.slice b m d)):=by rw[hw0];exact PB.new _ _ _ _
 have hw0':=zh hw0.symm;have Hs:=zh (zai (hs.below hb0.out (zlr _)) (hp.below hb0.out (zlr _)));have hC:=zh (z22 a b n c m d ks is w0 hn hm Hs.out.1 Hs.out.2 (by omega) (by omega));clear hs hn hm hp hw0
 go_enter func101,ntmps101
 go_wp2_with fail;rw[hw0'.out];refine hC.out.mono ?_;rintro e w1 ⟨D,rfl,hD,hb1⟩;have HD:=zh hD;have Hb1:=zh (hb0.out.trans (hb1.mono hb0.out.size));have Hpb:=zh (hpb.out.ext hb1);have Hs1:=zh (zai (Hs.out.1.below hb1 (zlr _)) (Hs.out.2.below hb1 (zlr _)));clear hD hb1 hC hw0' hb0 hpb Hs;unfold x3s
 cases D with
 | false=>
  have he:=zh (x1p (fun h=>by have:=HD.out.2 h;cases this));simp only[Bool.false_eq_true,if_false];go_wp2
  go_ret2
  exact⟨.slice none 0 0,by rw[he.out.1];rfl,by rw[he.out.2];exact Sl.none _,Hb1.out⟩
 | true=>
  have hmay:=zh (HD.out.1 rfl);have c0:=Hpb.out.c0;have c1:=Hpb.out.c1;have hsz:=zh (z7d a n c ks w1 Hn.out.1 Hs1.out.1 (by omega) hmay.out.1);have hll:Hid ((Rj ks is).length=X7 ks n):=by show _=_;rw[zC hmay.out.1,Hn.out.1]
  have hle:=jF hmay.out.1 n (by rw[Hn.out.1];exact zlr _);have hmono:=zh (YQ ks n);have h5:Hid (504<X7 ks n→Ek ks is=5∧zD ks is=[]):=fun h=>x1q hmay.out (by rw[hll.out];exact h)
  have h0:Hid (X7 ks n≤504→Ek ks is=0∧zD ks is=Rj ks is):=fun h=>y69 hmay.out (by rw[hll.out];exact h)
  generalize X7 ks n=LL at*;clear HD;simp only[if_true];go_wp2_with fail;refine hsz.out.mono ?_;rintro e w2 ⟨rfl,hb2⟩;have Hpb2:=zh (Hpb.out.ext hb2);have Hs2:=zh (zai (Hs1.out.1.below hb2 (zlr _)) (Hs1.out.2.below hb2 (zlr _)));have Hb2:=zh (Hb1.out.trans (hb2.mono Hb1.out.size));clear hb2 Hb1 Hs1 Hpb hsz c0 c1
  by_cases hlong:504<LL
  ·have he:=zh (h5.out hlong);have d1:decide (504<(LL:Int))=true:=zdt (by omega);clear h5 h0;go_wp2
   go_ret2
   exact⟨.slice none 0 0,by rw[he.out.1];rfl,by rw[he.out.2];exact Sl.none _,Hb2.out⟩
  ·have he:=zh (h0.out (by omega));have d1:decide (504<(LL:Int))=false:=zdf (by omega);have c0:=Hpb2.out.c0;have c1:=Hpb2.out.c1;have hm1:m=n+1:=by have:=hmay.out.2.2.2;rw[Hn.out.1,Hn.out.2] at this;exact this
   obtain⟨g2,o2,rfl,hpc⟩:=Hs2.out.2 (by rw[Hn.out.2];omega);have hpg:=zh (fun i hi=>(hmay.out.2.1 i hi).1);have q0:=hpc 0 (by rw[Hn.out.2];omega);have hr0:=hpg.out 0 (by rw[Hn.out.2];omega);obtain⟨p0,hp0⟩:=Int.eq_ofNat_of_zero_le (show 0≤ia is 0 by omega);have hst:Hid ([]++z14 (p0:Int)=xU ks is 0):=by show _=_;rw[xU,hp0];rfl
   rw[hp0,Nat.add_zero] at q0;have hm0:(0:Int)<(m:Int):=by omega
   have hput:=zh (z0y none 0 0 [] p0 w2 rfl (Src.nil _ _) (by omega) (by omega));rw[hst.out] at hput;have Hm1:=zh hm1;clear h5 h0 hpc hp0 hr0 hst hm1;go_wp2_with fail;refine hput.out.mono ?_;rintro e w3 ⟨r,rfl,hr,hb3⟩;have Hr:=zh hr;have Hpb3:=zh (Hpb2.out.ext hb3);have Hs3:=zh (zai (Hs2.out.1.below hb3 (zlr _)) (Hs2.out.2.below hb3 (zlr _)));have Hb3:=zh (Hb2.out.trans (hb3.mono Hb2.out.size));have c0':=Hpb3.out.c0;clear hr hb3 Hb2 Hs2 Hpb2 hput c0 c1 q0;go_wp2_with fail
   go_loopw [4,5,6,24] (fun bv _ _ i wr=>∃(k:Nat) (r:Value),bv=r∧i=.int .i64 k∧k≤n∧Hid (Sl wr r (xU ks is k))∧Hid (PB wr w.heap.size FT (.slice a n c) (.slice (some ⟨g2,o2,none⟩) m d))∧Hid (TxS wr a ks∧PgS wr (some ⟨g2,o2,none⟩) is)∧Hid (zB w wr)) (fun _ _ _ i _=>n-(intOf i).toNat)
   case atStart=>exact⟨0,r,rfl,rfl,by omega,Hr,Hpb3,Hs3,Hb3⟩
   case round=>
    obtain⟨k,r,rfl,rfl,hk,hsl,hpb,hS,hB⟩:=hrel
    by_cases hlt:k<n
    ·obtain⟨g,o,rfl,hcell⟩:=hS.out.1 (by rw[Hn.out.1];omega);obtain⟨g',o',e,hpc⟩:=hS.out.2 (by rw[Hn.out.2];omega)
     cases e
     have q0:=hcell k (by rw[Hn.out.1];exact hlt);have q1:=hpc (k+1) (by rw[Hn.out.2,Hm1.out];omega);have hr0:=hpg.out (k+1) (by rw[Hn.out.2,Hm1.out];omega);have hksz:=Xv (hmay.out.1 k (by rw[Hn.out.1];exact hlt)).1;obtain⟨p0,hp0⟩:=Int.eq_ofNat_of_zero_le (show 0≤ia is (k+1) by omega);have hpn:=zh (y15 ks is k);have hpl:Hid ((xU ks is k).length+(3+(sa ks k).size)≤504):=by
      have h1:=KZ (is:=is) (QX hmay.out.1) k (by rw[Hn.out.1];exact hk);have h2:=hmono.out (k+1) hlt;rw[X7] at h2;show _≤_;rw[h1];omega
     rw[hp0] at hpn q1 hr0;clear hp0;generalize sa ks k=y at*;obtain⟨ab,cb,rfl,hsb,hzb,_⟩:=hsl.out.arg;obtain⟨L,hL⟩:∃L,L=xU ks is k:=⟨_,rfl⟩
     rw[←hL] at hsb hpn hpl⊢
     obtain⟨M,hM⟩:∃M,M=L.length:=⟨_,rfl⟩
     rw[←hM] at hpl⊢
     have hbd:zB wr wr.drew:=(zbr _ _).drew;obtain⟨g4,c4,w4,hcv4,hsrc4,_,hc4,hb4⟩:=KX wr.drew y (by omega);have hb04:zB wr w4:=hbd.trans (hb4.mono (zlr _));have hpk:=zh (Fz ab (some ⟨g4,0,none⟩) M cb y.size c4 L (bn y) hM.symm (S8 y) w4 (hsb.below hb04 (zlr _)) hsrc4 (fun h=>by cases h) (by have:=hpl.out;omega) (by omega));have hv10:=I9 (show y.size<18446744073709551616 by omega);have hl1:Hid ((L++vb y.size++bn y).length=M+vs y.size+y.size):=by show _=_;rw[zla,S8,zla,hM];rfl
     have r1:∀w',Ext wr.drew w'→w'.cell? ⟨w.heap.size,1,none⟩=some (.slice (some ⟨g2,o2,none⟩) m d):=fun w' hw=>(hpb.out.extD hw).c1
     have l1:=block_lt_of_cell q1;have r2:∀w',Ext wr.drew w'→w'.cell? ⟨g2,o2+(k+1),none⟩=some (.int .i64 p0):=fun w' hw=>by
      rw[((zbr wr.heap.size wr).drew.trans hw).cell (p:=⟨g2,o2+(k+1),none⟩) l1];exact q1
     have i4:IntKind.i64.wrap ((k:Int)+1)=(k:Int)+1:=by rw[IntKind.wrap_i64];omega
     have i1:(0:Int)≤(k:Int)+1:=by omega
     have hkm:k+1<m:=by have:=Hm1.out;omega
     have i2:(k:Int)+1<(m:Int):=by omega
     have Hb4:=zh hb4;have hS2:=zh (fun w' (hb:zB wr w')=>zai (hpb.out.ext hb) (zai (hS.out.1.below hb (zlr _)) (hS.out.2.below hb (zlr _))));have Hb04:=zh hb04;have hpl':=hpl.out;clear hcell hpc hsl hsb hzb hL hM hbd hsrc4 hc4 hb4 hb04 hpb hS l1 hpl;go_wp2_with fail;refine rgr [(0,true),(1,true),(4,true),(5,true),(6,true),(7,true),(8,true),(9,true),(2,false),(3,false),(10,false),(11,true)] (h:= ?_);iterate 8 (refine grr (v:= ?_) rfl (by rfl) ?_ ?_;rotate_left;(intro w' hw';go_simp;with_reducible rfl);simp only[Act.put,zs0,zs1,zs2])
     clear r1 r2 q0 q1;refine grc rfl (by rfl) (fun K hK=> ?_);go_simp;refine hK _ _ Hb4.out ?_;clear hK K hcv4;refine grc rfl (by rfl) (fun K hK=> ?_);go_simp;refine hpk.out.mono ?_;rintro e w5 ⟨r,rfl,hv,hb5⟩;refine hK _ _ hb5 ?_;clear hK K hpk;obtain⟨a5,c5,rfl,hs5,_⟩:=hv.arg;have Hb5:=zh (Hb04.out.trans (hb5.mono Hb04.out.size));have hput:=zh (z0y a5 _ c5 (L++vb y.size++bn y) p0 w5 hl1.out hs5 (by omega) (by omega));rw[←hpn.out] at hput;clear hv hs5 hb5 Hb04 hpn;rw[hl1.out];refine grc rfl (by rfl) (fun K hK=> ?_);go_simp;refine hput.out.mono ?_;rintro e w6 ⟨r,rfl,hv,hb6⟩;refine hK _ _ hb6 ?_;clear hK K hput;have hb06:=Hb5.out.trans (hb6.mono Hb5.out.size);have hf:=hS2.out w6 hb06;have Hf:=zh hf;have Hv:=zh hv;have Hb6:=zh (hB.out.trans (hb06.mono hB.out.size));clear hb06 hf hv hb6 Hb5 hS2 hB hl1;iterate 1 (refine grr (v:= ?_) rfl (by rfl) ?_ ?_;rotate_left;(intro w' hw';go_simp;with_reducible rfl);simp only[Act.put,zs0,zs1,zs2])
     refine Yq ?_;go_wp2_with fail
     go_roundw
     case rel=>exact⟨k+1,r,rfl,by go_num,by omega,Hv,Hf.out.1,Hf.out.2,Hb6⟩
     case measure=>simp[intOf];omega
    ·obtain rfl:k=n:=by omega
     have hsl1:=hsl.out;rw[show xU ks is k=Rj ks is by unfold Rj;rw[Hn.out.1]] at hsl1;have hsl2:=zh hsl1;clear hsl hpb hS hsl1;go_wp2
     go_ret2
     exact⟨_,by rw[he.out.1];rfl,by rw[he.out.2];exact hsl2.out,hB.out⟩
end Go.Proofs.YtdgladhfibfdlaaGreatDoor
