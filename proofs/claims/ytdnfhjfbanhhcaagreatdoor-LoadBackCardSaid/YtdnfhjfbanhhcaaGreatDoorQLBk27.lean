/-
  Steps.
-/
import Derived.Test.YtdnfhjfbanhhcaaGreatDoorQLBk20
import Derived.Test.YtdnfhjfbanhhcaaGreatDoorQLBk24
namespace Go.Proofs.YtdnfhjfbanhhcaaGreatDoor
open Go Go.RowKit Go.Shelf
theorem y5l (a:Option Addr)(n c:Nat)(l:List Nat)(p:Nat)(w:World)(hn:l.length=n)(hs:Src w a l)(hl:n≤65536)(hp:p≤1023):
  Calls Tryz.prog 128 #[.slice a n c,.int .i64 p] w fun e w'=>∃r,e=.returned r∧Sl w' r (l++twoP p)∧Below w.heap.size w w':=by
 subst hn;have hput:=zh (z83 a c l p 2 w hl (by omega) (by omega) (by omega) hs);have z1:IntKind.u64.wrap (p:Int)=(p:Int):=by rw[IntKind.wrap_u64];omega
 have htw:Hid (twoP p=beL p 2):=rfl;have hlen:Hid ((l++beL p 2).length=l.length+2):=by show _=_;rw[zla];rfl
 clear hs
 go_enter Tryz.func128,Tryz.ntmps128
 go_wp2_with fail;refine hput.out.mono ?_;rintro e w' ⟨rfl,hr,hb⟩;have hs:=Sl.row hr (by rw[hlen.out];unfold maxLen;omega);rw[hlen.out] at hs;go_wp2;go_ret;exact⟨_,rfl,by rw[htw.out];exact hs,hb⟩
theorem x5b (ks:List ByteArray)(is:List Int)(k:Nat):putF ks is (k+1)=(putF ks is k++vb (sa ks k).size++bn (sa ks k))++twoP (ia is (k+1)):=by
 rw[putF];unfold pcF;simp only[List.append_assoc]
set_option maxRecDepth 100000 in
set_option maxHeartbeats 1000000 in
theorem y5m (a b:Option Addr)(n c m d:Nat)(ks:List ByteArray)(is:List Int)(w:World)(hn:ks.length=n)(hm:is.length=m)(hs:TxS w a ks)(hp:PgS w b is)(hl:n≤65536)(hl2:m≤65537):
  Calls Tryz.prog 87 #[.agg #[.slice a n c,.slice b m d]] w fun e w'=>∃v,e=.returned (.tuple #[v,errV (z7a ks is)])∧Sl w' v (y10 ks is)∧Below w.heap.size w w':=by
 have Hn:=zh (zai hn hm);obtain⟨w0,hw0⟩:∃w0,w0=w.alloc (.cells #[.slice a n c,.slice b m d] FT):=⟨_,rfl⟩
 have hb0:Hid (Below w.heap.size w w0):=by rw[hw0];exact(zbr _ _).alloc (zlr _) _
 have hpb:Hid (PB w0 w.heap.size FT (.slice a n c) (.slice b m d)):=by rw[hw0];exact PB.new _ _ _ _
 have hw0':=zh hw0.symm;have Hs:=zh (zai (hs.below hb0.out (zlr _)) (hp.below hb0.out (zlr _)));have hC:=zh (z9q a b n c m d ks is w0 hn hm Hs.out.1 Hs.out.2 (by omega) (by omega));clear hs hn hm hp hw0
 go_enter Tryz.func87,Tryz.ntmps87
 go_wp2_with fail;rw[hw0'.out];refine hC.out.mono ?_;rintro e w1 ⟨D,rfl,hD,hb1⟩;have HD:=zh hD;have Hb1:=zh (hb0.out.trans (hb1.mono hb0.out.size));have Hpb:=zh (hpb.out.ext hb1);have Hs1:=zh (zai (Hs.out.1.below hb1 (zlr _)) (Hs.out.2.below hb1 (zlr _)));clear hD hb1 hC hw0' hb0 hpb Hs;unfold chkF
 cases D with
 | false=>
  have he:=zh (q4h (fun h=>by have:=HD.out.2 h;cases this));simp only[Bool.false_eq_true,if_false];go_wp2
  go_ret2
  exact⟨.slice none 0 0,by rw[he.out.1];rfl,by rw[he.out.2];exact Sl.none _,Hb1.out⟩
 | true=>
  have hmay:=zh (HD.out.1 rfl);have c0:=Hpb.out.c0;have c1:=Hpb.out.c1;have hsz:=zh (x00 a n c ks w1 Hn.out.1 Hs1.out.1 (by omega) hmay.out.1);have hll:Hid ((z2n ks is).length=z1c ks n):=by show _=_;rw[y1z hmay.out.1,Hn.out.1]
  have hle:=y39 hmay.out.1 n (by rw[Hn.out.1];exact zlr _);have hmono:=zh (z89 ks n);have h5:Hid (504<z1c ks n→z7a ks is=5∧y10 ks is=[]):=fun h=>q4i hmay.out (by rw[hll.out];exact h)
  have h0:Hid (z1c ks n≤504→z7a ks is=0∧y10 ks is=z2n ks is):=fun h=>q0a hmay.out (by rw[hll.out];exact h)
  generalize z1c ks n=LL at*;clear HD;simp only[if_true];go_wp2_with fail;refine hsz.out.mono ?_;rintro e w2 ⟨rfl,hb2⟩;have Hpb2:=zh (Hpb.out.ext hb2);have Hs2:=zh (zai (Hs1.out.1.below hb2 (zlr _)) (Hs1.out.2.below hb2 (zlr _)));have Hb2:=zh (Hb1.out.trans (hb2.mono Hb1.out.size));clear hb2 Hb1 Hs1 Hpb hsz c0 c1
  by_cases hlong:504<LL
  ·have he:=zh (h5.out hlong);have d1:decide (504<(LL:Int))=true:=zdt (by omega);clear h5 h0;go_wp2
   go_ret2
   exact⟨.slice none 0 0,by rw[he.out.1];rfl,by rw[he.out.2];exact Sl.none _,Hb2.out⟩
  ·have he:=zh (h0.out (by omega));have d1:decide (504<(LL:Int))=false:=zdf (by omega);have c0:=Hpb2.out.c0;have c1:=Hpb2.out.c1;have hm1:m=n+1:=by have:=hmay.out.2.2.2;rw[Hn.out.1,Hn.out.2] at this;exact this
   obtain⟨g2,o2,rfl,hpc⟩:=Hs2.out.2 (by rw[Hn.out.2];omega);have hpg:=zh (fun i hi=>(hmay.out.2.1 i hi).1);have q0:=hpc 0 (by rw[Hn.out.2];omega);have hr0:=hpg.out 0 (by rw[Hn.out.2];omega);obtain⟨p0,hp0⟩:=Int.eq_ofNat_of_zero_le (show 0≤ia is 0 by omega);have hst:Hid ([]++twoP (p0:Int)=putF ks is 0):=by show _=_;rw[putF,hp0];rfl
   rw[hp0,Nat.add_zero] at q0;have hm0:(0:Int)<(m:Int):=by omega
   have hput:=zh (y5l none 0 0 [] p0 w2 rfl (Src.nil _ _) (by omega) (by omega));rw[hst.out] at hput;have Hm1:=zh hm1;clear h5 h0 hpc hp0 hr0 hst hm1;go_wp2_with fail;refine hput.out.mono ?_;rintro e w3 ⟨r,rfl,hr,hb3⟩;have Hr:=zh hr;have Hpb3:=zh (Hpb2.out.ext hb3);have Hs3:=zh (zai (Hs2.out.1.below hb3 (zlr _)) (Hs2.out.2.below hb3 (zlr _)));have Hb3:=zh (Hb2.out.trans (hb3.mono Hb2.out.size));have c0':=Hpb3.out.c0;clear hr hb3 Hb2 Hs2 Hpb2 hput c0 c1 q0;go_wp2_with fail
   go_loopw [4,5,6,24] (fun bv _ _ i wr=>∃(k:Nat) (r:Value),bv=r∧i=.int .i64 k∧k≤n∧Hid (Sl wr r (putF ks is k))∧Hid (PB wr w.heap.size FT (.slice a n c) (.slice (some ⟨g2,o2,none⟩) m d))∧Hid (TxS wr a ks∧PgS wr (some ⟨g2,o2,none⟩) is)∧Hid (Below w.heap.size w wr)) (fun _ _ _ i _=>n-(intOf i).toNat)
   case atStart=>exact⟨0,r,rfl,rfl,by omega,Hr,Hpb3,Hs3,Hb3⟩
   case round=>
    obtain⟨k,r,rfl,rfl,hk,hsl,hpb,hS,hB⟩:=hrel
    by_cases hlt:k<n
    ·obtain⟨g,o,rfl,hcell⟩:=hS.out.1 (by rw[Hn.out.1];omega);obtain⟨g',o',e,hpc⟩:=hS.out.2 (by rw[Hn.out.2];omega)
     cases e
     have q0:=hcell k (by rw[Hn.out.1];exact hlt);have q1:=hpc (k+1) (by rw[Hn.out.2,Hm1.out];omega);have hr0:=hpg.out (k+1) (by rw[Hn.out.2,Hm1.out];omega);have hksz:=z1a (hmay.out.1 k (by rw[Hn.out.1];exact hlt)).1;obtain⟨p0,hp0⟩:=Int.eq_ofNat_of_zero_le (show 0≤ia is (k+1) by omega);have hpn:=zh (x5b ks is k);have hpl:Hid ((putF ks is k).length+(3+(sa ks k).size)≤504):=by
      have h1:=y1y (is:=is) (y0q hmay.out.1) k (by rw[Hn.out.1];exact hk);have h2:=hmono.out (k+1) hlt;rw[z1c] at h2;show _≤_;rw[h1];omega
     rw[hp0] at hpn q1 hr0;clear hp0;generalize sa ks k=y at*;obtain⟨ab,cb,rfl,hsb,hzb,_⟩:=hsl.out.arg;obtain⟨L,hL⟩:∃L,L=putF ks is k:=⟨_,rfl⟩
     rw[←hL] at hsb hpn hpl⊢
     obtain⟨M,hM⟩:∃M,M=L.length:=⟨_,rfl⟩
     rw[←hM] at hpl⊢
     have hbd:Below wr.heap.size wr wr.drew:=(zbr _ _).drew;obtain⟨g4,c4,w4,hcv4,hsrc4,_,hc4,hb4⟩:=y1x wr.drew y (by omega);have hb04:Below wr.heap.size wr w4:=hbd.trans (hb4.mono (zlr _));have hpk:=zh (z6q ab (some ⟨g4,0,none⟩) M cb y.size c4 L (bn y) hM.symm (z2h y) w4 (hsb.below hb04 (zlr _)) hsrc4 (fun h=>by cases h) (by have:=hpl.out;omega) (by omega));have hv10:=z6a (show y.size<18446744073709551616 by omega);have hl1:Hid ((L++vb y.size++bn y).length=M+vs y.size+y.size):=by show _=_;rw[zla,z2h,zla,hM];rfl
     have r1:∀w',Ext wr.drew w'→w'.cell? ⟨w.heap.size,1,none⟩=some (.slice (some ⟨g2,o2,none⟩) m d):=fun w' hw=>(hpb.out.extD hw).c1
     have l1:=block_lt_of_cell q1;have r2:∀w',Ext wr.drew w'→w'.cell? ⟨g2,o2+(k+1),none⟩=some (.int .i64 p0):=fun w' hw=>by
      rw[((zbr wr.heap.size wr).drew.trans hw).cell (p:=⟨g2,o2+(k+1),none⟩) l1];exact q1
     have i4:IntKind.i64.wrap ((k:Int)+1)=(k:Int)+1:=by rw[IntKind.wrap_i64];omega
     have i1:(0:Int)≤(k:Int)+1:=by omega
     have hkm:k+1<m:=by have:=Hm1.out;omega
     have i2:(k:Int)+1<(m:Int):=by omega
     have Hb4:=zh hb4;have hS2:=zh (fun w' (hb:Below wr.heap.size wr w')=>zai (hpb.out.ext hb) (zai (hS.out.1.below hb (zlr _)) (hS.out.2.below hb (zlr _))));have Hb04:=zh hb04;have hpl':=hpl.out;clear hcell hpc hsl hsb hzb hL hM hbd hsrc4 hc4 hb4 hb04 hpb hS l1 hpl;go_wp2_with fail;refine z0n [(0,true),(1,true),(4,true),(5,true),(6,true),(7,true),(8,true),(9,true),(2,false),(3,false),(10,false),(11,true)] (by kernel_rfl) (by kernel_rfl) (by kernel_rfl) (by kernel_rfl) (fun _ _ _ _ _ h=>h) ?_;iterate 8 (refine grr (v:= ?_) rfl (by rfl) ?_ ?_;rotate_left;(intro w' hw';go_simp;with_reducible rfl);simp only[Act.put,zs0,zs1,zs2])
     clear r1 r2 q0 q1;refine grc rfl (by rfl) (fun K hK=> ?_);go_simp;refine hK _ _ Hb4.out ?_;clear hK K hcv4;refine grc rfl (by rfl) (fun K hK=> ?_);go_simp;refine hpk.out.mono ?_;rintro e w5 ⟨r,rfl,hv,hb5⟩;refine hK _ _ hb5 ?_;clear hK K hpk;obtain⟨a5,c5,rfl,hs5,_⟩:=hv.arg;have Hb5:=zh (Hb04.out.trans (hb5.mono Hb04.out.size));have hput:=zh (y5l a5 _ c5 (L++vb y.size++bn y) p0 w5 hl1.out hs5 (by omega) (by omega));rw[←hpn.out] at hput;clear hv hs5 hb5 Hb04 hpn;rw[hl1.out];refine grc rfl (by rfl) (fun K hK=> ?_);go_simp;refine hput.out.mono ?_;rintro e w6 ⟨r,rfl,hv,hb6⟩;refine hK _ _ hb6 ?_;clear hK K hput;have hb06:=Hb5.out.trans (hb6.mono Hb5.out.size);have hf:=hS2.out w6 hb06;have Hf:=zh hf;have Hv:=zh hv;have Hb6:=zh (hB.out.trans (hb06.mono hB.out.size));clear hb06 hf hv hb6 Hb5 hS2 hB hl1;iterate 1 (refine grr (v:= ?_) rfl (by rfl) ?_ ?_;rotate_left;(intro w' hw';go_simp;with_reducible rfl);simp only[Act.put,zs0,zs1,zs2])
     refine z07 ?_;go_wp2_with fail
     go_roundw
     case rel=>exact⟨k+1,r,rfl,by go_num,by omega,Hv,Hf.out.1,Hf.out.2,Hb6⟩
     case measure=>simp[intOf];omega
    ·obtain rfl:k=n:=by omega
     have hsl1:=hsl.out;rw[show putF ks is k=z2n ks is by unfold z2n;rw[Hn.out.1]] at hsl1;have hsl2:=zh hsl1;clear hsl hpb hS hsl1;go_wp2
     go_ret2
     exact⟨_,by rw[he.out.1];rfl,by rw[he.out.2];exact hsl2.out,hB.out⟩
end Go.Proofs.YtdnfhjfbanhhcaaGreatDoor
namespace Go.Proofs.YtdnfhjfbanhhcaaGreatDoor
open Go Go.RowKit
def tk2 (S:RS):Nat×RS:=((z1z S).1*256+(z1z (z1z S).2).1,(z1z (z1z S).2).2)
theorem q45:tk2 ⟨[],true⟩=(0,⟨[],true⟩):=rfl
theorem x5c {l:List Nat}(b:Bool)(h:2≤l.length):tk2 ⟨l,b⟩=(l.getD 0 0*256+l.getD 1 0,⟨l.drop 2,false⟩):=by
 match l,h with
 | x::y::r,_=>rfl
theorem z9w {l:List Nat}(b:Bool)(h:l.length<2):(tk2 ⟨l,b⟩).2=⟨[],true⟩:=by
 match l,h with
 | [],_=>rfl
 | [x],_=>rfl
 | _::_::_,h=>simp at h;omega
theorem q46 {S:RS}(h:B8 S.l):(tk2 S).1≤65535:=by
 have h1:=z6r h;have h2:=z6r h1.2;show(z1z S).1*256+(z1z (z1z S).2).1≤_;omega
def StF (l:List Nat)(ks:List ByteArray)(is:List Int)(S:RS):Prop:=
 (S.wr=false∧2≤l.length∧∃ps,is=z7z l::ps∧decR (l.drop 2)=(decR S.l).map fun x=>(ks++x.1,ps++x.2))∨(S.wr=true∧S.l=[]∧z22 l=none)
theorem x5d (l:List Nat):StF l [] [((tk2 ⟨l,false⟩).1:Int)] (tk2 ⟨l,false⟩).2:=by
 rcases zng l.length 2 with h|h
 ·rw[z9w false h];exact .inr ⟨rfl,rfl,y4b (.inr h)⟩
 ·rw[x5c false h];refine .inl ⟨rfl,h,[],rfl,?_⟩;show decR (l.drop 2)=(decR (l.drop 2)).map _
  cases decR (l.drop 2)<;>rfl
theorem x8w {l:List Nat}{ks:List ByteArray}{is:List Int}{S:RS}(h:StF l ks is S)(h0:S.l≠[]):
  StF l (ks++[bstr (z0g S 40).1]) (is++[((tk2 (z0g S 40).2).1:Int)]) (tk2 (z0g S 40).2).2∧(tk2 (z0g S 40).2).2.l.length<S.l.length:=by
 have hpos:0<S.l.length:=List.length_pos_iff.2 h0
 rcases h with ⟨hw,h2,ps,rfl,hd⟩|⟨_,hl,_⟩
 ·obtain⟨L,b⟩:=S;dsimp only at hw hd h0 hpos;subst hw
  cases hw1:(z0g ⟨L,false⟩ 40).2.wr with
  | true=>
   rw[y34 hw1,q45];refine⟨.inr ⟨rfl,rfl,?_⟩,hpos⟩;rw[z9b h0 (y11 hw1)] at hd;exact y0r hd
  | false=>
   have hlt:=z9a hw1;have e:=y84 (S:=(z0g ⟨L,false⟩ 40).2) rfl hw1
   rcases Nat.lt_or_ge (z0g ⟨L,false⟩ 40).2.l.length 2 with h3|h3
   ·have ht:=z9w false h3;rw[←e] at ht;rw[ht];refine⟨.inr ⟨rfl,rfl,?_⟩,hpos⟩;rw[z9b h0 (z5q h3)] at hd;exact y0r hd
   ·have ht:=x5c false h3;rw[←e] at ht;rw[ht];have hp:=z6f hw1 h3;rw[z6g hp] at hd;refine⟨.inl ⟨rfl,h2,ps++[(((z0g ⟨L,false⟩ 40).2.l.getD 0 0*256+(z0g ⟨L,false⟩ 40).2.l.getD 1 0:Nat):Int)],rfl,?_⟩,?_⟩
    ·rw[hd];show Option.map _ (Option.map _ (decR (List.drop 2 _)))=Option.map _ (decR (List.drop 2 _))
     cases decR (List.drop 2 (z0g ⟨L,false⟩ 40).2.l) with
     | none=>rfl
     | some x=>simp only[Option.map_some,List.append_assoc,List.cons_append,List.nil_append]
    ·show(List.drop 2 _).length<_;rw[zld];show _<L.length;have:(z0g ⟨L,false⟩ 40).2.l.length<L.length:=hlt;omega
 ·exact absurd hl h0
theorem q20 {l:List Nat}{ks:List ByteArray}{is:List Int}{S:RS}(h:StF l ks is S)(h0:S.l=[])(hl:l.length≤504):
  (okS S=false→z22 l=none)∧(okS S=true→¬mayF ks is→z22 l=none)∧(okS S=true→mayF ks is→z22 l=some (ks,is)):=by
 rcases h with ⟨hw,h2,ps,rfl,hd⟩|⟨hw,_,hn⟩
 ·rw[h0,z8j] at hd;have e:decR (l.drop 2)=some (ks,ps):=by rw[hd];simp
  refine⟨fun ho=> ?_,fun _ hm=>x3b e hm,fun _ hm=>y0s hl h2 e hm⟩;unfold okS at ho;rw[hw,h0] at ho;cases ho
 ·have:okS S=false:=by unfold okS;rw[hw];rfl
  exact⟨fun _=>hn,(fun ho=>by rw[this] at ho;cases ho),(fun ho=>by rw[this] at ho;cases ho)⟩
set_option maxRecDepth 100000 in
theorem y06 (w:World)(b B:Nat)(S:RS)(h:Rb w b B S):
  Calls Tryz.prog 135 #[.pointer (some ⟨b,0,none⟩)] w fun e w'=>e=.returned (.int .i64 ((tk2 S).1:Nat))∧Rb w' b B (tk2 S).2∧Turn (fun i=>i=b) w w':=by
 have h1:=zh (z7n w b B S h);have h81:=z6r h.b8;have h82:=z6r h81.2;have ht:Hid (tk2 S=((z1z S).1*256+(z1z (z1z S).2).1,(z1z (z1z S).2).2)):=rfl;obtain⟨⟨X0,Z1⟩,hX⟩:∃X,X=z1z S:=⟨_,rfl⟩
 rw[←hX] at h1 h81 h82 ht;dsimp only at h1 h81 h82 ht;obtain⟨⟨Y0,Z2⟩,hY⟩:∃X,X=z1z Z1:=⟨_,rfl⟩
 rw[←hY] at h82 ht;dsimp only at h82 ht;have hYs:=zh hY.symm;generalize tk2 S=T at*;have hT1:Hid (T.1=X0*256+Y0∧T.2=Z2):=by show _∧_;rw[ht.out];exact⟨rfl,rfl⟩
 clear ht h hX hY;obtain⟨T1,T2⟩:=T;dsimp only at hT1⊢
 have x0:X0<256:=h81.1;have y0:Y0<256:=h82.1;have hB8:Hid (B8 [X0,Y0]):=(B8.one x0).append (B8.one y0);have hnum:Hid (numL [X0,Y0]=T1):=by
  show _=_;rw[hT1.out.1];show(0*256+X0)*256+Y0=_;omega
 have hT65:T1≤65535:=by have:=hT1.out.1;omega
 have z1:IntKind.i64.wrap (T1:Int)=(T1:Int):=by rw[IntKind.wrap_i64];omega
 clear h81 h82 x0 y0
 go_enter Tryz.func135,Tryz.ntmps135
 go_wp2_with fail;refine h1.out.mono ?_;rintro e w1 ⟨rfl,hr1,ht1⟩;have h2:=zh (z7n w1 b B Z1 hr1);rw[hYs.out] at h2;have Ht1:=zh ht1;clear hr1 ht1 h1;go_wp2_with fail;refine h2.out.mono ?_;rintro e w2 ⟨rfl,hr2,ht2⟩;have hnew:Below w2.heap.size w2 (w2.alloc (.cells #[.int .u8 (X0:Int),.int .u8 (Y0:Int)] 5)):=(zbr _ _).alloc (zlr _) _;have hg:=zh (y3p w2.heap.size 0 2 [X0,Y0] (w2.alloc (.cells #[.int .u8 (X0:Int),.int .u8 (Y0:Int)] 5)) (by simp) (by simp) (x2b w2 _ (0,0) [X0,Y0]) hB8.out);rw[hnum.out,show[X0,Y0].length=2 from rfl] at hg;have Hr2:=zh (hr2.below hnew);have Ht2:=zh ((Ht1.out.trans ht2).alloc (.cells #[.int .u8 (X0:Int),.int .u8 (Y0:Int)] 5));clear hr2 ht2 h2 Ht1 hnew;go_wp2_with fail;refine hg.out.mono ?_;rintro e w' ⟨rfl,rfl⟩;go_wp2;go_ret;exact⟨rfl,by rw[hT1.out.2];exact Hr2.out,Ht2.out⟩
section
variable {P:Program} {w:World} {o:Oper} {a:Act} {K:Act→World→Prop} {Q:Exit→Act→World→Prop}
theorem y0c (s x:Operand)(t:TypeId)
  (ho:o.op=.call {callee:=.builtin .append,args:= #[s,x],argTypes:= #[t,t]})
  (base:Nat) (e:TypeId) (ht:P.underlying t=some (.slice e)) (h2:(P.info? e).map (fun i=>(i.zero,i.size,i.bytes))=some (some (.string ⟨#[]⟩),1,16))
  (v:Value) (ks:List ByteArray) (hs:a.eval s=v) (hown:Hid (w.ownsRow base e 1 v ks.length (sv ks)))
  (g c:Nat) (y:ByteArray) (hx:a.eval x=.slice (some ⟨g,0,none⟩) 1 c) (hy:w.cell? ⟨g,0,none⟩=some (.string y))
  (hlen:(ks.length+1)*16≤140737488355328) (hbase:base≤w.heap.size)
  (h:∀v' w',Hid (w'.ownsRow base e 1 v' (ks++[y]).length (sv (ks++[y])))→Hid (w.grownBy w' v.ownBlock)→K (a.put o.dst v') w'):
  Oper.wp P o a w K Q:=by
 obtain⟨i0,hi,hz0,hz1,hz2⟩:=info_parts h2;obtain⟨v',w',hr,h3,h4,_⟩:=z2b (P:=P) (w:=w) base t o.type e i0 (.string ⟨#[]⟩) 1 16 ht hi hz0 hz1 hz2 rfl (by decide) v ks.length (sv ks) hown.out ⟨g,0,none⟩ 1 c (sv [y]) rfl (by
  intro j u hj
  rcases j with _|j
  ·rw[z2q,Nat.zero_add,hy,←hj];rfl
  ·cases hj) (by
  intro u hu;simp only[sv,List.map_cons,List.map_nil,List.mem_singleton] at hu;subst hu;rfl) (by unfold maxLen;omega) hlen hbase
 unfold Oper.wp;simp[execOp,ho,resolve,invoke,builtin,hs,hx,hr,Result.andThen];have e1:sv (ks++[y])=sv ks++sv [y]:=List.map_append;exact h v' w' (by show w'.ownsRow _ _ _ _ _ _;rw[e1,zla];exact h3) h4
theorem y0d (s x:Operand)(t:TypeId)
  (ho:o.op=.call {callee:=.builtin .append,args:= #[s,x],argTypes:= #[t,t]})
  (base:Nat) (e:TypeId) (ht:P.underlying t=some (.slice e)) (h2:(P.info? e).map (fun i=>(i.zero,i.size,i.bytes))=some (some (.int .i64 0),1,8))
  (v:Value) (is:List Int) (hs:a.eval s=v) (hown:Hid (w.ownsRow base e 1 v is.length (iv is)))
  (g c:Nat) (y:Int) (hx:a.eval x=.slice (some ⟨g,0,none⟩) 1 c) (hy:w.cell? ⟨g,0,none⟩=some (.int .i64 y))
  (hlen:(is.length+1)*8≤140737488355328) (hbase:base≤w.heap.size)
  (h:∀v' w',Hid (w'.ownsRow base e 1 v' (is++[y]).length (iv (is++[y])))→Hid (w.grownBy w' v.ownBlock)→K (a.put o.dst v') w'):
  Oper.wp P o a w K Q:=by
 obtain⟨i0,hi,hz0,hz1,hz2⟩:=info_parts h2;obtain⟨v',w',hr,h3,h4,_⟩:=z2b (P:=P) (w:=w) base t o.type e i0 (.int .i64 0) 1 8 ht hi hz0 hz1 hz2 rfl (by decide) v is.length (iv is) hown.out ⟨g,0,none⟩ 1 c (iv [y]) rfl (by
  intro j u hj
  rcases j with _|j
  ·rw[z2q,Nat.zero_add,hy,←hj];rfl
  ·cases hj) (by
  intro u hu;simp only[iv,List.map_cons,List.map_nil,List.mem_singleton] at hu;subst hu;rfl) (by unfold maxLen;omega) hlen hbase
 unfold Oper.wp;simp[execOp,ho,resolve,invoke,builtin,hs,hx,hr,Result.andThen];have e1:iv (is++[y])=iv is++iv [y]:=List.map_append;exact h v' w' (by show w'.ownsRow _ _ _ _ _ _;rw[e1,zla];exact h3) h4
end
theorem z24 {w:World}{B E T b sz n:Nat}{v:Value}{xs:List Value}{A:Array Value}(h:w.ownsRow B E sz v n xs)(hb:w.heap[b]? =some (.cells A T (0,0)))(hET:E≠T):∀i,v.ownBlock=some i→i≠b:=fun i hi e=>by
 subst e
 rcases h.2 with ⟨h1,_⟩|⟨g,cap,cur,h1,h2,h3,h4⟩
 ·subst h1;cases hi
 ·subst h1;simp only[Value.ownBlock,Option.some.injEq] at hi;subst hi;rw[h3] at hb;exact hET (by cases hb;rfl)
theorem y5n {w:World}{B E T sz sz2 n m:Nat}{u v:Value}{xs ys:List Value}(h:w.ownsRow B E sz u n xs)(k:w.ownsRow B T sz2 v m ys)(hET:E≠T):∀i,u.ownBlock=some i→v.ownBlock≠some i:=fun i hi hj=>by
 rcases k.2 with ⟨h1,_⟩|⟨g,cap,cur,h1,h2,h3,h4⟩
 ·subst h1;cases hj
 ·subst h1;simp only[Value.ownBlock,Option.some.injEq] at hj;subst hj;exact z24 h h3 hET g hi rfl
theorem z3f {w:World}{B E sz n:Nat}{v:Value}{xs:List Value}(h:w.ownsRow B E sz v n xs):∀i,v.ownBlock=some i→B≤i:=fun i hi=>(h.lt i hi).1
abbrev TT:TypeId:=28
def x07 (w:World)(p:Option Addr)(es:List En)(H:Nat):Prop:=
 (p=none∧es=[]∧H=0)∨∃b h s,p=some ⟨b,0,none⟩∧Nd w h none none b es s∧s≤504∧(0<h→3≤s)∧es≠[]∧H=h+1
def z0y (w:World)(p:Option Addr)(ts:List Tr)(H:Nat):Prop:=
 (p=none∧ts=[]∧H=0)∨∃b h t,p=some ⟨b,0,none⟩∧ts=[t]∧NdT w h none none b t∧t.sz≤504∧(0<h→3≤t.sz)∧t.es≠[]∧H=h+1
theorem z0y.none (w:World):z0y w none [] 0:=.inl ⟨rfl,rfl,rfl⟩
theorem z0y.tq {w:World}{p:Option Addr}{ts:List Tr}{H:Nat}(h:z0y w p ts H):x07 w p (esL ts) H:=by
 rcases h with ⟨h1,rfl,h2⟩|⟨b,h,t,h1,rfl,h2,h3,h4,h5,h6⟩
 ·exact .inl ⟨h1,rfl,h2⟩
 ·exact .inr ⟨b,h,t.sz,h1,by rw[z1s];exact NdT.nd h h2,h3,h4,by rw[z1s];exact h5,h6⟩
theorem z0y.ext {w w':World}{p:Option Addr}{ts:List Tr}{H:Nat}(h:z0y w p ts H)(hb:Below w.heap.size w w'):z0y w' p ts H:=by
 rcases h with h|⟨b,h,t,h1,h0,h2,h3⟩
 ·exact .inl h
 ·exact .inr ⟨b,h,t,h1,h0,NdT.ext hb h h2,h3⟩
def x8x (w:World)(p:Option Addr)(es:List En)(H:Nat):Prop:=∃es',es=bare es'∧x07 w p es' H
theorem x07.tp {w:World}{p:Option Addr}{es:List En}{H:Nat}(h:x07 w p es H):x8x w p (bare es) H:=⟨es,rfl,h⟩
theorem z0y.tp {w:World}{p:Option Addr}{ts:List Tr}{H:Nat}(h:z0y w p ts H):x8x w p (bare (esL ts)) H:=h.tq.tp
theorem z0b (W:World)(T:TypeId)(vs:Array Value):∃W',W.alloc (.cells vs T)=W'∧W'.heap[W.heap.size]? =some (.cells vs T (0,0))∧Below W.heap.size W W':=
 ⟨_,rfl,by show(W.heap.push _)[W.heap.size]? =_;rw[Array.getElem?_push_size],(zbr _ _).alloc (zlr _) _⟩
theorem y9d (k:ByteArray):ins none none k:=⟨trivial,trivial⟩
set_option maxRecDepth 100000 in
theorem y9e (p:Option Addr)(n:Int)(es:List En)(H:Nat)(key:ByteArray)(w:World)(ht:x07 w p es H):
  Calls Tryz.prog 35 #[.agg #[.pointer p,.int .i64 n],.string key] w fun e w'=>e=.returned (.tuple #[.string (getE es key),.bool (isE es key)])∧Below w.heap.size w w':=by
 obtain⟨w0,hw0,hc0,hb0⟩:=z0b w TT #[.pointer p,.int .i64 n];have HG:=zh hw0;have HB:=zh hb0
 rcases ht with ⟨rfl,rfl,_⟩|⟨b,h,s,rfl,hn,hs,hs3,_⟩
 ·clear hc0 hw0 hb0
  go_enter Tryz.func35,Tryz.ntmps35
  go_wp2
  go_ret2
  exact⟨rfl,by rw[HG.out];exact HB.out⟩
 ·have hn0:=zh (Nd.ext hb0 h hn);have Hs:=zh (zai hs hs3);clear hc0 hw0 hb0 hn hs hs3
  go_enter Tryz.func35,Tryz.ntmps35
  go_wp2_with fail;rw[HG.out]
  go_loopg [6] h (fun k u wr=>∃(b:Nat) (lo hi:SB) (es':List En) (s':Nat),u=pt b∧Hid (Nd wr k lo hi b es' s')∧Hid (ins lo hi key)∧Hid (getE es' key=getE es key∧isE es' key=isE es key)∧Hid (s'≤504∧(0<k→3≤s'))∧Hid (Below w.heap.size w wr))
  case atStart=>exact⟨b,none,none,es,s,rfl,hn0,y9d key,⟨rfl,rfl⟩,Hs,HB⟩
  case round=>
   obtain⟨b,lo,hi,es',s',rfl,hn,hin,heq,hss,hB⟩:=hrel
   cases gk with
   | zero=>
    obtain⟨⟨vc,nb,a0,c0,rfl,s0,z0,hnc,hcm⟩,_,hsr,hok,hsz⟩:=hn.out;have g1:=z1i (fun x hx=>(hok x hx).1);have hel:es'.length≤200:=by have:=hss.out.1;unfold z0s at hsz;omega
    have q0:=nb.c1;have Hnb:=zh nb;have hil:=zh (z3v b _ _ wr nb);have Hfd:=zh (y4w a0 es'.length c0 es' key wr rfl s0 hsr (by omega));have HS:=zh s0;have Hie:=zh (y4f es' key);have hget:Hid (getE es' key=if isE es' key=true then (ea es' (fE es' key)).v else ByteArray.empty):=rfl;obtain⟨N,hN⟩:∃N,es'.length=N:=⟨_,rfl⟩
    have HN:=zh hN;rw[hN] at q0 Hfd Hnb hel;rw[hN] at Hie;have Heq:=zh (zai heq.out.1.symm heq.out.2.symm);clear nb s0 z0 hnc hcm hsr hok hsz g1 hN hn hin hss heq;generalize fE es' key=F at*
    cases hI:isE es' key with
    | true=>
     rw[hI] at Hfd Hie Heq;have hFN:F<N:=by
      have:=Hie.out.symm;rw[Bool.and_eq_true,decide_eq_true_iff] at this;exact this.1
     obtain⟨g,o,rfl,hcell⟩:=HS.out.ents (by rw[HN.out];omega);have r1:=(hcell F (by rw[HN.out];exact hFN)).2.1;have Hg2:Hid (getE es' key=(ea es' F).v):=by rw[hget.out,if_pos hI];rfl
     have hg3:Hid (getE es key=(ea es' F).v):=by rw[Heq.out.1];exact Hg2.out
     have i1:(F:Int)<(N:Int):=by omega
     generalize (ea es' F).v=y at*;have lr:=block_lt_of_cell r1;have Hr1:=zh r1;clear hcell hget Hie hI r1 HS Hg2;go_wp2_with fail;refine hil.out.mono ?_;rintro e w' ⟨rfl,rfl⟩;go_wp2_with fail;refine Hfd.out.mono ?_;rintro e w2 ⟨rfl,hb2⟩;have q1:=(Hnb.out.ext hb2).c1;have r2:w2.cell? ⟨g,o+F*3+1,none⟩=some (.string y):=by
      rw[hb2.cell (p:=⟨g,o+F*3+1,none⟩) lr];exact Hr1.out
     have HB2:=zh (hB.out.trans (hb2.mono hB.out.size));clear hb2 Hfd hil q0 lr;go_wp2
     go_ret2
     exact⟨by rw[hg3.out,Heq.out.2];rfl,HB2.out⟩
    | false=>
     rw[hI] at Hfd Hie Heq;have Hg2:Hid (getE es' key=ByteArray.empty):=by rw[hget.out,if_neg (by rw[hI];decide)];rfl
     have hg3:Hid (getE es key=ByteArray.empty):=by rw[Heq.out.1];exact Hg2.out
     clear hget Hie hI HS Hg2;go_wp2_with fail;refine hil.out.mono ?_;rintro e w' ⟨rfl,rfl⟩;go_wp2_with fail;refine Hfd.out.mono ?_;rintro e w2 ⟨rfl,hb2⟩;have HB2:=zh (hB.out.trans (hb2.mono hB.out.size));clear hb2 Hfd hil q0;go_wp2
     go_ret2
     exact⟨by rw[hg3.out,Heq.out.2];rfl,HB2.out⟩
   | succ h=>
    obtain⟨ks,ps,ess,⟨vk,vp,nb,⟨a0,c0,rfl,s0,_⟩,⟨a1,c1,rfl,s1,_⟩⟩,hr,hfl,hsz⟩:=hn.out;have hle:=hr.len;have hkf:=hr.keys Good.facts;have hgr:=z0u (hr.facts Good.facts).2.2.2;have hkl:ks.length≤126:=by have:=hss.out.1;unfold brSz at hsz;omega
    have hway:=hr.way Good.facts hin.out;have hwl:=z9c ks key;have hsplit:es'=(ess.take (wayS ks key)).flatten++(ess.getD (wayS ks key) []++(ess.drop (wayS ks key+1)).flatten):=by
     rw[hfl,←x8t (by omega),←List.flatten_append,List.take_append_drop]
    have hg1:=x7q hway.2.1 hway.2.2 (ess.getD (wayS ks key) []);have hg2:=(x3i hway.2.1 hway.2.2 (ess.getD (wayS ks key) [])).2;rw[←hsplit] at hg1 hg2;have Heq:Hid (getE (ess.getD (wayS ks key) []) key=getE es key∧isE (ess.getD (wayS ks key) []) key=isE es key):=⟨hg1.symm.trans heq.out.1,hg2.symm.trans heq.out.2⟩
    obtain⟨sk,hk1,hk2,hk3⟩:=hr.kid (d:=[]) hwl;obtain⟨g2,o2,rfl,hc2⟩:=s1.ptrs (by omega);have hil:=zh (z3w b _ _ _ _ _ wr nb (by omega));obtain⟨W,hW⟩:∃W,wr.drew=W:=⟨_,rfl⟩
    have hbd:Below wr.heap.size wr W:=by rw[←hW];exact(zbr _ _).drew
    have q1:∀w',Ext W w'→w'.cell? ⟨b,2,none⟩=some (.slice a0 ks.length c0):=fun w' hx=>((nb.ext hbd).ext hx).c2
    have q2:∀w',Ext W w'→w'.cell? ⟨b,3,none⟩=some (.slice (some ⟨g2,o2,none⟩) ps.length c1):=fun w' hx=>((nb.ext hbd).ext hx).c3
    have Hway:=zh (y4t a0 ks.length c0 ks key W rfl (s0.below hbd (zlr _)).texts hkf (by omega));have hpt:=hc2 (wayS ks key) (by omega);have lpt:=block_lt_of_cell hpt;have Hk:=zh (zai hk1 (zai hk2 hk3));have Hin:=zh hway.1;have HW:=zh (zai hW hbd);have hwm:wayS ks key<ps.length:=by omega
    have hm1:ps.length≤127:=by omega
    have Hpt:=zh hpt;clear nb s0 s1 hc2 hway hwl hsplit hkf hr hgr hle hkl hg1 hg2 hfl hsz hW hbd hpt hn hin heq hss hk1 hk2 hk3;generalize wayS ks key=A at*;generalize na ps A=pk at*;generalize ps.length=m at*;generalize ks.length=n0 at*;have i1:(0:Int)≤(A:Int):=by omega
    have i2:(A:Int)<(m:Int):=by omega
    have z0:IntKind.i64.wrap (A:Int)=(A:Int):=by rw[IntKind.wrap_i64];omega
    go_wp2_with fail;refine hil.out.mono ?_;rintro e w' ⟨rfl,rfl⟩;clear hil;go_wp2_with fail;refine z0n [(0,true),(1,true),(2,true),(3,true),(4,true),(5,true),(6,true),(7,true),(8,true),(9,false),(10,true),(11,true),(12,true)] (by kernel_rfl) (by kernel_rfl) (by kernel_rfl) (by kernel_rfl) (fun _ _ _ _ _ h=>h) ?_;rw[HW.out.1];iterate 9 (refine grr (v:= ?_) rfl (by rfl) ?_ ?_;rotate_left;(intro w' hw';go_simp;with_reducible rfl);simp only[Act.put,zs0,zs1,zs2])
    clear q1 q2;refine grc rfl (by rfl) (fun K hK=> ?_);go_simp;refine Hway.out.mono ?_;rintro e w2 ⟨rfl,hb2⟩;refine hK _ _ hb2 ?_;clear hK K Hway;have hbx:=HW.out.2.trans (hb2.mono HW.out.2.size);have r2:∀w',Ext w2 w'→w'.cell? ⟨g2,o2+A,none⟩=some (pt pk):=fun w' hx=>by
     rw[(hbx.trans (hx.mono hbx.size)).cell (p:=⟨g2,o2+A,none⟩) lpt];exact Hpt.out
    have HB2:=zh (hB.out.trans (hbx.mono hB.out.size));have Hn2:Hid (Nd w2 h (lob lo ks A) (hib hi ks A) pk (ess.getD A []) sk):=Nd.ext hbx h Hk.out.1;have Hs2:Hid (sk≤504∧(0<h→3≤sk)):=⟨Hk.out.2.2,fun _=>by have:=Hk.out.2.1;omega⟩
    clear hb2 hbx lpt Hpt HW Hk hB;iterate 3 (refine grr (v:= ?_) rfl (by rfl) ?_ ?_;rotate_left;(intro w' hw';go_simp;with_reducible rfl);simp only[Act.put,zs0,zs1,zs2])
    refine z07 ?_;clear r2;go_wp2_with fail
    go_roundg h
    case measure=>omega
    case rel=>exact⟨pk,_,_,_,sk,rfl,Hn2,Hin,Heq,Hs2,HB2⟩
theorem q21 (p:Option Addr)(n:Int)(es:List En)(H:Nat)(key:ByteArray)(w:World)(ht:x8x w p es H):
  Calls Tryz.prog 35 #[.agg #[.pointer p,.int .i64 n],.string key] w fun e w'=>e=.returned (.tuple #[.string (getE es key),.bool (isE es key)])∧Below w.heap.size w w':=by
 obtain⟨es',rfl,h⟩:=ht;rw[y4g,(z4o es' key).2];exact y9e p n es' H key w h
theorem y2x (p:Option Addr)(n:Int)(w:World):Calls Tryz.prog 18 #[.agg #[.pointer p,.int .i64 n]] w fun e w'=>e=.returned (.int .i64 n)∧Below w.heap.size w w':=by
 go_enter Tryz.func18,Tryz.ntmps18
 go_wp2;go_ret;exact⟨rfl,(zbr _ _).alloc (zlr _) _⟩
def z6v (w0 w:World)(L es:List En)(e:Ending)(w':World):Prop:=
 ∃v',e=.returned v'∧w'.ownsRow w0.heap.size ET entE.sz v' (L.length+es.length) (entE.row (L++es))∧Below w0.heap.size w0 w'∧Below w0.heap.size w w'
theorem x5e (es:List En)(k:Nat)(h:k<es.length):es.take (k+1)=es.take k++[ea es k]:=z7b es k h
set_option maxRecDepth 100000 in
theorem z6w (w0:World)(v:Value)(L:List En)(a:Option Addr)(n c:Nat)(es:List En)(w:World)(hB:Below w0.heap.size w0 w)(hown:w.ownsRow w0.heap.size ET entE.sz v L.length (entE.row L))(hn:es.length=n)(hs:CS w0 a es)(hl:L.length+n≤1000000):
  Calls Tryz.prog 71 #[v,.slice a n c] w fun e w'=>z6v w0 w L es e w':=by
 have Hs:=zh hs;have Hn:=zh hn;have Hb0:=zh hB;have Hw0:Hid (w.ownsRow w0.heap.size ET entE.sz v (L.length+0) (entE.row (L++es.take 0))):=by
  rw[List.take_zero,List.append_nil,Nat.add_zero];exact hown
 clear hs hn hB hown
 go_enter Tryz.func71,Tryz.ntmps71
 go_wp2_with fail
 go_loopw [0,6,9] (fun u _ i wr=>∃(k:Nat) (x:Value),x=u∧i=.int .i64 k∧k≤n∧Hid (wr.ownsRow w0.heap.size ET entE.sz x (L.length+k) (entE.row (L++es.take k)))∧Hid (Below w0.heap.size w0 wr)∧Hid (Below w0.heap.size w wr)) (fun _ _ i _=>n-(intOf i).toNat)
 case atStart=>exact⟨0,v,rfl,rfl,by omega,Hw0,Hb0,zbr _ _⟩
 case round=>
  obtain⟨k,x,rfl,rfl,hk,hown,hB,hC⟩:=hrel
  by_cases hlt:k<n
  ·obtain⟨g,o,rfl,hcell⟩:=(Hs.out.below hB.out (zlr _)).ents (by rw[Hn.out];omega);obtain⟨p0,p1,_,p2,⟨sa,sc,rfl,_⟩⟩:=hcell k (by rw[Hn.out];exact hlt);have hsz:=hB.out.size;have hsz2:=hC.out.size;obtain⟨i0,hi,hz,hs0,hby⟩:=info_parts q2h;have hlit:ES entE ((wr.alloc (.cells #[.string (ea es k).k,.string (ea es k).v,.slice sa (ea es k).ch.length sc] TCT)).alloc (.cells #[.string (ea es k).k,.string (ea es k).v] ET)) (some ⟨wr.heap.size+1,0,none⟩) [ea es k]:=by
    have h1:=z0h (wr.alloc (.cells #[.string (ea es k).k,.string (ea es k).v,.slice sa (ea es k).ch.length sc] TCT)) ET #[.string (ea es k).k,.string (ea es k).v];rw[show(wr.alloc (.cells #[.string (ea es k).k,.string (ea es k).v,.slice sa (ea es k).ch.length sc] TCT)).heap.size=wr.heap.size+1 by simp] at h1;exact ES.lit (E:=entE) (l:=[ea es k]) h1
   obtain⟨v1,w1,hrun,hb1,ho1⟩:=z08 (P:=Tryz.prog) (E:=entE) w0.heap.size 63 63 ET Tryz.underlying63 q2h x (L.length+k) (L++es.take k) ((hown.out.alloc _).alloc _) (by simp;omega) (some ⟨wr.heap.size+1,0,none⟩) 1 1 [ea es k] rfl (fun h=>by cases h) hlit (by unfold maxLen;omega) (by show _*32≤_;omega);have hba:Below w0.heap.size wr w1:=(((zbr _ wr).alloc hsz _).alloc (by simp;omega) _).trans hb1;have Ho1:Hid (w1.ownsRow w0.heap.size ET entE.sz v1 (L.length+(k+1)) (entE.row (L++es.take (k+1)))):=by
    rw[x5e es k (by rw[Hn.out];exact hlt),←List.append_assoc,←Nat.add_assoc];exact ho1
   have HB1:=zh (hB.out.trans hba);have HC1:=zh (hC.out.trans hba);generalize ea es k=y at*;obtain⟨yk,yv,yc⟩:=y;dsimp only at p0 p1 p2 hrun;generalize yc.length=yn at*;clear hcell hi hz hs0 hby hlit hb1 ho1 hba hown hB hC
   go_wp2_with (at_builtin;refine Lib.wpList_append_run _ rfl (.tmp 13) (.tmp 16) _ _ rfl _ _ (by rfl) (by rfl) _ _ hrun ?_)
   go_wp2
   go_roundw
   case rel=>exact⟨k+1,v1,rfl,by go_num,by omega,Ho1,HB1,HC1⟩
   case measure=>simp[intOf];omega
  ·obtain rfl:k=n:=by omega
   have ho:=hown.out;rw[List.take_of_length_le (by rw[Hn.out];exact zlr _)] at ho;have Ho2:Hid (wr.ownsRow w0.heap.size ET entE.sz x (L.length+es.length) (entE.row (L++es))):=by rw[Hn.out];exact ho
   clear hown ho;go_wp2;go_ret;exact⟨x,rfl,Ho2.out,hB.out,hC.out⟩
set_option maxRecDepth 100000 in
theorem y2y (w0:World){lo hi:SB}(b:Nat)(es:List En)(s:Nat)(hn:Nd w0 0 lo hi b es s)(v:Value)(L:List En)(w:World)(hB:Below w0.heap.size w0 w)(hown:w.ownsRow w0.heap.size ET entE.sz v L.length (entE.row L))(hl:L.length+es.length≤1000000):
  Calls Tryz.prog 41 #[v,pt b] w fun e w'=>z6v w0 w L es e w':=by
 obtain⟨⟨vc,nb,a0,c0,rfl,s0,z0,_⟩,_⟩:=hn;have lb:=nb.lt;have q0:w.cell? ⟨b,1,none⟩=some (.slice a0 es.length c0):=by rw[hB.cell (p:=⟨b,1,none⟩) lb];exact nb.c1
 have Hcall:=zh (z6w w0 v L a0 es.length c0 es w hB hown rfl s0 hl);have Hnb:=zh nb;obtain⟨n,hn⟩:∃n,es.length=n:=⟨_,rfl⟩
 rw[hn] at q0 Hcall;clear nb s0 z0 hown hn hB hl
 go_enter Tryz.func41,Tryz.ntmps41
 go_wp2_with fail;refine Hcall.out.mono ?_;rintro e w1 ⟨v1,rfl,ho1,hb1,hb2⟩;have q2:w1.cell? ⟨b,3,none⟩=some nilS:=by
  rw[hb1.cell (p:=⟨b,3,none⟩) lb];exact Hnb.out.c3
 have HB:=zh hb1;have Ho:=zh ho1;have Hb1:=zh hb2;clear ho1 hb1 hb2 Hcall lb q0;go_wp2_with fail
 go_loopw [0,6,18] (fun u _ i wr=>v1=u∧i=.int .i64 0∧w1=wr) (fun _ _ _ _=>0)
 case atStart=>exact⟨by first|trivial|rfl,rfl,by first|trivial|rfl⟩
 case round=>
  obtain⟨rfl,rfl,rfl⟩:=hrel;go_wp2;go_ret;exact⟨v1,rfl,Ho.out,HB.out,Hb1.out⟩
set_option maxRecDepth 100000 in
theorem y2z (w0:World){h:Nat}{lo hi:SB}(b:Nat)(es:List En)(s:Nat)(hn:Nd w0 (h+1) lo hi b es s)(v:Value)(L:List En)(w:World)(hB:Below w0.heap.size w0 w)(hown:w.ownsRow w0.heap.size ET entE.sz v L.length (entE.row L))(hl:L.length+es.length≤1000000)
  (hks:s≤100000)
  (ih:∀(lo hi:SB) (b:Nat) (es:List En) (s:Nat) (v:Value) (L:List En) (w:World),Nd w0 h lo hi b es s→s≤100000→Below w0.heap.size w0 w→w.ownsRow w0.heap.size ET entE.sz v L.length (entE.row L)→L.length+es.length≤1000000→Calls Tryz.prog 41 #[v,pt b] w fun e w'=>z6v w0 w L es e w'):
  Calls Tryz.prog 41 #[v,pt b] w fun e w'=>z6v w0 w L es e w':=by
 obtain⟨ks,ps,ess,⟨vk,vp,nb,_,⟨a1,c1,rfl,s1,_⟩⟩,hr,rfl,rfl⟩:=hn;have hle:=hr.len;have hgk:=z0u (hr.facts Good.facts).2.2.2;have hkl:ks.length≤100000:=by unfold brSz at hks;omega
 obtain⟨g2,o2,rfl,hc2⟩:=s1.ptrs (by omega);have lb:=nb.lt;have q0:w.cell? ⟨b,1,none⟩=some nilS:=by rw[hB.cell (p:=⟨b,1,none⟩) lb];exact nb.c1
 have Hcall:=zh (z6w w0 v L none 0 0 [] w hB hown rfl (CS.nil _) (by omega));have Hnb:=zh nb;have Hc2:=zh hc2;have Hr:=zh hr;have Hih:=zh ih;have Hl:=zh (zai hl hle);obtain⟨n,hn⟩:∃n,ps.length=n:=⟨_,rfl⟩
 have Hn:=zh hn;have hn9:n≤100001:=by omega
 have Hlb:=zh lb;have Hn2:=zh hn;clear nb s1 hown hn hB lb hl ih hr hc2 hle hgk hkl hks
 go_enter Tryz.func41,Tryz.ntmps41
 go_wp2_with fail;refine Hcall.out.mono ?_;rintro e w1 ⟨v1,rfl,ho1,hb1,hb2⟩;have q3:w1.cell? ⟨b,3,none⟩=some (.slice (some ⟨g2,o2,none⟩) n c1):=by
  rw[hb1.cell (p:=⟨b,3,none⟩) Hlb.out,←Hn2.out];exact Hnb.out.c3
 rw[List.append_nil] at ho1;have HB:=zh hb1;have Ho:=zh ho1;have Hb1:=zh hb2;clear ho1 hb1 hb2 Hcall q0;go_wp2_with fail
 go_loopw [0,6,18] (fun u _ i wr=>∃(k:Nat) (v:Value),v=u∧i=.int .i64 k∧k≤n∧Hid (wr.ownsRow w0.heap.size ET entE.sz v (L.length+(ess.take k).flatten.length) (entE.row (L++(ess.take k).flatten)))∧Hid (Below w0.heap.size w0 wr)∧Hid (Below w0.heap.size w wr)) (fun _ _ i _=>n-(intOf i).toNat)
 case atStart=>exact⟨0,v1,rfl,rfl,by omega,by rw[List.take_zero,List.flatten_nil,List.append_nil];exact Ho,HB,Hb1⟩
 case round=>
  obtain⟨k,v,rfl,rfl,hk,hown,hB,hC⟩:=hrel
  by_cases hlt:k<n
  ·have hkid:=Hr.out.kid (d:=[]) (m:=k) (by have:=Hl.out.2;have:=Hn.out;omega);have p0:=Hc2.out k (by rw[Hn.out];exact hlt);have p1:wr.cell? ⟨g2,o2+k,none⟩=some (pt (na ps k)):=by
    rw[hB.out.cell (p:=⟨g2,o2+k,none⟩) (block_lt_of_cell p0)];exact p0
   have het:(ess.take (k+1)).flatten=(ess.take k).flatten++ess.getD k []:=x8s (ess:=ess) (i:=k) (by have:=Hl.out.2;have:=Hn.out;omega);have hsum:(ess.take (k+1)).flatten.length≤ess.flatten.length:=by
    conv=>rhs;rw[←List.take_append_drop (k+1) ess,List.flatten_append,zla]
    omega
   have hlen:(L++(ess.take k).flatten).length+(ess.getD k []).length≤1000000:=by
    rw[het,zla] at hsum;rw[zla];have:=Hl.out.1;omega
   obtain⟨sk,hk1,_,hk3⟩:=hkid;have Hcall:=zh (Hih.out _ _ (na ps k) (ess.getD k []) sk v (L++(ess.take k).flatten) wr hk1 (by omega) hB.out (by rw[zla];exact hown.out) hlen);have Het:=zh het;generalize na ps k=pk at*;clear p0 het hsum hlen hk1 hk3 hown;go_wp2_with fail;refine Hcall.out.mono ?_;rintro e w2 ⟨v2,rfl,ho2,hb2,hb3⟩;have Ho2:Hid (w2.ownsRow w0.heap.size ET entE.sz v2 (L.length+(ess.take (k+1)).flatten.length) (entE.row (L++(ess.take (k+1)).flatten))):=by
    rw[Het.out,←List.append_assoc];rw[zla] at ho2;rw[zla,←Nat.add_assoc];exact ho2
   have Hb2:=zh hb2;have Hc2':=zh (hC.out.trans hb3);clear ho2 hb2 hb3 Hcall hB hC p1;go_wp2_with fail
   go_roundw
   case rel=>exact⟨k+1,v2,rfl,by go_num,by omega,Ho2,Hb2,Hc2'⟩
   case measure=>simp[intOf];omega
  ·obtain rfl:k=n:=by omega
   have ho:=hown.out;rw[List.take_of_length_le (by have:=Hl.out.2;have:=Hn.out;omega)] at ho;have Ho2:=zh ho;clear hown ho;go_wp2;go_ret;exact⟨v,rfl,Ho2.out,hB.out,hC.out⟩
theorem z4y (w0:World):∀(h:Nat) (lo hi:SB) (b:Nat) (es:List En) (s:Nat) (v:Value) (L:List En) (w:World),Nd w0 h lo hi b es s→s≤100000→Below w0.heap.size w0 w→w.ownsRow w0.heap.size ET entE.sz v L.length (entE.row L)→L.length+es.length≤1000000→Calls Tryz.prog 41 #[v,pt b] w fun e w'=>z6v w0 w L es e w'
 | 0,_,_,b,es,s,v,L,w,hn,_,hB,ho,hl=>y2y w0 b es s hn v L w hB ho hl
 | h+1,_,_,b,es,s,v,L,w,hn,hs,hB,ho,hl=>y2z w0 b es s hn v L w hB ho hl hs (z4y w0 h)
end Go.Proofs.YtdnfhjfbanhhcaaGreatDoor
