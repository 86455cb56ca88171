/-
  Steps.
-/
import Derived.Test.YtdgladhfibfdlaaGreatDoorQPSs24
import Derived.Test.YtdgladhfibfdlaaGreatDoorProg
namespace Go.Proofs.YtdgladhfibfdlaaGreatDoor
open Go Go.RowKit Go.Proofs.Tryz
set_option maxRecDepth 100000
theorem z3b {w:World}{B E T b n:Nat}{v:Value}{xs:List Value}{A:Array Value}(h:w.ownsRow B E 4 v n xs)(hb:w.heap[b]? =some (.cells A T (0,0)))(hET:E≠T):∀i,v.ownBlock=some i→i≠b:=fun i hi e=>by
 subst e
 rcases h.2 with ⟨h1,_⟩|⟨g,cap,cur,h1,h2,h3,h4⟩
 ·subst h1;cases hi
 ·subst h1;simp only[Value.ownBlock,Option.some.injEq] at hi;subst hi;rw[h3] at hb;exact hET (by cases hb;rfl)
theorem Fk (cs:List Ce)(y:Ce)(i:Nat)(h:i<cs.length):ca (cs++[y]) i=ca cs i:=by
 unfold ca;simp[List.getD,List.getElem?_append_left h]
theorem z02 (cs:List Ce)(y:Ce):ca (cs++[y]) cs.length=y:=by
 unfold ca;simp[List.getD]
theorem y16 {cs:List Ce}{y:Ce}{k:Nat}(h:YK cs k)(hl:cs.length=k)(h1:0<k→blt (ca cs (k-1)).k y.k=true):YK (cs++[y]) (k+1):=fun i h0 hi=>by
 rcases zng i k with h2|h2
 ·rw[Fk _ _ _ (by omega),Fk _ _ _ (by omega)];exact h i h0 h2
 ·obtain rfl:i=k:=by omega
  have e:=z02 cs y;rw[hl] at e;rw[e,Fk _ _ _ (by omega)];exact h1 h0
theorem z3c {cs:List Ce}{y:Ce}{k:Nat}(hl:cs.length=k)(h0:0<k)(h1:blt (ca cs (k-1)).k y.k=false):¬asc (cs++[y]):=by
 refine z9q (k:=k) h0 (by rw[zla,hl];simp) ?_;have e:=z02 cs y;rw[hl] at e;rw[e,Fk _ _ _ (by omega)];exact h1
theorem y5o (l:List Nat)(K:List Nat)(S1 S2:RS)(M:Nat)(h1:Z9 ⟨l,false⟩ 40=(K,S1))(h2:X6 S1 2048=(M,S2)):
  (S2.wr=true→O5 l=none)∧(S2.wr=false→M≤64→M≤S2.l.length→O5 l=some (⟨Pj K,Pj (S2.l.take M),M,0⟩,S2.l.drop M))∧
  (S2.wr=false→M≤64→S2.l.length<M→O5 l=none)∧
  (S2.wr=false→¬M≤64→2≤S2.l.length→O5 l=some (⟨Pj K,⟨#[]⟩,M,(S2.l.getD 0 0*256+S2.l.getD 1 0:Nat)⟩,S2.l.drop 2))∧
  (S2.wr=false→¬M≤64→S2.l.length<2→O5 l=none):=by
 unfold O5;rw[h1];simp only;rw[h2];simp only;refine⟨fun h=>by rw[if_pos h],fun h h3 h4=>by rw[if_neg (by rw[h];simp),if_pos h3,if_pos h4],fun h h3 h4=>by rw[if_neg (by rw[h];simp),if_pos h3,if_neg (by omega)],fun h h3 h4=>by rw[if_neg (by rw[h];simp),if_neg h3,if_pos h4];rfl,fun h h3 h4=>by rw[if_neg (by rw[h];simp),if_neg h3,if_neg (by omega)]⟩
set_option maxHeartbeats 4000000 in
theorem yU (a:Option Addr)(n c:Nat)(l:List Nat)(w:World)(hn:l.length=n)(hs:Src w a l)(hz:a=none→c=0)(hnc:n≤c)(hcm:c≤maxLen)(hl:n≤65536)(hb8:B8 l):
  Calls prog 84 #[.slice a n c] w fun e w'=>∃v,e=.returned (.tuple #[v,.int .i64 (y90 l:Nat)])∧w'.ownsRow w.heap.size RCT 4 v (y5i l).length (cvs (y5i l))∧zB w w':=by
 have Hn:=zh hn
 by_cases hlong:504<n
 ·have hd:=zh (N9 (z9u (l:=l) (by rw[Hn.out];exact hlong)));have d1:decide (504<(n:Int))=true:=by simp;omega
  clear hs hz hn hb8 hnc hcm
  go_enter func84,ntmps84
  go_wp2
  go_ret2
  exact⟨.slice none 0 0,by rw[hd.out.2];rfl,by rw[hd.out.1];exact World.ownsRow_nil _ _ _ _,zbr _ _⟩
 ·have d1:decide (504<(n:Int))=false:=by simp;omega
  have hN:=z1w ⟨l,false⟩ 504;have hst:=zh (y5h l);have hno:=zh (fun i cs S=>x3m (l:=l) (i:=i) (cs:=cs) (S:=S));have hend:=zh (fun cs S=>x15 (l:=l) (cs:=cs) (S:=S));have hwr0:=zh (fun h=>y8q (S:=⟨l,false⟩) (most:=504) h);have hstop:=zh (fun k=>YM (l:=l) (k:=k));have hnot:=zh (fun k cs r=>y4a (l:=l) (k:=k) (cs:=cs) (r:=r));have hStdef:∀i cs S,St l i cs S=((S.wr=false∧(X6 ⟨l,false⟩ 504).2.wr=false∧Mv i (X6 ⟨l,false⟩ 504).2.l=some (cs,S.l))∨(S.wr=true∧S.l=[]∧L9 l=none)):=fun _ _ _=>rfl
  have hSt:=zh hStdef;obtain⟨BB,hBB⟩:∃B,B=w.heap.size:=⟨_,rfl⟩
  have HBB:=zh hBB;clear hBB;have harg:Hid (y5g w (.agg #[.slice a n c,.bool false]) BB ⟨l,false⟩):=by
   refine⟨⟨_,rfl,⟨a,c,by rw[←Hn.out],hs,hz,by rw[Hn.out];exact hnc,hcm⟩,?_⟩,hb8,by show l.length≤_;rw[Hn.out];exact hl,fun h=>by cases h⟩;rw[←Hn.out,HBB.out];exact x4t hs
  have hnum:=zh (Iu w _ _ _ harg.out 504);obtain⟨NS,hNS⟩:∃NS,NS=X6 ⟨l,false⟩ 504:=⟨_,rfl⟩
  rw[←hNS] at hN hst hno hend hwr0 hstop hnot hSt hnum;obtain⟨N,S0⟩:=NS;dsimp only at hN hst hno hend hwr0 hstop hnot hSt hnum;clear hNS hs hz hn hb8 hnc hcm harg hStdef
  go_enter func84,ntmps84
  go_wp2_with fail;refine hnum.out.mono ?_;rintro e w1 ⟨x',rfl,hrf,hb1⟩;obtain⟨vS,rfl,hslS,hloS⟩:=hrf.ex;obtain⟨aS,cS,rfl,_⟩:=hslS.arg;have hst0:=zh (hst.out hrf.inv);have hb2:zB w (w1.alloc (.cells #[.slice aS S0.l.length cS,.bool S0.wr] RFT)):=hb1.alloc hb1.size _;have hsb0:=zh (RSB.new w1 RFT (.slice aS S0.l.length cS) S0.wr);have hrf0:=zh (hrf.below (B:=w1.heap.size) ((zbr _ _).alloc (zlr _) (.cells #[.slice aS S0.l.length cS,.bool S0.wr] RFT)) (zlr _));have Hb2:=zh hb2;have hwN:Hid (0<N→S0.wr=false):=fun h0=>by
   cases hw:S0.wr with
   | false=>rfl
   | true=>have:=hwr0.out hw;cases this;omega
  have hr4:Hid (BB≤w1.heap.size):=by show _≤_;rw[HBB.out];exact hb1.size
  clear hrf hslS hloS hb1 hb2 hst hnum hwr0;obtain⟨nS,hnS⟩:∃n,n=S0.l.length:=⟨_,rfl⟩
  obtain⟨bS,hbS⟩:∃b,b=S0.wr:=⟨_,rfl⟩
  rw[←hbS,←hnS] at hsb0 hrf0 Hb2;have hS0:Hid (S0=⟨S0.l,bS⟩):=y1t rfl hbS.symm;rw[hS0.out] at hrf0 hst0;have hwN':Hid (0<N→bS=false):=fun h=>by rw[hbS];exact hwN.out h
  rw[←hbS,←hnS];have Hw1:Hid (BB≤(w1.alloc (.cells #[.slice aS nS cS,.bool bS] RFT)).heap.size):=by show _≤_;rw[HBB.out];exact Hb2.out.size
  clear hnS hbS hwN;go_wp2_with fail
  go_loopw [6,7] (fun ov i wr=>∃(k:Nat) (cs:List Ce) (L:List Nat) (v:Value) (av:Option Addr) (nv cv:Nat) (bv:Bool),i=.int .u64 k∧ov=v∧k≤N∧Hid (cs.length=k)∧Hid (St l k cs ⟨L,bv⟩)∧Hid (YK cs k)∧Hid (k<N→bv=false)∧Hid (wr.ownsRow BB RCT 4 v cs.length (cvs cs))∧Hid (RSB wr w1.heap.size RFT (.slice av nv cv) bv)∧Hid (RfB wr (.agg #[.slice av nv cv,.bool bv]) BB ⟨L,bv⟩)∧Hid (BB≤wr.heap.size)∧Hid (zB w wr)) (fun _ i _=>N-(intOf i).toNat)
  case atStart=>exact⟨0,[],S0.l,.slice none 0 0,aS,nS,cS,bS,rfl,rfl,by omega,rfl,hst0,(fun i h0 hi=>by omega),hwN',World.ownsRow_nil _ BB RCT 4,hsb0,hrf0,Hw1,Hb2⟩
  case round=>
   obtain⟨k,cs,L,v,av,nv,cv,bv,rfl,rfl,hk,hcl,hS,hasc,hbv,hown,hsb,hrf,hz,hB⟩:=hrel
   by_cases hlt:k<N
   ·obtain rfl:=hbv.out hlt;have hdN:Hid (S0.wr=false∧Mv k S0.l=some (cs,L)):=by
     have h:=hS.out;rw[hSt.out] at h
     rcases h with ⟨_,h1,h2⟩|⟨h1,_⟩
     ·exact⟨h1,h2⟩
     ·cases h1
    have hkey:=y5o L;obtain⟨BS,hBS⟩:∃B,B=Z9 ⟨L,false⟩ 40:=⟨_,rfl⟩
    obtain⟨KL,S1⟩:=BS;obtain⟨MS,hMS⟩:∃M,M=X6 S1 2048:=⟨_,rfl⟩
    obtain⟨M,S2⟩:=MS;have hM:M≤2048:=by have:=z1w S1 2048;rw[←hMS] at this;exact this
    have Hkey:=zh (hkey KL S1 S2 M hBS.symm hMS.symm);have HBS:=zh (zai hBS.symm hMS.symm);have hby:=zh (Fj wr (.agg #[.slice av nv cv,.bool false]) BB ⟨L,false⟩ hrf.out.weak 40 40 rfl (by omega) (by omega));rw[←hBS] at hby;dsimp only at hby;clear hkey hBS hMS hbv hrf;have s0:=hsb.out.c0;have s1:=hsb.out.c1;go_wp2_with fail;refine hby.out.mono ?_;rintro e w2 ⟨x1,vK,rfl,hrf1,hslK,hb2⟩;obtain⟨v1,rfl,hsl1,hlo1⟩:=hrf1.ex;obtain⟨a1,c1,rfl,_⟩:=hsl1.arg;obtain⟨n1,hn1⟩:∃n,n=S1.l.length:=⟨_,rfl⟩
    obtain⟨b1,hb1⟩:∃b,b=S1.wr:=⟨_,rfl⟩
    rw[←hn1,←hb1] at hrf1⊢
    clear hsl1 hlo1 hn1 hb1;have hnw:zB w2 (w2.alloc (.cells #[.slice a1 n1 c1,.bool b1] RFT)):=(zbr _ _).alloc (zlr _) _;have hnu:=zh (Iu (w2.alloc (.cells #[.slice a1 n1 c1,.bool b1] RFT)) (.agg #[.slice a1 n1 c1,.bool b1]) BB S1 (hrf1.below hnw (zlr _)).weak 2048);rw[HBS.out.2] at hnu;have Hb2r:=zh (hb2.trans (hnw.mono hb2.size));have HslK:=zh (hslK.below hnw (zlr _));clear hb2 hnw hslK hrf1 hby;go_wp2_with fail;refine hnu.out.mono ?_;rintro e w3 ⟨x2,rfl,hrf2,hb3⟩;obtain⟨v2,rfl,hsl2,hlo2⟩:=hrf2.ex;obtain⟨a2,c2,rfl,_,_,hnc2,hcm2⟩:=hsl2.arg;obtain⟨n2,hn2⟩:∃n,n=S2.l.length:=⟨_,rfl⟩
    obtain⟨b2,hb2⟩:∃b,b=S2.wr:=⟨_,rfl⟩
    rw[←hn2] at hnc2 hsl2 hlo2;rw[←hn2,←hb2] at hrf2⊢
    obtain⟨w3a,hw3a⟩:∃x,x=w3.alloc (.cells #[.slice a2 n2 c2,.bool b2] RFT):=⟨_,rfl⟩
    have hnw3:zB w3 w3a:=by rw[hw3a];exact(zbr _ _).alloc (zlr _) _
    have hb23:zB wr w3a:=(Hb2r.out.trans (hb3.mono Hb2r.out.size)).trans (hnw3.mono (znt Hb2r.out.size hb3.size));have HbR:=zh hb23;have HB3:=zh (hB.out.trans (hb23.mono hB.out.size));have hkin:=Hkey.out;rw[←hn2,←hb2] at hkin;have HslK3:=zh ((HslK.out.below hb3 (zlr _)).below hnw3 (zlr _));have hcvK:=HslK3.out.conv;have hb3s:Hid (wr.heap.size≤w3.heap.size):=znt Hb2r.out.size hb3.size;have Hsl2:=zh (hsl2.below hnw3 (zlr _));have Hlo2:=zh hlo2;have H82:=zh (zai hrf2.b8 hrf2.len);have Hn2:=zh hn2;have hn264:n2≤65536:=by rw[hn2];exact hrf2.len
    clear hsl2 hlo2 hrf2 hn2 hnu Hb2r HslK hnw3 hb3 hb23 HslK3
    cases b2 with
    | true=>
     have hd:=zh (N9 (hstop.out (k+1) (YL hdN.out.2 (hkin.1 rfl)) (by omega)));clear hkin hb2 Hkey;have hB4:=HB3.out;rw[hw3a] at hB4;have HB4:=zh hB4;clear hcvK hw3a HB3 HbR hB4 hsb s0 s1;go_wp2
     go_ret2
     exact⟨.slice none 0 0,by rw[hd.out.2];rfl,by rw[hd.out.1];exact World.ownsRow_nil _ _ _ _,HB4.out⟩
    | false=>
     have hkey2:=zh (zai (hkin.2.1 rfl) (zai (hkin.2.2.1 rfl) (zai (hkin.2.2.2.1 rfl) (hkin.2.2.2.2 rfl))));clear hkin hb2 Hkey;obtain⟨need,hneed⟩:∃need:Nat,(64<M∧need=2)∨(M≤64∧need=M):=by
      by_cases h:M≤64
      ·exact⟨M,.inr ⟨h,rfl⟩⟩
      ·exact⟨2,.inl ⟨by omega,rfl⟩⟩
     have Hneed:=zh hneed;have hneed64:need≤64:=by omega
     clear hneed;have hE0:=zh (RSB.new w3 RFT (.slice a2 n2 c2) false);have hpq:Hid (w3a.heap.size=w3.heap.size+1):=by show _=_;rw[hw3a];simp
     rw[←hw3a] at hE0;obtain⟨W,hW⟩:∃x,x=w3a.alloc (.cells #[.string (Pj KL),.string ⟨#[]⟩,.int .i64 M,.int .i64 0] RCT):=⟨_,rfl⟩
     have hnW:zB w3a W:=by rw[hW];exact(zbr _ _).alloc (zlr _) _
     have eC:Hid (CIn W (w3.heap.size+1) RCT ⟨Pj KL,⟨#[]⟩,M,0⟩):=by rw[hW,←hpq.out];exact CIn.new w3a RCT ⟨Pj KL,⟨#[]⟩,M,0⟩
     have eQ:Hid (RSB W w3.heap.size RFT (.slice a2 n2 c2) false):=hE0.out.below hnW hE0.out.lt;have eB0:zB wr W:=HbR.out.trans (hnW.mono HbR.out.size);have eR:Hid (RSB W w1.heap.size RFT (.slice av nv cv) false):=hsb.out.below eB0 hsb.out.lt;have eS:=zh (Hsl2.out.below hnW (zlr _));have eO:=zh (Y4 hown.out eB0 (zlr _));have hown0:=zh (y9y hown.out);have eB:=zh (hB.out.trans (eB0.mono hB.out.size));have eG:Hid (wr.heap.size≤w3.heap.size):=by
      have h1:=hpq.out;show _≤_;have h2:=hb3s.out;omega
     have ez:Hid (BB≤w3.heap.size):=znt hz.out eG.out;have hr1:Hid (w1.heap.size<w3.heap.size):=Nat.lt_of_lt_of_le hsb.out.lt eG.out;clear hE0 hpq hnW eB0 Hsl2 HB3 HbR hsb hown hB hz;subst hw3a
     go_upto_if 49 with fail
     rw[←hW];clear hW hcvK s0 s1
     go_cut [13] (fun s13 wx=>s13=.int .i64 need∧wx=W)
     case first=>
      rcases Hneed.out with ⟨h,h2⟩|⟨h,h2⟩
      ·have e1:decide (64<(M:Int))=true:=by simp;omega
       have Hx:Hid (need=2):=h2;clear h h2;rw[e1];go_wp2;go_meet;exact⟨by rw[Hx.out];rfl,rfl⟩
      ·have e1:decide (64<(M:Int))=false:=by simp;omega
       have Hx:Hid (need=M):=h2;clear h h2;rw[e1];go_wp2;go_meet;exact⟨by rw[Hx.out],rfl⟩
     case rest=>
      obtain⟨rfl,hwc⟩:=hcut;rw[hwc];clear hwc wc;have q0:=eQ.out.c0;have z2:=eC.out.c2;dsimp only at z2
      by_cases hshort:n2<need
      ·have hd:=zh (N9 (hstop.out (k+1) (YL hdN.out.2 (by
        rcases Hneed.out with ⟨h,h2⟩|⟨h,h2⟩
        ·exact hkey2.out.2.2.2 (by omega) (by omega)
        ·exact hkey2.out.2.1 (by omega) (by omega))) (by omega)))
       have e1:decide ((n2:Int)<(need:Int))=true:=by simp;omega
       have e1':decide (n2<need)=true:=by simp;omega
       clear eC eQ eR eS eO hkey2;go_wp2
       go_ret2
       exact⟨.slice none 0 0,by rw[hd.out.2];rfl,by rw[hd.out.1];exact World.ownsRow_nil _ _ _ _,eB.out⟩
      ·have e1:decide ((n2:Int)<(need:Int))=false:=by simp;omega
       have hnd:need≤n2:=by omega
       have n264:n2≤9223372036854775807:=by omega
       go_upto_if 57 with fail
       go_cut [] (fun wx=>∃y:Ce,Hid (CIn wx (w3.heap.size+1) RCT y)∧Hid (O5 L=some (y,S2.l.drop need))∧Hid (Zx (fun i=>i=w3.heap.size+1) W wx))
       case first=>
        rcases Hneed.out with ⟨h,h2⟩|⟨h,h2⟩
        ·have e2:decide (64<(M:Int))=true:=by simp;omega
         rw[e2];subst h2
         rcases eS.out with ⟨hnil,hl0⟩|⟨g,o,c',hsl,hc,hnc',hcm'⟩
         ·have:=Hn2.out;rw[hl0] at this;simp at this;omega
         rw[←Hn2.out] at hsl hnc'
         cases hsl
         have hx0:=hc 0 (by rw[←Hn2.out];omega);have hx1:=hc 1 (by rw[←Hn2.out];omega);have hce:Hid (O5 L=some (⟨Pj KL,⟨#[]⟩,M,(S2.l.getD 0 0*256+S2.l.getD 1 0:Nat)⟩,S2.l.drop 2)):=hkey2.out.2.2.1 (by omega) hnd;have hX0:=H82.out.1.get 0;have hX1:=H82.out.1.get 1;rw[Nat.add_zero] at hx0;have gq:=block_lt_of_cell hx0;have hgne:g≠w3.heap.size+1:=fun e=>by
          subst e;exact eC.out.noByte _ _ hx0
         generalize S2.l.getD 0 0=X0 at*;generalize S2.l.getD 1 0=X1 at*;have hCd:Hid (CIn W.drew (w3.heap.size+1) RCT ⟨Pj KL,⟨#[]⟩,M,0⟩):=eC.out;have hqne:w3.heap.size≠w3.heap.size+1:=by omega
         go_wp2_with fail;refine rgt (F:=fun i=>i=w3.heap.size+1) [(0,true),(1,true),(2,true),(3,true),(4,true),(5,true),(6,true),(7,true),(8,true),(9,true),(10,true),(11,true),(12,true),(13,false)] (h:= ?_);have r0:∀w',Zx (fun i=>i=w3.heap.size+1) W.drew w'→w'.cell? ⟨w3.heap.size,0,none⟩=some (.slice (some ⟨g,o,none⟩) n2 c2):=fun w' t=>(RSB.turn (w:=W.drew) eQ.out t hqne).c0
         have r1:∀w',Zx (fun i=>i=w3.heap.size+1) W.drew w'→w'.cell? ⟨g,o,none⟩=some (.int .u8 X0):=fun w' t=>by
          rw[t.cell (p:=⟨g,o,none⟩) gq hgne];exact hx0
         have r2:∀w',Zx (fun i=>i=w3.heap.size+1) W.drew w'→w'.cell? ⟨g,o+1,none⟩=some (.int .u8 X1):=fun w' t=>by
          rw[t.cell (p:=⟨g,o+1,none⟩) gq hgne];exact hx1
         have y1:(0:Int)<(n2:Int):=by omega
         have y2:(1:Int)<(n2:Int):=by omega
         have y3:IntKind.i64.wrap (X0:Int)=(X0:Int):=by rw[IntKind.wrap_i64];omega
         have y4:IntKind.i64.wrap (X1:Int)=(X1:Int):=by rw[IntKind.wrap_i64];omega
         have y5:0<n2:=by omega
         have y6:1<n2:=by omega
         obtain⟨P1,hP1⟩:∃P1:Nat,P1=256*X0:=⟨_,rfl⟩
         obtain⟨P2,hP2⟩:∃P2:Nat,P2=X0*256+X1:=⟨_,rfl⟩
         have y7:IntKind.i64.wrap (256*(X0:Int))=(P1:Int):=by rw[IntKind.wrap_i64];omega
         have y8:IntKind.i64.wrap ((P1:Int)+(X1:Int))=(P2:Int):=by rw[IntKind.wrap_i64];omega
         rw[←hP2] at hce;clear hP1 hP2;iterate 13 (refine gtr (v:= ?_) rfl (by rfl) ?_ ?_;rotate_left;(intro w' hw';go_simp;with_reducible rfl);simp only[Act.put,zs0,zs1,zs2])
         clear r0 r1 r2;have f3:=hCd.out.fz 3;have g3:=hCd.out.c3;dsimp only at g3;refine gtc rfl (by rfl) (fun K hK=> ?_);go_simp;refine hK _ _ (Px _ _ _ _) ?_;clear hK K;refine Yj ?_;go_wp2_with fail;go_meet;exact⟨⟨Pj KL,⟨#[]⟩,M,P2⟩,hCd.out.set3 P2,hce,(Zx.refl (fun i=>i=w3.heap.size+1) W).drew.trans (Px _ _ _ _)⟩
        ·have e2:decide (64<(M:Int))=false:=by simp;omega
         rw[e2];subst h2;have hcv:(convert 48 9 (.slice a2 need c2)).run prog W=.ok (.string (Pj (S2.l.take need))) W:=by
          refine Sl.conv ?_
          rcases eS.out with ⟨hnil,hl0⟩|⟨g,o,c',hsl,hc,hnc',hcm'⟩
          ·cases hnil
           rw[hl0,List.take_nil,show need=0 by omega];exact Sl.none _
          ·rw[←Hn2.out] at hsl hnc'
           cases hsl
           exact z2q hc Hn2.out.symm hnd hnc' hcm'
         have hce:Hid (O5 L=some (⟨Pj KL,Pj (S2.l.take need),need,0⟩,S2.l.drop need)):=hkey2.out.1 h hnd;generalize Pj (S2.l.take need)=s at*;have f1:=eC.out.fz 1;have g1:=eC.out.c1;dsimp only at g1;go_wp2;go_meet;exact⟨⟨Pj KL,s,need,0⟩,eC.out.set1 s,hce,Px _ _ _ _⟩
       case rest=>
        obtain⟨y,hy,hce,hty⟩:=hcut;have hge:∀i,i=w3.heap.size+1→BB≤i:=fun i h=>by have:=ez.out;omega
        have kS:=zh (eS.out.overLo Hlo2.out hty.out hge);have kQ:Hid (RSB wc w3.heap.size RFT (.slice a2 n2 c2) false):=eQ.out.turn hty.out (by show¬_=_;omega);have kR:Hid (RSB wc w1.heap.size RFT (.slice av nv cv) false):=eR.out.turn hty.out (by have:=hr1.out;show¬_=_;omega);have kB:Hid (zB w wc):=eB.out.trans (hty.out.below eB.out.size (fun i h=>by rw[←HBB.out];exact hge i h));have kO:=zh (V3 eO.out hty.out (fun i hi e=>by have h5:=hown0.out i hi;have h6:=eG.out;omega));clear eS eQ eR eB eO eC q0 z2
        go_upto_region 21 with fail
        go_cut [] (fun wx=>∃(ar:Option Addr) (nr cr:Nat),Hid (RSB wx w1.heap.size RFT (.slice ar nr cr) false)∧Hid (RfB wx (.agg #[.slice ar nr cr,.bool false]) BB ⟨S2.l.drop need,false⟩)∧Hid (Zx (fun i=>i=w1.heap.size) wc wx))
        case first=>
         have q0:=kQ.out.c0;have p0:=kR.out.c0;have p1:=kR.out.c1;have f0:=kR.out.fz 0;have f1:=kR.out.fz 1;have h8d:=zh (zai (H82.out.1.drop need) (show(S2.l.drop need).length≤65536 by rw[zld];have:=H82.out.2;omega));have hset:∀u:Value,Hid (RSB ((wc.setCell ⟨w1.heap.size,0,none⟩ u).setCell ⟨w1.heap.size,1,none⟩ (.bool false)) w1.heap.size RFT u false):=fun u=>(kR.out.set0 u).set1 false
         have Hset:=zh hset;clear hset
         rcases kS.out with ⟨hnil,hl0⟩|⟨g,o,c',hsl,hc,hnc',hcm'⟩
         ·cases hnil
          obtain rfl:need=0:=by omega
          have hsl3:Hid (Sl ((wc.setCell ⟨w1.heap.size,0,none⟩ (.slice none 0 0)).setCell ⟨w1.heap.size,1,none⟩ (.bool false)) (.slice none 0 0) (S2.l.drop 0)):=by
           show Sl _ _ _;rw[hl0];exact Sl.none _
          go_wp2;go_meet;exact⟨none,0,0,Hset.out _,⟨⟨_,rfl,hsl3.out,Lo.none _⟩,h8d.out.1,h8d.out.2,fun h=>by cases h⟩,Y2 _ _ _ _⟩
         ·rw[←Hn2.out] at hsl hnc'
          cases hsl
          have hcm2:c2≤9223372036854775807:=by unfold maxLen at hcm';omega
          rcases zng need c2 with hkc|hkc
          ·have hx:=yI hc Hn2.out.symm hnd hnc' hcm';have hlx:=Hlo2.out.same (o':=o+need) (n':=n2-need) (c':=c2-need) (by omega);have hsl3:=zh (hx.overLo hlx (Y2 wc w1.heap.size (.slice (some ⟨g,o+need,none⟩) (n2-need) (c2-need)) (.bool false)) (fun i h=>by rw[h];exact hr4.out));have Hlx:=zh hlx;have y1:¬(c2=need):=by omega
           clear hx hlx hc hcm';go_wp2;go_meet;exact⟨some ⟨g,o+need,none⟩,n2-need,c2-need,Hset.out _,⟨⟨_,rfl,hsl3.out,Hlx.out⟩,h8d.out.1,h8d.out.2,fun h=>by cases h⟩,Y2 _ _ _ _⟩
          ·obtain rfl:need=c2:=by omega
           obtain rfl:need=n2:=by omega
           have hx:=z49 (w:=wc) (g:=g) (o:=o) Hn2.out.symm (zlr need);have hsl3:=zh (hx.overLo (Lo.empty _ _ BB) (Y2 wc w1.heap.size (.slice (some ⟨g,o,none⟩) 0 0) (.bool false)) (fun i h=>by rw[h];exact hr4.out));clear hx hc hcm';go_wp2;go_meet;exact⟨some ⟨g,o,none⟩,0,0,Hset.out _,⟨⟨_,rfl,hsl3.out,Lo.empty _ _ _⟩,h8d.out.1,h8d.out.2,fun h=>by cases h⟩,Y2 _ _ _ _⟩
        case rest=>
         obtain⟨ar,nr,cr,hsr,hrr,htr⟩:=hcut;have hy2:Hid (CIn wc (w3.heap.size+1) RCT y):=hy.out.turn htr.out (by have:=hr1.out;show¬_=_;omega);have kO2:=zh (V3 kO.out htr.out (z3b kO.out kR.out (by decide)));have kB2:Hid (zB w wc):=kB.out.trans (htr.out.below kB.out.size (fun i h=>by rw[h,←HBB.out];exact hr4.out));clear hy kO kB kR kQ kS htr;obtain⟨aw,cw,hv,hcs,hcz,hclm⟩:=O9 kO2.out;subst hv;have hsz:BB≤wc.heap.size:=by rw[HBB.out];exact kB2.out.size
         have Hcs:=zh hcs;have hdec:=zh (fun h=>jA hdN.out.2 hce.out h);have hbad:=zh (fun h=>N9 (hstop.out (k+1) (z4j hdN.out.2 hce.out h) (by omega)));have hk1:k+1≤N:=by omega
         have hnasc:Hid (Mv (k+1) S0.l=some (cs++[y],S2.l.drop need)→¬asc (cs++[y])→y5i l=[]∧y90 l=3):=fun h1 h2=>N9 (hnot.out (k+1) _ _ h1 hk1 h2)
         have hasc2:Hid ((0<k→blt (ca cs (k-1)).k y.k=true)→YK (cs++[y]) (k+1)):=fun h=>y16 hasc.out hcl.out h
         have hasc3:Hid (0<k→blt (ca cs (k-1)).k y.k=false→¬asc (cs++[y])):=fun h h2=>z3c hcl.out h h2
         obtain⟨y0,y1,y2,y3⟩:=y;have hmay:=zh (z66 y0 y1 y2 y3 wc.drew);clear hcs hcz hclm hstop hnot;have g0:=hy2.out.c0;have g1:=hy2.out.c1;have g2:=hy2.out.c2;have g3:=hy2.out.c3;have hlt2:w3.heap.size+1<wc.heap.size:=hy2.out.lt;have t0:∀w',Ext wc.drew w'→w'.cell? ⟨w3.heap.size+1,0,none⟩=some (.string y0):=fun w' hw=>by
          rw[((zbr wc.heap.size wc).drew.trans hw).cell (p:=⟨w3.heap.size+1,0,none⟩) hlt2];exact g0
         have t1:∀w',Ext wc.drew w'→w'.cell? ⟨w3.heap.size+1,1,none⟩=some (.string y1):=fun w' hw=>by
          rw[((zbr wc.heap.size wc).drew.trans hw).cell (p:=⟨w3.heap.size+1,1,none⟩) hlt2];exact g1
         have t2:∀w',Ext wc.drew w'→w'.cell? ⟨w3.heap.size+1,2,none⟩=some (.int .i64 y2):=fun w' hw=>by
          rw[((zbr wc.heap.size wc).drew.trans hw).cell (p:=⟨w3.heap.size+1,2,none⟩) hlt2];exact g2
         have t3:∀w',Ext wc.drew w'→w'.cell? ⟨w3.heap.size+1,3,none⟩=some (.int .i64 y3):=fun w' hw=>by
          rw[((zbr wc.heap.size wc).drew.trans hw).cell (p:=⟨w3.heap.size+1,3,none⟩) hlt2];exact g3
         clear g0 g1 g2 g3;obtain⟨MM,hMM⟩:∃MM,MM=Nk ⟨y0,y1,y2,y3⟩:=⟨_,rfl⟩
         rw[←hMM] at hmay hdec hbad;clear hMM;have hl63:cs.length≤9223372036854775807:=by rw[hcl.out];omega
         go_wp2_with fail;refine rgr [(0,true),(1,false),(2,true),(3,true),(4,true),(5,true),(6,true),(7,true),(8,true),(9,true),(10,true),(11,true),(12,true),(13,true),(14,true),(15,true),(16,true),(17,true),(18,true),(19,true)] (h:= ?_);iterate 1 (refine grr (v:= ?_) rfl (by rfl) ?_ ?_;rotate_left;(intro w' hw';go_simp;with_reducible rfl);simp only[Act.put,zs0,zs1,zs2])
         refine grc rfl (by rfl) (fun K hK=> ?_);go_simp;refine hmay.out.mono ?_;rintro e w5 ⟨rfl,hb5⟩;refine hK _ _ hb5 ?_;clear hK K;have hb5':zB wc w5:=(zbr wc.heap.size wc).drew.trans hb5;have hB5:=zh (kB2.out.trans (hb5'.mono kB2.out.size))
         cases MM with
         | false=>
          have hd:=zh (hbad.out rfl);clear hbad hdec hnasc hasc2 hasc3 hb5 hb5' hmay t0 t1 t2 t3;iterate 18 (first|(refine grr (v:= ?_) rfl (by rfl) ?_ ?_;rotate_left;(intro w' hw';go_simp;with_reducible rfl);simp only[Act.put,zs0,zs1,zs2])|(refine Xx (o:=⟨_,_,_,_,_,_⟩) rfl (by rfl) ?_;simp only[Act.put,zs0,zs1,zs2]))
          refine Yq ?_;go_wp2
          go_ret2
          exact⟨.slice none 0 0,by rw[hd.out.2];rfl,by rw[hd.out.1];exact World.ownsRow_nil _ _ _ _,hB5.out⟩
         | true=>
          have hdec2:=zh (hdec.out rfl);have hstn:Hid (St l (k+1) (cs++[⟨y0,y1,y2,y3⟩]) ⟨S2.l.drop need,false⟩):=by
           show St _ _ _ _;rw[hSt.out];exact .inl ⟨rfl,hdN.out.1,hdec2.out⟩
          have hnasc2:=zh (fun h=>hnasc.out hdec2.out h);clear hbad hdec hmay hnasc hdec2;have hci5:CIn w5 (w3.heap.size+1) RCT ⟨y0,y1,y2,y3⟩:=hy2.out.ext hb5';have hO5:=zh (Y4 kO2.out hb5' (zlr _));have hs5:Hid (RSB w5 w1.heap.size RFT (.slice ar nr cr) false):=hsr.out.below hb5' hsr.out.lt;have hr5:=zh (hrr.out.below hb5' (zlr _));have hsz5:BB≤w5.heap.size:=znt hsz hb5'.size;have Hcs5:=zh (Hcs.out.below hb5' (zlr _));clear hy2 kO2 hsr hrr kB2 Hcs;have v0:=hci5.c0;have v1:=hci5.c1;have v2:=hci5.c2;have v3:=hci5.c3;dsimp only at v0 v1 v2 v3;have hn5:=zh (y1s w5 RCT ⟨y0,y1,y2,y3⟩);have hltp:w3.heap.size+1<w5.heap.size:=hci5.lt
          rcases Nat.eq_zero_or_pos k with h0|h0
          ·have ha3:=zh (hasc2.out (fun h=>by omega));have hc0:=hcl.out;have e0:decide (0<(cs.length:Int))=false:=zdf (by omega);have e1:decide (0<cs.length)=false:=zdf (by omega);clear hasc2 hc0;iterate 18 (first|(refine grr (v:= ?_) rfl (by rfl) ?_ ?_;rotate_left;(intro w' hw';go_simp;with_reducible rfl);simp only[Act.put,zs0,zs1,zs2])|(refine Xx (o:=⟨_,_,_,_,_,_⟩) rfl (by rfl) ?_;simp only[Act.put,zs0,zs1,zs2]))
           refine Yq ?_;clear t0 t1 t2 t3;clear hasc3 hnasc2
           go_wp2_with (at_builtin;refine Rx rfl (.tmp 102) (.tmp 104) 161 rfl BB RCT underlying161 y7d _ cs (by rfl) (hO5.out.alloc _) w5.heap.size 1 ⟨y0,y1,y2,y3⟩ (by rfl) hn5.out (by rw[hcl.out];omega) (by simp;omega) ?_;intro v' w9 hown9 hgrow9)
           have hal:zB w5 (w5.alloc (.cells #[.string y0,.string y1,.int .i64 y2,.int .i64 y3] RCT)):=(zbr _ _).alloc (zlr _) _;have hsA:RSB (w5.alloc (.cells #[.string y0,.string y1,.int .i64 y2,.int .i64 y3] RCT)) w1.heap.size RFT (.slice ar nr cr) false:=hs5.out.below hal hs5.out.lt;have hOA:=hO5.out.alloc (.cells #[.string y0,.string y1,.int .i64 y2,.int .i64 y3] RCT);have hs9:Hid (RSB w9 w1.heap.size RFT (.slice ar nr cr) false):=hsA.turn (Rv hgrow9.out) (fun e=>z3b hOA hsA (by decide) _ e rfl);have hr9:Hid (RfB w9 (.agg #[.slice ar nr cr,.bool false]) BB ⟨S2.l.drop need,false⟩):=by
            obtain⟨vv,e1,h2,h3⟩:=(hr5.out.below hal (zlr _)).ex;exact⟨⟨vv,e1,h2.overLo h3 (Rv hgrow9.out) (fun i hi=>(hOA.lt i hi).1),h3⟩,hr5.out.b8,hr5.out.len,hr5.out.inv⟩
           have hB9:Hid (zB w w9):=(hB5.out.alloc hB5.out.size _).grown hgrow9.out (znt hB5.out.size hal.size) (fun j hj=>by rw[←HBB.out];exact(hO5.out.lt j hj).1);have hz9:Hid (BB≤w9.heap.size):=znt hsz5 (znt hal.size hgrow9.out.size);have hcl9:Hid ((cs++[(⟨y0,y1,y2,y3⟩:Ce)]).length=k+1):=by show _=_;rw[zla,hcl.out];rfl
           clear hal hsA hOA hgrow9 hO5 hs5 hr5 hB5 hci5;go_wp2
           go_roundw
           case rel=>exact⟨k+1,cs++[⟨y0,y1,y2,y3⟩],S2.l.drop need,v',ar,nr,cr,false,by go_num,rfl,by omega,hcl9,hstn,ha3,(fun _=>rfl),hown9,hs9,hr9,hz9,hB9⟩
           case measure=>simp[intOf];omega
          ·obtain⟨j,rfl⟩:∃j,k=j+1:=⟨k-1,by omega⟩
           have hc0:=hcl.out;rw[Nat.add_sub_cancel] at hasc2 hasc3;obtain⟨g,o,rfl,hcell⟩:=Hcs5.out (by omega);have hA:=hcell j (by omega);have u0:∀w',Ext w5 w'→w'.cell? ⟨g,o+j*4,none⟩=some (.string (ca cs j).k):=fun w' hw=>(hA.below hw hA.lt).c0
           have u1:∀w',Ext w5 w'→w'.cell? ⟨w3.heap.size+1,0,none⟩=some (.string y0):=fun w' hw=>by
            rw[hw.cell (p:=⟨w3.heap.size+1,0,none⟩) hltp];exact v0
           have hle:Op.bytesLess (ca cs j).k.toList y0.toList=blt (ca cs j).k y0:=rfl;have e0:decide (0<(cs.length:Int))=true:=zdt (by omega);have e1:decide (0<cs.length)=true:=zdt (by omega);have e2:(cs.length:Int)-1=(j:Int):=by omega
           have e3:IntKind.i64.wrap ((cs.length:Int)-1)=(j:Int):=by rw[IntKind.wrap_i64];omega
           have e4:IntKind.i64.wrap (j:Int)=(j:Int):=by rw[IntKind.wrap_i64];omega
           have e5:(j:Int)<(cs.length:Int):=by omega
           have e6:j<cs.length:=by omega
           obtain⟨D,hD⟩:∃D,D=blt (ca cs j).k y0:=⟨_,rfl⟩
           rw[←hD] at hle hasc2 hasc3;generalize (ca cs j).k=J1 at*;clear hD hc0 hcell hA t0 t1 t2 t3;iterate 18 (first|(refine grr (v:= ?_) rfl (by rfl) ?_ ?_;rotate_left;(intro w' hw';go_simp;with_reducible rfl);simp only[Act.put,zs0,zs1,zs2])|(refine Xx (o:=⟨_,_,_,_,_,_⟩) rfl (by rfl) ?_;simp only[Act.put,zs0,zs1,zs2]))
           refine Yq ?_;clear u0 u1 hle
           cases D with
           | false=>
            have hd:=zh (hnasc2.out (hasc3.out (by omega) rfl));clear hasc2 hasc3 hnasc2;go_wp2
            go_ret2
            exact⟨.slice none 0 0,by rw[hd.out.2];rfl,by rw[hd.out.1];exact World.ownsRow_nil _ _ _ _,hB5.out⟩
           | true=>
            have ha3:=zh (hasc2.out (fun _=>rfl));clear hasc2;clear hasc3 hnasc2
            go_wp2_with (at_builtin;refine Rx rfl (.tmp 102) (.tmp 104) 161 rfl BB RCT underlying161 y7d _ cs (by rfl) (hO5.out.alloc _) w5.heap.size 1 ⟨y0,y1,y2,y3⟩ (by rfl) hn5.out (by rw[hcl.out];omega) (by simp;omega) ?_;intro v' w9 hown9 hgrow9)
            have hal:zB w5 (w5.alloc (.cells #[.string y0,.string y1,.int .i64 y2,.int .i64 y3] RCT)):=(zbr _ _).alloc (zlr _) _;have hsA:RSB (w5.alloc (.cells #[.string y0,.string y1,.int .i64 y2,.int .i64 y3] RCT)) w1.heap.size RFT (.slice ar nr cr) false:=hs5.out.below hal hs5.out.lt;have hOA:=hO5.out.alloc (.cells #[.string y0,.string y1,.int .i64 y2,.int .i64 y3] RCT);have hs9:Hid (RSB w9 w1.heap.size RFT (.slice ar nr cr) false):=hsA.turn (Rv hgrow9.out) (fun e=>z3b hOA hsA (by decide) _ e rfl);have hr9:Hid (RfB w9 (.agg #[.slice ar nr cr,.bool false]) BB ⟨S2.l.drop need,false⟩):=by
             obtain⟨vv,e1,h2,h3⟩:=(hr5.out.below hal (zlr _)).ex;exact⟨⟨vv,e1,h2.overLo h3 (Rv hgrow9.out) (fun i hi=>(hOA.lt i hi).1),h3⟩,hr5.out.b8,hr5.out.len,hr5.out.inv⟩
            have hB9:Hid (zB w w9):=(hB5.out.alloc hB5.out.size _).grown hgrow9.out (znt hB5.out.size hal.size) (fun j hj=>by rw[←HBB.out];exact(hO5.out.lt j hj).1);have hz9:Hid (BB≤w9.heap.size):=znt hsz5 (znt hal.size hgrow9.out.size);have hcl9:Hid ((cs++[(⟨y0,y1,y2,y3⟩:Ce)]).length=j+1+1):=by show _=_;rw[zla,hcl.out];rfl
            clear hal hsA hOA hgrow9 hO5 hs5 hr5 hB5 hci5;go_wp2
            go_roundw
            case rel=>exact⟨j+1+1,cs++[⟨y0,y1,y2,y3⟩],S2.l.drop need,v',ar,nr,cr,false,by go_num,rfl,by omega,hcl9,hstn,ha3,(fun _=>rfl),hown9,hs9,hr9,hz9,hB9⟩
            case measure=>simp[intOf];omega
   ·obtain rfl:k=N:=by omega
    have he:=hend.out cs ⟨L,bv⟩ hS.out (by rw[Hn.out];omega);have hasc':Hid (asc cs):=by show YK cs cs.length;rw[hcl.out];exact hasc.out
    have he1:=zh (fun h=>N9 (he.1 h));have he3:=zh (fun h=>yM (he.2.2 h hasc'.out));obtain⟨aw,cw,hv,hcs,hcz,hclm⟩:=O9 hown.out;subst hv;have hcl':Hid (wr.ownsRow w.heap.size RCT 4 (.slice aw cs.length cw) cs.length (cvs cs)):=by have h9:=hown.out;rw[HBB.out] at h9;exact h9
    have hdn:=zh (z2w wr (.agg #[.slice av nv cv,.bool bv]) ⟨L,bv⟩ hrf.out.weak.wk);have s0:=hsb.out.c0;have s1:=hsb.out.c1;clear he hcs hcz hclm hasc hasc' hown hS hbv hsb hrf;generalize okS ⟨L,bv⟩=D at*;go_wp2_with fail;refine hdn.out.mono ?_;rintro e w2 ⟨rfl,hb2⟩;have hB2:=zh (hB.out.trans (hb2.mono hB.out.size));have hcl2:=zh (Y4 hcl'.out hb2 (zlr _));clear hb2 hcl' hdn
    cases D with
    | false=>
     have hd:=zh (he1.out rfl);clear he1 he3;go_wp2
     go_ret2
     exact⟨.slice none 0 0,by rw[hd.out.2];rfl,by rw[hd.out.1];exact World.ownsRow_nil _ _ _ _,hB2.out⟩
    | true=>
     have hd:=zh (he3.out rfl);clear he1 he3;go_wp2
     go_ret2
     exact⟨_,by rw[hd.out.2];rfl,by rw[hd.out.1];exact hcl2.out,hB2.out⟩
def tk2 (S:RS):Nat×RS:=((KQ S).1*256+(KQ (KQ S).2).1,(KQ (KQ S).2).2)
theorem y7j:tk2 ⟨[],true⟩=(0,⟨[],true⟩):=rfl
theorem z5f {l:List Nat}(b:Bool)(h:2≤l.length):tk2 ⟨l,b⟩=(l.getD 0 0*256+l.getD 1 0,⟨l.drop 2,false⟩):=by
 match l,h with
 | x::y::r,_=>rfl
theorem XJ {l:List Nat}(b:Bool)(h:l.length<2):(tk2 ⟨l,b⟩).2=⟨[],true⟩:=by
 match l,h with
 | [],_=>rfl
 | [x],_=>rfl
 | _::_::_,h=>simp at h;omega
def StF (l:List Nat)(ks:List ByteArray)(is:List Int)(S:RS):Prop:=
 (S.wr=false∧2≤l.length∧∃ps,is=Ck l::ps∧Ev (l.drop 2)=(Ev S.l).map fun x=>(ks++x.1,ps++x.2))∨(S.wr=true∧S.l=[]∧S9 l=none)
theorem y17 (l:List Nat):StF l [] [((tk2 ⟨l,false⟩).1:Int)] (tk2 ⟨l,false⟩).2:=by
 rcases zng l.length 2 with h|h
 ·rw[XJ false h];exact .inr ⟨rfl,rfl,jH (.inr h)⟩
 ·rw[z5f false h];refine .inl ⟨rfl,h,[],rfl,?_⟩;show Ev (l.drop 2)=(Ev (l.drop 2)).map _
  cases Ev (l.drop 2)<;>rfl
theorem y5p {l:List Nat}{ks:List ByteArray}{is:List Int}{S:RS}(h:StF l ks is S)(h0:S.l≠[]):
  StF l (ks++[Pj (Z9 S 40).1]) (is++[((tk2 (Z9 S 40).2).1:Int)]) (tk2 (Z9 S 40).2).2∧(tk2 (Z9 S 40).2).2.l.length<S.l.length:=by
 have hpos:0<S.l.length:=List.length_pos_iff.2 h0
 rcases h with ⟨hw,h2,ps,rfl,hd⟩|⟨_,hl,_⟩
 ·obtain⟨L,b⟩:=S;dsimp only at hw hd h0 hpos;subst hw
  cases hw1:(Z9 ⟨L,false⟩ 40).2.wr with
  | true=>
   rw[Gk hw1,y7j];refine⟨.inr ⟨rfl,rfl,?_⟩,hpos⟩;rw[YR h0 (zE hw1)] at hd;exact QY hd
  | false=>
   have hlt:=J7 hw1;have e:=y1t (S:=(Z9 ⟨L,false⟩ 40).2) rfl hw1
   rcases Nat.lt_or_ge (Z9 ⟨L,false⟩ 40).2.l.length 2 with h3|h3
   ·have ht:=XJ false h3;rw[←e] at ht;rw[ht];refine⟨.inr ⟨rfl,rfl,?_⟩,hpos⟩;rw[YR h0 (J2 h3)] at hd;exact QY hd
   ·have ht:=z5f false h3;rw[←e] at ht;rw[ht];have hp:=Gu hw1 h3;rw[G2 hp] at hd;refine⟨.inl ⟨rfl,h2,ps++[(((Z9 ⟨L,false⟩ 40).2.l.getD 0 0*256+(Z9 ⟨L,false⟩ 40).2.l.getD 1 0:Nat):Int)],rfl,?_⟩,?_⟩
    ·rw[hd];show Option.map _ (Option.map _ (Ev (List.drop 2 _)))=Option.map _ (Ev (List.drop 2 _))
     cases Ev (List.drop 2 (Z9 ⟨L,false⟩ 40).2.l) with
     | none=>rfl
     | some x=>simp only[Option.map_some,List.append_assoc,List.cons_append,List.nil_append]
    ·show(List.drop 2 _).length<_;rw[zld];show _<L.length;have:(Z9 ⟨L,false⟩ 40).2.l.length<L.length:=hlt;omega
 ·exact absurd hl h0
theorem y94 {l:List Nat}{ks:List ByteArray}{is:List Int}{S:RS}(h:StF l ks is S)(h0:S.l=[])(hl:l.length≤504):
  (okS S=false→S9 l=none)∧(okS S=true→¬Gy ks is→S9 l=none)∧(okS S=true→Gy ks is→S9 l=some (ks,is)):=by
 rcases h with ⟨hw,h2,ps,rfl,hd⟩|⟨hw,_,hn⟩
 ·rw[h0,ZI] at hd;have e:Ev (l.drop 2)=some (ks,ps):=by rw[hd];simp
  refine⟨fun ho=> ?_,fun _ hm=>z93 e hm,fun _ hm=>QZ hl h2 e hm⟩;unfold okS at ho;rw[hw,h0] at ho;cases ho
 ·have:okS S=false:=by unfold okS;rw[hw];rfl
  exact⟨fun _=>hn,(fun ho=>by rw[this] at ho;cases ho),(fun ho=>by rw[this] at ho;cases ho)⟩
theorem QI {S:RS}(h0:S.l≠[]):(Z9 S 40).2.l.length<S.l.length:=by
 have hpos:0<S.l.length:=List.length_pos_iff.2 h0
 cases hw1:(Z9 S 40).2.wr with
 | true=>rw[Gk hw1];exact hpos
 | false=>exact J7 hw1
section
variable {P:Program} {w:World} {o:Oper} {a:Act} {K:Act→World→Prop} {Q:Exit→Act→World→Prop}
theorem QJ (s x:Operand)(t:TypeId)
  (ho:o.op=.call {callee:=.builtin .append,args:= #[s,x],argTypes:= #[t,t]})
  (base:Nat) (e:TypeId) (ht:P.underlying t=some (.slice e)) (h2:(P.info? e).map (fun i=>(i.zero,i.size,i.bytes))=some (some (.int .i64 0),1,8))
  (v:Value) (is:List Int) (hs:a.eval s=v) (hown:Hid (w.ownsRow base e 1 v is.length (iv is)))
  (g c:Nat) (y:Int) (hx:a.eval x=.slice (some ⟨g,0,none⟩) 1 c) (hy:w.cell? ⟨g,0,none⟩=some (.int .i64 y))
  (hlen:(is.length+1)*8≤140737488355328) (hbase:base≤w.heap.size)
  (h:∀v' w',Hid (w'.ownsRow base e 1 v' (is++[y]).length (iv (is++[y])))→Hid (w.grownBy w' v.ownBlock)→K (a.put o.dst v') w'):
  Oper.wp P o a w K Q:=by
 obtain⟨i0,hi,hz0,hz1,hz2⟩:=info_parts h2;obtain⟨v',w',hr,h3,h4,_⟩:=Q3 (P:=P) (w:=w) base t o.type e i0 (.int .i64 0) 1 8 ht hi hz0 hz1 hz2 rfl (by decide) v is.length (iv is) hown.out ⟨g,0,none⟩ 1 c (iv [y]) rfl (by
  intro j u hj
  rcases j with _|j
  ·rw[U9,Nat.zero_add,hy,←hj];rfl
  ·cases hj) (by
  intro u hu;simp only[iv,List.map_cons,List.map_nil,List.mem_singleton] at hu;subst hu;rfl) (by unfold maxLen;omega) hlen hbase
 unfold Oper.wp;simp[execOp,ho,resolve,invoke,builtin,hs,hx,hr,Result.andThen];have e1:iv (is++[y])=iv is++iv [y]:=List.map_append;exact h v' w' (by show w'.ownsRow _ _ _ _ _ _;rw[e1,zla];exact h3) h4
end
theorem Xz {w:World}{B E T b sz n:Nat}{v:Value}{xs:List Value}{A:Array Value}(h:w.ownsRow B E sz v n xs)(hb:w.heap[b]? =some (.cells A T (0,0)))(hET:E≠T):∀i,v.ownBlock=some i→i≠b:=fun i hi e=>by
 subst e
 rcases h.2 with ⟨h1,_⟩|⟨g,cap,cur,h1,h2,h3,h4⟩
 ·subst h1;cases hi
 ·subst h1;simp only[Value.ownBlock,Option.some.injEq] at hi;subst hi;rw[h3] at hb;exact hET (by cases hb;rfl)
theorem z03 {w:World}{B E T sz sz2 n m:Nat}{u v:Value}{xs ys:List Value}(h:w.ownsRow B E sz u n xs)(k:w.ownsRow B T sz2 v m ys)(hET:E≠T):∀i,u.ownBlock=some i→v.ownBlock≠some i:=fun i hi hj=>by
 rcases k.2 with ⟨h1,_⟩|⟨g,cap,cur,h1,h2,h3,h4⟩
 ·subst h1;cases hj
 ·subst h1;simp only[Value.ownBlock,Option.some.injEq] at hj;subst hj;exact Xz h h3 hET g hi rfl
theorem JK {w:World}{B E sz n:Nat}{v:Value}{xs:List Value}(h:w.ownsRow B E sz v n xs):∀i,v.ownBlock=some i→B≤i:=fun i hi=>(h.lt i hi).1
end Go.Proofs.YtdgladhfibfdlaaGreatDoor
