/-
  Steps.
-/
import Derived.Test.YtdgladhfibfdlaaGreatDoorQPSs17
import Derived.RangeFuncNested
import Derived.RangeFuncBox
import Derived.RangeFuncBound
import Derived.RangeFuncLeaves
import Derived.Shelf.Abstract
import Derived.OwnWalkIn
import Derived.TacticsInMore
import Derived.LoopNIn
import Derived.LoopIn
import Derived.Maps.AppendAt
import Derived.Test.YtdgladhfibfdlaaGreatDoorProg
namespace Go.Proofs.YtdgladhfibfdlaaGreatDoor
open Go Go.RowKit Tryz
structure RfB (w:World) (x:Value) (B:Nat) (S:RS):Prop where
 ex:∃v,x=.agg #[v,.bool S.wr]∧Sl w v S.l∧Lo v B
 b8:B8 S.l
 len:S.l.length≤65536
 inv:S.wr=true→S.l=[]
theorem RfB.below {w w':World}{B C:Nat}{x:Value}{S:RS}(h:RfB w x C S)(hb:Below B w w')(hB:w.heap.size≤B):RfB w' x C S:=by
 obtain⟨v,h1,h2,h3⟩:=h.ex;exact⟨⟨v,h1,h2.below hb hB,h3⟩,h.b8,h.len,h.inv⟩
theorem x32 (w:World)(B:Nat):RfB w (.agg #[.slice none 0 0,.bool true]) B ⟨[],true⟩:=⟨⟨_,rfl,Sl.none _,Lo.none _⟩,B8.nil,by simp,fun _=>rfl⟩
structure y5g (w:World) (x:Value) (B:Nat) (S:RS):Prop where
 ex:∃v,x=.agg #[v,.bool S.wr]∧Sw w v S.l∧Lo v B
 b8:B8 S.l
 len:S.l.length≤65536
 inv:S.wr=true→S.l=[]
theorem RfB.weak {w:World}{x:Value}{B:Nat}{S:RS}(h:RfB w x B S):y5g w x B S:=by
 obtain⟨v,h1,h2,h3⟩:=h.ex;exact⟨⟨v,h1,h2.sw,h3⟩,h.b8,h.len,h.inv⟩
theorem y5g.below {w w':World}{B C:Nat}{x:Value}{S:RS}(h:y5g w x C S)(hb:Below B w w')(hB:w.heap.size≤B):y5g w' x C S:=by
 obtain⟨v,h1,h2,h3⟩:=h.ex;exact⟨⟨v,h1,h2.below hb hB,h3⟩,h.b8,h.len,h.inv⟩
theorem y5g.wk {w:World}{x:Value}{B:Nat}{S:RS}(h:y5g w x B S):RfW w x S:=by
 obtain⟨v,h1,h2,_⟩:=h.ex;exact⟨⟨v,h1,h2⟩,h.b8,h.len,h.inv⟩
set_option maxRecDepth 100000 in
theorem Iu (w:World)(x:Value)(B:Nat)(S:RS)(h:y5g w x B S)(m:Nat):
  Calls prog 108 #[x,.int .u64 m] w fun e w'=>∃x',e=.returned (.tuple #[x',.int .u64 ((X6 S m).1:Nat)])∧RfB w' x' B (X6 S m).2∧zB w w':=by
 obtain⟨v,rfl,h2,h3⟩:=h.ex;have hl:=h.len;obtain⟨a,c,rfl,hsrc,_⟩:=h2.arg;have H3:=zh h3;clear h3;have hbz:∀u:Value,∀y:Bool,zB w ((w.alloc (.cells #[.slice a S.l.length c,.bool S.wr] RFT)).alloc (.cells #[u,.bool y] RFT)):=fun u y=>by
  have h0:w.heap.size≤(w.alloc (.cells #[.slice a S.l.length c,.bool S.wr] RFT)).heap.size:=by simp
  exact((zbr w.heap.size w).alloc (zlr _) _).alloc h0 _
 have hget:=z2l a c S.l ((w.alloc (.cells #[.slice a S.l.length c,.bool S.wr] RFT)).alloc (.cells #[.slice none 0 0,.bool false] RFT)) h.b8 (by omega) (hsrc.below (hbz _ _) (zlr _));have hlt:=YE S.l;have hgl:=z4d S.l;have hmiss:¬((gt S.l).2.2=0∧(gt S.l).1≤m)→X6 S m=(0,⟨[],true⟩):=O2;have hhit:(gt S.l).2.2=0→(gt S.l).1≤m→X6 S m=((gt S.l).1,⟨S.l.drop (gt S.l).2.1,false⟩):=Nu;have hgv:y3n S.l=.tuple #[.int .u64 ((gt S.l).1:Nat),.int .i64 ((gt S.l).2.1:Nat),.int .i64 ((gt S.l).2.2:Nat)]:=rfl;have hger:=z9a S.l;rw[hgv] at hget;have Hb:=zh hbz;have Hget:=zh hget;have Hst:=zh (zai h.b8 h2);obtain⟨n,hn⟩:∃n,n=S.l.length:=⟨_,rfl⟩
 have Hn:=zh hn.symm;obtain⟨V,hV⟩:∃V,V=(gt S.l).1:=⟨_,rfl⟩
 obtain⟨N,hN⟩:∃N,N=(gt S.l).2.1:=⟨_,rfl⟩
 obtain⟨F,hF⟩:∃F,F=(gt S.l).2.2:=⟨_,rfl⟩
 rw[←hV] at hlt hmiss hhit Hget;rw[←hN] at hgl hhit Hget;rw[←hF] at hgl hmiss hhit Hget hger;rw[←hn] at Hget hgl hl Hb H3⊢
 generalize S.wr=wr at*;clear h h2 hsrc hbz hget hgv hn hV hN hF
 by_cases hF0:F=0
 ·subst hF0;obtain⟨k1,k2,k3⟩:=hgl rfl;clear hgl
  by_cases hm:V≤m
  ·rw[hhit rfl hm];have d1:decide ((m:Int)<(V:Int))=false:=by simp;omega
   rcases Hst.out.2.sl (fun h=>by have:=Hn.out;rw[h] at this;simp at this;omega) with ⟨_,h0⟩|⟨g,o,c',he,hc,hnc,hcm⟩
   ·have:=Hn.out;rw[h0] at this;simp at this;omega
   cases he
   have hnc2:n≤c:=by rw[←Hn.out];exact hnc
   have hcm2:c≤9223372036854775807:=by unfold maxLen at hcm;omega
   have hb8:=zh (Hst.out.1.drop N)
   rcases zng N c with hNc|hNc
   ·have hb:=Hb.out (.slice (some ⟨g,o+N,none⟩) (n-N) (c-N)) false;have hsl:=(yI hc Hn.out k2 hnc2 hcm).below hb (zlr _);have hrf:Hid (RfB ((w.alloc (.cells #[.slice (some ⟨g,o,none⟩) n c,.bool wr] RFT)).alloc (.cells #[.slice (some ⟨g,o+N,none⟩) (n-N) (c-N),.bool false] RFT)) (.agg #[.slice (some ⟨g,o+N,none⟩) (n-N) (c-N),.bool false]) B ⟨S.l.drop N,false⟩):=
     ⟨⟨_,rfl,hsl,H3.out.same (by omega)⟩,hb8.out,by show(S.l.drop N).length≤_;rw[zld,Hn.out];omega,fun h=>by cases h⟩
    have HB:=zh hb;have y1:¬(c=N):=by omega
    clear hb hsl hmiss hhit hc hcm hnc Hst Hb
    go_enter func108,ntmps108
    go_wp2_with fail;refine Hget.out.mono ?_;rintro e w' ⟨rfl,rfl⟩;go_wp2;refine bodyPost_ret (v:=.tuple #[.agg #[.slice (some ⟨g,o+N,none⟩) (n-N) (c-N),.bool false],.int .u64 V]) (by rw[results_cell_tmp rfl];go_simp) rfl ⟨_,rfl,hrf.out,HB.out⟩
   ·obtain rfl:N=c:=by omega
    obtain rfl:N=n:=by omega
    have hb:=Hb.out (.slice (some ⟨g,o,none⟩) 0 0) false;have hsl:=(z49 (w:=w) (g:=g) (o:=o) Hn.out (zlr N)).below hb (zlr _);have hrf:Hid (RfB ((w.alloc (.cells #[.slice (some ⟨g,o,none⟩) N N,.bool wr] RFT)).alloc (.cells #[.slice (some ⟨g,o,none⟩) 0 0,.bool false] RFT)) (.agg #[.slice (some ⟨g,o,none⟩) 0 0,.bool false]) B ⟨S.l.drop N,false⟩):=
     ⟨⟨_,rfl,hsl,H3.out.same (by omega)⟩,hb8.out,by show(S.l.drop N).length≤_;rw[zld,Hn.out];omega,fun h=>by cases h⟩
    have HB:=zh hb;clear hb hsl hmiss hhit hc hcm hnc Hst Hb
    go_enter func108,ntmps108
    go_wp2_with fail;refine Hget.out.mono ?_;rintro e w' ⟨rfl,rfl⟩;go_wp2;refine bodyPost_ret (v:=.tuple #[.agg #[.slice (some ⟨g,o,none⟩) 0 0,.bool false],.int .u64 V]) (by rw[results_cell_tmp rfl];go_simp) rfl ⟨_,rfl,hrf.out,HB.out⟩
  ·rw[hmiss (fun h=>hm h.2)];have d1:decide ((m:Int)<(V:Int))=true:=by simp;omega
   have HB:=zh (Hb.out (.slice none 0 0) true);clear hmiss hhit Hb
   go_enter func108,ntmps108
   go_wp2_with fail;refine Hget.out.mono ?_;rintro e w' ⟨rfl,rfl⟩;go_wp2;refine bodyPost_ret (v:=.tuple #[.agg #[.slice none 0 0,.bool true],.int .u64 0]) (by rw[results_cell_tmp rfl];go_simp) rfl ⟨_,rfl,x32 _ _,HB.out⟩
 ·rw[hmiss (fun h=>hF0 h.1)];have d1:((F:Int)==0)=false:=by simp;omega
  have HB:=zh (Hb.out (.slice none 0 0) true);clear hmiss hhit Hb hgl
  go_enter func108,ntmps108
  go_wp2_with fail;refine Hget.out.mono ?_;rintro e w' ⟨rfl,rfl⟩;go_wp2;refine bodyPost_ret (v:=.tuple #[.agg #[.slice none 0 0,.bool true],.int .u64 0]) (by rw[results_cell_tmp rfl];go_simp) rfl ⟨_,rfl,x32 _ _,HB.out⟩
set_option maxRecDepth 100000 in
set_option maxHeartbeats 4000000 in
theorem Fj (w:World)(x:Value)(B:Nat)(S:RS)(h:y5g w x B S)(most:Int)(m:Nat)(hm:m=most.toNat)(h1: -9223372036854775808≤most)(h2:most≤9223372036854775807):
  Calls prog 109 #[x,.int .i64 most] w fun e w'=>∃x' v,e=.returned (.tuple #[x',v])∧RfB w' x' B (Z9 S m).2∧Sl w' v (Z9 S m).1∧zB w w':=by
 obtain⟨v,rfl,hs,_⟩:=h.ex;obtain⟨a,c,rfl,hsrc,_⟩:=hs.arg;have hb0:zB w ((w.alloc (.cells #[.slice a S.l.length c,.bool S.wr] RFT)).alloc (.cells #[.slice none 0 0,.bool false] RFT)):=by
  have h0:w.heap.size≤(w.alloc (.cells #[.slice a S.l.length c,.bool S.wr] RFT)).heap.size:=by simp
  exact((zbr w.heap.size w).alloc (zlr _) _).alloc h0 _
 have hnum:=Iu _ _ B S (h.below hb0 (zlr _)) m;have hmid:=fun w2 hb v y=>y9x (w:=w) (w2:=w2) (a:=a) (n:=S.l.length) (c:=c) (wr:=S.wr) hb v y
 have hhit:(X6 S m).2.wr=false→(X6 S m).1≤(X6 S m).2.l.length→Z9 S m=((X6 S m).2.l.take (X6 S m).1,⟨(X6 S m).2.l.drop (X6 S m).1,false⟩):=O3;have hmiss:¬((X6 S m).2.wr=false∧(X6 S m).1≤(X6 S m).2.l.length)→Z9 S m=([],⟨[],true⟩):=Ju;have hN64:=y8r S m;have hm64:m≤9223372036854775807:=by omega
 have hlen:=h.len;obtain⟨N,hN⟩:∃N,N=(X6 S m).1:=⟨_,rfl⟩
 obtain⟨S1,hS1⟩:∃S1,S1=(X6 S m).2:=⟨_,rfl⟩
 rw[←hN] at hnum hhit hmiss hN64;rw[←hS1] at hnum hhit hmiss;have Hnum:=zh hnum;have Hmid:=zh hmid;generalize S.l.length=n at*;generalize S.wr=wr at*;clear hnum hmid h hs hsrc hN hS1 hb0;have z1:IntKind.u64.wrap (m:Int)=(m:Int):=by rw[IntKind.wrap_u64];omega
 obtain⟨l1,wr1⟩:=S1;dsimp only at*;obtain⟨M,hM⟩:∃M:Int,M=(m:Int):=⟨_,rfl⟩
 rw[←hM] at Hnum;have hcase:(decide (most<0)=true∧M=0)∨(decide (most<0)=false∧most=(m:Int)∧M=(m:Int)):=by
  rcases Int.lt_or_le most 0 with h|h
  ·left;exact⟨by simpa using h,by omega⟩
  ·right;exact⟨by simpa using h,by omega,hM⟩
 clear hm hM
 rcases hcase with ⟨d0,rfl⟩|⟨d0,rfl,rfl⟩
 all_goals
  clear h1 h2
  go_enter func109,ntmps109
  go_wp2_with fail;refine Hnum.out.mono ?_;rintro e w2 ⟨x',rfl,hrf,hb⟩;obtain⟨v',rfl,hsl,hlo⟩:=hrf.ex;have Hlo:=zh hlo;clear hlo;obtain⟨⟨s0,hnb⟩,s1,s2,hbw⟩:=Hmid.out w2 hb v' wr1;have hsl2:=hsl.turn (Y2 w2 w.heap.size v' (.bool wr1)) hnb;have hl1:=hrf.len;have h81:=hrf.b8;dsimp only at hsl hsl2 hl1 h81;have c0:=s0.c0;have c1:=s0.c1;have f0:=s0.fz 0;have f1:=s0.fz 1;have hset:∀(v:Value) (y:Bool),zB w ((((w2.setCell ⟨w.heap.size,0,none⟩ v').setCell ⟨w.heap.size,1,none⟩ (.bool wr1)).setCell ⟨w.heap.size+1,0,none⟩ v).setCell ⟨w.heap.size+1,1,none⟩ (.bool y)):=fun v y=>
   Below.setCell (p:=⟨w.heap.size+1,1,none⟩) (Below.setCell (p:=⟨w.heap.size+1,0,none⟩) hbw (by show w.heap.size≤w.heap.size+1;omega) v) (by show w.heap.size≤w.heap.size+1;omega) _
  have Hset:=zh hset;have Hl:=zh (zai hsl2 (zai hbw (zai s1 s2)));clear hset hb hnb s0 hrf hbw Hnum Hmid;have q0:=s1.c0;have q1:=s1.c1;have r0:=s2.c0;have r1:=s2.c1;have g0:=s2.fz 0;have g1:=s2.fz 1;clear s1 s2
  cases wr1 with
  | true=>
   have HE:=zh (hmiss (by simp));obtain⟨a1,c1',rfl,_⟩:=hsl.arg;have HB:=zh (Hset.out (.slice none 0 0) true);clear hsl hsl2 hhit hmiss Hset;go_wp2;refine bodyPost_ret (v:=.tuple #[.agg #[.slice none 0 0,.bool true],.slice none 0 0]) (by rw[results_cell_tmp rfl];go_simp) rfl ⟨_,_,rfl,by rw[HE.out];exact x32 _ _,by rw[HE.out];exact Sl.none _,HB.out⟩
  | false=>
   by_cases hN:N≤l1.length
   ·have HE:=zh (hhit rfl hN);have hdl:=h81.drop N;have hdn:(l1.drop N).length≤65536:=by rw[zld];omega
    rcases hsl with ⟨rfl,h0⟩|⟨g,o,c',rfl,hc,hnc,hcm⟩
    ·subst h0;obtain rfl:N=0:=by simpa using hN
     clear hsl2 hhit hmiss Hset;go_wp2_with fail;refine rgt (F:=fun i=>i=w.heap.size+1) [(0,true),(1,true),(2,true),(3,true),(4,true),(5,true),(6,true),(7,true),(8,true),(9,false),(10,true)] (h:= ?_);obtain⟨w4,hw4⟩:∃w4,w4=((w2.setCell ⟨w.heap.size,0,none⟩ (.slice none 0 0)).setCell ⟨w.heap.size,1,none⟩ (.bool false)).drew:=⟨_,rfl⟩
     obtain⟨hs3,hb3,s13,s23⟩:=Hl.out;have hs4:Sl w4 (.slice none 0 0) ([]:List Nat):=by rw[hw4];exact hs3
     have hb4:zB w w4:=by rw[hw4];exact hb3.drew
     have s14:RSB w4 w.heap.size RFT (.slice none 0 0) false:=by rw[hw4];exact s13
     have s24:RSB w4 (w.heap.size+1) RFT (.slice none 0 0) false:=by rw[hw4];exact s23
     rw[←hw4];clear hw4 hs3 hb3 s13 s23 Hl c0 c1 f0 f1 q0 q1 r0 r1 g0 g1;have k0:∀w',Zx (fun i=>i=w.heap.size+1) w4 w'→w'.cell? ⟨w.heap.size,0,none⟩=some (.slice none 0 0):=fun w' t=>(s14.turn t (by omega)).c0
     have r0:=s24.c0;have r1:=s24.c1;have g0:=s24.fz 0;have g1:=s24.fz 1;have hn4:=s24.noByte;have hset4:∀u:Value,zB w ((w4.setCell ⟨w.heap.size+1,0,none⟩ u).setCell ⟨w.heap.size+1,1,none⟩ (.bool false)):=fun u=>
      Below.setCell (p:=⟨w.heap.size+1,1,none⟩) (Below.setCell (p:=⟨w.heap.size+1,0,none⟩) hb4 (by show w.heap.size≤w.heap.size+1;omega) u) (by show w.heap.size≤w.heap.size+1;omega) _
     have hx1:Sl w4 (.slice none 0 0) (([]:List Nat).drop 0):=by rw[List.drop_nil];exact Sl.none _
     have hx2:Sl w4 (.slice none 0 0) (([]:List Nat).take 0):=by rw[List.take_nil];exact Sl.none _
     have hx3:=hx1.turn (Y2 w4 (w.heap.size+1) (.slice none 0 0) (.bool false)) hn4;have hx4:=zh (hx2.turn (Y2 w4 (w.heap.size+1) (.slice none 0 0) (.bool false)) hn4);have hrf:Hid (RfB ((w4.setCell ⟨w.heap.size+1,0,none⟩ (.slice none 0 0)).setCell ⟨w.heap.size+1,1,none⟩ (.bool false)) (.agg #[.slice none 0 0,.bool false]) B ⟨([]:List Nat).drop 0,false⟩):=⟨⟨_,rfl,hx3,by first|exact Lo.none _|exact Hlo.out.same (by omega)⟩,hdl,hdn,fun h=>by cases h⟩
     have HB:=zh (hset4 (.slice none 0 0));clear hset4 hx1 hx2 hx3 s14 s24 hs4 hb4 hn4;iterate 9 (refine gtr (v:= ?_) rfl (by rfl) ?_ ?_;rotate_left;(intro w' hw';go_simp;with_reducible rfl);simp only[Act.put,zs0,zs1,zs2])
     refine gtc rfl (by rfl) (fun K hK=> ?_);go_simp;refine hK _ _ (Y2 _ _ _ _) ?_;clear hK K k0;iterate 1 (refine gtr (v:= ?_) rfl (by rfl) ?_ ?_;rotate_left;(intro w' hw';go_simp;with_reducible rfl);simp only[Act.put,zs0,zs1,zs2])
     refine Yj ?_;go_wp2_with fail;refine bodyPost_ret (v:=.tuple #[.agg #[.slice none 0 0,.bool false],.slice none 0 0]) (by rw[results_cell_tmp rfl];go_simp) rfl ⟨_,_,rfl,by rw[HE.out];exact hrf.out,by rw[HE.out];exact hx4.out,HB.out⟩
    ·generalize hn1:l1.length=n1 at*;have hNn:N≤n1:=hN;have hcm2:c'≤9223372036854775807:=by unfold maxLen at hcm;omega
     have d1:decide ((n1:Int)<(N:Int))=false:=by simp;omega
     have y2:(N:Int)≤n1:=by omega
     have y3:(n1:Int)≤c':=by omega
     have y5:(N:Int)≤c':=by omega
     clear hsl2 hhit hmiss Hset hc
     rcases zng N c' with hNc|hNc
     ·have y4:¬(c'=N):=by omega
      go_wp2_with fail;refine rgt (F:=fun i=>i=w.heap.size+1) [(0,true),(1,true),(2,true),(3,true),(4,true),(5,true),(6,true),(7,true),(8,true),(9,false),(10,true)] (h:= ?_);obtain⟨w4,hw4⟩:∃w4,w4=((w2.setCell ⟨w.heap.size,0,none⟩ (.slice (some ⟨g,o,none⟩) n1 c')).setCell ⟨w.heap.size,1,none⟩ (.bool false)).drew:=⟨_,rfl⟩
      obtain⟨hs3,hb3,s13,s23⟩:=Hl.out;have hs4:Sl w4 (.slice (some ⟨g,o,none⟩) n1 c') l1:=by rw[hw4];exact hs3
      have hb4:zB w w4:=by rw[hw4];exact hb3.drew
      have s14:RSB w4 w.heap.size RFT (.slice (some ⟨g,o,none⟩) n1 c') false:=by rw[hw4];exact s13
      have s24:RSB w4 (w.heap.size+1) RFT (.slice none 0 0) false:=by rw[hw4];exact s23
      have hc4:Cs w4 g o l1:=by
       rcases hs4 with ⟨h,_⟩|⟨_,_,_,h,hc,_⟩
       ·cases h
       ·cases h;exact hc
      rw[←hw4];clear hw4 hs3 hb3 s13 s23 Hl c0 c1 f0 f1 q0 q1 r0 r1 g0 g1;have k0:∀w',Zx (fun i=>i=w.heap.size+1) w4 w'→w'.cell? ⟨w.heap.size,0,none⟩=some (.slice (some ⟨g,o,none⟩) n1 c'):=fun w' t=>(s14.turn t (by omega)).c0
      have r0:=s24.c0;have r1:=s24.c1;have g0:=s24.fz 0;have g1:=s24.fz 1;have hn4:=s24.noByte;have hset4:∀u:Value,zB w ((w4.setCell ⟨w.heap.size+1,0,none⟩ u).setCell ⟨w.heap.size+1,1,none⟩ (.bool false)):=fun u=>
       Below.setCell (p:=⟨w.heap.size+1,1,none⟩) (Below.setCell (p:=⟨w.heap.size+1,0,none⟩) hb4 (by show w.heap.size≤w.heap.size+1;omega) u) (by show w.heap.size≤w.heap.size+1;omega) _
      have hx1:Sl w4 (.slice (some ⟨g,o+N,none⟩) (n1-N) (c'-N)) (l1.drop N):=yI hc4 hn1 hNn hnc hcm;have hx2:Sl w4 (.slice (some ⟨g,o,none⟩) N c') (l1.take N):=z2q hc4 hn1 hNn hnc hcm;have hx3:=hx1.turn (Y2 w4 (w.heap.size+1) (.slice (some ⟨g,o+N,none⟩) (n1-N) (c'-N)) (.bool false)) hn4;have hx4:=zh (hx2.turn (Y2 w4 (w.heap.size+1) (.slice (some ⟨g,o+N,none⟩) (n1-N) (c'-N)) (.bool false)) hn4);have hrf:Hid (RfB ((w4.setCell ⟨w.heap.size+1,0,none⟩ (.slice (some ⟨g,o+N,none⟩) (n1-N) (c'-N))).setCell ⟨w.heap.size+1,1,none⟩ (.bool false)) (.agg #[.slice (some ⟨g,o+N,none⟩) (n1-N) (c'-N),.bool false]) B ⟨l1.drop N,false⟩):=⟨⟨_,rfl,hx3,by first|exact Lo.none _|exact Hlo.out.same (by omega)⟩,hdl,hdn,fun h=>by cases h⟩
      have HB:=zh (hset4 (.slice (some ⟨g,o+N,none⟩) (n1-N) (c'-N)));clear hset4 hx1 hx2 hx3 s14 s24 hs4 hb4 hn4;iterate 9 (refine gtr (v:= ?_) rfl (by rfl) ?_ ?_;rotate_left;(intro w' hw';go_simp;with_reducible rfl);simp only[Act.put,zs0,zs1,zs2])
      refine gtc rfl (by rfl) (fun K hK=> ?_);go_simp;refine hK _ _ (Y2 _ _ _ _) ?_;clear hK K k0;iterate 1 (refine gtr (v:= ?_) rfl (by rfl) ?_ ?_;rotate_left;(intro w' hw';go_simp;with_reducible rfl);simp only[Act.put,zs0,zs1,zs2])
      refine Yj ?_;go_wp2_with fail;refine bodyPost_ret (v:=.tuple #[.agg #[.slice (some ⟨g,o+N,none⟩) (n1-N) (c'-N),.bool false],.slice (some ⟨g,o,none⟩) N c']) (by rw[results_cell_tmp rfl];go_simp) rfl ⟨_,_,rfl,by rw[HE.out];exact hrf.out,by rw[HE.out];exact hx4.out,HB.out⟩
     ·obtain rfl:N=c':=by omega
      obtain rfl:N=n1:=by omega
      go_wp2_with fail;refine rgt (F:=fun i=>i=w.heap.size+1) [(0,true),(1,true),(2,true),(3,true),(4,true),(5,true),(6,true),(7,true),(8,true),(9,false),(10,true)] (h:= ?_);obtain⟨w4,hw4⟩:∃w4,w4=((w2.setCell ⟨w.heap.size,0,none⟩ (.slice (some ⟨g,o,none⟩) N N)).setCell ⟨w.heap.size,1,none⟩ (.bool false)).drew:=⟨_,rfl⟩
      obtain⟨hs3,hb3,s13,s23⟩:=Hl.out;have hs4:Sl w4 (.slice (some ⟨g,o,none⟩) N N) l1:=by rw[hw4];exact hs3
      have hb4:zB w w4:=by rw[hw4];exact hb3.drew
      have s14:RSB w4 w.heap.size RFT (.slice (some ⟨g,o,none⟩) N N) false:=by rw[hw4];exact s13
      have s24:RSB w4 (w.heap.size+1) RFT (.slice none 0 0) false:=by rw[hw4];exact s23
      have hc4:Cs w4 g o l1:=by
       rcases hs4 with ⟨h,_⟩|⟨_,_,_,h,hc,_⟩
       ·cases h
       ·cases h;exact hc
      rw[←hw4];clear hw4 hs3 hb3 s13 s23 Hl c0 c1 f0 f1 q0 q1 r0 r1 g0 g1;have k0:∀w',Zx (fun i=>i=w.heap.size+1) w4 w'→w'.cell? ⟨w.heap.size,0,none⟩=some (.slice (some ⟨g,o,none⟩) N N):=fun w' t=>(s14.turn t (by omega)).c0
      have r0:=s24.c0;have r1:=s24.c1;have g0:=s24.fz 0;have g1:=s24.fz 1;have hn4:=s24.noByte;have hset4:∀u:Value,zB w ((w4.setCell ⟨w.heap.size+1,0,none⟩ u).setCell ⟨w.heap.size+1,1,none⟩ (.bool false)):=fun u=>
       Below.setCell (p:=⟨w.heap.size+1,1,none⟩) (Below.setCell (p:=⟨w.heap.size+1,0,none⟩) hb4 (by show w.heap.size≤w.heap.size+1;omega) u) (by show w.heap.size≤w.heap.size+1;omega) _
      have hx1:Sl w4 (.slice (some ⟨g,o,none⟩) 0 0) (l1.drop N):=z49 hn1 (zlr _);have hx2:Sl w4 (.slice (some ⟨g,o,none⟩) N N) (l1.take N):=z2q hc4 hn1 hNn hnc hcm;have hx3:=hx1.turn (Y2 w4 (w.heap.size+1) (.slice (some ⟨g,o,none⟩) 0 0) (.bool false)) hn4;have hx4:=zh (hx2.turn (Y2 w4 (w.heap.size+1) (.slice (some ⟨g,o,none⟩) 0 0) (.bool false)) hn4);have hrf:Hid (RfB ((w4.setCell ⟨w.heap.size+1,0,none⟩ (.slice (some ⟨g,o,none⟩) 0 0)).setCell ⟨w.heap.size+1,1,none⟩ (.bool false)) (.agg #[.slice (some ⟨g,o,none⟩) 0 0,.bool false]) B ⟨l1.drop N,false⟩):=⟨⟨_,rfl,hx3,by first|exact Lo.none _|exact Hlo.out.same (by omega)⟩,hdl,hdn,fun h=>by cases h⟩
      have HB:=zh (hset4 (.slice (some ⟨g,o,none⟩) 0 0));clear hset4 hx1 hx2 hx3 s14 s24 hs4 hb4 hn4;iterate 9 (refine gtr (v:= ?_) rfl (by rfl) ?_ ?_;rotate_left;(intro w' hw';go_simp;with_reducible rfl);simp only[Act.put,zs0,zs1,zs2])
      refine gtc rfl (by rfl) (fun K hK=> ?_);go_simp;refine hK _ _ (Y2 _ _ _ _) ?_;clear hK K k0;iterate 1 (refine gtr (v:= ?_) rfl (by rfl) ?_ ?_;rotate_left;(intro w' hw';go_simp;with_reducible rfl);simp only[Act.put,zs0,zs1,zs2])
      refine Yj ?_;go_wp2_with fail;refine bodyPost_ret (v:=.tuple #[.agg #[.slice (some ⟨g,o,none⟩) 0 0,.bool false],.slice (some ⟨g,o,none⟩) N N]) (by rw[results_cell_tmp rfl];go_simp) rfl ⟨_,_,rfl,by rw[HE.out];exact hrf.out,by rw[HE.out];exact hx4.out,HB.out⟩
   ·have HE:=zh (hmiss (fun h=>hN h.2));obtain⟨a1,c1',rfl,_⟩:=hsl.arg;have HB:=zh (Hset.out (.slice none 0 0) true);clear hsl hsl2 hhit hmiss Hset;generalize l1.length=n1 at*;have d1:decide ((n1:Int)<(N:Int))=true:=by simp;omega
    go_wp2;refine bodyPost_ret (v:=.tuple #[.agg #[.slice none 0 0,.bool true],.slice none 0 0]) (by rw[results_cell_tmp rfl];go_simp) rfl ⟨_,_,rfl,by rw[HE.out];exact x32 _ _,by rw[HE.out];exact Sl.none _,HB.out⟩
end Go.Proofs.YtdgladhfibfdlaaGreatDoor
namespace Go.Proofs.YtdgladhfibfdlaaGreatDoor
open Go Go.RowKit Go.Shelf Tryz
attribute [local go_sem] Oper.semAt_some
abbrev CST:TypeId:=9
abbrev CSS:TypeId:=92
set_option maxRecDepth 100000 in
set_option maxHeartbeats 2000000 in
/-- The iterator's closure:for every loop Q6 that keeps the value's box.-/
theorem z7f (F:Fence)(n:Nat)(h21:F.fn 194)(hro:F.round=none)(hn:1≤n)(l Bv:Nat)(V:ByteArray)(hV:V.size≤1000000)(J Jx:List ByteArray→World→Prop)
  (hY:∀pre x W,J pre W→pre.length<nP V.size→YieldAt F (n-1) prog l #[.string x] W fun e W'=>
   (e=.returned (.bool true)∧J (pre++[x]) W'∧(Boxed W Bv CST (.string V)→Boxed W' Bv CST (.string V)))∨(e=.returned (.bool false)∧Jx (pre++[x]) W'))
  (W:World) (hb:Boxed W Bv CST (.string V)) (h0:J [] W):
  CallsIn F n prog 194 #[.func (.yield l) #[] #[],.pointer (some ⟨Bv,0,none⟩)] W fun e W'=>(∃v,e=.returned v)∧
   ((∃ys,ys=chs V∧J ys W')∨(∃pre,pre<+:chs V∧Jx pre W')):=by
 have HY:=zh hY;have Hb:=zh hb;have H0:=zh h0;clear hY hb h0;refine callsIn_of_wp func194 rfl h21 ?_ hro;simp only[ntmps194,List.size_toArray,List.length_cons,List.length_nil,Nat.reduceAdd,Nat.reduceSub,Array.replicate_succ,Array.replicate_zero,List.push_toArray,List.append_toArray,List.nil_append,List.cons_append]
 gi_wp2
 gi_loopw [3] (fun i wr=>∃k A:Nat,i=.int .i64 A∧Hid (A=502*k∧k≤nP V.size)∧Hid (J (pcT V k) wr)∧Hid (Boxed wr Bv CST (.string V)))
  (fun i _=>V.size-(intOf i).toNat)
 case atStart=>exact⟨0,0,rfl,⟨rfl,Nat.zero_le _⟩,H0.out,Hb.out⟩
 case round=>
  obtain⟨k,A,rfl,hk,hJ,hB⟩:=hrel;have c0:=hB.out.cell
  by_cases hlt:A<V.size
  ·obtain⟨E,hE⟩:∃E,E=min (A+502) V.size:=⟨_,rfl⟩
   have hkn:Hid (k<nP V.size):=zR.2 (by have:=hk.out.1;omega);have hcut:Hid (V.extract A E=Iq V k):=by show _=_;unfold Iq;rw[hE,hk.out.1]
   have e1:min ((A:Int)+502) (V.size:Int)=(E:Int):=by omega
   have z1:A≤E:=by omega
   have z2:E≤V.size:=by omega
   have hm:Hid (V.size-(A+502)<V.size-A):=by show _<_;omega
   have HE:=zh hE;clear hE;obtain⟨fn,tmps,assign,Q6,hy,hR⟩:=HY.out (pcT V k) (V.extract A E) wr hJ.out (by rw[y0m];exact hkn.out)
   gi_wp2
   refine hR.mono ?_;rintro e W3 (⟨rfl,hJ3,hk3⟩|⟨rfl,hJx3⟩)
   ·have HJ3:=zh hJ3;have HB3:=zh (hk3 hB.out);clear hJ3 hk3
    gi_wp2
    go_roundw
    case rel=>exact⟨k+1,A+502,by go_num,⟨by rw[hk.out.1];omega,hkn.out⟩,by rw[z4z,←hcut.out];exact HJ3.out,HB3.out⟩
    case measure=>simp[intOf];omega
   ·have HJx:=zh hJx3;clear hJx3
    gi_wp2
    refine bodyPost_ret (results_none rfl _ _ _) rfl ?_;refine⟨⟨_,rfl⟩,.inr ⟨_,?_,HJx.out⟩⟩;rw[hcut.out,←z4z];refine⟨((List.range (nP V.size)).drop (k+1)).map (Iq V),?_⟩;unfold chs pcT;have e2:List.range (k+1)=(List.range (nP V.size)).take (k+1):=by rw[List.take_range,Nat.min_eq_left hkn.out]
    rw[e2,←List.map_append,List.take_append_drop]
  ·have hkk:Hid (k=nP V.size):=by
    have h1:=hk.out;have h2:= @zR V.size k;show _=_;omega
   gi_wp2
   go_end0
   exact⟨⟨_,rfl⟩,.inl ⟨_,rfl,by have:=hJ.out;rw[hkk.out] at this;exact this⟩⟩
set_option maxHeartbeats 1000000 in
/-- parted:the value is boxed;the function value captures the box.-/
theorem y1u (F:Fence)(n:Nat)(h15:F.fn 164)(hro:F.round=none)(V:ByteArray)(w:World):
  CallsIn F n prog 164 #[.string V] w fun e w'=>e=.returned (.func (.func 194) #[] #[.pointer (some ⟨w.heap.size,0,none⟩)])∧w'=w.alloc (.cells #[.string V] CST):=by
 refine callsIn_of_wp func164 rfl h15 ?_ hro;simp only[ntmps164,List.size_toArray,List.length_cons,List.length_nil,Nat.reduceAdd,Nat.reduceSub,Array.replicate_succ,Array.replicate_zero,List.push_toArray,List.append_toArray,List.nil_append,List.cons_append]
 gi_wp2
 go_ret;exact⟨rfl,rfl⟩
theorem z0s (F:Fence)(n:Nat)(h21:F.fn 194)(hro:F.round=none)(hn:1≤n)(Bv:Nat)(V:ByteArray)(hV:V.size≤1000000)(w:World)(hb:Boxed w Bv CST (.string V)):
  SeqStopsK F n prog 194 #[.pointer (some ⟨Bv,0,none⟩)] (fun x:ByteArray=> #[Value.string x]) (fun A B=>Boxed A Bv CST (.string V)→Boxed B Bv CST (.string V)) (fun ys=>ys=chs V) (fun pre=>pre<+:chs V) (nP V.size) w:=fun l J Jx W hW _ _ hY h0=>
 z7f F n h21 hro hn l Bv V hV J Jx hY W ((hW.block Bv hb.lt).trans hb) h0
theorem z24 {w:World}{B B' E sz n:Nat}{v:Value}{xs:List Value}(h:w.ownsRow B E sz v n xs)(hb:B'≤B):w.ownsRow B' E sz v n xs:=by
 obtain⟨h1,h2⟩:=h;refine⟨h1,?_⟩
 rcases h2 with h3|⟨g,cap,cur,e1,e2,h3⟩
 ·exact .inl h3
 ·exact .inr ⟨g,cap,cur,e1,znt hb e2,h3⟩
set_option maxRecDepth 100000 in
set_option maxHeartbeats 2000000 in
theorem y1v (F:Fence)(n:Nat)(h7:F.fn 128)(h15:F.fn 164)(h21:F.fn 194)(hro:F.round=none)(hn:3≤n)(V:ByteArray)(hV:V.size≤1000000)(w:World):
  CallsIn F n prog 128 #[.string V] w fun e W'=>∃v,e=.returned v∧W'.ownsRow w.heap.size CST 1 v (chs V).length (sv (chs V))∧zB w W':=by
 have h1:1≤n:=by omega
 have hN:Hid (nP V.size≤2000):=by show _≤_;unfold nP;omega
 obtain⟨i0,hi,hz0,hz1,hz2⟩:=info_parts z9c;refine callsIn_of_wp_marks func128 rfl h7 ?_ hro;simp only[ntmps128,List.size_toArray,List.length_cons,List.length_nil,Nat.reduceAdd,Nat.reduceSub,Array.replicate_succ,Array.replicate_zero,List.push_toArray,List.append_toArray,List.nil_append,List.cons_append]
 gi_wp2_with (gi_at_call 164;refine(y1u F (n-1) h15 hro _ _).mono ?_;rintro e w' ⟨rfl,rfl⟩)
 have bO:=Boxed.new w CSS (.slice none 0 0);have bN:=Boxed.new (w.alloc (.cells #[.slice none 0 0] CSS)) CST (.string V);rw[World.size_alloc] at bN;have hB0:zB w ((w.alloc (.cells #[.slice none 0 0] CSS)).alloc (.cells #[.string V] CST)):=((zbr _ w).alloc (zlr _) _).alloc (by simp) _;refine wpIn_rangeFunc_ownG hro h1 (gf:=194) (lb:= #[.pointer (some ⟨w.heap.size+1,0,none⟩)]) rfl h21 (enters_of func194 (by kernel_rfl) rfl)
  (z0s F (n-1) h21 hro (by omega) (w.heap.size+1) V hV _ bN) (fun h k a=>k (h a)) (fun W l o o' _ hl ho _ hbx=>Boxed.kept hbx (grownBy_putObj' W l o') (fun e=>by
   cases e
   rw[show W.heap[w.heap.size+1]? =_ from hbx] at hl
   cases hl;cases ho)) (zbr _ _) (fun _=>rfl)
  (fun pre W=>(∃v,Boxed W w.heap.size CSS v∧W.ownsRow (w.heap.size+2) CST 1 v pre.length (sv pre)∧True)∧zB w W∧w.heap.size+2≤W.heap.size)
  (fun _ _ _=>False)
  (OwnFrom.and (Own.from (holdsRow_own (w.heap.size+2) w.heap.size CSS CST 1 (fun pre=>pre.length) (fun pre=>sv pre) (fun _ _=>True)) _) (OwnFrom.and (ownFrom_below (zlr _) (by simp;omega)) (fun _ _ _ _ hs hg _=>znt hs hg.size)))
  (fun _ _ _ _ _ hs _ _=>hs)
  ⟨⟨_,bO.alloc _,World.ownsRow_nil _ _ _ _,trivial⟩,hB0,by simp⟩
  (fun x=>{tmps:= #[.string V,undef,.slice none 0 0,.pointer (some ⟨w.heap.size,0,none⟩),.string x,.string V,.func (.func 194) #[] #[.pointer (some ⟨w.heap.size+1,0,none⟩)],.string x,undef,undef,undef,undef,undef],defers:=[]}) ?assign ?body ?done ?stop
 case assign=>
  intro l x W K hK
  gi_wp2
  exact hK
 case body=>
  rintro l pre x W ⟨⟨v,hv,hrow,_⟩,hB,hsz⟩ hlt;have hc:=hv.cell;have hlt2:=Nat.lt_of_lt_of_le hlt hN.out
  gi_wp2_with (gi_at_builtin;refine wpListIn_append_own _ rfl _ _ CSS rfl (w.heap.size+2) CST i0 (.string ⟨#[]⟩) 1 16 underlying92 hi hz0 hz1 hz2 rfl (by decide) _ _ _ rfl (hrow.alloc _) ⟨W.heap.size,0,none⟩ 1 1 [.string x] rfl rfl (cell_one_new _ _ _) (by simp[Value.oneCell']) (by unfold maxLen;omega) (by omega) (by simp;omega) ?_;intro v' w1 hown' hgrow _;obtain⟨g',cap',rfl⟩:=ownsRow_succ hown';obtain⟨hv1,hv2,_,hk2,hb2⟩:=hv.appended (by decide) (z24 hrow (by omega)) hB.size (zlr _) (z24 hown' (by omega)) hgrow;have hc1:=hv1.cell;have hf1:=hv1.frozen)
  refine⟨hk2.from _,fun hbx=> ?_,⟨_,hv2,?_,trivial⟩,hB.trans hb2,znt hsz hb2.size⟩
  ·have h3:Boxed w1 (w.heap.size+1) CST (.string V):=(hbx.alloc _).kept hgrow (fun e=>by
    have:=(hrow.lt _ e.symm).1;omega)
   exact h3.other (by omega) _
  ·have:=hown'.kept (grownBy_setCell' w1 w.heap.size (.slice (some ⟨g',0,none⟩) (pre.length+1) cap')) (.inr (hv1.not_row (by decide) hown').symm);rw[zla,show sv (pre++[x])=sv pre++[.string x] from List.map_append];exact this
 case done=>
  rintro D ys W hD rfl ⟨⟨v,hv,hrow,_⟩,hB,_⟩ hK;have hc:=hv.cell
  gi_wp2
  refine⟨by simp,.inl ⟨_,_,rfl,run_takeDeferred hK,?_⟩⟩;exact⟨_,results_tmp rfl _ _ _,v,rfl,z24 (ownsRow_putObj hrow _ hK rfl) (by omega),hB.trans (belowK_b (w:=w) (zlr _) W D _ _ (by simp at hD;omega) hK rfl rfl)⟩
 case stop=>
  rintro D c pre W _ _ h _;exact h.elim
end Go.Proofs.YtdgladhfibfdlaaGreatDoor
namespace Go.Proofs.YtdgladhfibfdlaaGreatDoor
open Go Go.RowKit Tryz
def CIn (w:World)(b:Nat)(T:TypeId)(c:Ce):Prop:=w.heap[b]? =some (.cells #[.string c.k,.string c.v,.int .i64 c.n,.int .i64 c.p] T (0,0))
theorem CIn.c0 {w:World}{b:Nat}{T:TypeId}{c:Ce}(h:CIn w b T c):w.cell? ⟨b,0,none⟩=some (.string c.k):=by
 have h':w.heap[b]? =_:=h;simp[World.cell?,h']
theorem CIn.c1 {w:World}{b:Nat}{T:TypeId}{c:Ce}(h:CIn w b T c):w.cell? ⟨b,1,none⟩=some (.string c.v):=by
 have h':w.heap[b]? =_:=h;simp[World.cell?,h']
theorem CIn.c2 {w:World}{b:Nat}{T:TypeId}{c:Ce}(h:CIn w b T c):w.cell? ⟨b,2,none⟩=some (.int .i64 c.n):=by
 have h':w.heap[b]? =_:=h;simp[World.cell?,h']
theorem CIn.c3 {w:World}{b:Nat}{T:TypeId}{c:Ce}(h:CIn w b T c):w.cell? ⟨b,3,none⟩=some (.int .i64 c.p):=by
 have h':w.heap[b]? =_:=h;simp[World.cell?,h']
theorem CIn.fz {w:World}{b:Nat}{T:TypeId}{c:Ce}(h:CIn w b T c)(j:Nat):w.frozen? ⟨b,j,none⟩=false:=by
 have h':w.heap[b]? =_:=h;simp[World.frozen?,h']
theorem CIn.lt {w:World}{b:Nat}{T:TypeId}{c:Ce}(h:CIn w b T c):b<w.heap.size:=(zag.1 h).1
theorem CIn.new (w:World)(T:TypeId)(c:Ce):CIn (w.alloc (.cells #[.string c.k,.string c.v,.int .i64 c.n,.int .i64 c.p] T)) w.heap.size T c:=by
 show(w.heap.push _)[w.heap.size]? =_;rw[Array.getElem?_push_size]
theorem CIn.ext {w w':World}{b:Nat}{T:TypeId}{c:Ce}(h:CIn w b T c)(hb:zB w w'):CIn w' b T c:=(hb.block b h.lt).trans h
theorem CIn.turn {w w':World}{b:Nat}{T:TypeId}{c:Ce}{F:Nat→Prop}(h:CIn w b T c)(t:Zx F w w')(hF:¬F b):CIn w' b T c:=t.hg h hF
theorem CIn.noByte {w:World}{b:Nat}{T:TypeId}{c:Ce}(h:CIn w b T c):JD w b:=fun j y hj=>by
 have h':w.heap[b]? =_:=h;simp only[World.cell?,h'] at hj
 rcases j with _|_|_|_|j<;>simp at hj
theorem CIn.set1 {w:World}{b:Nat}{T:TypeId}{c:Ce}(h:CIn w b T c)(x:ByteArray):CIn (w.setCell ⟨b,1,none⟩ (.string x)) b T ⟨c.k,x,c.n,c.p⟩:=heap_setCell_same w b 1 _ _ _ h
theorem CIn.set3 {w:World}{b:Nat}{T:TypeId}{c:Ce}(h:CIn w b T c)(x:Int):CIn (w.setCell ⟨b,3,none⟩ (.int .i64 x)) b T ⟨c.k,c.v,c.n,x⟩:=heap_setCell_same w b 3 _ _ _ h
def St (l:List Nat)(i:Nat)(cs:List Ce)(S:RS):Prop:=(S.wr=false∧(X6 ⟨l,false⟩ 504).2.wr=false∧Mv i (X6 ⟨l,false⟩ 504).2.l=some (cs,S.l))∨(S.wr=true∧S.l=[]∧L9 l=none)
theorem y5h (l:List Nat)(h:(X6 ⟨l,false⟩ 504).2.wr=true→(X6 ⟨l,false⟩ 504).2.l=[]):St l 0 [] (X6 ⟨l,false⟩ 504).2:=by
 cases hw:(X6 ⟨l,false⟩ 504).2.wr with
 | false=>exact .inl ⟨hw,hw,by rw[Mv]⟩
 | true=>exact .inr ⟨hw,h hw,y8z hw⟩
theorem x3m {l:List Nat}{i:Nat}{cs:List Ce}{S:RS}(h:St l i cs S)(hi:i<(X6 ⟨l,false⟩ 504).1)(hm:Nk (tkS S).1=false):L9 l=none:=by
 rcases h with ⟨hw,_,hd⟩|⟨_,_,h2⟩
 ·rw[y1t rfl hw] at hm
  cases hc:O5 S.l with
  | none=>exact YM (YL hd hc) (by omega)
  | some x=>
   obtain⟨c,r⟩:=x;rw[y80 hc] at hm;exact YM (z4j hd hc hm) (by omega)
 ·exact h2
theorem x15 {l:List Nat}{cs:List Ce}{S:RS}(h:St l (X6 ⟨l,false⟩ 504).1 cs S)(hl:l.length≤504):
  (okS S=false→L9 l=none)∧(okS S=true→¬asc cs→L9 l=none)∧(okS S=true→asc cs→L9 l=some cs):=by
 rcases h with ⟨hw,h0,hd⟩|⟨hw,_,h2⟩
 ·have:=z4k hl h0 hd;refine⟨fun ho=>this.2.1 (fun hx=> ?_),fun _ ha=>this.2.2 ha,fun ho ha=>this.1 ?_ ha⟩
  ·unfold okS at ho;rw[hw,hx] at ho;cases ho
  ·unfold okS at ho;rw[hw] at ho;simpa using ho
 ·have:okS S=false:=by unfold okS;rw[hw];rfl
  exact⟨fun _=>h2,(fun ho=>by rw[this] at ho;cases ho),(fun ho=>by rw[this] at ho;cases ho)⟩
noncomputable def y5i (l:List Nat):List Ce:=match L9 l with
 | none=> []
 | some cs=>cs
noncomputable def y90 (l:List Nat):Nat:=match L9 l with
 | none=>3
 | some _=>0
theorem N9 {l:List Nat}(h:L9 l=none):y5i l=[]∧y90 l=3:=by unfold y5i y90;rw[h];exact⟨rfl,rfl⟩
theorem yM {l:List Nat}{cs:List Ce}(h:L9 l=some cs):y5i l=cs∧y90 l=0:=by unfold y5i y90;rw[h];exact⟨rfl,rfl⟩
theorem y1w (c:Ce)(l:List Nat):l++qX c=((l++vb c.k.size++bn c.k)++vb c.n.toNat)++Gz c:=by
 unfold qX;simp only[List.append_assoc]
set_option maxRecDepth 100000 in
set_option maxHeartbeats 1000000 in
theorem z25 (a:Option Addr)(m cap:Nat)(l:List Nat)(k v:ByteArray)(n p:Int)(w:World)(hm:l.length=m)(hs:Src w a l)(hl:m≤32768)(h:Nk ⟨k,v,n,p⟩=true):
  Calls prog 137 #[.slice a m cap,.agg #[.string k,.string v,.int .i64 n,.int .i64 p]] w fun e w'=>∃r,e=.returned r∧Sl w' r (l++qX ⟨k,v,n,p⟩)∧zB w w':=by
 have hk:=z9i h;obtain⟨N,rfl⟩:=Int.eq_ofNat_of_zero_le (z4f h);have hn:=z9h h;have hin:=z9j h;have hout:=z9k h;dsimp only at hk hn hin hout;have hN:N≤2048:=by omega
 have hk40:k.size≤40:=hk.2;have hparts:=y1w ⟨k,v,(N:Int),p⟩ l;dsimp only at hparts;rw[show((N:Int)).toNat=N from rfl] at hparts;have v1:=I9 (show k.size<18446744073709551616 by omega);have v2:=I9 (show N<18446744073709551616 by omega);obtain⟨w0,hw0⟩:∃w0,w0=w.alloc (.cells #[.string k,.string v,.int .i64 (N:Int),.int .i64 p] CT):=⟨_,rfl⟩
 have hb0:zB w w0:=by rw[hw0];exact(zbr _ _).alloc (zlr _) _
 have c0:w0.cell? ⟨w.heap.size,0,none⟩=some (.string k):=by rw[hw0];simp
 have c1:w0.cell? ⟨w.heap.size,1,none⟩=some (.string v):=by rw[hw0];simp
 have c2:w0.cell? ⟨w.heap.size,2,none⟩=some (.int .i64 (N:Int)):=by rw[hw0];simp
 have c3:w0.cell? ⟨w.heap.size,3,none⟩=some (.int .i64 p):=by rw[hw0];simp
 have hlt:w.heap.size<w0.heap.size:=by rw[hw0];simp
 obtain⟨g,c,w1,hcv,hsrc,hc1,hc2,hb1⟩:=KX w0 k (by omega);have hcs:∀w':World,zB w0 w'→w'.cell? ⟨w.heap.size,1,none⟩=some (.string v)∧w'.cell? ⟨w.heap.size,2,none⟩=some (.int .i64 (N:Int))∧w'.cell? ⟨w.heap.size,3,none⟩=some (.int .i64 p):=fun w' hb=>
  ⟨by rw[hb.cell (p:=⟨w.heap.size,1,none⟩) hlt];exact c1,by rw[hb.cell (p:=⟨w.heap.size,2,none⟩) hlt];exact c2,by rw[hb.cell (p:=⟨w.heap.size,3,none⟩) hlt];exact c3⟩
 have Hsrc:=zh hsrc;have Hb1:=zh hb1;have Hb0:=zh hb0;have Hcs:=zh hcs;have Hm:=zh hm;have hl1:Hid ((l++vb k.size++bn k).length=m+vs k.size+k.size):=by show _=_;rw[zla,S8,zla,hm];rfl
 have hl2:Hid ((l++vb k.size++bn k++vb N).length=m+vs k.size+k.size+vs N):=by show _=_;rw[zla,hl1.out];rfl
 have hp:=zh (Fz a (some ⟨g,0,none⟩) m cap k.size c l (bn k) hm (S8 k) w1 ((hs.below hb0 (zlr _)).below hb1 (zlr _)) Hsrc.out (fun h=>by cases h) (by omega) (by omega));have Hparts:=zh hparts;have hi:=fun w=>yG (N:Int) w
 have htail:Hid (Gz ⟨k,v,(N:Int),p⟩=if (N:Int)≤64 then bn v else [p.toNat/256%256,p.toNat%256]):=rfl;clear hparts hs hm hcs hb0 hb1 hsrc hc2 hk h hn;generalize qX ⟨k,v,(N:Int),p⟩=ONE at*;generalize Gz ⟨k,v,(N:Int),p⟩=TL at*;generalize vs k.size=A at*;generalize l++vb k.size++bn k=L at*;generalize hLN:L++vb N=LN at*;have HLN:=zh hLN;clear hLN;generalize vs N=B at*;clear c0 c1 c2 c3 hlt;subst hw0
 go_enter func137,ntmps137
 go_wp2_with fail;refine hp.out.mono ?_;rintro e w2 ⟨r,rfl,hv,hb2⟩;obtain⟨a2,cp2,rfl,hs2,hz2,_⟩:=hv.arg;have hb02:=Hb1.out.trans (hb2.mono Hb1.out.size);obtain⟨d1,d2,d3⟩:=Hcs.out w2 hb02;have Hb02:=zh hb02;have Hs2:=zh hs2;clear hv hs2 hz2 hb2 hp Hb1 Hsrc hcv hb02;rw[hl1.out];go_wp2_with fail;refine(Iy a2 _ cp2 L hl1.out N w2 Hs2.out (by omega) (by omega)).mono ?_;rintro e w3 ⟨r,rfl,hv,hb3⟩;rw[HLN.out] at hv;obtain⟨a3,cp3,rfl,hs3,hz3,_⟩:=hv.arg;have hb03:=Hb02.out.trans (hb3.mono Hb02.out.size);obtain⟨d1',d2',d3'⟩:=Hcs.out w3 hb03;have Hb03:=zh hb03;have Hs3:=zh hs3;have Hz3:=zh hz3;clear hv hs3 hz3 hb3 Hb02 Hs2 hb03 d1 d2 d3;rw[hl2.out]
 by_cases h64:(N:Int)≤64
 ·have e1:decide ((N:Int)≤64)=true:=by simpa using h64
  rw[e1] at hi;have hT:Hid (TL=bn v):=by show _=_;rw[htail.out,if_pos h64]
  have hvs:=(hin h64).1;have hvn:v.size≤64:=by omega
  clear htail h64 hin hout e1;obtain⟨g4,c4,w4,hcv4,hsrc4,_,hc4,hb4⟩:=KX w3 v (by omega);have Hs4:=zh (zai (Hs3.out.below hb4 (zlr _)) hsrc4);have Hb4:=zh (Hb03.out.trans (hb4.mono Hb03.out.size));clear hsrc4 hb4 hc4 Hs3;go_wp2_with fail;refine(hi _).mono ?_;rintro e w' ⟨rfl,rfl⟩;go_wp2_with fail;refine(JF w4 _ _ _ a3 (some ⟨g4,0,none⟩) _ cp3 v.size c4 LN (bn v) (by rfl) rfl hl2.out (S8 v) Hs4.out.1 Hs4.out.2 Hz3.out (fun h=>by cases h) (by omega)).mono ?_;rintro e w5 ⟨r,rfl,hv,hb5⟩;have hbn:=Hb0.out.trans ((Hb4.out.trans (hb5.mono Hb4.out.size)).mono Hb0.out.size);rw[←hT.out,←Hparts.out] at hv;go_wp2;go_ret;exact⟨_,rfl,hv,hbn⟩
 ·have e1:decide ((N:Int)≤64)=false:=by simpa using h64
  rw[e1] at hi;have hT:Hid (TL=[p.toNat/256%256,p.toNat%256]):=by show _=_;rw[htail.out,if_neg h64]
  obtain⟨h1,h2,h3⟩:=hout (by omega);obtain⟨P,rfl⟩:=Int.eq_ofNat_of_zero_le (show 0≤p by omega);have hP:P≤1023:=by omega
  rw[show((P:Int)).toNat=P from rfl] at hT;clear htail h64 hin hout e1 h1 h2 h3;have hput:=zh (YH a3 cp3 LN P 2 w3 (by rw[hl2.out];omega) (by omega) (by omega) (by omega) Hs3.out);rw[hl2.out] at hput;go_wp2_with fail;refine(hi _).mono ?_;rintro e w' ⟨rfl,rfl⟩;go_wp2_with fail;refine hput.out.mono ?_;rintro e w5 ⟨rfl,hr,hb5⟩;have hbn:=Hb0.out.trans ((Hb03.out.trans (hb5.mono Hb03.out.size)).mono Hb0.out.size);have e5:(LN++beL P 2).length=m+A+k.size+B+2:=by rw[zla,hl2.out];rfl
  have hsl:=Sl.row hr (by rw[e5];unfold maxLen;omega);rw[e5,y9z,←hT.out,←Hparts.out] at hsl;go_wp2;go_ret;exact⟨_,rfl,hsl,hbn⟩
end Go.Proofs.YtdgladhfibfdlaaGreatDoor
