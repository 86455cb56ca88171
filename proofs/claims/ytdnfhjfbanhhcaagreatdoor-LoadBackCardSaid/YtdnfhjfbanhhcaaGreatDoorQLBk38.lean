/-
  Steps.
-/
import Derived.Test.YtdnfhjfbanhhcaaGreatDoorQLBk37
namespace Go.Proofs.YtdnfhjfbanhhcaaGreatDoor
open Go Go.RowKit
set_option maxRecDepth 100000 in
theorem y28 (gl B B' h:Nat)(lo hi:SB)(vk u:Value)(ks:List ByteArray)(vs:List NoV)(ts:List Tr)(ps:List Nat)(ws:List PgW)(w:World)(hI:LyI w gl B ps ws)(hk:EV strE w vk ks)(hu:w.ownsRow B' VT nodE.sz u vs.length (nodE.row vs))(hB':B≤B')
  (hvl:vs.length=ks.length+1) (htl:ts.length=ks.length+1) (hold:∀i,i<vs.length→OldT w B h (lob lo ks i) (hib hi ks i) (va vs i) (ta ts i))
  (hmay:mayF ks ((layL ts ps).map pgI)) (hsz:brSz ks≤504) (hok:∀k∈ks,okK k=true) (hgs:∀t∈ts,126≤t.sz∧t.sz≤504) (hnd:z0f ts+1≤ps.length) (hwl:ws.length+z0f ts≤50000)
  (ih:∀i W,i<vs.length→LyI W gl B (ps.drop (z0f (ts.take i))) (ws++wrL (ts.take i) ps)→OldT W B h (lob lo ks i) (hib hi ks i) (va vs i) (ta ts i)→
   Calls Tryz.prog 32 #[pt gl,(va vs i).v] W fun e W'=>∃x:NoV,e=.returned x.v∧NdS W' (fun b=>B≤b∧b<W.heap.size) h (lob lo ks i) (hib hi ks i) x (layT (ta ts i) (ps.drop (z0f (ts.take i))))∧
    LyI W' gl B ((ps.drop (z0f (ts.take i))).drop (ta ts i).need) ((ws++wrL (ts.take i) ps)++wrT (ta ts i) (ps.drop (z0f (ts.take i))))∧Turn (LF W gl B) W W'):
  Calls Tryz.prog 56 #[pt gl,vk,u] w fun e w'=>∃x:NoV,e=.returned x.v∧NdS w' (fun b=>B≤b∧b<w.heap.size) (h+1) lo hi x (.bran (na ps (z0f ts)) ks (layL ts ps))∧
   LyI w' gl B (ps.drop (z0f ts+1)) (ws++(wrL ts ps++[(na ps (z0f ts),z1l 2 (z2n ks ((layL ts ps).map pgI)))]))∧Turn (LFu w gl B u) w w':=by
 obtain⟨n,hn⟩:∃n,vs.length=n:=⟨_,rfl⟩
 have hn1:n≤600:=by
  have:=z0u hok;unfold brSz at hsz;omega
 obtain⟨gk,c,rfl,hgkw⟩:∃gk c,u=.slice (some ⟨gk,0,none⟩) n c∧gk<w.heap.size:=by
  rcases hu.2 with ⟨_,h2⟩|⟨gk,cap,cur,h2,_,h4,_⟩
  ·omega
  ·exact⟨gk,cap,by rw[h2,hn],(zag.1 h4).1⟩
 obtain⟨ak,ck,hvk,hkr⟩:=hk;obtain⟨nk,hnk⟩:∃nk,ks.length=nk:=⟨_,rfl⟩
 rw[hnk] at hvk;subst hvk;have hk:EV strE w (.slice ak nk ck) ks:=⟨ak,ck,by rw[hnk],hkr⟩
 have hBw:=hI.bz;obtain⟨W0,hW0⟩:∃W,(w.alloc (.cells #[.int .i64 0,nilS,nilS,nilS] VT)).alloc (.cells #[.slice ak nk ck,nilS] FT)=W:=⟨_,rfl⟩
 have hb0:Below w.heap.size w W0:=by rw[←hW0];exact((zbr _ _).alloc (zlr _) _).alloc (by simp) _
 have hs0:W0.heap.size=w.heap.size+2:=by rw[←hW0];simp
 have hfk:PB W0 (w.heap.size+1) FT (.slice ak nk ck) nilS:=by
  rw[←hW0];have:=PB.new (w.alloc (.cells #[.int .i64 0,nilS,nilS,nilS] VT)) FT (.slice ak nk ck) nilS
  rwa [World.size_alloc] at this
 have hrs:W0.heap[w.heap.size]? =some (.cells #[.int .i64 0,nilS,nilS,nilS] VT (0,0)):=by
  rw[←hW0];exact(Below.heap_alloc _ _ _ (by simp)).trans (z0h w VT #[.int .i64 0,nilS,nilS,nilS])
 have hbv:BvI w W0 gl B B' (w.heap.size+2) (w.heap.size+1) (.slice (some ⟨gk,0,none⟩) n c) (.slice ak nk ck) nilS h lo hi ks vs [] ts ps ws 0 0:=
  ⟨by simp only[List.take_zero,z0f,List.drop_zero,wrL,List.append_nil];exact hI.ext hb0,by rw[List.nil_append,List.drop_zero];exact z0p hu hb0 (zlr _),rfl,fun i hi=>by omega,fun i _ h5=>(hold i h5).ext hb0,hfk,World.ownsRow_nil _ _ _ _,hk.ext hb0,q5w hb0,hrs⟩
 have HW0:=zh hW0;have HB0:=zh hb0;have HBv:=zh hbv;have Hih:=zh ih;have HC:=zh (zai hB' (zai hvl (zai htl (zai hmay (zai hsz (zai hok (zai hgs (zai hnd hwl))))))));have Hn:=zh hn;have Hnk:=zh hnk;have Hs0:=zh hs0;have Hgk:=zh (zai hgkw hBw);clear hI hk hkr hu hB' hvl htl hold hmay hsz hok hgs hnd hwl ih hW0 hb0 hs0 hfk hrs hbv hn hnk hgkw hBw;generalize hs:w.heap.size+2=s0 at*;have Hs:=zh hs;clear hs
 go_enter Tryz.func56,Tryz.ntmps56
 go_wp2_with fail;rw[HW0.out]
 go_loopw [16] (fun i wr=>∃(k:Nat) (fv:Value) (xs:List NoV),i=.int .i64 k∧k≤n∧Hid (BvI w wr gl B B' s0 (w.heap.size+1) (.slice (some ⟨gk,0,none⟩) n c) (.slice ak nk ck) fv h lo hi ks vs xs ts ps ws k k)) (fun i _=>n-(intOf i).toNat)
 case atStart=>exact⟨0,nilS,[],rfl,by omega,HBv⟩
 case round=>
  obtain⟨k,fv,xs,rfl,hk,hbv⟩:=hrel
  by_cases hlt:k<n
  ·have hkid:=hbv.out.kid (by rw[Hn.out];exact hlt);have hkd:=hbv.out.kd;rw[Hn.out] at hkd hkid;obtain⟨⟨r0,r1,r2,r3⟩,_⟩:=y7r (c:=c) (g:=gk) (xs:=xs++vs.drop k) k (by rw[hkid.2];exact hlt) (by rw[hkid.2];exact hkd);rw[hkid.1] at r0 r1 r2 r3;have hba:Below wr.heap.size wr (wr.alloc (.cells #[.int .i64 ((va vs k).pg:Nat),(va vs k).c,(va vs k).k,(va vs k).p] VT)):=(zbr _ _).alloc (zlr _) _;have hbv1:=hbv.out.ext hba;have Hcall:=zh (Hih.out k _ (by rw[Hn.out];exact hlt) hbv1.ly (hbv1.old k (zlr _) (by rw[Hn.out];exact hlt)));have Hbv1:=zh hbv1;have hwz:=hbv.out.lt.size;have Hwz:Hid (s0≤wr.heap.size):=by
    have h1:=hbv.out.lt.size;have h2:=(zag.1 hbv.out.fk).1;have h3:=Hs.out;show _≤_;omega
   obtain⟨y,hy⟩:∃y,va vs k=y:=⟨_,rfl⟩
   have Hy:=zh hy;rw[hy] at r0 r1 r2 r3 Hcall Hbv1;clear hkid hkd hba hbv1 hbv hy hwz;obtain⟨yg,ya,yn,yc,za,zn,zc,qa,qn,qc⟩:=y;dsimp only[NoV.c,NoV.k,NoV.p,NoV.v] at*;go_wp2_with fail;clear r0 r1 r2 r3;refine Hcall.out.mono ?_;rintro e W2 ⟨x,rfl,hx,h2,ht⟩;obtain⟨⟨⟨m0,m1,m2,m3⟩,mf⟩,⟨e0,e1,e2,e3⟩,hbv3⟩:=BvI.laid Hbv1.out (zlr k) HC.out.1 Hn.out hlt (by rw[HC.out.2.2.1,←HC.out.2.1,Hn.out]) Hgk.out.1 (by have:=Hs.out;omega) (by simp;have:=Hwz.out;omega) h2 ht hx;rw[Hy.out] at m0 m1 m2 m3;dsimp only[NoV.c,NoV.k,NoV.p,NoV.v] at m0 m1 m2 m3;have mf0:=mf (k*4);have mf1:=mf (k*4+1);have mf2:=mf (k*4+2);have mf3:=mf (k*4+3);obtain⟨W3,hW3⟩:∃W,putK W2 gk (k*4) (.int .i64 (x.pg:Nat)) x.c x.k x.p=W:=⟨_,rfl⟩
   have HW3:=zh hW3;rw[hW3] at e0 e1 e2 e3 hbv3;have Hbv3:=zh hbv3;have HE:=zh (zai e0 (zai e1 (zai e2 e3)));unfold putK at HW3;clear h2 ht hx mf hbv3 e0 e1 e2 e3 hW3 Hbv1 Hcall;obtain⟨xg,xa',xn,xc,sa',sn,sc',pa,pn,pc⟩:=x;dsimp only[NoV.c,NoV.k,NoV.p,NoV.v] at*;go_wp2_with fail;rw[HW3.out];clear m0 m1 m2 m3 mf0 mf1 mf2 mf3;have hd:Below W3.heap.size W3 W3.drew:=(zbr _ _).drew;have Hb4:=zh (Hbv3.out.ext hd);obtain⟨W4,hW4⟩:∃W,W3.drew=W:=⟨_,rfl⟩
   rw[hW4] at Hb4;have HW4:=zh hW4;have f4:W4.cell? ⟨w.heap.size+1,1,none⟩=some fv:=Hb4.out.fk.c1;have hxl:xs.length=k:=by
    have:=Hbv3.out.xl;rw[zla,List.length_singleton] at this;omega
   have Hx1:Hid (((xs++[(⟨xg,xa',xn,xc,sa',sn,sc',pa,pn,pc⟩:NoV)]).take k).map NoV.pg++[xg]=((xs++[(⟨xg,xa',xn,xc,sa',sn,sc',pa,pn,pc⟩:NoV)]).take (k+1)).map NoV.pg):=by
    show _=_;rw[List.take_of_length_le (show(xs++[(⟨xg,xa',xn,xc,sa',sn,sc',pa,pn,pc⟩:NoV)]).length≤k+1 by rw[zla,hxl];exact zlr _),List.take_append_of_le_length (by omega),List.take_of_length_le (by omega),List.map_append]
    rfl
   have q:∀w',Turn (fun i=>i=w.heap.size+1∨fv.ownBlock=some i) W4 w'→∀o v,W3.cell? ⟨gk,o,none⟩=some v→w'.cell? ⟨gk,o,none⟩=some v:=fun w' t o v hv=>by
    have h1:W4.cell? ⟨gk,o,none⟩=some v:=by rw[←hW4];exact hv
    rw[t.cell (p:=⟨gk,o,none⟩) (block_lt_of_cell h1) (fun hf=>by
     have h3:=Hgk.out.1
     rcases hf with hf|hf
     ·have:gk=w.heap.size+1:=hf;omega
     ·have:=(Hb4.out.fo.lt gk hf).1;omega)]
    exact h1
   have q0:=fun w' t=>q w' t _ _ HE.out.1
   have q1:=fun w' t=>q w' t _ _ HE.out.2.1
   have q2:=fun w' t=>q w' t _ _ HE.out.2.2.1
   have q3:=fun w' t=>q w' t _ _ HE.out.2.2.2
   clear q hxl hd hW4 Hbv3 HE HW3;refine z0l (F:=fun i=>i=w.heap.size+1∨fv.ownBlock=some i) (.rd 0 (.rd 2 (.rd 3 (.rd 4 (.rd 5 (.two 1 (.call 6 (.call 7 (.call 8 (.rd 9 (.call 10 .done))))) 6 (.two 1 (.call 7 (.call 8 (.rd 9 (.call 10 .done)))) 7 (.call 1 (.call 8 (.rd 9 (.call 10 .done))))))))))) (by kernel_rfl) (by kernel_rfl) (by kernel_rfl) (by kernel_rfl) (fun _ _ _ _ _ h=>h) ?_;rw[HW4.out]
   (refine gsr (v:= ?_) rfl (by rfl) ?_ ?_;rotate_left;(intro w' hw';go_simp;with_reducible rfl);simp only[Act.put,zs0,zs1,zs2])
   (refine gsr (v:= ?_) rfl (by rfl) ?_ ?_;rotate_left;(intro w' hw';go_simp;with_reducible rfl);simp only[Act.put,zs0,zs1,zs2])
   (refine gsr (v:= ?_) rfl (by rfl) ?_ ?_;rotate_left;(intro w' hw';go_simp;with_reducible rfl);simp only[Act.put,zs0,zs1,zs2])
   (refine gsr (v:= ?_) rfl (by rfl) ?_ ?_;rotate_left;(intro w' hw';go_simp;with_reducible rfl);simp only[Act.put,zs0,zs1,zs2])
   (refine gsr (v:= ?_) rfl (by rfl) ?_ ?_;rotate_left;(intro w' hw';go_simp;with_reducible rfl);simp only[Act.put,zs0,zs1,zs2])
   clear q0 q1 q2 q3;refine⟨?_,?_⟩
   ·skip
    refine gsc rfl (by rfl) (fun K hK=> ?_);go_simp;refine hK _ _ (Turn.refl _ _) ?_;clear hK K;refine gsc rfl (by rfl) (fun K hK=> ?_);go_simp;refine(z3z ⟨xg,xa',xn,xc,sa',sn,sc',pa,pn,pc⟩ W4).mono ?_;rintro e W5 ⟨rfl,hb5⟩;refine hK _ _ (q5w hb5) ?_;clear hK K;have Hb5:=zh (Hb4.out.ext hb5);have f5:W5.cell? ⟨w.heap.size+1,1,none⟩=some fv:=Hb5.out.fk.c1;clear hb5 f4;refine gsc rfl (by rfl) (fun K hK=> ?_);go_simp;refine hK _ _ ((Turn.refl _ _).alloc _) ?_;clear hK K;have hb6:Below W5.heap.size W5 (W5.alloc (.cells #[.int .i64 (xg:Nat)] 3)):=(zbr _ _).alloc (zlr _) _;have Hb6:=zh (Hb5.out.ext hb6);have f6:(W5.alloc (.cells #[.int .i64 (xg:Nat)] 3)).cell? ⟨w.heap.size+1,1,none⟩=some fv:=Hb6.out.fk.c1;clear hb6 f5;have hlit:ES pgE (W5.alloc (.cells #[.int .i64 (xg:Nat)] 3)) (some ⟨W5.heap.size,0,none⟩) [xg]:=ES.lit (z0h W5 3 #[.int .i64 (xg:Nat)]) (by simp[pgE]);have hsz6:w.heap.size≤(W5.alloc (.cells #[.int .i64 (xg:Nat)] 3)).heap.size:=Hb6.out.lt.size;have h7W:w.heap.size+1<(W5.alloc (.cells #[.int .i64 (xg:Nat)] 3)).heap.size:=(zag.1 Hb6.out.fk).1;obtain⟨v1,W7,hrun,ht7,ho7,hn7⟩:=z3g (P:=Tryz.prog) (w:=W5.alloc (.cells #[.int .i64 (xg:Nat)] 3)) (E:=pgE) w.heap.size 76 76 3 Tryz.underlying76 y0y fv k _ Hb6.out.fo hsz6 (some ⟨W5.heap.size,0,none⟩) 1 1 [xg] rfl (by omega) hlit (by unfold maxLen;omega) (by show _*8≤_;omega);rw[Hx1.out] at ho7;obtain⟨f7,hb8⟩:=Hb6.out.named Hgk.out.2 (by omega) h7W ht7 ho7 hn7;obtain⟨a1,c1,rfl⟩:∃a1 c1,v1=.slice a1 (k+1) c1:=by
     rcases ho7.2 with ⟨h1,h2⟩|⟨g2,cap,cur,h1,_⟩
     ·omega
     ·exact⟨_,cap,h1⟩
    have g70:W7.cell? ⟨w.heap.size+1,1,none⟩=some fv:=f7.c1;have g71:W7.frozen? ⟨w.heap.size+1,1,none⟩=false:=by simp[World.frozen?,show W7.heap[w.heap.size+1]? =_ from f7]
    refine gsc rfl (by rfl) (fun K hK=> ?_);refine Lib.wp_append_run _ (.tmp 28) (.tmp 34) _ _ rfl _ _ (by rfl) (by rfl) _ _ hrun ?_;refine hK _ _ (ht7.mono (fun i hi _=> .inr hi)) ?_;simp only[Act.put,zs0,zs1,zs2];clear hK K hrun f6
    (refine gsr (v:= ?_) rfl (by rfl) ?_ ?_;rotate_left;(intro w' hw';go_simp;with_reducible rfl);simp only[Act.put,zs0,zs1,zs2])
    refine gsc rfl (by rfl) (fun K hK=> ?_);go_simp;refine hK _ _ ((Turn.refl _ _).setCell (p:=⟨w.heap.size+1,1,none⟩) _ (fun _=> .inl rfl)) ?_;clear hK K g70 g71;have Hb8:=zh hb8;clear hb8 f7 ht7 ho7 hn7 hlit;refine z0a ?_;go_wp2_with fail
    go_roundw
    case rel=>exact⟨k+1,_,_,by go_num,by omega,Hb8⟩
    case measure=>simp[intOf];omega
   ·skip
    refine gsc rfl (by rfl) (fun K hK=> ?_);go_simp;refine(z3z ⟨xg,xa',xn,xc,sa',sn,sc',pa,pn,pc⟩ W4).mono ?_;rintro e W5 ⟨rfl,hb5⟩;refine hK _ _ (q5w hb5) ?_;clear hK K;have Hb5:=zh (Hb4.out.ext hb5);have f5:W5.cell? ⟨w.heap.size+1,1,none⟩=some fv:=Hb5.out.fk.c1;clear hb5 f4;refine⟨?_,?_⟩
    ·skip
     refine gsc rfl (by rfl) (fun K hK=> ?_);go_simp;refine hK _ _ (Turn.refl _ _) ?_;clear hK K;refine gsc rfl (by rfl) (fun K hK=> ?_);go_simp;refine hK _ _ ((Turn.refl _ _).alloc _) ?_;clear hK K;have hb6:Below W5.heap.size W5 (W5.alloc (.cells #[.int .i64 (xg:Nat)] 3)):=(zbr _ _).alloc (zlr _) _;have Hb6:=zh (Hb5.out.ext hb6);have f6:(W5.alloc (.cells #[.int .i64 (xg:Nat)] 3)).cell? ⟨w.heap.size+1,1,none⟩=some fv:=Hb6.out.fk.c1;clear hb6 f5;have hlit:ES pgE (W5.alloc (.cells #[.int .i64 (xg:Nat)] 3)) (some ⟨W5.heap.size,0,none⟩) [xg]:=ES.lit (z0h W5 3 #[.int .i64 (xg:Nat)]) (by simp[pgE]);have hsz6:w.heap.size≤(W5.alloc (.cells #[.int .i64 (xg:Nat)] 3)).heap.size:=Hb6.out.lt.size;have h7W:w.heap.size+1<(W5.alloc (.cells #[.int .i64 (xg:Nat)] 3)).heap.size:=(zag.1 Hb6.out.fk).1;obtain⟨v1,W7,hrun,ht7,ho7,hn7⟩:=z3g (P:=Tryz.prog) (w:=W5.alloc (.cells #[.int .i64 (xg:Nat)] 3)) (E:=pgE) w.heap.size 76 76 3 Tryz.underlying76 y0y fv k _ Hb6.out.fo hsz6 (some ⟨W5.heap.size,0,none⟩) 1 1 [xg] rfl (by omega) hlit (by unfold maxLen;omega) (by show _*8≤_;omega);rw[Hx1.out] at ho7;obtain⟨f7,hb8⟩:=Hb6.out.named Hgk.out.2 (by omega) h7W ht7 ho7 hn7;obtain⟨a1,c1,rfl⟩:∃a1 c1,v1=.slice a1 (k+1) c1:=by
      rcases ho7.2 with ⟨h1,h2⟩|⟨g2,cap,cur,h1,_⟩
      ·omega
      ·exact⟨_,cap,h1⟩
     have g70:W7.cell? ⟨w.heap.size+1,1,none⟩=some fv:=f7.c1;have g71:W7.frozen? ⟨w.heap.size+1,1,none⟩=false:=by simp[World.frozen?,show W7.heap[w.heap.size+1]? =_ from f7]
     refine gsc rfl (by rfl) (fun K hK=> ?_);refine Lib.wp_append_run _ (.tmp 28) (.tmp 34) _ _ rfl _ _ (by rfl) (by rfl) _ _ hrun ?_;refine hK _ _ (ht7.mono (fun i hi _=> .inr hi)) ?_;simp only[Act.put,zs0,zs1,zs2];clear hK K hrun f6
     (refine gsr (v:= ?_) rfl (by rfl) ?_ ?_;rotate_left;(intro w' hw';go_simp;with_reducible rfl);simp only[Act.put,zs0,zs1,zs2])
     refine gsc rfl (by rfl) (fun K hK=> ?_);go_simp;refine hK _ _ ((Turn.refl _ _).setCell (p:=⟨w.heap.size+1,1,none⟩) _ (fun _=> .inl rfl)) ?_;clear hK K g70 g71;have Hb8:=zh hb8;clear hb8 f7 ht7 ho7 hn7 hlit;refine z0a ?_;go_wp2_with fail
     go_roundw
     case rel=>exact⟨k+1,_,_,by go_num,by omega,Hb8⟩
     case measure=>simp[intOf];omega
    ·skip
     refine gsc rfl (by rfl) (fun K hK=> ?_);go_simp;refine hK _ _ ((Turn.refl _ _).alloc _) ?_;clear hK K;have hb6:Below W5.heap.size W5 (W5.alloc (.cells #[.int .i64 (xg:Nat)] 3)):=(zbr _ _).alloc (zlr _) _;have Hb6:=zh (Hb5.out.ext hb6);have f6:(W5.alloc (.cells #[.int .i64 (xg:Nat)] 3)).cell? ⟨w.heap.size+1,1,none⟩=some fv:=Hb6.out.fk.c1;clear hb6 f5;refine gsc rfl (by rfl) (fun K hK=> ?_);go_simp;refine hK _ _ (Turn.refl _ _) ?_;clear hK K;have hlit:ES pgE (W5.alloc (.cells #[.int .i64 (xg:Nat)] 3)) (some ⟨W5.heap.size,0,none⟩) [xg]:=ES.lit (z0h W5 3 #[.int .i64 (xg:Nat)]) (by simp[pgE]);have hsz6:w.heap.size≤(W5.alloc (.cells #[.int .i64 (xg:Nat)] 3)).heap.size:=Hb6.out.lt.size;have h7W:w.heap.size+1<(W5.alloc (.cells #[.int .i64 (xg:Nat)] 3)).heap.size:=(zag.1 Hb6.out.fk).1;obtain⟨v1,W7,hrun,ht7,ho7,hn7⟩:=z3g (P:=Tryz.prog) (w:=W5.alloc (.cells #[.int .i64 (xg:Nat)] 3)) (E:=pgE) w.heap.size 76 76 3 Tryz.underlying76 y0y fv k _ Hb6.out.fo hsz6 (some ⟨W5.heap.size,0,none⟩) 1 1 [xg] rfl (by omega) hlit (by unfold maxLen;omega) (by show _*8≤_;omega);rw[Hx1.out] at ho7;obtain⟨f7,hb8⟩:=Hb6.out.named Hgk.out.2 (by omega) h7W ht7 ho7 hn7;obtain⟨a1,c1,rfl⟩:∃a1 c1,v1=.slice a1 (k+1) c1:=by
      rcases ho7.2 with ⟨h1,h2⟩|⟨g2,cap,cur,h1,_⟩
      ·omega
      ·exact⟨_,cap,h1⟩
     have g70:W7.cell? ⟨w.heap.size+1,1,none⟩=some fv:=f7.c1;have g71:W7.frozen? ⟨w.heap.size+1,1,none⟩=false:=by simp[World.frozen?,show W7.heap[w.heap.size+1]? =_ from f7]
     refine gsc rfl (by rfl) (fun K hK=> ?_);refine Lib.wp_append_run _ (.tmp 28) (.tmp 34) _ _ rfl _ _ (by rfl) (by rfl) _ _ hrun ?_;refine hK _ _ (ht7.mono (fun i hi _=> .inr hi)) ?_;simp only[Act.put,zs0,zs1,zs2];clear hK K hrun f6
     (refine gsr (v:= ?_) rfl (by rfl) ?_ ?_;rotate_left;(intro w' hw';go_simp;with_reducible rfl);simp only[Act.put,zs0,zs1,zs2])
     refine gsc rfl (by rfl) (fun K hK=> ?_);go_simp;refine hK _ _ ((Turn.refl _ _).setCell (p:=⟨w.heap.size+1,1,none⟩) _ (fun _=> .inl rfl)) ?_;clear hK K g70 g71;have Hb8:=zh hb8;clear hb8 f7 ht7 ho7 hn7 hlit;refine z0a ?_;go_wp2_with fail
     go_roundw
     case rel=>exact⟨k+1,_,_,by go_num,by omega,Hb8⟩
     case measure=>simp[intOf];omega
  ·obtain rfl:k=n:=by omega
   have htn:ts.length=k:=by rw[HC.out.2.2.1,←HC.out.2.1,Hn.out]
   have hts:ts.take k=ts:=List.take_of_length_le (by omega);have hxl:=hbv.out.xl;have hpgs:=hbv.out.pages htn;have hfo:=hbv.out.fo;have hkd:=hbv.out.kd;rw[List.take_of_length_le (by omega)] at hfo;rw[List.drop_of_length_le (by rw[Hn.out];exact zlr _),List.append_nil,Hn.out] at hkd;have hfo':wr.ownsRow w.heap.size 3 pgE.sz fv (xs.map NoV.pg).length (pgE.row (xs.map NoV.pg)):=by rw[List.length_map,hxl];exact hfo
   obtain⟨fa,fc,hfv,hfs,_⟩:=z1u (E:=pgE) hfo' rfl;rw[List.length_map,hxl] at hfv;subst hfv;have hkey:=hbv.out.key;obtain⟨_,_,hke,hks,_⟩:=hkey;have hak:TxS wr ak ks:=by
    injection hke with h1 _ _
    rw[h1];exact hks.texts
   have hmay:=HC.out.2.2.2.1;have hfl:(z2n ks ((layL ts ps).map pgI)).length≤504:=by rw[y1z hmay.1,y5e];exact HC.out.2.2.2.2.1
   have henc:=q0a hmay hfl;have hE:=y5m ak fa nk ck k fc ks ((layL ts ps).map pgI) wr Hnk.out (by rw[List.length_map,z2y,htn]) hak (by rw[←hpgs];exact PgS.of hfs) (by have:=HC.out.2.1;have:=Hn.out;have:=Hnk.out;omega) (by omega);rw[henc.1,henc.2] at hE;generalize errV 0=E0 at*;have hb8:B8 (z2n ks ((layL ts ps).map pgI)):=x28 _ _ _;obtain⟨L,hL⟩:∃L,z2n ks ((layL ts ps).map pgI)=L:=⟨_,rfl⟩
   obtain⟨m,hm⟩:∃m,L.length=m:=⟨_,rfl⟩
   rw[hL] at hE hb8 hfl;have q0:=hbv.out.fk.c0;have q1:=hbv.out.fk.c1;have HE:=zh hE;have HL:=zh (zai hm (zai (show m≤504 by omega) (zai hb8 hL)));have HT:=zh (zai htn (zai hts (zai hxl hkd)));clear htn hts hxl hpgs hfo hkd hfo' hfs hke hks hak hmay hfl henc hE hb8 hL hm;go_wp2_with fail;refine HE.out.mono ?_;rintro e w4 ⟨v,rfl,hsl,hb4⟩;obtain⟨a5,c5,rfl,hs5,_⟩:=hsl.arg;rw[HL.out.1];have Hbv4:=zh (hbv.out.ext hb4);have Hs5:=zh hs5;clear hb4 hs5 hsl q0 q1 HE hbv;go_wp2_with fail;refine(z93 gl B 2 m c5 a5 L _ _ w4 Hbv4.out.ly (by rw[HT.out.2.1,zld];have:=HC.out.2.2.2.2.2.2.2.1;omega) (by rw[zla];have h1:=HC.out.2.2.2.2.2.2.2.2;rw[HT.out.2.1,z51];omega) HL.out.1 (by omega) (by omega) HL.out.2.1 HL.out.2.2.1 Hs5.out).mono ?_;rintro e w5 ⟨rfl,hly5,ht5⟩;rw[z9j,Nat.add_zero,List.drop_drop,HT.out.2.1] at hly5;rw[z9j,Nat.add_zero,HT.out.2.1];obtain⟨_,hnew5,hkey5,hlt5,hrs5⟩:=Hbv4.out.wrote ht5;have hkd5:=Hbv4.out.ly.own ht5 Hbv4.out.kd;rw[List.drop_of_length_le (show vs.length≤k by rw[Hn.out];exact zlr _),List.append_nil,Hn.out] at hkd5;have hes5:ES nodE w5 (some ⟨gk,0,none⟩) xs:=by
    have h1:w5.ownsRow B' VT nodE.sz (.slice (some ⟨gk,0,none⟩) k c) xs.length (nodE.row xs):=by rw[HT.out.2.2.1];exact hkd5
    obtain⟨_,_,h2,h3,_⟩:=z1u (E:=nodE) h1 (by simp[nodE]);injection h2 with h2 _ _
    rw[h2];exact h3
   have HA:=zh (z8a (na ps (z0f ts)) (.slice ak nk ck) ks (some ⟨gk,0,none⟩) k c xs w5 hkey5 (by have:=HC.out.2.1;have:=Hn.out;omega) HT.out.2.2.1 hes5 (by omega));have H5:=zh (zai hly5 (zai hnew5 (zai hlt5 hrs5)));clear hly5 ht5 hnew5 hkey5 hlt5 hrs5 hkd5 hes5 Hbv4 Hs5;go_wp2_with fail;refine HA.out.mono ?_;rintro e w6 ⟨x,nps,rfl,hxp,hxc,hxk,hxv,hnl,hvb,hb6⟩;have hg:w6.heap[w.heap.size]? =some (.cells #[.int .i64 0,nilS,nilS,nilS] VT (0,0)):=(hb6.block _ (zag.1 H5.out.2.2.2).1).trans H5.out.2.2.2;have cc0:w6.cell? ⟨w.heap.size,0,none⟩=some (.int .i64 0):=by simp[World.cell?,hg]
   have cc1:w6.cell? ⟨w.heap.size,1,none⟩=some nilS:=by simp[World.cell?,hg]
   have cc2:w6.cell? ⟨w.heap.size,2,none⟩=some nilS:=by simp[World.cell?,hg]
   have cc3:w6.cell? ⟨w.heap.size,3,none⟩=some nilS:=by simp[World.cell?,hg]
   have f0:∀i,w6.frozen? ⟨w.heap.size,i,none⟩=false:=fun i=>by simp[World.frozen?,hg]
   have F0:=f0 0;have F1:=f0 1;have F2:=f0 2;have F3:=f0 3;have Hg:=zh hg;have HX:=zh (zai hxp (zai hxc (zai hxk (zai hxv (zai hnl (zai hvb hb6))))));clear hg f0 hxp hxc hxk hxv hnl hvb hb6 HA;obtain⟨pg,ca,cn,cc,ka,kn,kc,pa,pn,pc⟩:=x;dsimp only[NoV.c,NoV.k,NoV.p,NoV.v] at*;go_wp2_with fail;have Hp:=zh (z13 (x0:=.int .i64 (pg:Nat)) (x1:=.slice ca cn cc) (x2:=.slice ka kn kc) (x3:=.slice pa pn pc) Hg.out);have k0:(put4 w6 w.heap.size (.int .i64 (pg:Nat)) (.slice ca cn cc) (.slice ka kn kc) (.slice pa pn pc)).cell? ⟨w.heap.size,0,none⟩=some (.int .i64 (pg:Nat)):=by simp[World.cell?,Hp.out]
   have k1:(put4 w6 w.heap.size (.int .i64 (pg:Nat)) (.slice ca cn cc) (.slice ka kn kc) (.slice pa pn pc)).cell? ⟨w.heap.size,1,none⟩=some (.slice ca cn cc):=by simp[World.cell?,Hp.out]
   have k2:(put4 w6 w.heap.size (.int .i64 (pg:Nat)) (.slice ca cn cc) (.slice ka kn kc) (.slice pa pn pc)).cell? ⟨w.heap.size,2,none⟩=some (.slice ka kn kc):=by simp[World.cell?,Hp.out]
   have k3:(put4 w6 w.heap.size (.int .i64 (pg:Nat)) (.slice ca cn cc) (.slice ka kn kc) (.slice pa pn pc)).cell? ⟨w.heap.size,3,none⟩=some (.slice pa pn pc):=by simp[World.cell?,Hp.out]
   unfold put4 at k0 k1 k2 k3;have tp:=z1r (w:=w6) (g:=w.heap.size) (x0:=.int .i64 (pg:Nat)) (x1:=.slice ca cn cc) (x2:=.slice ka kn kc) (x3:=.slice pa pn pc);obtain⟨h1,h2,h3,h4,h5,h6,h7⟩:=HX.out;have hgt:∀t∈layL ts ps,126≤t.sz∧t.sz≤504:=fun t ht=>by
    obtain⟨i,hi,rfl⟩:=List.getElem_of_mem ht;have hi2:i<ts.length:=by rw[z2y] at hi;exact hi
    have e2:(layL ts ps)[i]=ta (layL ts ps) i:=by unfold ta;simp[List.getD,hi]
    rw[e2,y1g ts ps i hi2,y6t];exact HC.out.2.2.2.2.2.2.1 _ (z8b hi2)
   have hst:=y7s (x:=⟨pg,ca,cn,cc,ka,kn,kc,pa,pn,pc⟩) (w:=w) (B:=B) (s0:=s0) (n:=k) (xs:=xs) (lo:=lo) (hi:=hi) (tl:=layL ts ps) Hgk.out.2 (by have:=Hs.out;omega) H5.out.2.2.1.size (fun i hi=>by rw[y1g ts ps i (by rw[HT.out.1];exact hi)];exact H5.out.2.1 i hi) h7 h2 h3 h4 h5 h6
    (by have:=HC.out.2.1;have:=Hn.out;omega) (by rw[z2y];exact HT.out.1) HC.out.2.2.2.2.2.1 hgt Hg.out tp
   have Hend:Hid (NdS (put4 w6 w.heap.size (.int .i64 (pg:Nat)) (.slice ca cn cc) (.slice ka kn kc) (.slice pa pn pc)) (fun b=>B≤b∧b<w.heap.size) (h+1) lo hi ⟨pg,ca,cn,cc,ka,kn,kc,pa,pn,pc⟩ (.bran (na ps (z0f ts)) ks (layL ts ps))∧
     LyI (put4 w6 w.heap.size (.int .i64 (pg:Nat)) (.slice ca cn cc) (.slice ka kn kc) (.slice pa pn pc)) gl B (ps.drop (z0f ts+1)) (ws++(wrL ts ps++[(na ps (z0f ts),z1l 2 (z2n ks ((layL ts ps).map pgI)))]))∧
     Turn (LFu w gl B (.slice (some ⟨gk,0,none⟩) k c)) w (put4 w6 w.heap.size (.int .i64 (pg:Nat)) (.slice ca cn cc) (.slice ka kn kc) (.slice pa pn pc))):=by
    refine⟨?_,?_,?_⟩
    ·rw[←h1];exact hst
    ·have h8:=(H5.out.1.ext h7).tz tp (fun i hi=>by
      obtain rfl:i=w.heap.size:=hi;exact⟨Hgk.out.2,_,_,_,Hg.out,by decide,by decide⟩)
     rw[HL.out.2.2.2,←List.append_assoc];exact h8
    ·exact(H5.out.2.2.1.trans (q5w h7)).step tp (fun i hi hl=>by
      obtain rfl:i=w.heap.size:=hi;omega)
   unfold put4 at Hend;refine bodyPost_ret (v:=.agg #[.int .i64 (pg:Nat),.slice ca cn cc,.slice ka kn kc,.slice pa pn pc]) (by rw[z0c rfl];go_simp) rfl ⟨⟨pg,ca,cn,cc,ka,kn,kc,pa,pn,pc⟩,rfl,Hend.out.1,Hend.out.2.1,Hend.out.2.2⟩
end Go.Proofs.YtdnfhjfbanhhcaaGreatDoor
