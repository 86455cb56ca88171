/-
  Steps.
-/
import Derived.Test.YtdgladhfibfdlaaGreatDoorQPSs23
namespace Go.Proofs.YtdgladhfibfdlaaGreatDoor
open Go Go.RowKit Go.Proofs.Tryz
set_option maxRecDepth 100000
abbrev TT:TypeId:=28
def z7j (w:World)(p:Option Addr)(es:List En)(H:Nat):Prop:=
 (p=none∧es=[]∧H=0)∨∃b h s,p=some ⟨b,0,none⟩∧Nd w h none none b es s∧s≤504∧(0<h→3≤s)∧es≠[]∧H=h+1
def Y6 (w:World)(p:Option Addr)(ts:List Tr)(H:Nat):Prop:=
 (p=none∧ts=[]∧H=0)∨∃b h t,p=some ⟨b,0,none⟩∧ts=[t]∧NdT w h none none b t∧t.sz≤504∧(0<h→3≤t.sz)∧t.es≠[]∧H=h+1
theorem Y6.none (w:World):Y6 w none [] 0:=.inl ⟨rfl,rfl,rfl⟩
theorem Y6.tq {w:World}{p:Option Addr}{ts:List Tr}{H:Nat}(h:Y6 w p ts H):z7j w p (esL ts) H:=by
 rcases h with ⟨h1,rfl,h2⟩|⟨b,h,t,h1,rfl,h2,h3,h4,h5,h6⟩
 ·exact .inl ⟨h1,rfl,h2⟩
 ·exact .inr ⟨b,h,t.sz,h1,by rw[U4];exact NdT.nd h h2,h3,h4,by rw[U4];exact h5,h6⟩
theorem Y6.ext {w w':World}{p:Option Addr}{ts:List Tr}{H:Nat}(h:Y6 w p ts H)(hb:zB w w'):Y6 w' p ts H:=by
 rcases h with h|⟨b,h,t,h1,h0,h2,h3⟩
 ·exact .inl h
 ·exact .inr ⟨b,h,t,h1,h0,NdT.ext hb h h2,h3⟩
def y95 (w:World)(p:Option Addr)(es:List En)(H:Nat):Prop:=∃es',es=bare es'∧z7j w p es' H
theorem z7j.tp {w:World}{p:Option Addr}{es:List En}{H:Nat}(h:z7j w p es H):y95 w p (bare es) H:=⟨es,rfl,h⟩
theorem Y6.tp {w:World}{p:Option Addr}{ts:List Tr}{H:Nat}(h:Y6 w p ts H):y95 w p (bare (esL ts)) H:=h.tq.tp
theorem Z1 (W:World)(T:TypeId)(vs:Array Value):∃W',W.alloc (.cells vs T)=W'∧W'.heap[W.heap.size]? =some (.cells vs T (0,0))∧zB W W':=
 ⟨_,rfl,by show(W.heap.push _)[W.heap.size]? =_;rw[Array.getElem?_push_size],(zbr _ _).alloc (zlr _) _⟩
theorem z5g (k:ByteArray):ins none none k:=⟨trivial,trivial⟩
theorem z5h (p:Option Addr)(n:Int)(es:List En)(H:Nat)(key:ByteArray)(w:World)(ht:z7j w p es H):
  Calls prog 57 #[.agg #[.pointer p,.int .i64 n],.string key] w fun e w'=>e=.returned (.tuple #[.string (Cv es key),.bool (isE es key)])∧zB w w':=by
 obtain⟨w0,hw0,hc0,hb0⟩:=Z1 w TT #[.pointer p,.int .i64 n];have HG:=zh hw0;have HB:=zh hb0
 rcases ht with ⟨rfl,rfl,_⟩|⟨b,h,s,rfl,hn,hs,hs3,_⟩
 ·clear hc0 hw0 hb0
  go_enter func57,ntmps57
  go_wp2
  go_ret2
  exact⟨rfl,by rw[HG.out];exact HB.out⟩
 ·have hn0:=zh (Nd.ext hb0 h hn);have Hs:=zh (zai hs hs3);clear hc0 hw0 hb0 hn hs hs3
  go_enter func57,ntmps57
  go_wp2_with fail;rw[HG.out]
  go_loopg [6] h (fun k u wr=>∃(b:Nat) (lo hi:SB) (es':List En) (s':Nat),u=pt b∧Hid (Nd wr k lo hi b es' s')∧Hid (ins lo hi key)∧Hid (Cv es' key=Cv es key∧isE es' key=isE es key)∧Hid (s'≤504∧(0<k→3≤s'))∧Hid (zB w wr))
  case atStart=>exact⟨b,none,none,es,s,rfl,hn0,z5g key,⟨rfl,rfl⟩,Hs,HB⟩
  case round=>
   obtain⟨b,lo,hi,es',s',rfl,hn,hin,heq,hss,hB⟩:=hrel
   cases gk with
   | zero=>
    obtain⟨⟨vc,nb,a0,c0,rfl,s0,z0,hnc,hcm⟩,_,hsr,hok,hsz⟩:=hn.out;have g1:=Vu (fun x hx=>(hok x hx).1);have hel:es'.length≤200:=by have:=hss.out.1;unfold Y3 at hsz;omega
    have q0:=nb.c1;have Hnb:=zh nb;have hil:=zh (Nq b _ _ wr nb);have Hfd:=zh (z0k a0 es'.length c0 es' key wr rfl s0 hsr (by omega));have HS:=zh s0;have Hie:=zh (jN es' key);have hget:Hid (Cv es' key=if isE es' key=true then (ea es' (fE es' key)).v else ByteArray.empty):=rfl;obtain⟨N,hN⟩:∃N,es'.length=N:=⟨_,rfl⟩
    have HN:=zh hN;rw[hN] at q0 Hfd Hnb hel;rw[hN] at Hie;have Heq:=zh (zai heq.out.1.symm heq.out.2.symm);clear nb s0 z0 hnc hcm hsr hok hsz g1 hN hn hin hss heq;generalize fE es' key=F at*
    cases hI:isE es' key with
    | true=>
     rw[hI] at Hfd Hie Heq;have hFN:F<N:=by
      have:=Hie.out.symm;rw[Bool.and_eq_true,decide_eq_true_iff] at this;exact this.1
     obtain⟨g,o,rfl,hcell⟩:=HS.out.ents (by rw[HN.out];omega);have r1:=(hcell F (by rw[HN.out];exact hFN)).2.1;have Hg2:Hid (Cv es' key=(ea es' F).v):=by rw[hget.out,if_pos hI];rfl
     have hg3:Hid (Cv es key=(ea es' F).v):=by rw[Heq.out.1];exact Hg2.out
     have i1:(F:Int)<(N:Int):=by omega
     generalize (ea es' F).v=y at*;have lr:=block_lt_of_cell r1;have Hr1:=zh r1;clear hcell hget Hie hI r1 HS Hg2;go_wp2_with fail;refine hil.out.mono ?_;rintro e w' ⟨rfl,rfl⟩;go_wp2_with fail;refine Hfd.out.mono ?_;rintro e w2 ⟨rfl,hb2⟩;have q1:=(Hnb.out.ext hb2).c1;have r2:w2.cell? ⟨g,o+F*3+1,none⟩=some (.string y):=by
      rw[hb2.cell (p:=⟨g,o+F*3+1,none⟩) lr];exact Hr1.out
     have HB2:=zh (hB.out.trans (hb2.mono hB.out.size));clear hb2 Hfd hil q0 lr;go_wp2
     go_ret2
     exact⟨by rw[hg3.out,Heq.out.2];rfl,HB2.out⟩
    | false=>
     rw[hI] at Hfd Hie Heq;have Hg2:Hid (Cv es' key=ByteArray.empty):=by rw[hget.out,if_neg (by rw[hI];decide)];rfl
     have hg3:Hid (Cv es key=ByteArray.empty):=by rw[Heq.out.1];exact Hg2.out
     clear hget Hie hI HS Hg2;go_wp2_with fail;refine hil.out.mono ?_;rintro e w' ⟨rfl,rfl⟩;go_wp2_with fail;refine Hfd.out.mono ?_;rintro e w2 ⟨rfl,hb2⟩;have HB2:=zh (hB.out.trans (hb2.mono hB.out.size));clear hb2 Hfd hil q0;go_wp2
     go_ret2
     exact⟨by rw[hg3.out,Heq.out.2];rfl,HB2.out⟩
   | succ h=>
    obtain⟨ks,ps,ess,⟨vk,vp,nb,⟨a0,c0,rfl,s0,_⟩,⟨a1,c1,rfl,s1,_⟩⟩,hr,hfl,hsz⟩:=hn.out;have hle:=hr.len;have hkf:=hr.keys zU.facts;have hgr:=Y5 (hr.facts zU.facts).2.2.2;have hkl:ks.length≤126:=by have:=hss.out.1;unfold T8 at hsz;omega
    have hway:=hr.way zU.facts hin.out;have hwl:=YT ks key;have hsplit:es'=(ess.take (Qk ks key)).flatten++(ess.getD (Qk ks key) []++(ess.drop (Qk ks key+1)).flatten):=by
     rw[hfl,←y5m (by omega),←List.flatten_append,List.take_append_drop]
    have hg1:=y4m hway.2.1 hway.2.2 (ess.getD (Qk ks key) []);have hg2:=(y0b hway.2.1 hway.2.2 (ess.getD (Qk ks key) [])).2;rw[←hsplit] at hg1 hg2;have Heq:Hid (Cv (ess.getD (Qk ks key) []) key=Cv es key∧isE (ess.getD (Qk ks key) []) key=isE es key):=⟨hg1.symm.trans heq.out.1,hg2.symm.trans heq.out.2⟩
    obtain⟨sk,hk1,hk2,hk3⟩:=hr.kid (d:=[]) hwl;obtain⟨g2,o2,rfl,hc2⟩:=s1.ptrs (by omega);have hil:=zh (Nx b _ _ _ _ _ wr nb (by omega));obtain⟨W,hW⟩:∃W,wr.drew=W:=⟨_,rfl⟩
    have hbd:zB wr W:=by rw[←hW];exact(zbr _ _).drew
    have q1:∀w',Ext W w'→w'.cell? ⟨b,2,none⟩=some (.slice a0 ks.length c0):=fun w' hx=>((nb.ext hbd).ext hx).c2
    have q2:∀w',Ext W w'→w'.cell? ⟨b,3,none⟩=some (.slice (some ⟨g2,o2,none⟩) ps.length c1):=fun w' hx=>((nb.ext hbd).ext hx).c3
    have Hway:=zh (z0g a0 ks.length c0 ks key W rfl (s0.below hbd (zlr _)).texts hkf (by omega));have hpt:=hc2 (Qk ks key) (by omega);have lpt:=block_lt_of_cell hpt;have Hk:=zh (zai hk1 (zai hk2 hk3));have Hin:=zh hway.1;have HW:=zh (zai hW hbd);have hwm:Qk ks key<ps.length:=by omega
    have hm1:ps.length≤127:=by omega
    have Hpt:=zh hpt;clear nb s0 s1 hc2 hway hwl hsplit hkf hr hgr hle hkl hg1 hg2 hfl hsz hW hbd hpt hn hin heq hss hk1 hk2 hk3;generalize Qk ks key=A at*;generalize na ps A=pk at*;generalize ps.length=m at*;generalize ks.length=n0 at*;have i1:(0:Int)≤(A:Int):=by omega
    have i2:(A:Int)<(m:Int):=by omega
    have z0:IntKind.i64.wrap (A:Int)=(A:Int):=by rw[IntKind.wrap_i64];omega
    go_wp2_with fail;refine hil.out.mono ?_;rintro e w' ⟨rfl,rfl⟩;clear hil;go_wp2_with fail;refine rgr [(0,true),(1,true),(2,true),(3,true),(4,true),(5,true),(6,true),(7,true),(8,true),(9,false),(10,true),(11,true),(12,true)] (h:= ?_);rw[HW.out.1];iterate 9 (refine grr (v:= ?_) rfl (by rfl) ?_ ?_;rotate_left;(intro w' hw';go_simp;with_reducible rfl);simp only[Act.put,zs0,zs1,zs2])
    clear q1 q2;refine grc rfl (by rfl) (fun K hK=> ?_);go_simp;refine Hway.out.mono ?_;rintro e w2 ⟨rfl,hb2⟩;refine hK _ _ hb2 ?_;clear hK K Hway;have hbx:=HW.out.2.trans (hb2.mono HW.out.2.size);have r2:∀w',Ext w2 w'→w'.cell? ⟨g2,o2+A,none⟩=some (pt pk):=fun w' hx=>by
     rw[(hbx.trans (hx.mono hbx.size)).cell (p:=⟨g2,o2+A,none⟩) lpt];exact Hpt.out
    have HB2:=zh (hB.out.trans (hbx.mono hB.out.size));have Hn2:Hid (Nd w2 h (lob lo ks A) (hib hi ks A) pk (ess.getD A []) sk):=Nd.ext hbx h Hk.out.1;have Hs2:Hid (sk≤504∧(0<h→3≤sk)):=⟨Hk.out.2.2,fun _=>by have:=Hk.out.2.1;omega⟩
    clear hb2 hbx lpt Hpt HW Hk hB;iterate 3 (refine grr (v:= ?_) rfl (by rfl) ?_ ?_;rotate_left;(intro w' hw';go_simp;with_reducible rfl);simp only[Act.put,zs0,zs1,zs2])
    refine Yq ?_;clear r2;go_wp2_with fail
    go_roundg h
    case measure=>omega
    case rel=>exact⟨pk,_,_,_,sk,rfl,Hn2,Hin,Heq,Hs2,HB2⟩
def Fv (w0 w:World)(L es:List En)(e:Ending)(w':World):Prop:=
 ∃v',e=.returned v'∧w'.ownsRow w0.heap.size ET Y9.sz v' (L.length+es.length) (Y9.row (L++es))∧zB w0 w'∧Below w0.heap.size w w'
theorem y18 (es:List En)(k:Nat)(h:k<es.length):es.take (k+1)=es.take k++[ea es k]:=Ew es k h
theorem Fw (w0:World)(v:Value)(L:List En)(a:Option Addr)(n c:Nat)(es:List En)(w:World)(hB:zB w0 w)(hown:w.ownsRow w0.heap.size ET Y9.sz v L.length (Y9.row L))(hn:es.length=n)(hs:CS w0 a es)(hl:L.length+n≤100000):
  Calls prog 82 #[v,.slice a n c] w fun e w'=>Fv w0 w L es e w':=by
 have Hs:=zh hs;have Hn:=zh hn;have Hb0:=zh hB;have Hw0:Hid (w.ownsRow w0.heap.size ET Y9.sz v (L.length+0) (Y9.row (L++es.take 0))):=by
  rw[List.take_zero,List.append_nil,Nat.add_zero];exact hown
 clear hs hn hB hown
 go_enter func82,ntmps82
 go_wp2_with fail
 go_loopw [0,6,9] (fun u _ i wr=>∃(k:Nat) (x:Value),x=u∧i=.int .i64 k∧k≤n∧Hid (wr.ownsRow w0.heap.size ET Y9.sz x (L.length+k) (Y9.row (L++es.take k)))∧Hid (zB w0 wr)∧Hid (Below w0.heap.size w wr)) (fun _ _ i _=>n-(intOf i).toNat)
 case atStart=>exact⟨0,v,rfl,rfl,by omega,Hw0,Hb0,zbr _ _⟩
 case round=>
  obtain⟨k,x,rfl,rfl,hk,hown,hB,hC⟩:=hrel
  by_cases hlt:k<n
  ·obtain⟨g,o,rfl,hcell⟩:=(Hs.out.below hB.out (zlr _)).ents (by rw[Hn.out];omega);obtain⟨p0,p1,_,p2,⟨sa,sc,rfl,_⟩⟩:=hcell k (by rw[Hn.out];exact hlt);have hsz:=hB.out.size;have hsz2:=hC.out.size;obtain⟨i0,hi,hz,hs0,hby⟩:=info_parts y9n;have hlit:ES Y9 ((wr.alloc (.cells #[.string (ea es k).k,.string (ea es k).v,.slice sa (ea es k).ch.length sc] TCT)).alloc (.cells #[.string (ea es k).k,.string (ea es k).v] ET)) (some ⟨wr.heap.size+1,0,none⟩) [ea es k]:=by
    have h1:=Y7 (wr.alloc (.cells #[.string (ea es k).k,.string (ea es k).v,.slice sa (ea es k).ch.length sc] TCT)) ET #[.string (ea es k).k,.string (ea es k).v];rw[show(wr.alloc (.cells #[.string (ea es k).k,.string (ea es k).v,.slice sa (ea es k).ch.length sc] TCT)).heap.size=wr.heap.size+1 by simp] at h1;exact ES.lit (E:=Y9) (l:=[ea es k]) h1
   obtain⟨v1,w1,hrun,hb1,ho1⟩:=Xu (P:=prog) (E:=Y9) w0.heap.size 45 45 ET underlying45 y9n x (L.length+k) (L++es.take k) ((hown.out.alloc _).alloc _) (by simp;omega) (some ⟨wr.heap.size+1,0,none⟩) 1 1 [ea es k] rfl (fun h=>by cases h) hlit (by unfold maxLen;omega) (by show _*32≤_;omega);have hba:Below w0.heap.size wr w1:=(((zbr _ wr).alloc hsz _).alloc (by simp;omega) _).trans hb1;have Ho1:Hid (w1.ownsRow w0.heap.size ET Y9.sz v1 (L.length+(k+1)) (Y9.row (L++es.take (k+1)))):=by
    rw[y18 es k (by rw[Hn.out];exact hlt),←List.append_assoc,←Nat.add_assoc];exact ho1
   have HB1:=zh (hB.out.trans hba);have HC1:=zh (hC.out.trans hba);generalize ea es k=y at*;obtain⟨yk,yv,yc⟩:=y;dsimp only at p0 p1 p2 hrun;generalize yc.length=yn at*;clear hcell hi hz hs0 hby hlit hb1 ho1 hba hown hB hC
   go_wp2_with (at_builtin;refine Lib.wpList_append_run _ rfl (.tmp 13) (.tmp 16) _ _ rfl _ _ (by rfl) (by rfl) _ _ hrun ?_)
   go_wp2
   go_roundw
   case rel=>exact⟨k+1,v1,rfl,by go_num,by omega,Ho1,HB1,HC1⟩
   case measure=>simp[intOf];omega
  ·obtain rfl:k=n:=by omega
   have ho:=hown.out;rw[List.take_of_length_le (by rw[Hn.out];exact zlr _)] at ho;have Ho2:Hid (wr.ownsRow w0.heap.size ET Y9.sz x (L.length+es.length) (Y9.row (L++es))):=by rw[Hn.out];exact ho
   clear hown ho;go_wp2;go_ret;exact⟨x,rfl,Ho2.out,hB.out,hC.out⟩
theorem yV (w0:World){lo hi:SB}(b:Nat)(es:List En)(s:Nat)(hn:Nd w0 0 lo hi b es s)(v:Value)(L:List En)(w:World)(hB:zB w0 w)(hown:w.ownsRow w0.heap.size ET Y9.sz v L.length (Y9.row L))(hl:L.length+es.length≤100000):
  Calls prog 51 #[v,pt b] w fun e w'=>Fv w0 w L es e w':=by
 obtain⟨⟨vc,nb,a0,c0,rfl,s0,z0,_⟩,_⟩:=hn;have lb:=nb.lt;have q0:w.cell? ⟨b,1,none⟩=some (.slice a0 es.length c0):=by rw[hB.cell (p:=⟨b,1,none⟩) lb];exact nb.c1
 have Hcall:=zh (Fw w0 v L a0 es.length c0 es w hB hown rfl s0 hl);have Hnb:=zh nb;obtain⟨n,hn⟩:∃n,es.length=n:=⟨_,rfl⟩
 rw[hn] at q0 Hcall;clear nb s0 z0 hown hn hB hl
 go_enter func51,ntmps51
 go_wp2_with fail;refine Hcall.out.mono ?_;rintro e w1 ⟨v1,rfl,ho1,hb1,hb2⟩;have q2:w1.cell? ⟨b,3,none⟩=some Z0:=by
  rw[hb1.cell (p:=⟨b,3,none⟩) lb];exact Hnb.out.c3
 have HB:=zh hb1;have Ho:=zh ho1;have Hb1:=zh hb2;clear ho1 hb1 hb2 Hcall lb q0;go_wp2_with fail
 go_loopw [0,6,18] (fun u _ i wr=>v1=u∧i=.int .i64 0∧w1=wr) (fun _ _ _ _=>0)
 case atStart=>exact⟨by first|trivial|rfl,rfl,by first|trivial|rfl⟩
 case round=>
  obtain⟨rfl,rfl,rfl⟩:=hrel;go_wp2;go_ret;exact⟨v1,rfl,Ho.out,HB.out,Hb1.out⟩
theorem yW (w0:World){h:Nat}{lo hi:SB}(b:Nat)(es:List En)(s:Nat)(hn:Nd w0 (h+1) lo hi b es s)(v:Value)(L:List En)(w:World)(hB:zB w0 w)(hown:w.ownsRow w0.heap.size ET Y9.sz v L.length (Y9.row L))(hl:L.length+es.length≤100000)
  (hks:s≤100000)
  (ih:∀(lo hi:SB) (b:Nat) (es:List En) (s:Nat) (v:Value) (L:List En) (w:World),Nd w0 h lo hi b es s→s≤100000→zB w0 w→w.ownsRow w0.heap.size ET Y9.sz v L.length (Y9.row L)→L.length+es.length≤100000→Calls prog 51 #[v,pt b] w fun e w'=>Fv w0 w L es e w'):
  Calls prog 51 #[v,pt b] w fun e w'=>Fv w0 w L es e w':=by
 obtain⟨ks,ps,ess,⟨vk,vp,nb,_,⟨a1,c1,rfl,s1,_⟩⟩,hr,rfl,rfl⟩:=hn;have hle:=hr.len;have hgk:=Y5 (hr.facts zU.facts).2.2.2;have hkl:ks.length≤100000:=by unfold T8 at hks;omega
 obtain⟨g2,o2,rfl,hc2⟩:=s1.ptrs (by omega);have lb:=nb.lt;have q0:w.cell? ⟨b,1,none⟩=some Z0:=by rw[hB.cell (p:=⟨b,1,none⟩) lb];exact nb.c1
 have Hcall:=zh (Fw w0 v L none 0 0 [] w hB hown rfl (CS.nil _) (by omega));have Hnb:=zh nb;have Hc2:=zh hc2;have Hr:=zh hr;have Hih:=zh ih;have Hl:=zh (zai hl hle);obtain⟨n,hn⟩:∃n,ps.length=n:=⟨_,rfl⟩
 have Hn:=zh hn;have hn9:n≤100001:=by omega
 have Hlb:=zh lb;have Hn2:=zh hn;clear nb s1 hown hn hB lb hl ih hr hc2 hle hgk hkl hks
 go_enter func51,ntmps51
 go_wp2_with fail;refine Hcall.out.mono ?_;rintro e w1 ⟨v1,rfl,ho1,hb1,hb2⟩;have q3:w1.cell? ⟨b,3,none⟩=some (.slice (some ⟨g2,o2,none⟩) n c1):=by
  rw[hb1.cell (p:=⟨b,3,none⟩) Hlb.out,←Hn2.out];exact Hnb.out.c3
 rw[List.append_nil] at ho1;have HB:=zh hb1;have Ho:=zh ho1;have Hb1:=zh hb2;clear ho1 hb1 hb2 Hcall q0;go_wp2_with fail
 go_loopw [0,6,18] (fun u _ i wr=>∃(k:Nat) (v:Value),v=u∧i=.int .i64 k∧k≤n∧Hid (wr.ownsRow w0.heap.size ET Y9.sz v (L.length+(ess.take k).flatten.length) (Y9.row (L++(ess.take k).flatten)))∧Hid (zB w0 wr)∧Hid (Below w0.heap.size w wr)) (fun _ _ i _=>n-(intOf i).toNat)
 case atStart=>exact⟨0,v1,rfl,rfl,by omega,by rw[List.take_zero,List.flatten_nil,List.append_nil];exact Ho,HB,Hb1⟩
 case round=>
  obtain⟨k,v,rfl,rfl,hk,hown,hB,hC⟩:=hrel
  by_cases hlt:k<n
  ·have hkid:=Hr.out.kid (d:=[]) (m:=k) (by have:=Hl.out.2;have:=Hn.out;omega);have p0:=Hc2.out k (by rw[Hn.out];exact hlt);have p1:wr.cell? ⟨g2,o2+k,none⟩=some (pt (na ps k)):=by
    rw[hB.out.cell (p:=⟨g2,o2+k,none⟩) (block_lt_of_cell p0)];exact p0
   have het:(ess.take (k+1)).flatten=(ess.take k).flatten++ess.getD k []:=y5l (ess:=ess) (i:=k) (by have:=Hl.out.2;have:=Hn.out;omega);have hsum:(ess.take (k+1)).flatten.length≤ess.flatten.length:=by
    conv=>rhs;rw[←List.take_append_drop (k+1) ess,List.flatten_append,zla]
    omega
   have hlen:(L++(ess.take k).flatten).length+(ess.getD k []).length≤100000:=by
    rw[het,zla] at hsum;rw[zla];have:=Hl.out.1;omega
   obtain⟨sk,hk1,_,hk3⟩:=hkid;have Hcall:=zh (Hih.out _ _ (na ps k) (ess.getD k []) sk v (L++(ess.take k).flatten) wr hk1 (by omega) hB.out (by rw[zla];exact hown.out) hlen);have Het:=zh het;generalize na ps k=pk at*;clear p0 het hsum hlen hk1 hk3 hown;go_wp2_with fail;refine Hcall.out.mono ?_;rintro e w2 ⟨v2,rfl,ho2,hb2,hb3⟩;have Ho2:Hid (w2.ownsRow w0.heap.size ET Y9.sz v2 (L.length+(ess.take (k+1)).flatten.length) (Y9.row (L++(ess.take (k+1)).flatten))):=by
    rw[Het.out,←List.append_assoc];rw[zla] at ho2;rw[zla,←Nat.add_assoc];exact ho2
   have Hb2:=zh hb2;have Hc2':=zh (hC.out.trans hb3);clear ho2 hb2 hb3 Hcall hB hC p1;go_wp2_with fail
   go_roundw
   case rel=>exact⟨k+1,v2,rfl,by go_num,by omega,Ho2,Hb2,Hc2'⟩
   case measure=>simp[intOf];omega
  ·obtain rfl:k=n:=by omega
   have ho:=hown.out;rw[List.take_of_length_le (by have:=Hl.out.2;have:=Hn.out;omega)] at ho;have Ho2:=zh ho;clear hown ho;go_wp2;go_ret;exact⟨v,rfl,Ho2.out,hB.out,hC.out⟩
theorem Lu (w0:World):∀(h:Nat) (lo hi:SB) (b:Nat) (es:List En) (s:Nat) (v:Value) (L:List En) (w:World),Nd w0 h lo hi b es s→s≤100000→zB w0 w→w.ownsRow w0.heap.size ET Y9.sz v L.length (Y9.row L)→L.length+es.length≤100000→Calls prog 51 #[v,pt b] w fun e w'=>Fv w0 w L es e w'
 | 0,_,_,b,es,s,v,L,w,hn,_,hB,ho,hl=>yV w0 b es s hn v L w hB ho hl
 | h+1,_,_,b,es,s,v,L,w,hn,hs,hB,ho,hl=>yW w0 b es s hn v L w hB ho hl hs (Lu w0 h)
theorem z3d (b:Nat)(vc vk:Value)(a:Option Addr)(c:Nat)(w:World)(hb:NB w b vc vk (.slice a 0 c)):Calls prog 62 #[pt b] w fun e w'=>e=.returned (.bool true)∧w=w':=by
 have q2:=hb.c3;clear hb
 go_enter func62,ntmps62
 go_wp2;go_ret;exact⟨rfl,rfl⟩
def y19 (w:World)(f:Nat):Nat→Nat→Prop
 | 0,r=>r=f
 | k+1,r=>∃vc vk g o c r',NB w r vc vk (.slice (some ⟨g,o,none⟩) 1 c)∧w.cell? ⟨g,o,none⟩=some (pt r')∧y19 w f k r'
theorem z3e (b:Nat)(w:World)(R:World→Nat→Nat→Nat→Prop)
  (H:Calls prog 118 #[pt b] w fun e w1=>∃a1 n1 c1 a2 n2 c2,e=.returned (.tuple #[.slice a1 n1 c1,.slice a2 n2 c2])∧zB w w1∧
   ∀g W,NP W g 0 Z0 (.slice a2 n2 c2) (.slice a1 n1 c1)→zB w1 W→∃k f ac nc cc vk a nk c,y19 W f k g∧NB W f (.slice ac nc cc) vk (.slice a nk c)∧nk≠1∧R W f nk nc):
  Calls prog 90 #[pt b] w fun e w'=>zB w w'∧∃f nk nc,R w' f nk nc∧e=.returned (if nk=0∧nc=0 then .pointer none else pt f):=by
 have H1:=zh H;clear H
 go_enter func90,ntmps90
 go_wp2_with fail;refine H1.out.mono ?_;rintro e w1 ⟨a1,n1,c1,a2,n2,c2,rfl,hb1,hR⟩;obtain⟨gR,W,hgR,hW,hnb,hb2⟩:=Y0 w1 Z0 (.slice a2 n2 c2) (.slice a1 n1 c1);obtain⟨k,f,ac,nc,cc,vk,a,nk,c,hst,hf,hne,hr⟩:=hR gR W hnb hb2;have HG:=zh (zai hgR hW);have HB:=zh (hb1.trans (hb2.mono hb1.size));have Hst:=zh hst;have Hf:=zh hf;have Hr:=zh hr;have d1:((nk:Int)==1)=false:=by rw[beq_eq_false_iff_ne];omega
 clear hb1 hb2 hR hgR hW hnb hst hf hr H1 hne;go_wp2_with fail;rw[HG.out.1,HG.out.2]
 go_loopg [5] k (fun j u wr=>∃r,u=pt r∧Hid (y19 W f j r)∧W=wr)
 case atStart=>exact⟨gR,rfl,Hst,by first|trivial|rfl⟩
 case round=>
  obtain⟨r,rfl,hs,rfl⟩:=hrel
  cases gk with
  | zero=>
   obtain rfl:r=f:=hs.out;have q2:=Hf.out.c3;have q0:=Hf.out.c1
   rcases Nat.eq_zero_or_pos nk with h0|h0
   ·subst h0;have hil:=zh (z3d r _ _ _ _ W Hf.out)
    by_cases hn0:nc=0
    ·subst hn0;go_wp2_with fail;refine hil.out.mono ?_;rintro e w' ⟨rfl,rfl⟩;go_wp2;go_ret;exact⟨HB.out,r,0,0,Hr.out,by rw[if_pos ⟨rfl,rfl⟩];rfl⟩
    ·have d2:((nc:Int)==0)=false:=by rw[beq_eq_false_iff_ne];omega
     go_wp2_with fail;refine hil.out.mono ?_;rintro e w' ⟨rfl,rfl⟩;go_wp2;go_ret;exact⟨HB.out,r,0,nc,Hr.out,by rw[if_neg (fun h=>hn0 h.2)];rfl⟩
   ·have hil:=zh (Nx r _ _ _ _ _ W Hf.out h0);go_wp2_with fail;refine hil.out.mono ?_;rintro e w' ⟨rfl,rfl⟩;go_wp2;go_ret;exact⟨HB.out,r,nk,nc,Hr.out,by rw[if_neg (fun h=>by omega)];rfl⟩
  | succ j=>
   obtain⟨vc,vk2,g,o,c9,r',hn,hc,hs'⟩:=hs.out;have q2:=hn.c3;have Hs:=zh hs';clear hn hs hs';go_wp2_with fail
   go_roundg j
   case measure=>omega
   case rel=>exact⟨r',rfl,Hs,by first|trivial|rfl⟩
def C8 (h:Nat)(t:Tr)(ts:List Tr)(H:Nat):Prop:=t.pg=0→Fr [t] ts 2∧nwL ts+2*h≤nwL t.kids+2*H
def y7k (h:Nat)(t:Tr)(W:World)(f nk nc:Nat):Prop:=(nk=0∧nc=0→t.es=[]∧h=0)∧
 (¬(nk=0∧nc=0)→∃h2 t2,NdT W h2 none none f t2∧t2.sz≤504∧(0<h2→3≤t2.sz)∧t2.es≠[]∧t2.es=t.es∧C8 h t [t2] (h2+1))
def Fin (h:Nat)(t:Tr)(W:World)(f:Nat):Prop:=∃ac nc cc vk a nk c,NB W f (.slice ac nc cc) vk (.slice a nk c)∧nk≠1∧y7k h t W f nk nc
theorem yX {W:World}{h0 h f:Nat}{t:Tr}{pg:Nat}{ks:List ByteArray}{ps:List Nat}{ts:List Tr}(hb:K2 W f pg ks ps)(hr:X8 (X2 W h) ks none none ps ts)(h1:1≤ks.length)(hs:T8 ks≤504)(he:esL ts=t.es)(hf:C8 h0 t [.bran pg ks ts] (h+1+1)):Fin h0 t W f:=by
 have hle:=hr.len;have hc:=X8.count (m:=1) (fun lo hi p e hg=>Nat.le_trans (by have:=Nat.one_le_two_pow (n:=0);have:1≤4^h:=Nat.one_le_pow _ _ (by omega);omega) (zU.count h lo hi p e hg)) hr.good;have hk:=Y5 hr.factsT.2.2.2;have hb':=hb;obtain⟨vk,vp,nb,⟨a0,c0,rfl,_⟩,⟨a1,c1,rfl,_⟩⟩:=hb;refine⟨_,_,_,_,_,_,_,nb.nb,by omega,fun h=>by omega,fun _=>⟨h+1,.bran pg ks ts,G8.2 ⟨pg,ks,ps,ts,rfl,hb',hr⟩,hs,fun _=>by simp only[Tr.sz];unfold T8;omega,fun h=> ?_,by simp only[Tr.es];exact he,hf⟩⟩;simp only[Tr.es] at h;rw[Rq] at h;rw[h] at hc;simp at hc
theorem y5q {W:World}{h0 h f:Nat}{t t2:Tr}(hg:X2 W h none none f t2)(he:t2.es=t.es)(hf:C8 h0 t [t2] (h+1)):Fin h0 t W f:=by
 have hc:=zU.count h _ _ _ _ hg.good;have h1:1≤4^h:=Nat.one_le_pow _ _ (by omega);obtain⟨hn,h126,h504⟩:=hg
 cases h with
 | zero=>
  have hn':=hn;obtain⟨pg,es,rfl,⟨vc,nb,a0,c0,rfl,_⟩,_⟩:=hn;simp only[Tr.es] at hc;exact⟨_,_,_,_,_,_,_,nb.nb,by omega,fun h=>by omega,fun _=>⟨0,_,hn',h504,fun _=>by omega,fun h=>by simp only[Tr.es] at h;rw[h] at hc;simp at hc,he,hf⟩⟩
 | succ h=>
  obtain⟨pg,ks,ps,ts,rfl,hb,hr⟩:=hn;have hk:=Y5 hr.factsT.2.2.2;simp only[Tr.sz] at h126 h504;exact yX hb hr (by unfold T8 at h126;omega) h504 (by simp only[Tr.es] at he;exact he) hf
theorem z7k {h b:Nat}{t:Tr}(w:World)(hn:NdT w h none none b t)(hs:t.sz≤660):
  Calls prog 90 #[pt b] w fun e w'=>∃p ts H,e=.returned (.pointer p)∧Y6 w' p ts H∧esL ts=t.es∧C8 h t ts H∧zB w w':=by
 refine(z3e b w (y7k h t) ?_).mono ?_
 ·rcases zng 504 t.sz with h3|h3
  ·refine(Mq w hn (by omega) (by omega)).mono ?_;rintro e w1 ⟨vp,vk,ks',ps',ts',rfl,⟨ap,cp,rfl,sp,zp,rp⟩,⟨ak,ck,rfl,sk,zk,rk⟩,hr,⟨hfl,hhv⟩,hk1,hb1⟩;refine⟨_,_,_,_,_,_,rfl,hb1,fun g W hg hW=> ?_⟩;have hr':X8 (X2 W h) ks' none none ps' ts':=hr.mono (fun _ _ _ _ hx=>X2.ext hW hx);have hbr:K2 W g 0 ks' ps':=⟨_,_,hg,⟨ak,ck,rfl,sk.below hW (zlr _),zk,rk⟩,⟨ap,cp,rfl,sp.below hW (zlr _),zp,rp⟩⟩
   have hle:=hr.len
   cases ks' with
   | nil=>
    exfalso
    rcases hhv with ⟨h4,_⟩|⟨_,⟨_,_,_,_,rfl⟩|⟨_,_,_,_,_,rfl⟩⟩
    ·omega
    ·simp at hle
    ·simp at hle
   | cons k r=>
    have hko:=Y5 hr'.factsT.2.2.2;have hfr:C8 h t [.bran 0 (k::r) ts'] (h+1+1):=fun h0=>by
     have f1:=hhv.fr h0;have f2:Fr [t] [.bran 0 (k::r) ts'] (1+1):=f1.new rfl;have f3:=f2.nw;have f4:=y0l h0;simp only[nwL] at f3;simp only[nwL];exact⟨f2,by omega⟩
    obtain⟨ac,nc,cc,vk,a,nk,c,h1,h2,h4⟩:=yX hbr hr' (by simp) (by unfold T8;omega) hfl hfr;exact⟨0,g,ac,nc,cc,vk,a,nk,c,rfl,h1,h2,h4⟩
  ·refine(XF b t.sz w h3 (Ly w (NdT.nd h hn) (by omega))).mono ?_;rintro e w1 ⟨vp,rfl,⟨ap,cp,rfl,sp,zp,rp⟩,hb1⟩;refine⟨_,_,_,_,_,_,rfl,hb1,fun g W hg hW=> ?_⟩;obtain⟨g2,o2,rfl,hc2⟩:=(sp.below hW (zlr _)).ptrs (by simp);have hst:∀k f,y19 W f k b→y19 W f (k+1) g:=fun k f hx=>⟨_,_,g2,o2,_,b,hg.nb,hc2 0 (by simp),hx⟩
   have hbW:=hb1.trans (hW.mono hb1.size);have hnW:=NdT.ext hbW h hn;have hself:C8 h t [t] (h+1):=fun h0=>by
    have f4:=y0l h0;simp only[nwL];exact⟨(Fr.refl _).mono (by omega),by omega⟩
   cases h with
   | zero=>
    have hn':=hnW;obtain⟨pg,es,rfl,⟨vc,nb,a0,c0,rfl,_⟩,_⟩:=hnW;refine⟨1,b,_,_,_,_,_,_,_,hst 0 b rfl,nb.nb,by omega,fun h=>⟨by simp only[Tr.es];exact List.eq_nil_of_length_eq_zero h.2,rfl⟩,fun h=>⟨0,_,hn',h3,fun h=>by omega,fun h5=>h ⟨rfl,by simp only[Tr.es] at h5;rw[h5];rfl⟩,rfl,hself⟩⟩
   | succ h=>
    obtain⟨pg,ks,ps,ts,rfl,hbr,hr⟩:=hnW
    cases ks with
    | nil=>
     obtain⟨p,t2,rfl,rfl,hgd⟩:=hr;obtain⟨vk,vp,nb,_,⟨a1,c1,rfl,s1,_⟩⟩:=hbr;obtain⟨g3,o3,rfl,hc3⟩:=s1.ptrs (by simp);have hfr:C8 (h+1) (.bran pg [] [t2]) [t2] (h+1):=fun h0=>by
      simp only[Tr.kids];exact⟨(y92 rfl).mono (by omega),by omega⟩
     obtain⟨ac,nc,cc,vk,a,nk,c,h1,h2,h4⟩:=y5q (t:=.bran pg [] [t2]) hgd (by simp only[Tr.es];rw[U4]) hfr;exact⟨2,p,ac,nc,cc,vk,a,nk,c,hst 1 p ⟨_,_,g3,o3,_,p,nb.nb,hc3 0 (by simp),rfl⟩,h1,h2,h4⟩
    | cons k r=>
     obtain⟨ac,nc,cc,vk,a,nk,c,h1,h2,h4⟩:=yX (t:=.bran pg (k::r) ts) hbr hr (by simp) h3 (by simp only[Tr.es]) hself;exact⟨1,b,ac,nc,cc,vk,a,nk,c,hst 0 b rfl,h1,h2,h4⟩
 ·rintro e w' ⟨hb,f,nk,nc,hr,rfl⟩
  by_cases h0:nk=0∧nc=0
  ·rw[if_pos h0];obtain⟨h5,h6⟩:=hr.1 h0;refine⟨none,[],0,rfl,.inl ⟨rfl,rfl,rfl⟩,by rw[h5];rfl,fun h7=>⟨⟨fun p=>by simp[Pq],by simp[nwL],fun _ _=>trivial⟩,?_⟩,hb⟩;simp only[nwL];omega
  ·rw[if_neg h0];obtain⟨h2,t2,h4,h5,h6,h7,h8,h9⟩:=hr.2 h0;exact⟨some ⟨f,0,none⟩,[t2],h2+1,rfl,.inr ⟨f,h2,t2,rfl,rfl,h4,h5,h6,h7,rfl⟩,by rw[U4];exact h8,h9,hb⟩
def TB (w:World)(b:Nat)(p:Option Addr)(n:Int):Prop:=w.heap[b]? =some (.cells #[.pointer p,.int .i64 n] TT (0,0))
section
variable {w:World} {b:Nat} {p:Option Addr} {n:Int}
theorem TB.c0 (h:TB w b p n):w.cell? ⟨b,0,none⟩=some (.pointer p):=by
 have h':w.heap[b]? =_:=h;simp[World.cell?,h']
theorem TB.c1 (h:TB w b p n):w.cell? ⟨b,1,none⟩=some (.int .i64 n):=by
 have h':w.heap[b]? =_:=h;simp[World.cell?,h']
theorem TB.fz (h:TB w b p n)(j:Nat):w.frozen? ⟨b,j,none⟩=false:=by
 have h':w.heap[b]? =_:=h;simp[World.frozen?,h']
theorem TB.lt (h:TB w b p n):b<w.heap.size:=(zag.1 h).1
theorem TB.ext {w':World}(h:TB w b p n)(hb:zB w w'):TB w' b p n:=(hb.block b h.lt).trans h
theorem TB.turn {w':World}{F:Nat→Prop}(h:TB w b p n)(t:Zx F w w')(hF:¬F b):TB w' b p n:=t.hg h hF
theorem TB.put (h:TB w b p n)(q:Option Addr)(m:Int):TB ((w.setCell ⟨b,0,none⟩ (.pointer q)).setCell ⟨b,1,none⟩ (.int .i64 m)) b q m:=
 heap_setCell_same _ b 1 _ _ _ (heap_setCell_same w b 0 _ _ _ h)
end
def vty (T:TypeId):Bool:= !(T==ET||T==RET||T==9||T==PNT||T==NT||T==VT||T==TCT||T==3)
def TF (w:World)(F:Nat→Prop):Prop:=∀b,F b→∃A T fz,w.heap[b]? =some (.cells A T fz)∧vty T=true
section
variable {w w':World} {F:Nat→Prop}
theorem x4b {b:Nat}{A:Array Value}{T:TypeId}{fz:Nat×Nat}(h:w.heap[b]? =some (.cells A T fz))(hT:vty T=true:=by decide):TF w (fun i=>i=b):=fun _ e=>⟨A,T,fz,e▸h,hT⟩
theorem TF.one {b:Nat}{q:Option Addr}{n:Int}(h:TB w b q n):TF w (fun i=>i=b):=x4b (h:w.heap[b]? =_)
theorem TF.not {b:Nat}{A:Array Value}{T:TypeId}{fz:Nat×Nat}(hF:TF w F)(h:w.heap[b]? =some (.cells A T fz))(hT:vty T=false):¬F b:=fun hb=>by
 obtain⟨A',T',fz',h2,h3⟩:=hF b hb;rw[h] at h2;injection h2 with h2
 injection h2 with _ h2 _
 rw[←h2,hT] at h3
 cases h3
theorem NP.turn {b pg:Nat}{vc vk vp:Value}(h:NP w b pg vc vk vp)(t:Zx F w w')(hF:TF w F):NP w' b pg vc vk vp:=h.elim fun T h'=>⟨T,h'.1,t.hg h'.2 (hF.not h'.2 (by
 have h1:(T==NT||T==VT)=true:=h'.1;simp only[Bool.or_eq_true,beq_iff_eq] at h1
 rcases h1 with rfl|rfl<;>decide))⟩
theorem ES.turn {α:Type}{E:Elt α}{a:Option Addr}{l:List α}(hE:∀T,E.ty T=true→vty T=false)(h:ES E w a l)(t:Zx F w w')(hF:TF w F):ES E w' a l:=by
 rcases h with h|⟨g,o,rfl,⟨A,T,fz,ht,hT⟩,hc⟩
 ·exact .inl h
 ·have hg:¬F g:=hF.not ht (hE T hT);refine .inr ⟨g,o,rfl,⟨A,T,fz,t.hg ht hg,hT⟩,fun j u hu=> ?_⟩;have h1:=hc j u hu;rw[t.cell (p:=⟨g,o+j,none⟩) (block_lt_of_cell h1) hg];exact h1
theorem yY:∀T,Y9.ty T=true→vty T=false:=fun T h=>by
 have h':(T==ET||T==RET)=true:=h;unfold vty;rw[h'];rfl
theorem Kj:∀T,V5.ty T=true→vty T=false:=fun T h=>by
 have h':(T==9)=true:=h;unfold vty;rw[h'];simp
theorem yZ:∀T,V8.ty T=true→vty T=false:=fun T h=>by
 have h':(T==PNT)=true:=h;unfold vty;rw[h'];simp
theorem y5r:∀T,Uw.ty T=true→vty T=false:=fun T h=>by
 have h':(T==TCT)=true:=h;unfold vty;rw[h'];simp
theorem Dj:∀T,pgE.ty T=true→vty T=false:=fun T h=>by
 have h':(T==3)=true:=h;unfold vty;rw[h'];simp
theorem EV.turn {α:Type}{E:Elt α}{v:Value}{l:List α}(hE:∀T,E.ty T=true→vty T=false)(h:EV E w v l)(t:Zx F w w')(hF:TF w F):EV E w' v l:=by
 obtain⟨a,c,rfl,hs,h1⟩:=h;exact⟨a,c,rfl,hs.turn hE t hF,h1⟩
theorem RW.turn (t:Zx F w w')(hF:TF w F):∀{xs:List Rw} {es:List En},RW w xs es→RW w' xs es
 | [],[],_=>trivial
 | _::_,_::_,h=>⟨⟨h.1.1,h.1.2.1,h.1.2.2.turn Dj t hF⟩,RW.turn t hF h.2⟩
 | [],_::_,h=>h.elim
 | _::_,[],h=>h.elim
theorem CS.turn {a:Option Addr}{es:List En}(h:CS w a es)(t:Zx F w w')(hF:TF w F):CS w' a es:=by
 obtain⟨xs,h1,h2⟩:=h;exact⟨xs,h1.turn y5r t hF,h2.turn t hF⟩
theorem CV.turn {v:Value}{es:List En}(h:CV w v es)(t:Zx F w w')(hF:TF w F):CV w' v es:=by
 obtain⟨a,c,rfl,hs,h1⟩:=h;exact⟨a,c,rfl,hs.turn t hF,h1⟩
theorem NdT.turn (t:Zx F w w')(hF:TF w F):∀(h:Nat) {lo hi:SB} {b:Nat} {u:Tr},NdT w h lo hi b u→NdT w' h lo hi b u
 | 0,_,_,_,_,⟨pg,es,h0,⟨vc,h1,h2⟩,h3⟩=>⟨pg,es,h0,⟨vc,h1.turn t hF,h2.turn t hF⟩,h3⟩
 | h+1,_,_,_,_,⟨pg,ks,ps,ts,h0,⟨vk,vp,h1,h2,h3⟩,h4⟩=>
  ⟨pg,ks,ps,ts,h0,⟨vk,vp,h1.turn t hF,h2.turn Kj t hF,h3.turn yZ t hF⟩,h4.mono (fun _ _ _ _ ⟨h7,h8⟩=>⟨NdT.turn t hF h h7,h8⟩)⟩
theorem Y6.turn {p:Option Addr}{ts:List Tr}{H:Nat}(h:Y6 w p ts H)(t:Zx F w w')(hF:TF w F):Y6 w' p ts H:=by
 rcases h with h|⟨b,h,u,h1,h0,h2,h3⟩
 ·exact .inl h
 ·exact .inr ⟨b,h,u,h1,h0,NdT.turn t hF h h2,h3⟩
end
theorem Yv (W:World)(b:Nat)(u v:Value):Zx (fun i=>i=b) W ((W.setCell ⟨b,0,none⟩ u).setCell ⟨b,1,none⟩ v):=
 ((Zx.refl (fun i=>i=b) W).setCell (p:=⟨b,0,none⟩) u (fun _=>rfl)).setCell (p:=⟨b,1,none⟩) v (fun _=>rfl)
theorem X4 {w0 W:World}{b:Nat}{u v:Value}(h:zB w0 W)(hb:w0.heap.size≤b):zB w0 ((W.setCell ⟨b,0,none⟩ u).setCell ⟨b,1,none⟩ v):=
 (h.setCell (p:=⟨b,0,none⟩) hb u).setCell (p:=⟨b,1,none⟩) hb v
theorem x2c {a ts':List Tr}{t2:Tr}{h H:Nat}(h1:Fr a t2.kids (2*h))(h2:t2.pg=0)(h3:C8 h t2 ts' H):Fr a ts' (2*H):=by
 obtain⟨h4,h5⟩:=h3 h2;have h6:=(h1.new h2).trans h4;have h7:=h1.nw;exact⟨h6.pg,by omega,h6.on⟩
theorem XK (p:Option Addr)(ts:List Tr)(n0 m n1:Int)(key:ByteArray)(a:Option Addr)(n c:Nat)(o:List En)(w:World)(hkey:x2x key o)(hoE:∀x∈o,okE x)
  (hno:o.length=n) (hz:a=none→c=0) (hes:CS w a o) (H:Nat) (ht:Y6 w p ts H) (hm:IntKind.i64.wrap (n0+m)=n1):
  Calls prog 58 #[.agg #[.pointer p,.int .i64 n0],.int .i64 m,.string key,.slice a n c] w fun e w'=>∃p' ts' H',e=.returned (.agg #[.pointer p',.int .i64 n1])∧Y6 w' p' ts' H'∧(esL ts'=rep (esL ts) key o∧Fr ts ts' (2*H'))∧zB w w':=by
 --the node at which it begins
 obtain⟨W1,hW1,hT1,hb1⟩:=Z1 w TT #[.pointer p,.int .i64 n0];obtain⟨W2,hW2,hT2,hb2⟩:=Z1 W1 TT #[.pointer none,.int .i64 0];have hs1:W1.heap.size=w.heap.size+1:=by rw[←hW1];simp
 have hb12:=hb1.trans (hb2.mono hb1.size);have hT1':TB W2 w.heap.size p n0:=TB.ext (w:=W1) hT1 hb2;have hT2':TB W2 (w.heap.size+1) none 0:=by rw[←hs1];exact hT2
 have main:∀(W3:World) (bn h:Nat) (t:Tr),zB W2 W3→NdT W3 h none none bn t→t.sz≤504→(0<h→3≤t.sz)→t.es=esL ts→(∀u,Fr t.kids u (2*h)→Fr ts u (2*h))→
   ∃W,W3.drew=W∧zB W2 W∧Calls prog 91 #[pt bn,.string key,.slice a n c] W (fun e w'=>∃b2,e=.returned (pt b2)∧zB W w'∧
    Calls prog 90 #[pt b2] w' fun e w''=>∃p ts' H,e=.returned (.pointer p)∧Y6 w'' p ts' H∧(esL ts'=rep (esL ts) key o∧Fr ts ts' (2*H))∧zB w' w''):=fun W3 bn h t hb3 hn hs hs3 hte htk=>by
  have hbd:zB W3 W3.drew:=(zbr _ _).drew;have hbx:=hb3.trans (hbd.mono hb3.size);refine⟨_,rfl,hbx,?_⟩;have hby:=hb12.trans (hbx.mono hb12.size);refine(C7 h bn t key a n c o W3.drew (NdT.ext hbd h hn) hs hs3 (z5g key) hkey hoE hno hz (hes.below hby (zlr _))).mono ?_;rintro e w' ⟨b2,t2,rfl,hn2,⟨he2,hp2,hf2⟩,hs2,_,hb⟩;refine⟨b2,rfl,hb,(z7k w' hn2 (by omega)).mono ?_⟩;rintro e w'' ⟨p,ts',H,rfl,ht,he,hf,hb2⟩;exact⟨p,ts',H,rfl,ht,⟨by rw[he,he2,hte],x2c (htk _ hf2) hp2 hf⟩,hb2⟩
 have Main:=zh main;have HW:=zh (zai hW1 hW2);have HT:=zh (zai hT1' hT2');have HB:=zh hb12;have Hs1:=zh hs1;have tail:∀(W3 W:World) (bn:Nat),W3.drew=W→zB W2 W→
   Hid (∀w' w'',zB W w'→zB w' w''→zB w w''∧TB w'' (w.heap.size+1) none 0):=fun W3 W bn _ hbW w' w'' h1 h2=>by
  have h3:=h1.trans (h2.mono h1.size);have h4:=hbW.trans (h3.mono hbW.size);exact⟨hb12.trans (h4.mono hb12.size),hT2'.ext h4⟩
 have Tail:=zh tail;clear main tail hW1 hW2 hT1 hT2 hb1 hb2 hb12 hT1' hT2' hs1 hkey hoE hno hz hes
 rcases ht with ⟨rfl,rfl,_⟩|⟨bn,h,t,rfl,rfl,hn,hs,hs3,_⟩
 ·obtain⟨W3,hW3,hT3,hb3⟩:=Z1 W2 NT #[.int .i64 0,Z0,Z0,Z0];have hnd:NdT W3 0 none none W2.heap.size (.leaf 0 []):=⟨0,[],rfl,⟨Z0,⟨NT,rfl,hT3⟩,CV.none _⟩,trivial,List.Pairwise.nil,fun x hx=>(by cases hx)⟩
  obtain⟨W,hW,hbW,hcall⟩:=Main.out W3 W2.heap.size 0 (.leaf 0 []) hb3 hnd (by decide) (fun h=>by omega) rfl (fun _ h=>h);have Ht:=zh (Tail.out W3 W W2.heap.size hW hbW).out;have hs2:W2.heap.size=w.heap.size+1+1:=by rw[←HW.out.2];simp[Hs1.out]
  have q:∀w',Zx (fun i=>i=w.heap.size+1) W w'→w'.cell? ⟨w.heap.size,1,none⟩=some (.int .i64 n0):=fun w' t=>((HT.out.1.ext hbW).turn t (by omega)).c1
  have Hcall:=zh hcall;have HW3:Hid ((((w.alloc (.cells #[.pointer none,.int .i64 n0] TT)).alloc (.cells #[.pointer none,.int .i64 0] TT)).alloc (.cells #[.int .i64 0,Z0,Z0,Z0] NT)).drew=W):=by
   show _=_;rw[HW.out.1,HW.out.2,hW3,hW]
  rw[hs2] at Hcall;clear hW3 hT3 hb3 hnd hW hbW hcall Main Tail HT hs2 HW HB Hs1
  go_enter func58,ntmps58
  go_wp2_with fail;refine rgt (F:=fun i=>i=w.heap.size+1) [(0,true),(1,true),(2,true),(5,true),(6,true),(7,true),(8,true),(3,false),(4,false),(9,true),(10,false)] (h:= ?_);rw[HW3.out];iterate 7 (refine gtr (v:= ?_) rfl (by rfl) ?_ ?_;rotate_left;(intro w' hw';go_simp;with_reducible rfl);simp only[Act.put,zs0,zs1,zs2])
  clear q;refine gtc rfl (by rfl) (fun K hK=> ?_);go_simp;refine Hcall.out.mono ?_;rintro e w4 ⟨b2,rfl,hb4,hc4⟩;refine hK _ _ (x3x hb4) ?_;clear hK K Hcall;have Hc4:=zh hc4;have Hb4:=zh hb4;clear hc4 hb4;refine gtc rfl (by rfl) (fun K hK=> ?_);go_simp;refine Hc4.out.mono ?_;rintro e w5 ⟨p5,ts5,H5,rfl,ht5,hf5,hb5⟩;have HF5:=zh hf5;refine hK _ _ (x3x hb5) ?_;clear hK K Hc4;have hfin:=Ht.out w4 w5 Hb4.out hb5;have HT5:=zh (ht5.turn (Yv w5 (w.heap.size+1) (.pointer p5) (.int .i64 n1)) (TF.one hfin.2));have HF:=zh hfin.1;have c0:=hfin.2.c0;have c1:=hfin.2.c1;have f0:=hfin.2.fz 0;have f1:=hfin.2.fz 1;have HP:=zh (hfin.2.put p5 n1);clear hfin ht5 hf5 hb5 Hb4 Ht
  (refine gtr (v:= ?_) rfl (by rfl) ?_ ?_;rotate_left;(intro w' hw';go_simp;with_reducible rfl);simp only[Act.put,zs0,zs1,zs2])
  refine gtc rfl (by rfl) (fun K hK=> ?_);go_simp;refine hK _ _ (Yv _ _ _ _) ?_;clear hK K;refine Yj ?_;have d0:=HP.out.c0;have d1:=HP.out.c1;go_wp2_with fail;refine bodyPost_ret (v:=.agg #[.pointer p5,.int .i64 n1]) (by rw[Yk rfl];go_simp) rfl ⟨p5,ts5,H5,rfl,HT5.out,HF5.out,X4 HF.out (by omega)⟩
 ·have hn2:=NdT.ext HB.out h hn;obtain⟨W,hW,hbW,hcall⟩:=Main.out W2 bn h t (zbr _ _) hn2 hs hs3 (U4 t).symm (fun u hu=>by have:=(Fr.kids t).trans hu;rwa [Nat.zero_add] at this);have Ht:=zh (Tail.out W2 W bn hW hbW).out;have q:∀w',Zx (fun i=>i=w.heap.size+1) W w'→w'.cell? ⟨w.heap.size,1,none⟩=some (.int .i64 n0):=fun w' t=>((HT.out.1.ext hbW).turn t (by omega)).c1
  have Hcall:=zh hcall;have HW3:Hid (((w.alloc (.cells #[.pointer (some ⟨bn,0,none⟩),.int .i64 n0] TT)).alloc (.cells #[.pointer none,.int .i64 0] TT)).drew=W):=by
   show _=_;rw[HW.out.1,HW.out.2,hW]
  clear hW hbW hcall Main Tail HT HW HB Hs1 hn hn2 hs hs3
  go_enter func58,ntmps58
  go_wp2_with fail;refine rgt (F:=fun i=>i=w.heap.size+1) [(0,true),(1,true),(2,true),(5,true),(6,true),(7,true),(8,true),(3,false),(4,false),(9,true),(10,false)] (h:= ?_);rw[HW3.out];iterate 7 (refine gtr (v:= ?_) rfl (by rfl) ?_ ?_;rotate_left;(intro w' hw';go_simp;with_reducible rfl);simp only[Act.put,zs0,zs1,zs2])
  clear q;refine gtc rfl (by rfl) (fun K hK=> ?_);go_simp;refine Hcall.out.mono ?_;rintro e w4 ⟨b2,rfl,hb4,hc4⟩;refine hK _ _ (x3x hb4) ?_;clear hK K Hcall;have Hc4:=zh hc4;have Hb4:=zh hb4;clear hc4 hb4;refine gtc rfl (by rfl) (fun K hK=> ?_);go_simp;refine Hc4.out.mono ?_;rintro e w5 ⟨p5,ts5,H5,rfl,ht5,hf5,hb5⟩;have HF5:=zh hf5;refine hK _ _ (x3x hb5) ?_;clear hK K Hc4;have hfin:=Ht.out w4 w5 Hb4.out hb5;have HT5:=zh (ht5.turn (Yv w5 (w.heap.size+1) (.pointer p5) (.int .i64 n1)) (TF.one hfin.2));have HF:=zh hfin.1;have c0:=hfin.2.c0;have c1:=hfin.2.c1;have f0:=hfin.2.fz 0;have f1:=hfin.2.fz 1;have HP:=zh (hfin.2.put p5 n1);clear hfin ht5 hf5 hb5 Hb4 Ht
  (refine gtr (v:= ?_) rfl (by rfl) ?_ ?_;rotate_left;(intro w' hw';go_simp;with_reducible rfl);simp only[Act.put,zs0,zs1,zs2])
  refine gtc rfl (by rfl) (fun K hK=> ?_);go_simp;refine hK _ _ (Yv _ _ _ _) ?_;clear hK K;refine Yj ?_;have d0:=HP.out.c0;have d1:=HP.out.c1;go_wp2_with fail;refine bodyPost_ret (v:=.agg #[.pointer p5,.int .i64 n1]) (by rw[Yk rfl];go_simp) rfl ⟨p5,ts5,H5,rfl,HT5.out,HF5.out,X4 HF.out (by omega)⟩
end Go.Proofs.YtdgladhfibfdlaaGreatDoor
