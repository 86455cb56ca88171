/-
  Steps.
-/
import Derived.Test.YtdgladhfibfdlaaGreatDoorQPLs27
import Derived.Test.YtdgladhfibfdlaaGreatDoorProg
import Derived.Test.YtdgladhfibfdlaaGreatDoorQPLs26
namespace Go.Proofs.YtdgladhfibfdlaaGreatDoor
open Go Go.RowKit
def tk2 (S:RS):Nat×RS:=((y1t S).1*256+(y1t (y1t S).2).1,(y1t (y1t S).2).2)
theorem q0s:tk2 ⟨[],true⟩=(0,⟨[],true⟩):=rfl
theorem y9j {l:List Nat}(b:Bool)(h:2≤l.length):tk2 ⟨l,b⟩=(l.getD 0 0*256+l.getD 1 0,⟨l.drop 2,false⟩):=by
 match l,h with
 | x::y::r,_=>rfl
theorem z9t {l:List Nat}(b:Bool)(h:l.length<2):(tk2 ⟨l,b⟩).2=⟨[],true⟩:=by
 match l,h with
 | [],_=>rfl
 | [x],_=>rfl
 | _::_::_,h=>simp at h;omega
def StF (l:List Nat)(ks:List ByteArray)(is:List Int)(S:RS):Prop:=
 (S.wr=false∧2≤l.length∧∃ps,is=z71 l::ps∧decR (l.drop 2)=(decR S.l).map fun x=>(ks++x.1,ps++x.2))∨(S.wr=true∧S.l=[]∧z2r l=none)
theorem x5p (l:List Nat):StF l [] [((tk2 ⟨l,false⟩).1:Int)] (tk2 ⟨l,false⟩).2:=by
 rcases zng l.length 2 with h|h
 ·rw[z9t false h];exact .inr ⟨rfl,rfl,y4f (.inr h)⟩
 ·rw[y9j false h];refine .inl ⟨rfl,h,[],rfl,?_⟩;show decR (l.drop 2)=(decR (l.drop 2)).map _
  cases decR (l.drop 2)<;>rfl
theorem x8w {l:List Nat}{ks:List ByteArray}{is:List Int}{S:RS}(h:StF l ks is S)(h0:S.l≠[]):
  StF l (ks++[bstr (z0k S 40).1]) (is++[((tk2 (z0k S 40).2).1:Int)]) (tk2 (z0k S 40).2).2∧(tk2 (z0k S 40).2).2.l.length<S.l.length:=by
 have hpos:0<S.l.length:=List.length_pos_iff.2 h0
 rcases h with ⟨hw,h2,ps,rfl,hd⟩|⟨_,hl,_⟩
 ·obtain⟨L,b⟩:=S;dsimp only at hw hd h0 hpos;subst hw
  cases hw1:(z0k ⟨L,false⟩ 40).2.wr with
  | true=>
   rw[z6g hw1,q0s];refine⟨.inr ⟨rfl,rfl,?_⟩,hpos⟩;rw[z9d h0 (y11 hw1)] at hd;exact y0q hd
  | false=>
   have hlt:=z5u hw1;have e:=x5b (S:=(z0k ⟨L,false⟩ 40).2) rfl hw1
   rcases Nat.lt_or_ge (z0k ⟨L,false⟩ 40).2.l.length 2 with h3|h3
   ·have ht:=z9t false h3;rw[←e] at ht;rw[ht];refine⟨.inr ⟨rfl,rfl,?_⟩,hpos⟩;rw[z9d h0 (z5t h3)] at hd;exact y0q hd
   ·have ht:=y9j false h3;rw[←e] at ht;rw[ht];have hp:=z6j hw1 h3;rw[z6k hp] at hd;refine⟨.inl ⟨rfl,h2,ps++[(((z0k ⟨L,false⟩ 40).2.l.getD 0 0*256+(z0k ⟨L,false⟩ 40).2.l.getD 1 0:Nat):Int)],rfl,?_⟩,?_⟩
    ·rw[hd];show Option.map _ (Option.map _ (decR (List.drop 2 _)))=Option.map _ (decR (List.drop 2 _))
     cases decR (List.drop 2 (z0k ⟨L,false⟩ 40).2.l) with
     | none=>rfl
     | some x=>simp only[Option.map_some,List.append_assoc,List.cons_append,List.nil_append]
    ·show(List.drop 2 _).length<_;rw[zld];show _<L.length;have:(z0k ⟨L,false⟩ 40).2.l.length<L.length:=hlt;omega
 ·exact absurd hl h0
theorem q3d {l:List Nat}{ks:List ByteArray}{is:List Int}{S:RS}(h:StF l ks is S)(h0:S.l=[])(hl:l.length≤504):
  (okS S=false→z2r l=none)∧(okS S=true→¬mayF ks is→z2r l=none)∧(okS S=true→mayF ks is→z2r l=some (ks,is)):=by
 rcases h with ⟨hw,h2,ps,rfl,hd⟩|⟨hw,_,hn⟩
 ·rw[h0,z8l] at hd;have e:decR (l.drop 2)=some (ks,ps):=by rw[hd];simp
  refine⟨fun ho=> ?_,fun _ hm=>x3t e hm,fun _ hm=>y0r hl h2 e hm⟩;unfold okS at ho;rw[hw,h0] at ho;cases ho
 ·have:okS S=false:=by unfold okS;rw[hw];rfl
  exact⟨fun _=>hn,(fun ho=>by rw[this] at ho;cases ho),(fun ho=>by rw[this] at ho;cases ho)⟩
theorem y0d {S:RS}(h0:S.l≠[]):(z0k S 40).2.l.length<S.l.length:=by
 have hpos:0<S.l.length:=List.length_pos_iff.2 h0
 cases hw1:(z0k S 40).2.wr with
 | true=>rw[z6g hw1];exact hpos
 | false=>exact z5u hw1
section
variable {P:Program} {w:World} {o:Oper} {a:Act} {K:Act→World→Prop} {Q:Exit→Act→World→Prop}
theorem y0e (s x:Operand)(t:TypeId)
  (ho:o.op=.call {callee:=.builtin .append,args:= #[s,x],argTypes:= #[t,t]})
  (base:Nat) (e:TypeId) (ht:P.underlying t=some (.slice e)) (h2:(P.info? e).map (fun i=>(i.zero,i.size,i.bytes))=some (some (.int .i64 0),1,8))
  (v:Value) (is:List Int) (hs:a.eval s=v) (hown:Hid (w.ownsRow base e 1 v is.length (iv is)))
  (g c:Nat) (y:Int) (hx:a.eval x=.slice (some ⟨g,0,none⟩) 1 c) (hy:w.cell? ⟨g,0,none⟩=some (.int .i64 y))
  (hlen:(is.length+1)*8≤140737488355328) (hbase:base≤w.heap.size)
  (h:∀v' w',Hid (w'.ownsRow base e 1 v' (is++[y]).length (iv (is++[y])))→Hid (w.grownBy w' v.ownBlock)→K (a.put o.dst v') w'):
  Oper.wp P o a w K Q:=by
 obtain⟨i0,hi,hz0,hz1,hz2⟩:=info_parts h2;obtain⟨v',w',hr,h3,h4,_⟩:=z3e (P:=P) (w:=w) base t o.type e i0 (.int .i64 0) 1 8 ht hi hz0 hz1 hz2 rfl (by decide) v is.length (iv is) hown.out ⟨g,0,none⟩ 1 c (iv [y]) rfl (by
  intro j u hj
  rcases j with _|j
  ·rw[z2m,Nat.zero_add,hy,←hj];rfl
  ·cases hj) (by
  intro u hu;simp only[iv,List.map_cons,List.map_nil,List.mem_singleton] at hu;subst hu;rfl) (by unfold maxLen;omega) hlen hbase
 unfold Oper.wp;simp[execOp,ho,resolve,invoke,builtin,hs,hx,hr,Result.andThen];have e1:iv (is++[y])=iv is++iv [y]:=List.map_append;exact h v' w' (by show w'.ownsRow _ _ _ _ _ _;rw[e1,zla];exact h3) h4
end
theorem z04 {w:World}{B E T b sz n:Nat}{v:Value}{xs:List Value}{A:Array Value}(h:w.ownsRow B E sz v n xs)(hb:w.heap[b]? =some (.cells A T (0,0)))(hET:E≠T):∀i,v.ownBlock=some i→i≠b:=fun i hi e=>by
 subst e
 rcases h.2 with ⟨h1,_⟩|⟨g,cap,cur,h1,h2,h3,h4⟩
 ·subst h1;cases hi
 ·subst h1;simp only[Value.ownBlock,Option.some.injEq] at hi;subst hi;rw[h3] at hb;exact hET (by cases hb;rfl)
theorem y5p {w:World}{B E T sz sz2 n m:Nat}{u v:Value}{xs ys:List Value}(h:w.ownsRow B E sz u n xs)(k:w.ownsRow B T sz2 v m ys)(hET:E≠T):∀i,u.ownBlock=some i→v.ownBlock≠some i:=fun i hi hj=>by
 rcases k.2 with ⟨h1,_⟩|⟨g,cap,cur,h1,h2,h3,h4⟩
 ·subst h1;cases hj
 ·subst h1;simp only[Value.ownBlock,Option.some.injEq] at hj;subst hj;exact z04 h h3 hET g hi rfl
theorem y02 {w:World}{B E sz n:Nat}{v:Value}{xs:List Value}(h:w.ownsRow B E sz v n xs):∀i,v.ownBlock=some i→B≤i:=fun i hi=>(h.lt i hi).1
abbrev TT:TypeId:=28
def x1j (w:World)(p:Option Addr)(es:List En)(H:Nat):Prop:=
 (p=none∧es=[]∧H=0)∨∃b h s,p=some ⟨b,0,none⟩∧Nd w h none none b es s∧s≤504∧(0<h→3≤s)∧es≠[]∧H=h+1
def z09 (w:World)(p:Option Addr)(ts:List Tr)(H:Nat):Prop:=
 (p=none∧ts=[]∧H=0)∨∃b h t,p=some ⟨b,0,none⟩∧ts=[t]∧NdT w h none none b t∧t.sz≤504∧(0<h→3≤t.sz)∧t.es≠[]∧H=h+1
theorem z09.none (w:World):z09 w none [] 0:=.inl ⟨rfl,rfl,rfl⟩
theorem z09.tq {w:World}{p:Option Addr}{ts:List Tr}{H:Nat}(h:z09 w p ts H):x1j w p (esL ts) H:=by
 rcases h with ⟨h1,rfl,h2⟩|⟨b,h,t,h1,rfl,h2,h3,h4,h5,h6⟩
 ·exact .inl ⟨h1,rfl,h2⟩
 ·exact .inr ⟨b,h,t.sz,h1,by rw[z14];exact NdT.nd h h2,h3,h4,by rw[z14];exact h5,h6⟩
theorem z09.ext {w w':World}{p:Option Addr}{ts:List Tr}{H:Nat}(h:z09 w p ts H)(hb:Below w.heap.size w w'):z09 w' p ts H:=by
 rcases h with h|⟨b,h,t,h1,h0,h2,h3⟩
 ·exact .inl h
 ·exact .inr ⟨b,h,t,h1,h0,NdT.ext hb h h2,h3⟩
def x8x (w:World)(p:Option Addr)(es:List En)(H:Nat):Prop:=∃es',es=bare es'∧x1j w p es' H
theorem x1j.tp {w:World}{p:Option Addr}{es:List En}{H:Nat}(h:x1j w p es H):x8x w p (bare es) H:=⟨es,rfl,h⟩
theorem z09.tp {w:World}{p:Option Addr}{ts:List Tr}{H:Nat}(h:z09 w p ts H):x8x w p (bare (esL ts)) H:=h.tq.tp
theorem z0m (W:World)(T:TypeId)(vs:Array Value):∃W',W.alloc (.cells vs T)=W'∧W'.heap[W.heap.size]? =some (.cells vs T (0,0))∧Below W.heap.size W W':=
 ⟨_,rfl,by show(W.heap.push _)[W.heap.size]? =_;rw[Array.getElem?_push_size],(zbr _ _).alloc (zlr _) _⟩
theorem y9k (k:ByteArray):ins none none k:=⟨trivial,trivial⟩
set_option maxRecDepth 100000 in
theorem x8y (p:Option Addr)(n:Int)(es:List En)(H:Nat)(key:ByteArray)(w:World)(ht:x1j w p es H):
  Calls Tryz.prog 57 #[.agg #[.pointer p,.int .i64 n],.string key] w fun e w'=>e=.returned (.tuple #[.string (getE es key),.bool (isE es key)])∧Below w.heap.size w w':=by
 obtain⟨w0,hw0,hc0,hb0⟩:=z0m w TT #[.pointer p,.int .i64 n];have HG:=zh hw0;have HB:=zh hb0
 rcases ht with ⟨rfl,rfl,_⟩|⟨b,h,s,rfl,hn,hs,hs3,_⟩
 ·clear hc0 hw0 hb0
  go_enter Tryz.func57,Tryz.ntmps57
  go_wp2
  go_ret2
  exact⟨rfl,by rw[HG.out];exact HB.out⟩
 ·have hn0:=zh (Nd.ext hb0 h hn);have Hs:=zh (zai hs hs3);clear hc0 hw0 hb0 hn hs hs3
  go_enter Tryz.func57,Tryz.ntmps57
  go_wp2_with fail;rw[HG.out]
  go_loopg [6] h (fun k u wr=>∃(b:Nat) (lo hi:SB) (es':List En) (s':Nat),u=pt b∧Hid (Nd wr k lo hi b es' s')∧Hid (ins lo hi key)∧Hid (getE es' key=getE es key∧isE es' key=isE es key)∧Hid (s'≤504∧(0<k→3≤s'))∧Hid (Below w.heap.size w wr))
  case atStart=>exact⟨b,none,none,es,s,rfl,hn0,y9k key,⟨rfl,rfl⟩,Hs,HB⟩
  case round=>
   obtain⟨b,lo,hi,es',s',rfl,hn,hin,heq,hss,hB⟩:=hrel
   cases gk with
   | zero=>
    obtain⟨⟨vc,nb,a0,c0,rfl,s0,z0,hnc,hcm⟩,_,hsr,hok,hsz⟩:=hn.out;have g1:=z1q (fun x hx=>(hok x hx).1);have hel:es'.length≤200:=by have:=hss.out.1;unfold z0v at hsz;omega
    have q0:=nb.c1;have Hnb:=zh nb;have hil:=zh (z37 b _ _ wr nb);have Hfd:=zh (y47 a0 es'.length c0 es' key wr rfl s0 hsr (by omega));have HS:=zh s0;have Hie:=zh (y4l es' key);have hget:Hid (getE es' key=if isE es' key=true then (ea es' (fE es' key)).v else ByteArray.empty):=rfl;obtain⟨N,hN⟩:∃N,es'.length=N:=⟨_,rfl⟩
    have HN:=zh hN;rw[hN] at q0 Hfd Hnb hel;rw[hN] at Hie;have Heq:=zh (zai heq.out.1.symm heq.out.2.symm);clear nb s0 z0 hnc hcm hsr hok hsz g1 hN hn hin hss heq;generalize fE es' key=F at*
    cases hI:isE es' key with
    | true=>
     rw[hI] at Hfd Hie Heq;have hFN:F<N:=by
      have:=Hie.out.symm;rw[Bool.and_eq_true,decide_eq_true_iff] at this;exact this.1
     obtain⟨g,o,rfl,hcell⟩:=HS.out.ents (by rw[HN.out];omega);have r1:=(hcell F (by rw[HN.out];exact hFN)).2.1;have Hg2:Hid (getE es' key=(ea es' F).v):=by rw[hget.out,if_pos hI];rfl
     have hg3:Hid (getE es key=(ea es' F).v):=by rw[Heq.out.1];exact Hg2.out
     have i1:(F:Int)<(N:Int):=by omega
     generalize (ea es' F).v=y at*;have lr:=block_lt_of_cell r1;have Hr1:=zh r1;clear hcell hget Hie hI r1 HS Hg2;go_wp2_with fail;refine hil.out.mono ?_;rintro e w' ⟨rfl,rfl⟩;go_wp2_with fail;refine Hfd.out.mono ?_;rintro e w2 ⟨rfl,hb2⟩;have q1:=(Hnb.out.ext hb2).c1;have r2:w2.cell? ⟨g,o+F*3+1,none⟩=some (.string y):=by
      rw[hb2.cell (p:=⟨g,o+F*3+1,none⟩) lr];exact Hr1.out
     have HB2:=zh (hB.out.trans (hb2.mono hB.out.size));clear hb2 Hfd hil q0 lr;go_wp2
     go_ret2
     exact⟨by rw[hg3.out,Heq.out.2];rfl,HB2.out⟩
    | false=>
     rw[hI] at Hfd Hie Heq;have Hg2:Hid (getE es' key=ByteArray.empty):=by rw[hget.out,if_neg (by rw[hI];decide)];rfl
     have hg3:Hid (getE es key=ByteArray.empty):=by rw[Heq.out.1];exact Hg2.out
     clear hget Hie hI HS Hg2;go_wp2_with fail;refine hil.out.mono ?_;rintro e w' ⟨rfl,rfl⟩;go_wp2_with fail;refine Hfd.out.mono ?_;rintro e w2 ⟨rfl,hb2⟩;have HB2:=zh (hB.out.trans (hb2.mono hB.out.size));clear hb2 Hfd hil q0;go_wp2
     go_ret2
     exact⟨by rw[hg3.out,Heq.out.2];rfl,HB2.out⟩
   | succ h=>
    obtain⟨ks,ps,ess,⟨vk,vp,nb,⟨a0,c0,rfl,s0,_⟩,⟨a1,c1,rfl,s1,_⟩⟩,hr,hfl,hsz⟩:=hn.out;have hle:=hr.len;have hkf:=hr.keys Good.facts;have hgr:=z0y (hr.facts Good.facts).2.2.2;have hkl:ks.length≤126:=by have:=hss.out.1;unfold brSz at hsz;omega
    have hway:=hr.way Good.facts hin.out;have hwl:=z9f ks key;have hsplit:es'=(ess.take (wayS ks key)).flatten++(ess.getD (wayS ks key) []++(ess.drop (wayS ks key+1)).flatten):=by
     rw[hfl,←x8t (by omega),←List.flatten_append,List.take_append_drop]
    have hg1:=x7y hway.2.1 hway.2.2 (ess.getD (wayS ks key) []);have hg2:=(x31 hway.2.1 hway.2.2 (ess.getD (wayS ks key) [])).2;rw[←hsplit] at hg1 hg2;have Heq:Hid (getE (ess.getD (wayS ks key) []) key=getE es key∧isE (ess.getD (wayS ks key) []) key=isE es key):=⟨hg1.symm.trans heq.out.1,hg2.symm.trans heq.out.2⟩
    obtain⟨sk,hk1,hk2,hk3⟩:=hr.kid (d:=[]) hwl;obtain⟨g2,o2,rfl,hc2⟩:=s1.ptrs (by omega);have hil:=zh (z38 b _ _ _ _ _ wr nb (by omega));obtain⟨W,hW⟩:∃W,wr.drew=W:=⟨_,rfl⟩
    have hbd:Below wr.heap.size wr W:=by rw[←hW];exact(zbr _ _).drew
    have q1:∀w',Ext W w'→w'.cell? ⟨b,2,none⟩=some (.slice a0 ks.length c0):=fun w' hx=>((nb.ext hbd).ext hx).c2
    have q2:∀w',Ext W w'→w'.cell? ⟨b,3,none⟩=some (.slice (some ⟨g2,o2,none⟩) ps.length c1):=fun w' hx=>((nb.ext hbd).ext hx).c3
    have Hway:=zh (y43 a0 ks.length c0 ks key W rfl (s0.below hbd (zlr _)).texts hkf (by omega));have hpt:=hc2 (wayS ks key) (by omega);have lpt:=block_lt_of_cell hpt;have Hk:=zh (zai hk1 (zai hk2 hk3));have Hin:=zh hway.1;have HW:=zh (zai hW hbd);have hwm:wayS ks key<ps.length:=by omega
    have hm1:ps.length≤127:=by omega
    have Hpt:=zh hpt;clear nb s0 s1 hc2 hway hwl hsplit hkf hr hgr hle hkl hg1 hg2 hfl hsz hW hbd hpt hn hin heq hss hk1 hk2 hk3;generalize wayS ks key=A at*;generalize na ps A=pk at*;generalize ps.length=m at*;generalize ks.length=n0 at*;have i1:(0:Int)≤(A:Int):=by omega
    have i2:(A:Int)<(m:Int):=by omega
    have z0:IntKind.i64.wrap (A:Int)=(A:Int):=by rw[IntKind.wrap_i64];omega
    go_wp2_with fail;refine hil.out.mono ?_;rintro e w' ⟨rfl,rfl⟩;clear hil;go_wp2_with fail;refine z0h [(0,true),(1,true),(2,true),(3,true),(4,true),(5,true),(6,true),(7,true),(8,true),(9,false),(10,true),(11,true),(12,true)] (by kernel_rfl) (by kernel_rfl) (by kernel_rfl) (by kernel_rfl) (fun _ _ _ _ _ h=>h) ?_;rw[HW.out.1];iterate 9 (refine grr (v:= ?_) rfl (by rfl) ?_ ?_;rotate_left;(intro w' hw';go_simp;with_reducible rfl);simp only[Act.put,zs0,zs1,zs2])
    clear q1 q2;refine grc rfl (by rfl) (fun K hK=> ?_);go_simp;refine Hway.out.mono ?_;rintro e w2 ⟨rfl,hb2⟩;refine hK _ _ hb2 ?_;clear hK K Hway;have hbx:=HW.out.2.trans (hb2.mono HW.out.2.size);have r2:∀w',Ext w2 w'→w'.cell? ⟨g2,o2+A,none⟩=some (pt pk):=fun w' hx=>by
     rw[(hbx.trans (hx.mono hbx.size)).cell (p:=⟨g2,o2+A,none⟩) lpt];exact Hpt.out
    have HB2:=zh (hB.out.trans (hbx.mono hB.out.size));have Hn2:Hid (Nd w2 h (lob lo ks A) (hib hi ks A) pk (ess.getD A []) sk):=Nd.ext hbx h Hk.out.1;have Hs2:Hid (sk≤504∧(0<h→3≤sk)):=⟨Hk.out.2.2,fun _=>by have:=Hk.out.2.1;omega⟩
    clear hb2 hbx lpt Hpt HW Hk hB;iterate 3 (refine grr (v:= ?_) rfl (by rfl) ?_ ?_;rotate_left;(intro w' hw';go_simp;with_reducible rfl);simp only[Act.put,zs0,zs1,zs2])
    refine z0l ?_;clear r2;go_wp2_with fail
    go_roundg h
    case measure=>omega
    case rel=>exact⟨pk,_,_,_,sk,rfl,Hn2,Hin,Heq,Hs2,HB2⟩
theorem q3e (p:Option Addr)(n:Int)(w:World):Calls Tryz.prog 16 #[.agg #[.pointer p,.int .i64 n]] w fun e w'=>e=.returned (.int .i64 n)∧Below w.heap.size w w':=by
 go_enter Tryz.func16,Tryz.ntmps16
 go_wp2;go_ret;exact⟨rfl,(zbr _ _).alloc (zlr _) _⟩
def z6v (w0 w:World)(L es:List En)(e:Ending)(w':World):Prop:=
 ∃v',e=.returned v'∧w'.ownsRow w0.heap.size ET entE.sz v' (L.length+es.length) (entE.row (L++es))∧Below w0.heap.size w0 w'∧Below w0.heap.size w w'
theorem x5q (es:List En)(k:Nat)(h:k<es.length):es.take (k+1)=es.take k++[ea es k]:=z7a es k h
set_option maxRecDepth 100000 in
theorem z6w (w0:World)(v:Value)(L:List En)(a:Option Addr)(n c:Nat)(es:List En)(w:World)(hB:Below w0.heap.size w0 w)(hown:w.ownsRow w0.heap.size ET entE.sz v L.length (entE.row L))(hn:es.length=n)(hs:CS w0 a es)(hl:L.length+n≤100000):
  Calls Tryz.prog 82 #[v,.slice a n c] w fun e w'=>z6v w0 w L es e w':=by
 have Hs:=zh hs;have Hn:=zh hn;have Hb0:=zh hB;have Hw0:Hid (w.ownsRow w0.heap.size ET entE.sz v (L.length+0) (entE.row (L++es.take 0))):=by
  rw[List.take_zero,List.append_nil,Nat.add_zero];exact hown
 clear hs hn hB hown
 go_enter Tryz.func82,Tryz.ntmps82
 go_wp2_with fail
 go_loopw [0,6,9] (fun u _ i wr=>∃(k:Nat) (x:Value),x=u∧i=.int .i64 k∧k≤n∧Hid (wr.ownsRow w0.heap.size ET entE.sz x (L.length+k) (entE.row (L++es.take k)))∧Hid (Below w0.heap.size w0 wr)∧Hid (Below w0.heap.size w wr)) (fun _ _ i _=>n-(intOf i).toNat)
 case atStart=>exact⟨0,v,rfl,rfl,by omega,Hw0,Hb0,zbr _ _⟩
 case round=>
  obtain⟨k,x,rfl,rfl,hk,hown,hB,hC⟩:=hrel
  by_cases hlt:k<n
  ·obtain⟨g,o,rfl,hcell⟩:=(Hs.out.below hB.out (zlr _)).ents (by rw[Hn.out];omega);obtain⟨p0,p1,_,p2,⟨sa,sc,rfl,_⟩⟩:=hcell k (by rw[Hn.out];exact hlt);have hsz:=hB.out.size;have hsz2:=hC.out.size;obtain⟨i0,hi,hz,hs0,hby⟩:=info_parts q2x;have hlit:ES entE ((wr.alloc (.cells #[.string (ea es k).k,.string (ea es k).v,.slice sa (ea es k).ch.length sc] TCT)).alloc (.cells #[.string (ea es k).k,.string (ea es k).v] ET)) (some ⟨wr.heap.size+1,0,none⟩) [ea es k]:=by
    have h1:=z0z (wr.alloc (.cells #[.string (ea es k).k,.string (ea es k).v,.slice sa (ea es k).ch.length sc] TCT)) ET #[.string (ea es k).k,.string (ea es k).v];rw[show(wr.alloc (.cells #[.string (ea es k).k,.string (ea es k).v,.slice sa (ea es k).ch.length sc] TCT)).heap.size=wr.heap.size+1 by simp] at h1;exact ES.lit (E:=entE) (l:=[ea es k]) h1
   obtain⟨v1,w1,hrun,hb1,ho1⟩:=z1e (P:=Tryz.prog) (E:=entE) w0.heap.size 45 45 ET Tryz.underlying45 q2x x (L.length+k) (L++es.take k) ((hown.out.alloc _).alloc _) (by simp;omega) (some ⟨wr.heap.size+1,0,none⟩) 1 1 [ea es k] rfl (fun h=>by cases h) hlit (by unfold maxLen;omega) (by show _*32≤_;omega);have hba:Below w0.heap.size wr w1:=(((zbr _ wr).alloc hsz _).alloc (by simp;omega) _).trans hb1;have Ho1:Hid (w1.ownsRow w0.heap.size ET entE.sz v1 (L.length+(k+1)) (entE.row (L++es.take (k+1)))):=by
    rw[x5q es k (by rw[Hn.out];exact hlt),←List.append_assoc,←Nat.add_assoc];exact ho1
   have HB1:=zh (hB.out.trans hba);have HC1:=zh (hC.out.trans hba);generalize ea es k=y at*;obtain⟨yk,yv,yc⟩:=y;dsimp only at p0 p1 p2 hrun;generalize yc.length=yn at*;clear hcell hi hz hs0 hby hlit hb1 ho1 hba hown hB hC
   go_wp2_with (at_builtin;refine Lib.wpList_append_run _ rfl (.tmp 13) (.tmp 16) _ _ rfl _ _ (by rfl) (by rfl) _ _ hrun ?_)
   go_wp2
   go_roundw
   case rel=>exact⟨k+1,v1,rfl,by go_num,by omega,Ho1,HB1,HC1⟩
   case measure=>simp[intOf];omega
  ·obtain rfl:k=n:=by omega
   have ho:=hown.out;rw[List.take_of_length_le (by rw[Hn.out];exact zlr _)] at ho;have Ho2:Hid (wr.ownsRow w0.heap.size ET entE.sz x (L.length+es.length) (entE.row (L++es))):=by rw[Hn.out];exact ho
   clear hown ho;go_wp2;go_ret;exact⟨x,rfl,Ho2.out,hB.out,hC.out⟩
set_option maxRecDepth 100000 in
theorem y24 (w0:World){lo hi:SB}(b:Nat)(es:List En)(s:Nat)(hn:Nd w0 0 lo hi b es s)(v:Value)(L:List En)(w:World)(hB:Below w0.heap.size w0 w)(hown:w.ownsRow w0.heap.size ET entE.sz v L.length (entE.row L))(hl:L.length+es.length≤100000):
  Calls Tryz.prog 51 #[v,pt b] w fun e w'=>z6v w0 w L es e w':=by
 obtain⟨⟨vc,nb,a0,c0,rfl,s0,z0,_⟩,_⟩:=hn;have lb:=nb.lt;have q0:w.cell? ⟨b,1,none⟩=some (.slice a0 es.length c0):=by rw[hB.cell (p:=⟨b,1,none⟩) lb];exact nb.c1
 have Hcall:=zh (z6w w0 v L a0 es.length c0 es w hB hown rfl s0 hl);have Hnb:=zh nb;obtain⟨n,hn⟩:∃n,es.length=n:=⟨_,rfl⟩
 rw[hn] at q0 Hcall;clear nb s0 z0 hown hn hB hl
 go_enter Tryz.func51,Tryz.ntmps51
 go_wp2_with fail;refine Hcall.out.mono ?_;rintro e w1 ⟨v1,rfl,ho1,hb1,hb2⟩;have q2:w1.cell? ⟨b,3,none⟩=some nilS:=by
  rw[hb1.cell (p:=⟨b,3,none⟩) lb];exact Hnb.out.c3
 have HB:=zh hb1;have Ho:=zh ho1;have Hb1:=zh hb2;clear ho1 hb1 hb2 Hcall lb q0;go_wp2_with fail
 go_loopw [0,6,18] (fun u _ i wr=>v1=u∧i=.int .i64 0∧w1=wr) (fun _ _ _ _=>0)
 case atStart=>exact⟨by first|trivial|rfl,rfl,by first|trivial|rfl⟩
 case round=>
  obtain⟨rfl,rfl,rfl⟩:=hrel;go_wp2;go_ret;exact⟨v1,rfl,Ho.out,HB.out,Hb1.out⟩
set_option maxRecDepth 100000 in
theorem y25 (w0:World){h:Nat}{lo hi:SB}(b:Nat)(es:List En)(s:Nat)(hn:Nd w0 (h+1) lo hi b es s)(v:Value)(L:List En)(w:World)(hB:Below w0.heap.size w0 w)(hown:w.ownsRow w0.heap.size ET entE.sz v L.length (entE.row L))(hl:L.length+es.length≤100000)
  (hks:s≤100000)
  (ih:∀(lo hi:SB) (b:Nat) (es:List En) (s:Nat) (v:Value) (L:List En) (w:World),Nd w0 h lo hi b es s→s≤100000→Below w0.heap.size w0 w→w.ownsRow w0.heap.size ET entE.sz v L.length (entE.row L)→L.length+es.length≤100000→Calls Tryz.prog 51 #[v,pt b] w fun e w'=>z6v w0 w L es e w'):
  Calls Tryz.prog 51 #[v,pt b] w fun e w'=>z6v w0 w L es e w':=by
 obtain⟨ks,ps,ess,⟨vk,vp,nb,_,⟨a1,c1,rfl,s1,_⟩⟩,hr,rfl,rfl⟩:=hn;have hle:=hr.len;have hgk:=z0y (hr.facts Good.facts).2.2.2;have hkl:ks.length≤100000:=by unfold brSz at hks;omega
 obtain⟨g2,o2,rfl,hc2⟩:=s1.ptrs (by omega);have lb:=nb.lt;have q0:w.cell? ⟨b,1,none⟩=some nilS:=by rw[hB.cell (p:=⟨b,1,none⟩) lb];exact nb.c1
 have Hcall:=zh (z6w w0 v L none 0 0 [] w hB hown rfl (CS.nil _) (by omega));have Hnb:=zh nb;have Hc2:=zh hc2;have Hr:=zh hr;have Hih:=zh ih;have Hl:=zh (zai hl hle);obtain⟨n,hn⟩:∃n,ps.length=n:=⟨_,rfl⟩
 have Hn:=zh hn;have hn9:n≤100001:=by omega
 have Hlb:=zh lb;have Hn2:=zh hn;clear nb s1 hown hn hB lb hl ih hr hc2 hle hgk hkl hks
 go_enter Tryz.func51,Tryz.ntmps51
 go_wp2_with fail;refine Hcall.out.mono ?_;rintro e w1 ⟨v1,rfl,ho1,hb1,hb2⟩;have q3:w1.cell? ⟨b,3,none⟩=some (.slice (some ⟨g2,o2,none⟩) n c1):=by
  rw[hb1.cell (p:=⟨b,3,none⟩) Hlb.out,←Hn2.out];exact Hnb.out.c3
 rw[List.append_nil] at ho1;have HB:=zh hb1;have Ho:=zh ho1;have Hb1:=zh hb2;clear ho1 hb1 hb2 Hcall q0;go_wp2_with fail
 go_loopw [0,6,18] (fun u _ i wr=>∃(k:Nat) (v:Value),v=u∧i=.int .i64 k∧k≤n∧Hid (wr.ownsRow w0.heap.size ET entE.sz v (L.length+(ess.take k).flatten.length) (entE.row (L++(ess.take k).flatten)))∧Hid (Below w0.heap.size w0 wr)∧Hid (Below w0.heap.size w wr)) (fun _ _ i _=>n-(intOf i).toNat)
 case atStart=>exact⟨0,v1,rfl,rfl,by omega,by rw[List.take_zero,List.flatten_nil,List.append_nil];exact Ho,HB,Hb1⟩
 case round=>
  obtain⟨k,v,rfl,rfl,hk,hown,hB,hC⟩:=hrel
  by_cases hlt:k<n
  ·have hkid:=Hr.out.kid (d:=[]) (m:=k) (by have:=Hl.out.2;have:=Hn.out;omega);have p0:=Hc2.out k (by rw[Hn.out];exact hlt);have p1:wr.cell? ⟨g2,o2+k,none⟩=some (pt (na ps k)):=by
    rw[hB.out.cell (p:=⟨g2,o2+k,none⟩) (block_lt_of_cell p0)];exact p0
   have het:(ess.take (k+1)).flatten=(ess.take k).flatten++ess.getD k []:=x8s (ess:=ess) (i:=k) (by have:=Hl.out.2;have:=Hn.out;omega);have hsum:(ess.take (k+1)).flatten.length≤ess.flatten.length:=by
    conv=>rhs;rw[←List.take_append_drop (k+1) ess,List.flatten_append,zla]
    omega
   have hlen:(L++(ess.take k).flatten).length+(ess.getD k []).length≤100000:=by
    rw[het,zla] at hsum;rw[zla];have:=Hl.out.1;omega
   obtain⟨sk,hk1,_,hk3⟩:=hkid;have Hcall:=zh (Hih.out _ _ (na ps k) (ess.getD k []) sk v (L++(ess.take k).flatten) wr hk1 (by omega) hB.out (by rw[zla];exact hown.out) hlen);have Het:=zh het;generalize na ps k=pk at*;clear p0 het hsum hlen hk1 hk3 hown;go_wp2_with fail;refine Hcall.out.mono ?_;rintro e w2 ⟨v2,rfl,ho2,hb2,hb3⟩;have Ho2:Hid (w2.ownsRow w0.heap.size ET entE.sz v2 (L.length+(ess.take (k+1)).flatten.length) (entE.row (L++(ess.take (k+1)).flatten))):=by
    rw[Het.out,←List.append_assoc];rw[zla] at ho2;rw[zla,←Nat.add_assoc];exact ho2
   have Hb2:=zh hb2;have Hc2':=zh (hC.out.trans hb3);clear ho2 hb2 hb3 Hcall hB hC p1;go_wp2_with fail
   go_roundw
   case rel=>exact⟨k+1,v2,rfl,by go_num,by omega,Ho2,Hb2,Hc2'⟩
   case measure=>simp[intOf];omega
  ·obtain rfl:k=n:=by omega
   have ho:=hown.out;rw[List.take_of_length_le (by have:=Hl.out.2;have:=Hn.out;omega)] at ho;have Ho2:=zh ho;clear hown ho;go_wp2;go_ret;exact⟨v,rfl,Ho2.out,hB.out,hC.out⟩
theorem z43 (w0:World):∀(h:Nat) (lo hi:SB) (b:Nat) (es:List En) (s:Nat) (v:Value) (L:List En) (w:World),Nd w0 h lo hi b es s→s≤100000→Below w0.heap.size w0 w→w.ownsRow w0.heap.size ET entE.sz v L.length (entE.row L)→L.length+es.length≤100000→Calls Tryz.prog 51 #[v,pt b] w fun e w'=>z6v w0 w L es e w'
 | 0,_,_,b,es,s,v,L,w,hn,_,hB,ho,hl=>y24 w0 b es s hn v L w hB ho hl
 | h+1,_,_,b,es,s,v,L,w,hn,hs,hB,ho,hl=>y25 w0 b es s hn v L w hB ho hl hs (z43 w0 h)
theorem y7p (b:Nat)(vc vk:Value)(a:Option Addr)(c:Nat)(w:World)(hb:NB w b vc vk (.slice a 0 c)):Calls Tryz.prog 62 #[pt b] w fun e w'=>e=.returned (.bool true)∧w=w':=by
 have q2:=hb.c3;clear hb
 go_enter Tryz.func62,Tryz.ntmps62
 go_wp2;go_ret;exact⟨rfl,rfl⟩
def x5r (w:World)(f:Nat):Nat→Nat→Prop
 | 0,r=>r=f
 | k+1,r=>∃vc vk g o c r',NB w r vc vk (.slice (some ⟨g,o,none⟩) 1 c)∧w.cell? ⟨g,o,none⟩=some (pt r')∧x5r w f k r'
set_option maxRecDepth 100000 in
theorem y7q (b:Nat)(w:World)(R:World→Nat→Nat→Nat→Prop)
  (H:Calls Tryz.prog 118 #[pt b] w fun e w1=>∃a1 n1 c1 a2 n2 c2,e=.returned (.tuple #[.slice a1 n1 c1,.slice a2 n2 c2])∧Below w.heap.size w w1∧
   ∀g W,NP W g 0 nilS (.slice a2 n2 c2) (.slice a1 n1 c1)→Below w1.heap.size w1 W→∃k f ac nc cc vk a nk c,x5r W f k g∧NB W f (.slice ac nc cc) vk (.slice a nk c)∧nk≠1∧R W f nk nc):
  Calls Tryz.prog 90 #[pt b] w fun e w'=>Below w.heap.size w w'∧∃f nk nc,R w' f nk nc∧e=.returned (if nk=0∧nc=0 then .pointer none else pt f):=by
 have H1:=zh H;clear H
 go_enter Tryz.func90,Tryz.ntmps90
 go_wp2_with fail;refine H1.out.mono ?_;rintro e w1 ⟨a1,n1,c1,a2,n2,c2,rfl,hb1,hR⟩;obtain⟨gR,W,hgR,hW,hnb,hb2⟩:=z0s w1 nilS (.slice a2 n2 c2) (.slice a1 n1 c1);obtain⟨k,f,ac,nc,cc,vk,a,nk,c,hst,hf,hne,hr⟩:=hR gR W hnb hb2;have HG:=zh (zai hgR hW);have HB:=zh (hb1.trans (hb2.mono hb1.size));have Hst:=zh hst;have Hf:=zh hf;have Hr:=zh hr;have d1:((nk:Int)==1)=false:=by rw[beq_eq_false_iff_ne];omega
 clear hb1 hb2 hR hgR hW hnb hst hf hr H1 hne;go_wp2_with fail;rw[HG.out.1,HG.out.2]
 go_loopg [5] k (fun j u wr=>∃r,u=pt r∧Hid (x5r W f j r)∧W=wr)
 case atStart=>exact⟨gR,rfl,Hst,by first|trivial|rfl⟩
 case round=>
  obtain⟨r,rfl,hs,rfl⟩:=hrel
  cases gk with
  | zero=>
   obtain rfl:r=f:=hs.out;have q2:=Hf.out.c3;have q0:=Hf.out.c1
   rcases Nat.eq_zero_or_pos nk with h0|h0
   ·subst h0;have hil:=zh (y7p r _ _ _ _ W Hf.out)
    by_cases hn0:nc=0
    ·subst hn0;go_wp2_with fail;refine hil.out.mono ?_;rintro e w' ⟨rfl,rfl⟩;go_wp2;go_ret;exact⟨HB.out,r,0,0,Hr.out,by rw[if_pos ⟨rfl,rfl⟩];rfl⟩
    ·have d2:((nc:Int)==0)=false:=by rw[beq_eq_false_iff_ne];omega
     go_wp2_with fail;refine hil.out.mono ?_;rintro e w' ⟨rfl,rfl⟩;go_wp2;go_ret;exact⟨HB.out,r,0,nc,Hr.out,by rw[if_neg (fun h=>hn0 h.2)];rfl⟩
   ·have hil:=zh (z38 r _ _ _ _ _ W Hf.out h0);go_wp2_with fail;refine hil.out.mono ?_;rintro e w' ⟨rfl,rfl⟩;go_wp2;go_ret;exact⟨HB.out,r,nk,nc,Hr.out,by rw[if_neg (fun h=>by omega)];rfl⟩
  | succ j=>
   obtain⟨vc,vk2,g,o,c9,r',hn,hc,hs'⟩:=hs.out;have q2:=hn.c3;have Hs:=zh hs';clear hn hs hs';go_wp2_with fail
   go_roundg j
   case measure=>omega
   case rel=>exact⟨r',rfl,Hs,by first|trivial|rfl⟩
def z8b (h:Nat)(t:Tr)(ts:List Tr)(H:Nat):Prop:=t.pg=0→Fr [t] ts 2∧nwL ts+2*h≤nwL t.kids+2*H
def q0t (h:Nat)(t:Tr)(W:World)(f nk nc:Nat):Prop:=(nk=0∧nc=0→t.es=[]∧h=0)∧
 (¬(nk=0∧nc=0)→∃h2 t2,NdT W h2 none none f t2∧t2.sz≤504∧(0<h2→3≤t2.sz)∧t2.es≠[]∧t2.es=t.es∧z8b h t [t2] (h2+1))
def Fin (h:Nat)(t:Tr)(W:World)(f:Nat):Prop:=∃ac nc cc vk a nk c,NB W f (.slice ac nc cc) vk (.slice a nk c)∧nk≠1∧q0t h t W f nk nc
theorem y26 {W:World}{h0 h f:Nat}{t:Tr}{pg:Nat}{ks:List ByteArray}{ps:List Nat}{ts:List Tr}(hb:z5h W f pg ks ps)(hr:KRow (z1f W h) ks none none ps ts)(h1:1≤ks.length)(hs:brSz ks≤504)(he:esL ts=t.es)(hf:z8b h0 t [.bran pg ks ts] (h+1+1)):Fin h0 t W f:=by
 have hle:=hr.len;have hc:=KRow.count (m:=1) (fun lo hi p e hg=>Nat.le_trans (by have:=Nat.one_le_two_pow (n:=0);have:1≤4^h:=Nat.one_le_pow _ _ (by omega);omega) (Good.count h lo hi p e hg)) hr.good;have hk:=z0y hr.factsT.2.2.2;have hb':=hb;obtain⟨vk,vp,nb,⟨a0,c0,rfl,_⟩,⟨a1,c1,rfl,_⟩⟩:=hb;refine⟨_,_,_,_,_,_,_,nb.nb,by omega,fun h=>by omega,fun _=>⟨h+1,.bran pg ks ts,z6p.2 ⟨pg,ks,ps,ts,rfl,hb',hr⟩,hs,fun _=>by simp only[Tr.sz];unfold brSz;omega,fun h=> ?_,by simp only[Tr.es];exact he,hf⟩⟩;simp only[Tr.es] at h;rw[z2t] at h;rw[h] at hc;simp at hc
theorem x8z {W:World}{h0 h f:Nat}{t t2:Tr}(hg:z1f W h none none f t2)(he:t2.es=t.es)(hf:z8b h0 t [t2] (h+1)):Fin h0 t W f:=by
 have hc:=Good.count h _ _ _ _ hg.good;have h1:1≤4^h:=Nat.one_le_pow _ _ (by omega);obtain⟨hn,h126,h504⟩:=hg
 cases h with
 | zero=>
  have hn':=hn;obtain⟨pg,es,rfl,⟨vc,nb,a0,c0,rfl,_⟩,_⟩:=hn;simp only[Tr.es] at hc;exact⟨_,_,_,_,_,_,_,nb.nb,by omega,fun h=>by omega,fun _=>⟨0,_,hn',h504,fun _=>by omega,fun h=>by simp only[Tr.es] at h;rw[h] at hc;simp at hc,he,hf⟩⟩
 | succ h=>
  obtain⟨pg,ks,ps,ts,rfl,hb,hr⟩:=hn;have hk:=z0y hr.factsT.2.2.2;simp only[Tr.sz] at h126 h504;exact y26 hb hr (by unfold brSz at h126;omega) h504 (by simp only[Tr.es] at he;exact he) hf
theorem x1k {h b:Nat}{t:Tr}(w:World)(hn:NdT w h none none b t)(hs:t.sz≤660):
  Calls Tryz.prog 90 #[pt b] w fun e w'=>∃p ts H,e=.returned (.pointer p)∧z09 w' p ts H∧esL ts=t.es∧z8b h t ts H∧Below w.heap.size w w':=by
 refine(y7q b w (q0t h t) ?_).mono ?_
 ·rcases zng 504 t.sz with h3|h3
  ·refine(z4m w hn (by omega) (by omega)).mono ?_;rintro e w1 ⟨vp,vk,ks',ps',ts',rfl,⟨ap,cp,rfl,sp,zp,rp⟩,⟨ak,ck,rfl,sk,zk,rk⟩,hr,⟨hfl,hhv⟩,hk1,hb1⟩;refine⟨_,_,_,_,_,_,rfl,hb1,fun g W hg hW=> ?_⟩;have hr':KRow (z1f W h) ks' none none ps' ts':=hr.mono (fun _ _ _ _ hx=>z1f.ext hW hx);have hbr:z5h W g 0 ks' ps':=⟨_,_,hg,⟨ak,ck,rfl,sk.below hW (zlr _),zk,rk⟩,⟨ap,cp,rfl,sp.below hW (zlr _),zp,rp⟩⟩
   have hle:=hr.len
   cases ks' with
   | nil=>
    exfalso
    rcases hhv with ⟨h4,_⟩|⟨_,⟨_,_,_,_,rfl⟩|⟨_,_,_,_,_,rfl⟩⟩
    ·omega
    ·simp at hle
    ·simp at hle
   | cons k r=>
    have hko:=z0y hr'.factsT.2.2.2;have hfr:z8b h t [.bran 0 (k::r) ts'] (h+1+1):=fun h0=>by
     have f1:=hhv.fr h0;have f2:Fr [t] [.bran 0 (k::r) ts'] (1+1):=f1.new rfl;have f3:=f2.nw;have f4:=x35 h0;simp only[nwL] at f3;simp only[nwL];exact⟨f2,by omega⟩
    obtain⟨ac,nc,cc,vk,a,nk,c,h1,h2,h4⟩:=y26 hbr hr' (by simp) (by unfold brSz;omega) hfl hfr;exact⟨0,g,ac,nc,cc,vk,a,nk,c,rfl,h1,h2,h4⟩
  ·refine(z9p b t.sz w h3 (z42 w (NdT.nd h hn) (by omega))).mono ?_;rintro e w1 ⟨vp,rfl,⟨ap,cp,rfl,sp,zp,rp⟩,hb1⟩;refine⟨_,_,_,_,_,_,rfl,hb1,fun g W hg hW=> ?_⟩;obtain⟨g2,o2,rfl,hc2⟩:=(sp.below hW (zlr _)).ptrs (by simp);have hst:∀k f,x5r W f k b→x5r W f (k+1) g:=fun k f hx=>⟨_,_,g2,o2,_,b,hg.nb,hc2 0 (by simp),hx⟩
   have hbW:=hb1.trans (hW.mono hb1.size);have hnW:=NdT.ext hbW h hn;have hself:z8b h t [t] (h+1):=fun h0=>by
    have f4:=x35 h0;simp only[nwL];exact⟨(Fr.refl _).mono (by omega),by omega⟩
   cases h with
   | zero=>
    have hn':=hnW;obtain⟨pg,es,rfl,⟨vc,nb,a0,c0,rfl,_⟩,_⟩:=hnW;refine⟨1,b,_,_,_,_,_,_,_,hst 0 b rfl,nb.nb,by omega,fun h=>⟨by simp only[Tr.es];exact List.eq_nil_of_length_eq_zero h.2,rfl⟩,fun h=>⟨0,_,hn',h3,fun h=>by omega,fun h5=>h ⟨rfl,by simp only[Tr.es] at h5;rw[h5];rfl⟩,rfl,hself⟩⟩
   | succ h=>
    obtain⟨pg,ks,ps,ts,rfl,hbr,hr⟩:=hnW
    cases ks with
    | nil=>
     obtain⟨p,t2,rfl,rfl,hgd⟩:=hr;obtain⟨vk,vp,nb,_,⟨a1,c1,rfl,s1,_⟩⟩:=hbr;obtain⟨g3,o3,rfl,hc3⟩:=s1.ptrs (by simp);have hfr:z8b (h+1) (.bran pg [] [t2]) [t2] (h+1):=fun h0=>by
      simp only[Tr.kids];exact⟨(q3c rfl).mono (by omega),by omega⟩
     obtain⟨ac,nc,cc,vk,a,nk,c,h1,h2,h4⟩:=x8z (t:=.bran pg [] [t2]) hgd (by simp only[Tr.es];rw[z14]) hfr;exact⟨2,p,ac,nc,cc,vk,a,nk,c,hst 1 p ⟨_,_,g3,o3,_,p,nb.nb,hc3 0 (by simp),rfl⟩,h1,h2,h4⟩
    | cons k r=>
     obtain⟨ac,nc,cc,vk,a,nk,c,h1,h2,h4⟩:=y26 (t:=.bran pg (k::r) ts) hbr hr (by simp) h3 (by simp only[Tr.es]) hself;exact⟨1,b,ac,nc,cc,vk,a,nk,c,hst 0 b rfl,h1,h2,h4⟩
 ·rintro e w' ⟨hb,f,nk,nc,hr,rfl⟩
  by_cases h0:nk=0∧nc=0
  ·rw[if_pos h0];obtain⟨h5,h6⟩:=hr.1 h0;refine⟨none,[],0,rfl,.inl ⟨rfl,rfl,rfl⟩,by rw[h5];rfl,fun h7=>⟨⟨fun p=>by simp[pgsL],by simp[nwL],fun _ _=>trivial⟩,?_⟩,hb⟩;simp only[nwL];omega
  ·rw[if_neg h0];obtain⟨h2,t2,h4,h5,h6,h7,h8,h9⟩:=hr.2 h0;exact⟨some ⟨f,0,none⟩,[t2],h2+1,rfl,.inr ⟨f,h2,t2,rfl,rfl,h4,h5,h6,h7,rfl⟩,by rw[z14];exact h8,h9,hb⟩
end Go.Proofs.YtdgladhfibfdlaaGreatDoor
