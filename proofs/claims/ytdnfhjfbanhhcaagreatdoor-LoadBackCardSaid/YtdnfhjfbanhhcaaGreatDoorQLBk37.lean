/-
  Steps.
-/
import Derived.Test.YtdnfhjfbanhhcaaGreatDoorQLBk36
namespace Go.Proofs.YtdnfhjfbanhhcaaGreatDoor
open Go Go.RowKit
theorem x5y:∀(a b:List Tr) (ps:List Nat),wrL (a++b) ps=wrL a ps++wrL b (ps.drop (z0f a))
 | [],b,ps=>by simp[wrL,z0f]
 | t::r,b,ps=>by rw[List.cons_append,wrL,wrL,x5y r b,List.drop_drop,z0f,List.append_assoc]
theorem x5z (ts:List Tr)(k:Nat)(h:k<ts.length):ts.take (k+1)=ts.take k++[ta ts k]:=by
 rw[List.take_succ_eq_append_getElem h];simp[ta,List.getD,h]
theorem z7r (ts:List Tr)(k:Nat)(h:k<ts.length):z0f (ts.take (k+1))=z0f (ts.take k)+(ta ts k).need:=by
 rw[x5z ts k h,z9z];simp[z0f]
theorem x9f (ts:List Tr)(ps:List Nat)(k:Nat)(h:k<ts.length):wrL (ts.take (k+1)) ps=wrL (ts.take k) ps++wrT (ta ts k) (ps.drop (z0f (ts.take k))):=by
 rw[x5z ts k h,x5y];simp[wrL]
theorem z61 (ts:List Tr)(k:Nat):z0f (ts.take k)≤z0f ts:=by
 have:=z9z (ts.take k) (ts.drop k);rw[List.take_append_drop] at this;omega
mutual
theorem q3f:∀(t:Tr) (ps:List Nat),(wrT t ps).length=t.need
 | .leaf pg cs,ps=>by
  rw[wrT,Tr.need]
  by_cases h:pg=0
  ·rw[if_pos h,if_pos h,zla,y26];rfl
  ·rw[if_neg h,if_neg h];rfl
 | .bran pg ks ts,ps=>by
  rw[wrT,Tr.need]
  by_cases h:pg=0
  ·rw[if_pos h,if_pos h,zla,z51 ts];rfl
  ·rw[if_neg h,if_neg h];rfl
theorem z51:∀(ts:List Tr) (ps:List Nat),(wrL ts ps).length=z0f ts
 | [],_=>by rw[wrL,z0f];rfl
 | t::r,ps=>by rw[wrL,z0f,zla,q3f t,z51 r]
end
theorem y1g:∀(ts:List Tr) (ps:List Nat) (i:Nat),i<ts.length→ta (layL ts ps) i=layT (ta ts i) (ps.drop (z0f (ts.take i)))
 | [],_,_,h=>by simp at h
 | t::r,ps,0,_=>by rw[layL];rfl
 | t::r,ps,i+1,h=>by
  have e1:ta (t::r) (i+1)=ta r i:=rfl;have e2:(t::r).take (i+1)=t::r.take i:=rfl;rw[layL,e1,e2,z0f,←List.drop_drop];have e3:ta (layT t ps::layL r (ps.drop t.need)) (i+1)=ta (layL r (ps.drop t.need)) i:=rfl;rw[e3,y1g r _ i (by simpa using h)]
theorem q3g (t:Tr)(ps:List Nat)(hl:t.need≤ps.length)(hz:∀x∈ps,x≠0):(layT t ps).pg≠0:=by
 cases t with
 | leaf pg cs=>
  rw[Tr.need] at hl;rw[layT]
  by_cases h1:pg=0
  ·rw[if_pos h1] at hl⊢
   exact hz _ (z4f (by omega))
  ·rw[if_neg h1];exact h1
 | bran pg ks ts=>
  rw[Tr.need] at hl;rw[layT]
  by_cases h1:pg=0
  ·rw[if_pos h1] at hl⊢
   exact hz _ (z4f (by omega))
  ·rw[if_neg h1];exact h1
theorem x50 {p:Nat}{t:Tr}:∀{ts:List Tr},t∈ts→cU p t≤cUL p ts
 | [],h=>by cases h
 | u::r,h=>by
  rw[z2r]
  rcases List.mem_cons.1 h with rfl|h
  ·omega
  ·have:=x50 (p:=p) h;omega
theorem y1h {ts:List Tr}{ps:List Nat}{i:Nat}(h:i<ts.length):layT (ta ts i) (ps.drop (z0f (ts.take i)))∈layL ts ps:=by
 rw[←y1g ts ps i h];exact z8b (by rw[z2y];exact h)
theorem q59 {β:Type}{G:SB→SB→Nat→β→Prop}{d:β}:∀{ks:List ByteArray} {lo hi:SB} {ps:List Nat} {ts:List β},ps.length=ks.length+1→ts.length=ks.length+1→(∀k∈ks,okK k=true)→
  (∀i,i≤ks.length→G (lob lo ks i) (hib hi ks i) (na ps i) (ts.getD i d))→KRow G ks lo hi ps ts
 | [],lo,hi,ps,ts,hp,ht,_,h=>by
  obtain⟨p,rfl⟩:=List.length_eq_one_iff.1 hp;obtain⟨t,rfl⟩:=List.length_eq_one_iff.1 ht;exact⟨p,t,rfl,rfl,h 0 (zlr _)⟩
 | k::r,lo,hi,ps,ts,hp,ht,hk,h=>by
  cases ps with
  | nil=>simp at hp
  | cons p ps'=>
   cases ts with
   | nil=>simp at ht
   | cons t ts'=>
    refine⟨p,ps',t,ts',rfl,rfl,?_,hk k (by simp),q59 (d:=d) (by simpa using hp) (by simpa using ht) (fun x hx=>hk x (by simp[hx])) (fun i hi2=> ?_)⟩
    ·have:=h 0 (by simp)
     simpa [lob,hib,sa,na] using this
    ·have h1:=h (i+1) (by simpa using hi2);have e1:lob lo (k::r) (i+1)=lob (some k) r i:=by
      unfold lob;rw[if_neg (by omega),Nat.add_sub_cancel]
      by_cases h0:i=0
      ·subst h0;rfl
      ·rw[if_neg h0];obtain⟨j,rfl⟩:∃j,i=j+1:=⟨i-1,by omega⟩
       rfl
     have e2:hib hi (k::r) (i+1)=hib hi r i:=by
      unfold hib;simp only[List.length_cons,Nat.add_lt_add_iff_right];rfl
     rw[e1,e2] at h1;exact h1
def VQ (W:World)(Q:Nat→Prop)(i:Nat):Prop:=∃A T fz,W.heap[i]? =some (.cells A T fz)∧(vty T=true∨((T=3∨T=VT)∧Q i))
def NdS (W:World)(Q:Nat→Prop)(h:Nat)(lo hi:SB)(x:NoV)(t:Tr):Prop:=∀W' F,Turn F W W'→(∀i,F i→i<W.heap.size→VQ W Q i)→NdVT W' h lo hi x t
section
variable {W W1:World} {Q Q1:Nat→Prop} {h:Nat} {lo hi:SB} {x:NoV} {t:Tr}
theorem NdS.now (hs:NdS W Q h lo hi x t):NdVT W h lo hi x t:=hs W (fun _=>False) (Turn.refl _ _) (fun _ hf _=>hf.elim)
theorem NdS.step (hs:NdS W Q h lo hi x t){G:Nat→Prop}(ht:Turn G W W1)(hG:∀i,G i→i<W.heap.size→VQ W Q i)(hQ:∀i,Q1 i→i<W.heap.size→Q i):NdS W1 Q1 h lo hi x t:=fun W' F hF hc=>by
 refine hs W' (fun i=>G i∨F i) ((ht.mono (fun i hi _=> .inl hi)).step hF (fun i hi _=> .inr hi)) (fun i hi hl=> ?_)
 rcases hi with hi|hi
 ·exact hG i hi hl
 ·by_cases hg:G i
  ·exact hG i hg hl
  ·obtain⟨A,T,fz,h1,h2⟩:=hc i hi (Nat.lt_of_lt_of_le hl ht.size);rw[ht.block i hl hg] at h1;exact⟨A,T,fz,h1,h2.imp_right (fun h3=>⟨h3.1,hQ i h3.2 hl⟩)⟩
theorem NdS.ext (hs:NdS W Q h lo hi x t)(hb:Below W.heap.size W W1)(hQ:∀i,Q1 i→i<W.heap.size→Q i):NdS W1 Q1 h lo hi x t:=hs.step (G:=fun _=>False) (q5w hb) (fun _ hf _=>hf.elim) hQ
theorem NdVT.turn {w w':World}{F:Nat→Prop}(ht:Turn F w w')(hF:TF w F){h:Nat}{lo hi:SB}{v:NoV}{t:Tr}(hn:NdVT w h lo hi v t):NdVT w' h lo hi v t:=by
 cases h with
 | zero=>
  obtain⟨es,h0,h1,h2,h3,h4⟩:=hn;exact⟨es,h0,h1,h2,h3.turn ht hF,h4⟩
 | succ h=>
  obtain⟨ks,ps,ts,h0,h1,h2,h3,hr⟩:=hn;exact⟨ks,ps,ts,h0,h1,h2.turn z5a ht hF,h3.turn y21 ht hF,hr.mono (fun _ _ _ _ h5=>⟨h5.1.turn ht hF h,h5.2⟩)⟩
theorem NdVT.stay (hn:NdVT W h lo hi x t):NdS W (fun i=>W.heap.size≤i) h lo hi x t:=fun W' F ht hc=>by
 refine NdVT.turn (F:=fun i=>F i∧i<W.heap.size) (ht.mono (fun i hi hl=>⟨hi,hl⟩)) (fun i hi=> ?_) hn;obtain⟨A,T,fz,h1,h2⟩:=hc i hi.1 hi.2
 rcases h2 with h2|⟨_,h2⟩
 ·exact⟨A,T,fz,h1,h2⟩
 ·have:=hi.2;omega
end
def OldT (W:World)(B:Nat)(h:Nat)(lo hi:SB)(x:NoV)(t:Tr):Prop:=∃(Wb:World) (G:Nat→Prop),NdVT Wb h lo hi x t∧Wb.heap.size≤B∧Turn G Wb W∧∀i,G i→i<Wb.heap.size→∃A T fz,Wb.heap[i]? =some (.cells A T fz)∧vty T=true
theorem OldT.step {W W1:World}{B h:Nat}{lo hi:SB}{x:NoV}{t:Tr}(hs:OldT W B h lo hi x t){G:Nat→Prop}(ht:Turn G W W1)(hG:∀i,G i→i<W.heap.size→VQ W (fun b=>B≤b) i):OldT W1 B h lo hi x t:=by
 obtain⟨Wb,F,h1,h2,h3,h4⟩:=hs;refine⟨Wb,fun i=>F i∨G i,h1,h2,(h3.mono (fun i hi _=> .inl hi)).step ht (fun i hi _=> .inr hi),fun i hi hl=> ?_⟩
 by_cases hf:F i
 ·exact h4 i hf hl
 ·obtain⟨A,T,fz,g1,g2⟩:=hG i (hi.resolve_left hf) (Nat.lt_of_lt_of_le hl h3.size);rw[h3.block i hl hf] at g1
  rcases g2 with g2|⟨_,g2⟩
  ·exact⟨A,T,fz,g1,g2⟩
  ·omega
theorem OldT.ext {W W1:World}{B h:Nat}{lo hi:SB}{x:NoV}{t:Tr}(hs:OldT W B h lo hi x t)(hb:Below W.heap.size W W1):OldT W1 B h lo hi x t:=hs.step (G:=fun _=>False) (q5w hb) (fun _ hf _=>hf.elim)
theorem OldT.s {W:World}{B h:Nat}{lo hi:SB}{x:NoV}{t:Tr}(hs:OldT W B h lo hi x t):NdS W (fun b=>B≤b) h lo hi x t:=by
 obtain⟨Wb,F,h1,h2,h3,h4⟩:=hs;exact h1.stay.step h3 (fun i hi hl=>by
  obtain⟨A,T,fz,g1,g2⟩:=h4 i hi hl;exact⟨A,T,fz,g1,.inl g2⟩) (fun i hi hl=>by omega)
theorem OldT.kids {W:World}{B h:Nat}{lo hi:SB}{x:NoV}{t:Tr}(hs:OldT W B (h+1) lo hi x t):∃ks qs ts vs,t=.bran x.pg ks ts∧x.c=nilS∧EV strE W x.k ks∧EV ptrE W x.p qs∧vs.length=qs.length∧qs.length=ks.length+1∧ts.length=ks.length+1∧z3j ks∧(∀k∈ks,okK k=true)∧
  (∀t∈ts,126≤t.sz∧t.sz≤504)∧∀i,i<vs.length→NPv W (na qs i) (va vs i)∧OldT W B h (lob lo ks i) (hib hi ks i) (va vs i) (ta ts i):=by
 obtain⟨Wb,F,h1,h2,h3,h4⟩:=hs;obtain⟨ks,qs,ts,h5,h6,h7,h8,hr⟩:=h1;obtain⟨vs,hvl,hvs⟩:=hr.vals;have hl:=hr.len;have hT:TF Wb (fun i=>F i∧i<Wb.heap.size):=fun i hi=>h4 i hi.1 hi.2
 have h3':Turn (fun i=>F i∧i<Wb.heap.size) Wb W:=h3.mono (fun i hi hl=>⟨hi,hl⟩);refine⟨ks,qs,ts,vs,h5,h6,h7.turn z5a h3' hT,h8.turn y21 h3' hT,hvl,hl.1,hl.2,hr.good.keys Good.facts,hr.factsT.2.2.2,hr.all (fun _ _ _ _ hg=>hg.2),fun i hi=> ?_⟩;obtain⟨g1,g2,_⟩:=hvs i (by omega);exact⟨NP.turn g1 h3' hT,Wb,F,g2,h2,h3,h4⟩
theorem OCk.stay {w W:World}{x:NoV}{lo hi:SB}{cs:List En}(hc:OCk W w.heap.size x.c cs cs.length)(h1:x.k=nilS)(h2:x.p=nilS)(h3:ltO lo hi)(h4:srt cs)(h5:∀e∈cs,okE e∧ins lo hi e.k):NdS W (fun i=>i<w.heap.size) 0 lo hi x (.leaf x.pg cs):=fun W' F ht hF=>by
 refine⟨cs,rfl,h1,h2,?_,h3,h4,h5⟩;obtain⟨xs,ho,hr,hf⟩:=hc;have hl:=hr.len;have hno:∀{b T:Nat} {A:Array Value} {fz:Nat×Nat},W.heap[b]? =some (.cells A T fz)→vty T=false→((T=3∨T=VT)→w.heap.size≤b)→¬F b:=fun{b T A fz} hb hT hlo hFb=>by
  obtain⟨A2,T2,fz2,g1,g2⟩:=hF b hFb (zag.1 hb).1;rw[hb] at g1;injection g1 with g1
  injection g1 with _ g1 _
  rcases g2 with g2|⟨g2,g3⟩
  ·rw[←g1,hT] at g2;cases g2
  ·have:=hlo (g2.imp g1.trans g1.trans);omega
 have ho':W'.ownsRow w.heap.size TCT celE.sz x.c xs.length (celE.row xs):=by
  refine⟨ho.1,?_⟩
  rcases ho.2 with h6|⟨b,cap,cur,e,hb,hgb,h6⟩
  ·exact .inl h6
  ·exact .inr ⟨b,cap,cur,e,hb,ht.hg hgb (hno hgb (by decide) (fun e=>absurd e (by decide))),h6⟩
 refine q6n (z1u (T:=TCT) ho') ?_;have key:∀(ys:List Rw) (es:List En),RW W ys es→(∀j,j<ys.length→∀a,(xa ys j).a=some a→w.heap.size≤a.block)→RW W' ys es:=by
  intro ys
  induction ys with
  | nil=>intro es;cases es<;>intro h _<;>exact h
  | cons y r ih=>
   intro es h hf
   cases es with
   | nil=>exact h.elim
   | cons e s=>
    refine⟨⟨h.1.1,h.1.2.1,?_⟩,ih s h.2 (fun j hj a ha=>hf (j+1) (by simpa using hj) a ha)⟩;obtain⟨a,c,e1,hs,h7⟩:=h.1.2.2;refine⟨a,c,e1,?_,h7⟩
    rcases hs with hs|⟨g,o,rfl,⟨A,T,fz,g1,g2⟩,hcell⟩
    ·exact .inl hs
    ·have hlo:w.heap.size≤g:=hf 0 (by simp) ⟨g,o,none⟩ (by
      have:y.sl=.slice (some ⟨g,o,none⟩) e.ch.length c:=e1;unfold Rw.sl at this;injection this)
     have hT:vty T=false:=z7o T g2;have hg:=hno g1 hT (fun _=>hlo);refine .inr ⟨g,o,rfl,⟨A,T,fz,ht.hg g1 hg,g2⟩,fun j u hu=> ?_⟩;have h8:=hcell j u hu;rw[ht.cell (p:=⟨g,o+j,none⟩) (block_lt_of_cell h8) hg];exact h8
 exact key xs cs hr (fun j hj a ha=>hf j (by omega) a ha)
theorem y5y {a b:List NoV}{i:Nat}(h:i<a.length):va (a++b) i=va a i:=by
 unfold va;simp[List.getD,List.getElem?_append_left h]
theorem z96 (a b:List NoV)(i:Nat):va (a++b) (a.length+i)=va b i:=by
 unfold va;simp only[List.getD];rw[List.getElem?_append_right (by omega),Nat.add_sub_cancel_left]
theorem x51 (l:List NoV)(k:Nat)(h:k<l.length):l.drop k=va l k::l.drop (k+1):=by
 rw[List.drop_eq_getElem_cons h];simp[va,List.getD,h]
def BQ (B s0:Nat)(fv:Value)(b:Nat):Prop:=B≤b∧(b<s0∨fv.ownBlock=some b)
structure BvI (w W:World) (gl B B' s0 t7:Nat) (u vk fv:Value) (h:Nat) (lo hi:SB) (ks:List ByteArray) (vs xs:List NoV) (ts:List Tr) (ps:List Nat) (ws:List PgW) (j k:Nat):Prop where
 ly:LyI W gl B (ps.drop (z0f (ts.take j))) (ws++wrL (ts.take j) ps)
 kd:W.ownsRow B' VT nodE.sz u vs.length (nodE.row (xs++vs.drop j))
 xl:xs.length=j
 new:∀i,i<j→NdS W (BQ B s0 fv) h (lob lo ks i) (hib hi ks i) (va xs i) (layT (ta ts i) (ps.drop (z0f (ts.take i))))
 old:∀i,j≤i→i<vs.length→OldT W B h (lob lo ks i) (hib hi ks i) (va vs i) (ta ts i)
 fk:PB W t7 FT vk fv
 fo:W.ownsRow w.heap.size 3 pgE.sz fv k (pgE.row ((xs.take k).map NoV.pg))
 key:EV strE W vk ks
 lt:Turn (LFu w gl B u) w W
 rs:W.heap[w.heap.size]? =some (.cells #[.int .i64 0,nilS,nilS,nilS] VT (0,0))
section
variable {w W W':World} {gl B B' s0 t7:Nat} {u vk fv:Value} {h:Nat} {lo hi:SB} {ks:List ByteArray} {vs xs:List NoV} {ts:List Tr} {ps:List Nat} {ws:List PgW} {j k:Nat}
theorem BvI.ext (hI:BvI w W gl B B' s0 t7 u vk fv h lo hi ks vs xs ts ps ws j k)(hb:Below W.heap.size W W'):BvI w W' gl B B' s0 t7 u vk fv h lo hi ks vs xs ts ps ws j k:=
 ⟨hI.ly.ext hb,z0p hI.kd hb (zlr _),hI.xl,fun i hi=>(hI.new i hi).ext hb (fun _ h _=>h),fun i h1 h2=>(hI.old i h1 h2).ext hb,
  (hb.block _ (zag.1 hI.fk).1).trans hI.fk,z0p hI.fo hb (zlr _),hI.key.ext hb,hI.lt.trans (q5w hb),(hb.block _ (zag.1 hI.rs).1).trans hI.rs⟩
theorem BvI.kid (hI:BvI w W gl B B' s0 t7 u vk fv h lo hi ks vs xs ts ps ws j k)(hj:j<vs.length):va (xs++vs.drop j) j=va vs j∧(xs++vs.drop j).length=vs.length:=by
 have hx:=hI.xl;constructor
 ·have:=z96 xs (vs.drop j) 0;rw[hx] at this;rw[show j+0=j from rfl] at this;rw[this,x51 vs j hj];rfl
 ·rw[zla,hx,zld];omega
theorem x9g (xs vs:List NoV)(x:NoV)(j:Nat)(hx:xs.length=j)(hj:j<vs.length):(xs++vs.drop j).set j x=(xs++[x])++vs.drop (j+1):=by
 rw[List.set_append_right _ _ (by omega),hx,Nat.sub_self,x51 vs j hj];simp
theorem x52:∀(xs:List NoV) (j:Nat) (y:NoV),j<xs.length→nodE.row (xs.set j y)=((((nodE.row xs).set (j*4) (.int .i64 (y.pg:Nat))).set (j*4+1) y.c).set (j*4+2) y.k).set (j*4+3) y.p
 | [],j,_,h=>by simp at h
 | x::r,0,y,_=>rfl
 | x::r,j+1,y,h=>by
  have e1:(x::r).set (j+1) y=x::r.set j y:=rfl;rw[e1,Elt.row,Elt.row,x52 r j y (by simpa using h)];have e2:nodE.enc x=[.int .i64 (x.pg:Nat),x.c,x.k,x.p]:=rfl;rw[e2,show(j+1)*4+3=(j*4+3)+4 by omega,show(j+1)*4+2=(j*4+2)+4 by omega,show(j+1)*4+1=(j*4+1)+4 by omega,show(j+1)*4=(j*4)+4 by omega]
  rfl
def putK (w:World)(g i:Nat)(x0 x1 x2 x3:Value):World:=(((w.setCell ⟨g,i,none⟩ x0).setCell ⟨g,i+1,none⟩ x1).setCell ⟨g,i+2,none⟩ x2).setCell ⟨g,i+3,none⟩ x3
theorem x53 (w:World)(g i:Nat)(x0 x1 x2 x3:Value):Turn (fun b=>b=g) w (putK w g i x0 x1 x2 x3):=
 ((((Turn.refl (fun b=>b=g) w).setCell (p:=⟨g,i,none⟩) _ (fun _=>rfl)).setCell (p:=⟨g,i+1,none⟩) _ (fun _=>rfl)).setCell (p:=⟨g,i+2,none⟩) _ (fun _=>rfl)).setCell (p:=⟨g,i+3,none⟩) _ (fun _=>rfl)
theorem x9h {B g c:Nat}{xs:List NoV}(j:Nat)(y:NoV)(hj:j<xs.length)(h:W.ownsRow B VT nodE.sz (.slice (some ⟨g,0,none⟩) xs.length c) xs.length (nodE.row xs)):
  (putK W g (j*4) (.int .i64 (y.pg:Nat)) y.c y.k y.p).ownsRow B VT nodE.sz (.slice (some ⟨g,0,none⟩) xs.length c) xs.length (nodE.row (xs.set j y)):=by
 refine⟨by rw[Elt.row_len,List.length_set],?_⟩
 rcases h.2 with ⟨h1,_⟩|⟨g',cap,cur,hv,hbg,hg,hnc,hcm,hcs,ht⟩
 ·cases h1
 ·simp only[Value.slice.injEq,Option.some.injEq,Addr.mk.injEq,and_true,true_and] at hv;obtain⟨rfl,rfl⟩:=hv;have h1:=heap_setCell_same W g (j*4) cur VT (.int .i64 (y.pg:Nat)) hg;have h2:=heap_setCell_same _ g (j*4+1) _ VT y.c h1;have h3:=heap_setCell_same _ g (j*4+2) _ VT y.k h2;have h4:=heap_setCell_same _ g (j*4+3) _ VT y.p h3;refine .inr ⟨g,c,_,rfl,hbg,h4,hnc,hcm,by simpa using hcs,?_⟩;rw[x52 xs j y hj,←ht];simp[List.take_set]
theorem y7r {B g c:Nat}{xs:List NoV}(j:Nat)(hj:j<xs.length)(h:W.ownsRow B VT nodE.sz (.slice (some ⟨g,0,none⟩) xs.length c) xs.length (nodE.row xs)):
  (W.cell? ⟨g,j*4,none⟩=some (.int .i64 ((va xs j).pg:Nat))∧W.cell? ⟨g,j*4+1,none⟩=some (va xs j).c∧W.cell? ⟨g,j*4+2,none⟩=some (va xs j).k∧W.cell? ⟨g,j*4+3,none⟩=some (va xs j).p)∧(∀i,W.frozen? ⟨g,i,none⟩=false)∧B≤g∧(∃A,W.heap[g]? =some (.cells A VT (0,0))):=by
 have e:xs[j]? =some (va xs j):=by unfold va;simp[List.getD,hj]
 have h1:=nodE.row_at xs j 0 _ e (by decide);have h2:=nodE.row_at xs j 1 _ e (by decide);have h3:=nodE.row_at xs j 2 _ e (by decide);have h4:=nodE.row_at xs j 3 _ e (by decide);have hsz:nodE.sz=4:=rfl;rw[hsz] at h1 h2 h3 h4;have k1:=h.cellAt (j*4) (by rw[hsz];omega);have k2:=h.cellAt (j*4+1) (by rw[hsz];omega);have k3:=h.cellAt (j*4+2) (by rw[hsz];omega);have k4:=h.cellAt (j*4+3) (by rw[hsz];omega);refine⟨⟨k1.trans h1,k2.trans h2,k3.trans h3,k4.trans h4⟩,?_⟩
 rcases h.2 with ⟨h5,_⟩|⟨g',cap,cur,hv,hbg,hg,_⟩
 ·cases h5
 ·simp only[Value.slice.injEq,Option.some.injEq,Addr.mk.injEq,and_true,true_and] at hv;obtain⟨rfl,rfl⟩:=hv;exact⟨fun i=>by simp[World.frozen?,hg],hbg,cur,hg⟩
set_option maxHeartbeats 400000 in
/-- A kid was laid,and is stored.-/
theorem BvI.laid {gk n c:Nat}{W2:World}{x:NoV}(hI:BvI w W gl B B' s0 t7 (.slice (some ⟨gk,0,none⟩) n c) vk fv h lo hi ks vs xs ts ps ws j k)(hkj:k≤j)(hBB:B≤B')(hn:vs.length=n)(hj:j<n)(htl:ts.length=n)(hgkw:gk<w.heap.size)(hws:w.heap.size≤s0)(hs0:s0≤W.heap.size)
  (h2:LyI W2 gl B ((ps.drop (z0f (ts.take j))).drop (ta ts j).need) ((ws++wrL (ts.take j) ps)++wrT (ta ts j) (ps.drop (z0f (ts.take j))))) (t:Turn (LF W gl B) W W2)
  (hx:NdS W2 (fun b=>B≤b∧b<W.heap.size) h (lob lo ks j) (hib hi ks j) x (layT (ta ts j) (ps.drop (z0f (ts.take j))))):
  ((W2.cell? ⟨gk,j*4,none⟩=some (.int .i64 ((va vs j).pg:Nat))∧W2.cell? ⟨gk,j*4+1,none⟩=some (va vs j).c∧W2.cell? ⟨gk,j*4+2,none⟩=some (va vs j).k∧W2.cell? ⟨gk,j*4+3,none⟩=some (va vs j).p)∧∀i,W2.frozen? ⟨gk,i,none⟩=false)∧
  ((putK W2 gk (j*4) (.int .i64 (x.pg:Nat)) x.c x.k x.p).cell? ⟨gk,j*4,none⟩=some (.int .i64 (x.pg:Nat))∧(putK W2 gk (j*4) (.int .i64 (x.pg:Nat)) x.c x.k x.p).cell? ⟨gk,j*4+1,none⟩=some x.c∧(putK W2 gk (j*4) (.int .i64 (x.pg:Nat)) x.c x.k x.p).cell? ⟨gk,j*4+2,none⟩=some x.k∧(putK W2 gk (j*4) (.int .i64 (x.pg:Nat)) x.c x.k x.p).cell? ⟨gk,j*4+3,none⟩=some x.p)∧
  BvI w (putK W2 gk (j*4) (.int .i64 (x.pg:Nat)) x.c x.k x.p) gl B B' s0 t7 (.slice (some ⟨gk,0,none⟩) n c) vk fv h lo hi ks vs (xs++[x]) ts ps ws (j+1) k:=by
 have hgk:gk<s0:=by omega
 have hjv:j<vs.length:=by omega
 have hjt:j<ts.length:=by omega
 have hkid:=hI.kid hjv;rw[List.drop_drop,←z7r ts j hjt,List.append_assoc,←x9f ts ps j hjt] at h2;have hkd2:=hI.ly.own t hI.kd;rw[hn] at hkd2 hkid;have hkd2':W2.ownsRow B' VT nodE.sz (.slice (some ⟨gk,0,none⟩) (xs++vs.drop j).length c) (xs++vs.drop j).length (nodE.row (xs++vs.drop j)):=by rw[hkid.2];exact hkd2
 obtain⟨r,hfz,hBg,A,hg⟩:=y7r j (by rw[hkid.2];exact hj) hkd2';rw[hkid.1] at r;have hkd3:=x9h j x (by rw[hkid.2];exact hj) hkd2';have ht3:=x53 W2 gk (j*4) (.int .i64 (x.pg:Nat)) x.c x.k x.p;have hT3:TyF W2 (fun i=>i=gk) VT:=TyF.one hg;have hset:=x9g xs vs x j hI.xl hjv;have r3:=(y7r (xs:=(xs++vs.drop j).set j x) j (by rw[List.length_set,hkid.2];exact hj) (by rw[List.length_set];exact hkd3)).1;have hvx:va ((xs++vs.drop j).set j x) j=x:=by
  have:j<(xs++vs.drop j).length:=by rw[hkid.2];exact hj
  unfold va;simp only[List.getD_eq_getElem?_getD,List.getElem?_set,this,if_true];rfl
 rw[hvx] at r3;rw[hset,hkid.2] at hkd3;refine⟨⟨r,hfz⟩,r3,?_⟩;have hVQ:∀{Q:Nat→Prop},(Q gk)→∀i,i=gk→i<W2.heap.size→VQ W2 Q i:=fun hq i e _=>by
  subst e;exact⟨A,VT,_,hg,.inr ⟨.inr rfl,hq⟩⟩
 have hVL:∀{Q:Nat→Prop} i,LF W gl B i→i<W.heap.size→VQ W Q i:=fun i hi _=>by
  obtain⟨A,T,fz,h1,h2⟩:=hI.ly.tf i hi;exact⟨A,T,fz,h1,.inl h2⟩
 have hfo2:=hI.ly.own t hI.fo;have hfk2:=hI.ly.hg t hI.fk;have hkey2:=hI.key.turn z5a t hI.ly.tf;have hlt2:=LFu.trans hI.lt t;have hrs2:=hI.ly.hg t hI.rs;have hgB:B≤gk:=by omega
 generalize putK W2 gk (j*4) (.int .i64 (x.pg:Nat)) x.c x.k x.p=W3 at*;have hxl:=hI.xl;refine⟨h2.tz ht3 (fun i hi=> ?_),by rw[hn];exact hkd3,by rw[zla,hxl];rfl,fun i hi=> ?_,fun i h4 h5=> ?_,ht3.hg hfk2 (hT3.not hfk2 (by decide)),?_,hkey2.tur ht3 hT3 rfl,?_,?_⟩
 ·obtain rfl:i=gk:=hi;exact⟨hgB,_,_,_,hg,by decide,by decide⟩
 ·rcases zng i j with h4|h4
  ·rw[y5y (by omega)];have:=(hI.new i h4).step (Q1:=BQ B s0 fv) t hVL (fun _ h _=>h);exact this.step ht3 (hVQ ⟨hgB,.inl hgk⟩) (fun _ h _=>h)
  ·obtain rfl:i=j:=by omega
   have e1:va (xs++[x]) i=x:=by
    have:=z96 xs [x] 0;rw[hxl] at this;exact this
   rw[e1];have h5:NdS W2 (BQ B s0 fv) h _ _ x _:=hx.step (Turn.refl (fun _=>False) _) (fun _ hf _=>hf.elim) (fun b hb _=>⟨hb.1,by
    rcases hb.2 with h6|h6
    ·omega
    ·exact(hI.fo.lt b h6).2⟩)
   exact h5.step ht3 (hVQ ⟨hgB,.inl hgk⟩) (fun _ h _=>h)
 ·have:=(hI.old i (by omega) h5).step t hVL;exact this.step ht3 (hVQ hgB)
 ·have e2:(xs++[x]).take k=xs.take k:=by rw[List.take_append_of_le_length (by omega)]
  rw[e2];exact z17 hfo2 ht3 hT3 (by decide)
 ·exact hlt2.step ht3 (fun i hi hl=>by
   obtain rfl:i=gk:=hi;exact .inr rfl)
 ·exact ht3.hg hrs2 (fun e=>by
   have h9:w.heap.size=gk:=e;omega)
theorem z3g {α:Type}{E:Elt α}{P:Program}{w:World}(B:Nat)(t ty e:TypeId)(ht:P.underlying t=some (.slice e))(h2:(P.info? e).map (fun i=>(i.zero,i.size,i.bytes))=some (some E.zero,E.sz,E.by_))
  (v:Value) (n:Nat) (l:List α) (hs:w.ownsRow B e E.sz v n (E.row l)) (hB:B≤w.heap.size) (a2:Option Addr) (n2 c2:Nat) (m:List α) (hn2:m.length=n2) (h0:0<n2) (hm:ES E w a2 m)
  (h63:n+n2≤maxLen) (hby:(n+n2)*E.by_≤140737488355328):
  ∃v' w',(Builtin.append_ #[t,t] ty #[v,.slice a2 n2 c2]).run P w=.ok v' w'∧Turn (fun i=>v.ownBlock=some i) w w'∧w'.ownsRow B e E.sz v' (n+n2) (E.row (l++m))∧∀k,v'.ownBlock=some k→v.ownBlock=some k∨w.heap.size≤k:=by
 obtain⟨i0,hi,hz,hs0,hb0⟩:=info_parts h2;obtain⟨g,o,rfl,hc⟩:=hm.at (by omega);obtain⟨v',w',hr,h3,h4,hn⟩:=z2b (P:=P) (w:=w) B t ty e i0 E.zero E.sz E.by_ ht hi hz hs0 hb0 E.zc E.pos v n (E.row l) hs ⟨g,o,none⟩ n2 c2 (E.row m) (by rw[E.row_len,hn2]) (fun j u hu=>by rw[z2q];exact hc j u hu) (E.row_one m) h63 hby hB;refine⟨v',w',hr,⟨h4.os,h4.tape,h4.output,h4.size,fun i hi hne=>h4.block i hi (fun e=>hne e.symm)⟩,by rw[q5x];exact h3,fun k hk=> ?_⟩
 rcases hn with hn|hn
 ·exact .inl (hn▸hk)
 ·first
   | exact .inr (hn k hk)
   | (obtain⟨c,hn⟩:=hn;subst hn;injection hk with hk;exact .inr (by omega))
set_option maxHeartbeats 400000 in
/-- A kid's page is named.-/
theorem BvI.named {W6:World}{fv':Value}(hI:BvI w W gl B B' s0 t7 u vk fv h lo hi ks vs xs ts ps ws j k)(hBw:B≤w.heap.size)(h7:w.heap.size<t7)(h7W:t7<W.heap.size)
  (t:Turn (fun i=>fv.ownBlock=some i) W W6) (ho:W6.ownsRow w.heap.size 3 pgE.sz fv' (k+1) (pgE.row ((xs.take (k+1)).map NoV.pg))) (hn:∀b,fv'.ownBlock=some b→fv.ownBlock=some b∨W.heap.size≤b):
  PB W6 t7 FT vk fv∧BvI w (W6.setCell ⟨t7,1,none⟩ fv') gl B B' s0 t7 u vk fv' h lo hi ks vs xs ts ps ws j (k+1):=by
 have hT:=TyF.own hI.fo;have hlo:=fun i hi=>(hI.fo.lt i hi).1
 have fk6:PB W6 t7 FT vk fv:=t.hg hI.fk (hT.not hI.fk (by decide));refine⟨fk6,?_⟩;have t2:Turn (fun i=>i=t7) W6 (W6.setCell ⟨t7,1,none⟩ fv'):=(Turn.refl _ W6).setCell (p:=⟨t7,1,none⟩) _ (fun _=>rfl);have hT2:TyF W6 (fun i=>i=t7) FT:=TyF.one fk6;have hV1:∀{Q:Nat→Prop},(∀b,fv.ownBlock=some b→Q b)→∀i,fv.ownBlock=some i→i<W.heap.size→VQ W Q i:=fun hq i hi _=>by
  obtain⟨A,fz,h1⟩:=hT i hi;exact⟨A,_,fz,h1,.inr ⟨.inl rfl,hq i hi⟩⟩
 have hV2:∀{Q:Nat→Prop} i,i=t7→i<W6.heap.size→VQ W6 Q i:=fun i e _=>by
  subst e;exact⟨_,_,_,fk6,.inl (by decide)⟩
 have hly6:=hI.ly.tz t (fun i hi=>⟨by have:=hlo i hi;omega,by
  obtain⟨A,fz,h1⟩:=hT i hi;exact⟨A,_,fz,h1,by decide,by decide⟩⟩)
 have hkd6:=z17 hI.kd t hT (by decide);have hkey6:=hI.key.tur t hT rfl;have hrs6:=t.hg hI.rs (hT.not hI.rs (by decide));have hlt6:=hI.lt.step t (fun i hi hl=>by have:=hlo i hi;omega);refine⟨hly6.tz t2 (fun i hi=> ?_),z17 hkd6 t2 hT2 (by decide),hI.xl,fun i hi=> ?_,fun i h4 h5=> ?_,?_,z17 ho t2 hT2 (by decide),hkey6.tur t2 hT2 rfl,hlt6.step t2 (fun i hi hl=> ?_),t2.hg hrs6 (hT2.not hrs6 (by decide))⟩
 ·obtain rfl:i=t7:=hi;exact⟨by omega,_,_,_,fk6,by decide,by decide⟩
 ·have h6:=(hI.new i hi).step (Q1:=BQ B s0 fv') t (hV1 (fun b hb=>⟨by have:=hlo b hb;omega,.inr hb⟩)) (fun b hb hl=>⟨hb.1,by
   rcases hb.2 with h8|h8
   ·exact .inl h8
   ·rcases hn b h8 with h9|h9
    ·exact .inr h9
    ·omega⟩)
  exact h6.step t2 hV2 (fun _ h _=>h)
 ·have h6:=(hI.old i h4 h5).step t (hV1 (fun b hb=>by have:=hlo b hb;omega));exact h6.step t2 hV2
 ·have:=heap_setCell_same W6 t7 1 _ FT fv' fk6;unfold PB
  simpa using this
 ·obtain rfl:i=t7:=hi;omega
end
theorem BvI.pages {w W:World}{gl B B' s0 t7:Nat}{u vk fv:Value}{h:Nat}{lo hi:SB}{ks:List ByteArray}{vs xs:List NoV}{ts:List Tr}{ps:List Nat}{ws:List PgW}{n:Nat}(hI:BvI w W gl B B' s0 t7 u vk fv h lo hi ks vs xs ts ps ws n n)(htl:ts.length=n):((xs.map NoV.pg).map (fun p=>((p:Nat):Int)))=(layL ts ps).map pgI:=by
 have hx:=hI.xl;refine List.ext_getElem (by simp[z2y,hx,htl]) fun i h1 h2=> ?_
 have hin:i<n:=by simpa [hx] using h1
 have hp:=(hI.new i hin).now.pg;have e1:va xs i=xs[i]'(by omega):=by unfold va;simp[List.getD,show i<xs.length by omega]
 have hl2:i<(layL ts ps).length:=by rw[z2y];omega
 have e2:ta (layL ts ps) i=(layL ts ps)[i]:=by unfold ta;simp[List.getD,hl2]
 rw[←y1g ts ps i (by omega),e2,e1] at hp;simp only[List.getElem_map,pgI,hp]
theorem PgS.of {w:World}{a:Option Addr}{l:List Nat}(h:ES pgE w a l):PgS w a (l.map (fun p=>((p:Nat):Int))):=fun h0=>by
 rw[List.length_map] at h0;obtain⟨g,o,rfl,hc⟩:=h.pages h0;refine⟨g,o,rfl,fun i hi=> ?_⟩;rw[List.length_map] at hi;have e:ia (l.map (fun p=>((p:Nat):Int))) i=((na l i:Nat):Int):=by unfold ia na;simp[List.getD,hi]
 rw[e];exact hc i hi
theorem BvI.wrote {w W W5:World}{gl B B' s0 t7:Nat}{u vk fv:Value}{h:Nat}{lo hi:SB}{ks:List ByteArray}{vs xs:List NoV}{ts:List Tr}{ps:List Nat}{ws:List PgW}{j k:Nat}(hI:BvI w W gl B B' s0 t7 u vk fv h lo hi ks vs xs ts ps ws j k)(t:Turn (LF W gl B) W W5):
  W5.ownsRow B' VT nodE.sz u vs.length (nodE.row (xs++vs.drop j))∧(∀i,i<j→NdS W5 (BQ B s0 fv) h (lob lo ks i) (hib hi ks i) (va xs i) (layT (ta ts i) (ps.drop (z0f (ts.take i)))))∧EV strE W5 vk ks∧Turn (LFu w gl B u) w W5∧
   W5.heap[w.heap.size]? =some (.cells #[.int .i64 0,nilS,nilS,nilS] VT (0,0)):=
 ⟨hI.ly.own t hI.kd,fun i hi=>(hI.new i hi).step t (fun i hi _=>by
   obtain⟨A,T,fz,h1,h2⟩:=hI.ly.tf i hi;exact⟨A,T,fz,h1,.inl h2⟩) (fun _ h _=>h),hI.key.turn z5a t hI.ly.tf,LFu.trans hI.lt t,hI.ly.hg t hI.rs⟩
theorem y7s {w W5 W6 W7:World}{B s0 h n:Nat}{fv:Value}{lo hi:SB}{ks:List ByteArray}{xs:List NoV}{tl:List Tr}{x:NoV}{nps:List Nat}{A0:Array Value}{fz0:Nat×Nat}(hBw:B≤w.heap.size)(hs:w.heap.size<s0)(hw5:w.heap.size≤W5.heap.size)
  (new:∀i,i<n→NdS W5 (BQ B s0 fv) h (lob lo ks i) (hib hi ks i) (va xs i) (ta tl i)) (hb:Below W5.heap.size W5 W6) (hc:x.c=nilS) (hk:EV strE W6 x.k ks) (hp:EV ptrE W6 x.p nps) (hpl:nps.length=n) (hvb:∀i,i<n→VB4 W6 (na nps i) (va xs i)∧W5.heap.size<na nps i)
  (hkl:ks.length+1=n) (htl:tl.length=n) (hok:∀k∈ks,okK k=true) (hgs:∀t∈tl,126≤t.sz∧t.sz≤504) (hrs:W6.heap[w.heap.size]? =some (.cells A0 VT fz0)) (tA:Turn (fun i=>i=w.heap.size) W6 W7):NdS W7 (fun b=>B≤b∧b<w.heap.size) (h+1) lo hi x (.bran x.pg ks tl):=fun W' F hF hcd=>by
 have t:Turn (fun i=>i=w.heap.size∨F i) W6 W':=(tA.mono (fun i hi _=> .inl hi)).step hF (fun i hi _=> .inr hi);have hG:∀i,(i=w.heap.size∨F i)→i<W6.heap.size→VQ W6 (fun b=>B≤b∧b≤w.heap.size) i:=fun i hi hl=>by
  by_cases h1:i=w.heap.size
  ·subst h1;exact⟨A0,VT,fz0,hrs,.inr ⟨.inr rfl,hBw,zlr _⟩⟩
  ·rcases hi with hi|hi
   ·exact absurd hi h1
   ·obtain⟨A,T,fz,g1,g2⟩:=hcd i hi (Nat.lt_of_lt_of_le hl tA.size);rw[tA.block i hl h1] at g1;exact⟨A,T,fz,g1,g2.imp_right (fun h3=>⟨h3.1,h3.2.1,Nat.le_of_lt h3.2.2⟩)⟩
 have hno:∀{b T:Nat} {A:Array Value} {fz:Nat×Nat},W6.heap[b]? =some (.cells A T fz)→vty T=false→((T=3∨T=VT)→w.heap.size<b)→¬(b=w.heap.size∨F b):=fun{b T A fz} hb hT hlo hFb=>by
  obtain⟨A2,T2,fz2,g1,g2⟩:=hG b hFb (zag.1 hb).1;rw[hb] at g1;injection g1 with g1
  injection g1 with _ g1 _
  rcases g2 with g2|⟨g2,g3⟩
  ·rw[←g1,hT] at g2;cases g2
  ·have:=hlo (g2.imp g1.trans g1.trans);omega
 have hev:∀{α:Type} {E:Elt α} {v:Value} {l:List α},(∀T,E.ty T=true→vty T=false∧T≠3∧T≠VT)→EV E W6 v l→EV E W' v l:=fun{α E v l} hE hv=>by
  obtain⟨a,c,rfl,hs,h1⟩:=hv;refine⟨a,c,rfl,?_,h1⟩
  rcases hs with hs|⟨g,o,rfl,⟨A,T,fz,ht,hT⟩,hcell⟩
  ·exact .inl hs
  ·have hE':=hE T hT;have hg:=hno ht hE'.1 (fun h=>h.elim (fun h=>absurd h hE'.2.1) (fun h=>absurd h hE'.2.2));refine .inr ⟨g,o,rfl,⟨A,T,fz,t.hg ht hg,hT⟩,fun j u hu=> ?_⟩;have h1:=hcell j u hu;rw[t.cell (p:=⟨g,o+j,none⟩) (block_lt_of_cell h1) hg];exact h1
 refine⟨ks,nps,tl,rfl,hc,hev (fun T hT=> ?_) hk,hev (fun T hT=> ?_) hp,q59 (d:=default) (by omega) (by omega) hok (fun i hi=> ?_)⟩
 ·have h1:(T==9)=true:=hT;obtain rfl:=eq_of_beq h1
  decide
 ·have h1:(T==PNT)=true:=hT;obtain rfl:=eq_of_beq h1
  decide
 ·have hin:i<n:=by omega
  obtain⟨v1,v2⟩:=hvb i hin;have hv1:VB4 W' (na nps i) (va xs i):=t.hg v1 (hno v1 (by decide) (fun _=>by omega));have hnd:=((new i hin).ext (Q1:=BQ B s0 fv) hb (fun _ h _=>h)) W' _ t (fun b hb hl=>by
   obtain⟨A,T,fz,g1,g2⟩:=hG b hb hl;exact⟨A,T,fz,g1,g2.imp_right (fun h3=>⟨h3.1,h3.2.1,.inl (by have:=h3.2.2;omega)⟩)⟩)
  exact⟨NdVT.node hv1.np hnd,hgs _ (z8b (by omega))⟩
end Go.Proofs.YtdnfhjfbanhhcaaGreatDoor
