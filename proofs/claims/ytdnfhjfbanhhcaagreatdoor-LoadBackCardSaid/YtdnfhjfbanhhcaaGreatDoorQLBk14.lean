/-
  Steps.
-/
import Derived.Test.YtdnfhjfbanhhcaaGreatDoorProg
import Derived.Test.YtdnfhjfbanhhcaaGreatDoorQLBk09
import Derived.Deep.LoopGhost
import Derived.Test.YtdnfhjfbanhhcaaGreatDoorQLBk03
import Derived.Lib.Zigzag
namespace Go.Proofs.YtdnfhjfbanhhcaaGreatDoor
open Go Go.RowKit
abbrev ET:TypeId:=110
abbrev RET:TypeId:=111
abbrev NT:TypeId:=83
abbrev VT:TypeId:=85
abbrev TCT:TypeId:=119
abbrev SCT:TypeId:=79
abbrev SRET:TypeId:=29
abbrev PNT:TypeId:=26
abbrev nilS:Value:=.slice none 0 0
abbrev pt (b:Nat):Value:=.pointer (some ⟨b,0,none⟩)
def entE:Elt En:=⟨2,32,.agg #[.string ⟨#[]⟩,.string ⟨#[]⟩],fun e=> [.string e.k,.string e.v],fun _=>rfl,fun e u hu=>by
 simp only[List.mem_cons,List.not_mem_nil,or_false] at hu;rcases hu with rfl|rfl<;>rfl,by decide,rfl,fun T=>T==ET||T==RET⟩
def strE:Elt ByteArray:=⟨1,16,.string ⟨#[]⟩,fun s=> [.string s],fun _=>rfl,fun e u hu=>by
 simp only[List.mem_cons,List.not_mem_nil,or_false] at hu;subst hu;rfl,by decide,rfl,fun T=>T==9⟩
def ptrE:Elt Nat:=⟨1,8,.pointer none,fun b=> [pt b],fun _=>rfl,fun e u hu=>by
 simp only[List.mem_cons,List.not_mem_nil,or_false] at hu;subst hu;rfl,by decide,rfl,fun T=>T==PNT⟩
def pgE:Elt Nat:=⟨1,8,.int .i64 0,fun p=> [.int .i64 p],fun _=>rfl,fun e u hu=>by
 simp only[List.mem_cons,List.not_mem_nil,or_false] at hu;subst hu;rfl,by decide,rfl,fun T=>T==3⟩
structure Rw where
 k:ByteArray
 v:ByteArray
 a:Option Addr
 n:Nat
 c:Nat
def Rw.sl (x:Rw):Value:=.slice x.a x.n x.c
instance :Inhabited Rw:=⟨⟨ByteArray.empty,ByteArray.empty,none,0,0⟩⟩
def celE:Elt Rw:=⟨3,56,.agg #[.string ⟨#[]⟩,.string ⟨#[]⟩,.slice none 0 0],fun e=> [.string e.k,.string e.v,.slice e.a e.n e.c],fun _=>rfl,fun e u hu=>by
 simp only[List.mem_cons,List.not_mem_nil,or_false] at hu;rcases hu with rfl|rfl|rfl<;>rfl,by decide,rfl,fun T=>T==TCT⟩
theorem y0x:(Tryz.prog.info? TCT).map (fun i=>(i.zero,i.size,i.bytes))=some (some celE.zero,celE.sz,celE.by_):=by kernel_rfl
theorem y0y:(Tryz.prog.info? 3).map (fun i=>(i.zero,i.size,i.bytes))=some (some pgE.zero,pgE.sz,pgE.by_):=by kernel_rfl
theorem q2h:(Tryz.prog.info? ET).map (fun i=>(i.zero,i.size,i.bytes))=some (some entE.zero,entE.sz,entE.by_):=by kernel_rfl
theorem x4a:(Tryz.prog.info? RET).map (fun i=>(i.zero,i.size,i.bytes))=some (some entE.zero,entE.sz,entE.by_):=by kernel_rfl
theorem y4o:(Tryz.prog.info? 9).map (fun i=>(i.zero,i.size,i.bytes))=some (some strE.zero,strE.sz,strE.by_):=by kernel_rfl
theorem x4b:(Tryz.prog.info? PNT).map (fun i=>(i.zero,i.size,i.bytes))=some (some ptrE.zero,ptrE.sz,ptrE.by_):=by kernel_rfl
section
variable {w:World}
theorem ES.ents {a:Option Addr}{es:List En}(h:ES entE w a es)(h0:0<es.length):∃g o,a=some ⟨g,o,none⟩∧∀i,i<es.length→w.cell? ⟨g,o+i*2,none⟩=some (.string (ea es i).k)∧w.cell? ⟨g,o+i*2+1,none⟩=some (.string (ea es i).v):=by
 obtain⟨g,o,rfl,hc⟩:=h.at h0;refine⟨g,o,rfl,fun i hi=> ?_⟩;have e:es[i]? =some (ea es i):=by unfold ea;simp[List.getD,hi]
 have h1:=hc (i*2+0) _ (entE.row_at es i 0 _ e (by decide));have h2:=hc (i*2+1) _ (entE.row_at es i 1 _ e (by decide));exact⟨h1,h2⟩
theorem ES.texts {a:Option Addr}{ks:List ByteArray}(h:ES strE w a ks):TxS w a ks:=fun h0=>by
 obtain⟨g,o,rfl,hc⟩:=h.at h0;refine⟨g,o,rfl,fun i hi=> ?_⟩;have e:ks[i]? =some (sa ks i):=by unfold sa;simp[List.getD,hi]
 have h1:=hc (i*1+0) _ (strE.row_at ks i 0 _ e (by decide));rw[show i*1+0=i by omega] at h1;exact h1
def na (ps:List Nat)(i:Nat):Nat:=ps.getD i 0
theorem ES.ptrs {a:Option Addr}{ps:List Nat}(h:ES ptrE w a ps)(h0:0<ps.length):∃g o,a=some ⟨g,o,none⟩∧∀i,i<ps.length→w.cell? ⟨g,o+i,none⟩=some (pt (na ps i)):=by
 obtain⟨g,o,rfl,hc⟩:=h.at h0;refine⟨g,o,rfl,fun i hi=> ?_⟩;have e:ps[i]? =some (na ps i):=by unfold na;simp[List.getD,hi]
 have h1:=hc (i*1+0) _ (ptrE.row_at ps i 0 _ e (by decide));rw[show i*1+0=i by omega] at h1;exact h1
theorem ES.pages {a:Option Addr}{ps:List Nat}(h:ES pgE w a ps)(h0:0<ps.length):∃g o,a=some ⟨g,o,none⟩∧∀i,i<ps.length→w.cell? ⟨g,o+i,none⟩=some (.int .i64 (na ps i:Nat)):=by
 obtain⟨g,o,rfl,hc⟩:=h.at h0;refine⟨g,o,rfl,fun i hi=> ?_⟩;have e:ps[i]? =some (na ps i):=by unfold na;simp[List.getD,hi]
 have h1:=hc (i*1+0) _ (pgE.row_at ps i 0 _ e (by decide));rw[show i*1+0=i by omega] at h1;exact h1
def ROk (w:World)(x:Rw)(e:En):Prop:=x.k=e.k∧x.v=e.v∧EV pgE w x.sl e.ch
theorem ROk.below {w':World}{x:Rw}{e:En}{B:Nat}(h:ROk w x e)(hb:Below B w w')(hB:w.heap.size≤B):ROk w' x e:=⟨h.1,h.2.1,h.2.2.below hb hB⟩
def RW (w:World):List Rw→List En→Prop
 | [],[]=>True
 | x::xs,e::es=>ROk w x e∧RW w xs es
 | _,_=>False
theorem RW.len:∀{xs:List Rw} {es:List En},RW w xs es→xs.length=es.length
 | [],[],_=>rfl
 | _::_,_::_,h=>by rw[List.length_cons,List.length_cons,RW.len h.2]
 | [],_::_,h=>h.elim
 | _::_,[],h=>h.elim
theorem RW.below {w':World}{B:Nat}(hb:Below B w w')(hB:w.heap.size≤B):∀{xs:List Rw} {es:List En},RW w xs es→RW w' xs es
 | [],[],_=>trivial
 | _::_,_::_,h=>⟨h.1.below hb hB,RW.below hb hB h.2⟩
 | [],_::_,h=>h.elim
 | _::_,[],h=>h.elim
theorem RW.take:∀{xs:List Rw} {es:List En} (k:Nat),RW w xs es→RW w (xs.take k) (es.take k)
 | [],[],k,_=>by simp[RW]
 | _::_,_::_,0,_=>trivial
 | _::_,_::_,k+1,h=>⟨h.1,RW.take k h.2⟩
 | [],_::_,_,h=>h.elim
 | _::_,[],_,h=>h.elim
theorem RW.drop:∀{xs:List Rw} {es:List En} (k:Nat),RW w xs es→RW w (xs.drop k) (es.drop k)
 | [],[],k,_=>by simp[RW]
 | _::_,_::_,0,h=>h
 | _::_,_::_,k+1,h=>RW.drop k h.2
 | [],_::_,_,h=>h.elim
 | _::_,[],_,h=>h.elim
theorem RW.app:∀{xs:List Rw} {es:List En} {xs2:List Rw} {es2:List En},RW w xs es→RW w xs2 es2→RW w (xs++xs2) (es++es2)
 | [],[],_,_,_,h2=>h2
 | _::_,_::_,_,_,h,h2=>⟨h.1,RW.app h.2 h2⟩
 | [],_::_,_,_,h,_=>h.elim
 | _::_,[],_,_,h,_=>h.elim
theorem RW.at:∀{xs:List Rw} {es:List En} {i:Nat},RW w xs es→i<es.length→ROk w (xs.getD i default) (ea es i)
 | [],[],i,_,hi=>by simp at hi
 | _::_,_::_,0,h,_=>h.1
 | _::_,_::_,i+1,h,hi=>by
  have:=RW.at (i:=i) h.2 (by simpa using hi);exact this
 | [],_::_,_,h,_=>h.elim
 | _::_,[],_,h,_=>h.elim
def CS (w:World)(a:Option Addr)(es:List En):Prop:=∃xs,ES celE w a xs∧RW w xs es
theorem CS.nil (w:World):CS w none []:=⟨[],ES.nil w,trivial⟩
theorem CS.below {w':World}{a:Option Addr}{es:List En}{B:Nat}(h:CS w a es)(hb:Below B w w')(hB:w.heap.size≤B):CS w' a es:=by
 obtain⟨xs,h1,h2⟩:=h;exact⟨xs,h1.below hb hB,h2.below hb hB⟩
theorem CS.take {a:Option Addr}{es:List En}(h:CS w a es)(k:Nat):CS w a (es.take k):=by
 obtain⟨xs,h1,h2⟩:=h;exact⟨xs.take k,h1.take k,h2.take k⟩
theorem CS.drop {g o:Nat}{es:List En}(h:CS w (some ⟨g,o,none⟩) es)(k q:Nat)(hk:k≤es.length)(hq:q=o+k*3):CS w (some ⟨g,q,none⟩) (es.drop k):=by
 obtain⟨xs,h1,h2⟩:=h;exact⟨xs.drop k,h1.drop k q (by rw[h2.len];exact hk) hq,h2.drop k⟩
theorem CS.ents {a:Option Addr}{es:List En}(h:CS w a es)(h0:0<es.length):∃g o,a=some ⟨g,o,none⟩∧∀i,i<es.length→w.cell? ⟨g,o+i*3,none⟩=some (.string (ea es i).k)∧w.cell? ⟨g,o+i*3+1,none⟩=some (.string (ea es i).v)∧
  ∃v,w.cell? ⟨g,o+i*3+2,none⟩=some v∧EV pgE w v (ea es i).ch:=by
 obtain⟨xs,h1,h2⟩:=h;have hl:=h2.len;obtain⟨g,o,rfl,hc⟩:=h1.at (by omega);refine⟨g,o,rfl,fun i hi=> ?_⟩;obtain⟨e1,e2,e3⟩:=h2.at hi;have e:xs[i]? =some (xs.getD i default):=by simp[List.getD,show i<xs.length by omega]
 have c0:=hc (i*3+0) _ (celE.row_at xs i 0 _ e (by decide));have c1:=hc (i*3+1) _ (celE.row_at xs i 1 _ e (by decide));have c2:=hc (i*3+2) _ (celE.row_at xs i 2 _ e (by decide));refine⟨by rw[←e1];exact c0,by rw[←e2];exact c1,_,c2,e3⟩
def CV (w:World)(v:Value)(es:List En):Prop:=∃a c,v=.slice a es.length c∧CS w a es∧(a=none→c=0)∧es.length≤c∧c≤maxLen
theorem CV.below {w':World}{v:Value}{es:List En}{B:Nat}(h:CV w v es)(hb:Below B w w')(hB:w.heap.size≤B):CV w' v es:=by
 obtain⟨a,c,rfl,hs,h1⟩:=h;exact⟨a,c,rfl,hs.below hb hB,h1⟩
theorem CV.ext {w':World}{v:Value}{es:List En}(h:CV w v es)(hb:Below w.heap.size w w'):CV w' v es:=h.below hb (zlr _)
theorem CV.none (w:World):CV w (.slice none 0 0) []:=⟨Option.none,0,rfl,CS.nil w,fun _=>rfl,zlr _,by unfold maxLen;omega⟩
theorem q6n {v:Value}{xs:List Rw}{es:List En}(h:EV celE w v xs)(h2:RW w xs es):CV w v es:=by
 obtain⟨a,c,rfl,hs,hz,h3,h4⟩:=h;have hl:=h2.len;exact⟨a,c,by rw[hl],⟨xs,hs,h2⟩,hz,by omega,h4⟩
theorem CV.raw {v:Value}{es:List En}(h:CV w v es):∃xs,EV celE w v xs∧RW w xs es:=by
 obtain⟨a,c,rfl,⟨xs,hs,h2⟩,hz,h3,h4⟩:=h;have hl:=h2.len;exact⟨xs,⟨a,c,by rw[hl],hs,hz,by omega,h4⟩,h2⟩
def nty (T:TypeId):Bool:=T==NT||T==VT
def NP (w:World)(b pg:Nat)(vc vk vp:Value):Prop:=∃T,nty T=true∧w.heap[b]? =some (.cells #[.int .i64 (pg:Nat),vc,vk,vp] T (0,0))
theorem NP.c0 {b pg:Nat}{vc vk vp:Value}(h:NP w b pg vc vk vp):w.cell? ⟨b,0,none⟩=some (.int .i64 (pg:Nat)):=by
 obtain⟨T,_,h'⟩:=h;simp[World.cell?,h']
theorem NP.c1 {b pg:Nat}{vc vk vp:Value}(h:NP w b pg vc vk vp):w.cell? ⟨b,1,none⟩=some vc:=by
 obtain⟨T,_,h'⟩:=h;simp[World.cell?,h']
theorem NP.c2 {b pg:Nat}{vc vk vp:Value}(h:NP w b pg vc vk vp):w.cell? ⟨b,2,none⟩=some vk:=by
 obtain⟨T,_,h'⟩:=h;simp[World.cell?,h']
theorem NP.c3 {b pg:Nat}{vc vk vp:Value}(h:NP w b pg vc vk vp):w.cell? ⟨b,3,none⟩=some vp:=by
 obtain⟨T,_,h'⟩:=h;simp[World.cell?,h']
theorem NP.lt {b pg:Nat}{vc vk vp:Value}(h:NP w b pg vc vk vp):b<w.heap.size:=h.elim fun _ h=>(zag.1 h.2).1
theorem NP.new (w:World)(pg:Nat)(vc vk vp:Value):NP (w.alloc (.cells #[.int .i64 (pg:Nat),vc,vk,vp] NT)) w.heap.size pg vc vk vp:=
 ⟨NT,rfl,by show(w.heap.push _)[w.heap.size]? =_;rw[Array.getElem?_push_size]⟩
theorem q6q (w:World)(pg:Nat)(vc vk vp:Value):NP (w.alloc (.cells #[.int .i64 (pg:Nat),vc,vk,vp] VT)) w.heap.size pg vc vk vp:=
 ⟨VT,by simp[nty],by show(w.heap.push _)[w.heap.size]? =_;rw[Array.getElem?_push_size]⟩
theorem NP.ext {w':World}{b pg:Nat}{vc vk vp:Value}(h:NP w b pg vc vk vp)(hb:Below w.heap.size w w'):NP w' b pg vc vk vp:=h.elim fun T h'=>⟨T,h'.1,(hb.block b (zag.1 h'.2).1).trans h'.2⟩
def NB (w:World)(b:Nat)(vc vk vp:Value):Prop:=∃pg,NP w b pg vc vk vp
theorem NP.nb {b pg:Nat}{vc vk vp:Value}(h:NP w b pg vc vk vp):NB w b vc vk vp:=⟨pg,h⟩
theorem NB.c1 {b:Nat}{vc vk vp:Value}(h:NB w b vc vk vp):w.cell? ⟨b,1,none⟩=some vc:=h.elim fun _ h=>h.c1
theorem NB.c2 {b:Nat}{vc vk vp:Value}(h:NB w b vc vk vp):w.cell? ⟨b,2,none⟩=some vk:=h.elim fun _ h=>h.c2
theorem NB.c3 {b:Nat}{vc vk vp:Value}(h:NB w b vc vk vp):w.cell? ⟨b,3,none⟩=some vp:=h.elim fun _ h=>h.c3
theorem NB.lt {b:Nat}{vc vk vp:Value}(h:NB w b vc vk vp):b<w.heap.size:=h.elim fun _ h=>h.lt
theorem NB.ext {w':World}{b:Nat}{vc vk vp:Value}(h:NB w b vc vk vp)(hb:Below w.heap.size w w'):NB w' b vc vk vp:=h.elim fun pg h=>⟨pg,h.ext hb⟩
end
def y0b (w:World)(b pg:Nat)(es:List En):Prop:=∃vc,NP w b pg vc nilS nilS∧CV w vc es
def z5g (w:World)(b pg:Nat)(ks:List ByteArray)(ps:List Nat):Prop:=∃vk vp,NP w b pg nilS vk vp∧EV strE w vk ks∧EV ptrE w vp ps
theorem y0b.ext {w w':World}{b pg:Nat}{es:List En}(h:y0b w b pg es)(hb:Below w.heap.size w w'):y0b w' b pg es:=by
 obtain⟨vc,h1,h2⟩:=h;exact⟨vc,h1.ext hb,h2.ext hb⟩
theorem z5g.ext {w w':World}{b pg:Nat}{ks:List ByteArray}{ps:List Nat}(h:z5g w b pg ks ps)(hb:Below w.heap.size w w'):z5g w' b pg ks ps:=by
 obtain⟨vk,vp,h1,h2,h3⟩:=h;exact⟨vk,vp,h1.ext hb,h2.ext hb,h3.ext hb⟩
def Leaf (w:World)(b:Nat)(es:List En):Prop:=∃vc,NB w b vc nilS nilS∧CV w vc es
def Bran (w:World)(b:Nat)(ks:List ByteArray)(ps:List Nat):Prop:=∃vk vp,NB w b nilS vk vp∧EV strE w vk ks∧EV ptrE w vp ps
theorem y0b.leaf {w:World}{b pg:Nat}{es:List En}(h:y0b w b pg es):Leaf w b es:=by
 obtain⟨vc,h1,h2⟩:=h;exact⟨vc,h1.nb,h2⟩
theorem z5g.bran {w:World}{b pg:Nat}{ks:List ByteArray}{ps:List Nat}(h:z5g w b pg ks ps):Bran w b ks ps:=by
 obtain⟨vk,vp,h1,h2,h3⟩:=h;exact⟨vk,vp,h1.nb,h2,h3⟩
theorem Leaf.ext {w w':World}{b:Nat}{es:List En}(h:Leaf w b es)(hb:Below w.heap.size w w'):Leaf w' b es:=by
 obtain⟨vc,h1,h2⟩:=h;exact⟨vc,h1.ext hb,h2.ext hb⟩
theorem Bran.ext {w w':World}{b:Nat}{ks:List ByteArray}{ps:List Nat}(h:Bran w b ks ps)(hb:Below w.heap.size w w'):Bran w' b ks ps:=by
 obtain⟨vk,vp,h1,h2,h3⟩:=h;exact⟨vk,vp,h1.ext hb,h2.ext hb,h3.ext hb⟩
def Nd (w:World):Nat→SB→SB→Nat→List En→Nat→Prop
 | 0,lo,hi,b,es,s=>Leaf w b es∧ltO lo hi∧srt es∧(∀x∈es,okE x∧ins lo hi x.k)∧s=z0s es
 | h+1,lo,hi,b,es,s=>∃ks ps ess,Bran w b ks ps∧KRow (fun lo hi p e=>∃s,Nd w h lo hi p e s∧126≤s∧s≤504) ks lo hi ps ess∧es=ess.flatten∧s=brSz ks
def Good (w:World)(h:Nat)(lo hi:SB)(p:Nat)(e:List En):Prop:=∃s,Nd w h lo hi p e s∧126≤s∧s≤504
theorem Nd.ext {w w':World}(hb:Below w.heap.size w w'):∀(h:Nat) {lo hi:SB} {b:Nat} {es:List En} {s:Nat},Nd w h lo hi b es s→Nd w' h lo hi b es s
 | 0,_,_,_,_,_,⟨h1,h2⟩=>⟨h1.ext hb,h2⟩
 | h+1,_,_,_,_,_,⟨ks,ps,ess,h1,h2,h3⟩=>⟨ks,ps,ess,h1.ext hb,h2.mono (fun _ _ _ _ ⟨s,h4,h5⟩=>⟨s,Nd.ext hb h h4,h5⟩),h3⟩
theorem Nd.facts {w:World}:∀(h:Nat) {lo hi:SB} {b:Nat} {es:List En} {s:Nat},Nd w h lo hi b es s→ltO lo hi∧srt es∧∀x∈es,okE x∧ins lo hi x.k
 | 0,_,_,_,_,_,⟨_,h2,h3,h4,_⟩=>⟨h2,h3,h4⟩
 | h+1,_,_,_,_,_,⟨ks,ps,ess,_,h2,h3,_⟩=>by
  have:=h2.facts (fun lo hi p e hg=>by
   obtain⟨s,h4,_⟩:=hg;exact Nd.facts h h4)
  rw[h3];exact⟨this.1,this.2.1,this.2.2.1⟩
theorem Good.facts {w:World}{h:Nat}:∀lo hi p e,Good w h lo hi p e→ltO lo hi∧srt e∧∀x∈e,okE x∧ins lo hi x.k:=fun _ _ _ _ ⟨_,h4,_⟩=>Nd.facts h h4
theorem Good.count {w:World}:∀(h:Nat) lo hi p e,Good w h lo hi p e→2*4^h≤e.length
 | 0,lo,hi,p,e,⟨s,⟨_,_,_,h4,h5⟩,h6,_⟩=>by
  have h7:=z1i (fun x hx=>(h4 x hx).1);unfold z0s at h5
  rcases zng e.length 2 with h8|h8
  ·have:vs e.length=1:=z1k (by omega);omega
  ·exact h8
 | h+1,lo,hi,p,e,⟨s,⟨ks,ps,ess,_,h2,h3,h4⟩,h6,_⟩=>by
  have h7:=h2.count (m:=2*4^h) (fun lo hi p e hg=>Good.count h lo hi p e hg);have h8:=z0u (h2.facts Good.facts).2.2.2;unfold brSz at h4;have h9:3≤ks.length:=by omega
  rw[h3];have h10:2*4^h*4≤2*4^h*(ks.length+1):=Nat.mul_le_mul_left _ (by omega);rw[Nat.pow_succ];omega
def NdT (w:World):Nat→SB→SB→Nat→Tr→Prop
 | 0,lo,hi,b,t=>∃pg es,t=.leaf pg es∧y0b w b pg es∧ltO lo hi∧srt es∧∀x∈es,okE x∧ins lo hi x.k
 | h+1,lo,hi,b,t=>∃pg ks ps ts,t=.bran pg ks ts∧z5g w b pg ks ps∧KRow (fun lo hi p t=>NdT w h lo hi p t∧126≤t.sz∧t.sz≤504) ks lo hi ps ts
def z09 (w:World)(h:Nat)(lo hi:SB)(p:Nat)(t:Tr):Prop:=NdT w h lo hi p t∧126≤t.sz∧t.sz≤504
theorem z6m {w:World}{h:Nat}{lo hi:SB}{b:Nat}{t:Tr}:NdT w (h+1) lo hi b t↔∃pg ks ps ts,t=.bran pg ks ts∧z5g w b pg ks ps∧KRow (z09 w h) ks lo hi ps ts:=Iff.rfl
theorem NdT.ext {w w':World}(hb:Below w.heap.size w w'):∀(h:Nat) {lo hi:SB} {b:Nat} {t:Tr},NdT w h lo hi b t→NdT w' h lo hi b t
 | 0,_,_,_,_,⟨pg,es,h0,h1,h2⟩=>⟨pg,es,h0,h1.ext hb,h2⟩
 | h+1,_,_,_,_,⟨pg,ks,ps,ts,h0,h1,h2⟩=>⟨pg,ks,ps,ts,h0,h1.ext hb,h2.mono (fun _ _ _ _ ⟨h4,h5⟩=>⟨NdT.ext hb h h4,h5⟩)⟩
theorem z09.ext {w w':World}(hb:Below w.heap.size w w'){h:Nat}{lo hi:SB}{p:Nat}{t:Tr}(hg:z09 w h lo hi p t):z09 w' h lo hi p t:=⟨NdT.ext hb h hg.1,hg.2⟩
theorem NdT.nd {w:World}:∀(h:Nat) {lo hi:SB} {b:Nat} {t:Tr},NdT w h lo hi b t→Nd w h lo hi b t.es t.sz
 | 0,_,_,_,_,⟨pg,es,h0,h1,h2,h3,h4⟩=>by
  subst h0;rw[Tr.es];exact⟨h1.leaf,h2,h3,h4,rfl⟩
 | h+1,_,_,_,_,⟨pg,ks,ps,ts,h0,h1,h2⟩=>by
  subst h0;rw[Tr.es];exact⟨ks,ps,ts.map Tr.es,h1.bran,h2.map Tr.es (fun _ _ _ t ⟨h4,h5⟩=>⟨t.sz,NdT.nd h h4,h5⟩),z2i ts,rfl⟩
theorem z09.good {w:World}{h:Nat}{lo hi:SB}{p:Nat}{t:Tr}(hg:z09 w h lo hi p t):Good w h lo hi p t.es:=⟨t.sz,NdT.nd h hg.1,hg.2⟩
theorem KRow.good {w:World}{h:Nat}{ks:List ByteArray}{lo hi:SB}{ps:List Nat}{ts:List Tr}(hr:KRow (z09 w h) ks lo hi ps ts):KRow (Good w h) ks lo hi ps (ts.map Tr.es):=hr.map Tr.es (fun _ _ _ _ hg=>hg.good)
theorem KRow.factsT {w:World}{h:Nat}{ks:List ByteArray}{lo hi:SB}{ps:List Nat}{ts:List Tr}(hr:KRow (z09 w h) ks lo hi ps ts):ltO lo hi∧srt (esL ts)∧(∀x∈esL ts,okE x∧ins lo hi x.k)∧∀k∈ks,okK k=true:=by
 rw[z2i];exact hr.good.facts Good.facts
def chL:List En→List Nat
 | []=> []
 | e::r=>e.ch++chL r
theorem z7h:∀(a b:List En),chL (a++b)=chL a++chL b
 | [],_=>rfl
 | e::r,b=>by rw[List.cons_append,chL,chL,z7h r b,List.append_assoc]
def cU (p:Nat)(t:Tr):Nat:=t.pgs.count p+(chL t.es).count p
def cUL (p:Nat)(ts:List Tr):Nat:=(pgsL ts).count p+(chL (esL ts)).count p
theorem z2r (p:Nat)(t:Tr)(r:List Tr):cUL p (t::r)=cU p t+cUL p r:=by
 unfold cUL cU;rw[pgsL,esL,z7h,List.count_append,List.count_append];omega
theorem z5t (p:Nat):cUL p []=0:=by unfold cUL;simp[pgsL,esL,chL]
theorem x4c (p:Nat):∀(a b:List Tr),cUL p (a++b)=cUL p a+cUL p b
 | [],b=>by rw[z5t];simp
 | t::r,b=>by rw[List.cons_append,z2r,z2r,x4c p r b];omega
theorem z7i (p pg:Nat)(ks:List ByteArray)(ts:List Tr):cU p (.bran pg ks ts)=(if pg=0 then 0 else [pg].count p)+cUL p ts:=by
 unfold cU cUL;simp only[Tr.pgs,Tr.es];rw[List.count_append]
 by_cases h:pg=0
 ·simp[h]
 ·simp only[if_neg h];omega
theorem y2h (p pg:Nat)(cs:List En):cU p (.leaf pg cs)=(if pg=0 then 0 else [pg].count p)+(chL cs).count p:=by
 unfold cU;simp only[Tr.pgs,Tr.es]
 by_cases h:pg=0
 ·simp[h]
 ·simp only[if_neg h]
def z3s (e:En):Bool:=decide (64<e.v.size)&&decide (e.ch.length=0)
def cN (e:En):Nat:=if z3s e=true then nP e.v.size else 0
def cNs:List En→Nat
 | []=>0
 | e::r=>cN e+cNs r
mutual
def Tr.need:Tr→Nat
 | .leaf pg cs=>if pg=0 then cNs cs+1 else 0
 | .bran pg _ ts=>if pg=0 then z0f ts+1 else 0
def z0f:List Tr→Nat
 | []=>0
 | t::r=>t.need+z0f r
end
def cE (e:En):Ce:=if 64<e.v.size then ⟨e.k,ByteArray.empty,(e.v.size:Int),((na e.ch 0:Nat):Int)⟩ else ⟨e.k,e.v,(e.v.size:Int),0⟩
def pgI (t:Tr):Int:=((t.pg:Nat):Int)
def layE (e:En)(ps:List Nat):En:=if z3s e=true then ⟨e.k,e.v,(ps.take (nP e.v.size)).reverse⟩ else e
def layC:List En→List Nat→List En
 | [],_=> []
 | e::r,ps=>layE e ps::layC r (ps.drop (cN e))
mutual
def layT:Tr→List Nat→Tr
 | .leaf pg cs,ps=>if pg=0 then .leaf (na ps (cNs cs)) (layC cs ps) else .leaf pg cs
 | .bran pg ks ts,ps=>if pg=0 then .bran (na ps (z0f ts)) ks (layL ts ps) else .bran pg ks ts
def layL:List Tr→List Nat→List Tr
 | [],_=> []
 | t::r,ps=>layT t ps::layL r (ps.drop t.need)
end
abbrev PgW:=Nat×List Nat
def pcW (v:ByteArray)(ps:List Nat)(n j:Nat):PgW:=(na ps j,z1l 3 (beL (if j=0 then 0 else na ps (j-1)) 2++bn (cutS v (n-1-j))))
def wrE (e:En)(ps:List Nat):List PgW:=if z3s e=true then (List.range (nP e.v.size)).map (pcW e.v ps (nP e.v.size)) else []
def wrC:List En→List Nat→List PgW
 | [],_=> []
 | e::r,ps=>wrE e ps++wrC r (ps.drop (cN e))
mutual
def wrT:Tr→List Nat→List PgW
 | .leaf pg cs,ps=>if pg=0 then wrC cs ps++[(na ps (cNs cs),z1l 1 (z10 ((layC cs ps).map cE)))] else []
 | .bran pg ks ts,ps=>if pg=0 then wrL ts ps++[(na ps (z0f ts),z1l 2 (z2n ks ((layL ts ps).map pgI)))] else []
def wrL:List Tr→List Nat→List PgW
 | [],_=> []
 | t::r,ps=>wrT t ps++wrL r (ps.drop t.need)
end
theorem z9j (ps:List Nat)(a i:Nat):na (ps.drop a) i=na ps (a+i):=by
 unfold na;simp[List.getD]
theorem z4f {ps:List Nat}{i:Nat}(h:i<ps.length):na ps i∈ps:=by
 unfold na;simp[List.getD,h]
theorem z5u (ps:List Nat)(k:Nat)(h:k<ps.length):ps.take (k+1)=ps.take k++[na ps k]:=by
 rw[List.take_succ_eq_append_getElem h];simp[na,List.getD,h]
theorem z9k (ps:List Nat):∀n,n≤ps.length→(List.range n).map (na ps)=ps.take n
 | 0,_=>by simp
 | n+1,h=>by rw[List.range_succ,List.map_append,z9k ps n (by omega),z5u ps n (by omega)];rfl
theorem q2i (e:En)(ps:List Nat)(h:cN e≤ps.length):(wrE e ps).map Prod.fst=ps.take (cN e):=by
 unfold wrE;unfold cN at h⊢
 by_cases h1:z3s e=true
 ·rw[if_pos h1] at h;rw[if_pos h1,if_pos h1,List.map_map,←z9k ps _ h];rfl
 ·rw[if_neg h1,if_neg h1];simp
theorem x4d:∀(cs:List En) (ps:List Nat),cNs cs≤ps.length→(wrC cs ps).map Prod.fst=ps.take (cNs cs)
 | [],ps,_=>by simp[wrC,cNs]
 | e::r,ps,h=>by
  rw[cNs] at h⊢
  rw[wrC,List.map_append,q2i e ps (by omega),x4d r _ (by rw[zld];omega),List.take_add]
mutual
theorem q2j:∀(t:Tr) (ps:List Nat),t.need≤ps.length→(wrT t ps).map Prod.fst=ps.take t.need
 | .leaf pg cs,ps,h=>by
  rw[Tr.need] at h⊢
  rw[wrT]
  by_cases h1:pg=0
  ·rw[if_pos h1] at h⊢
   rw[if_pos h1,List.map_append,x4d cs ps (by omega),z5u ps _ (by omega)];rfl
  ·rw[if_neg h1,if_neg h1];simp
 | .bran pg ks ts,ps,h=>by
  rw[Tr.need] at h⊢
  rw[wrT]
  by_cases h1:pg=0
  ·rw[if_pos h1] at h⊢
   rw[if_pos h1,List.map_append,y6s ts ps (by omega),z5u ps _ (by omega)];rfl
  ·rw[if_neg h1,if_neg h1];simp
theorem y6s:∀(ts:List Tr) (ps:List Nat),z0f ts≤ps.length→(wrL ts ps).map Prod.fst=ps.take (z0f ts)
 | [],ps,_=>by simp[wrL,z0f]
 | t::r,ps,h=>by
  rw[z0f] at h⊢
  rw[wrL,List.map_append,q2j t ps (by omega),y6s r _ (by rw[zld];omega),List.take_add]
end
theorem x4e (e:En)(ps:List Nat):(layE e ps).bare=e.bare:=by
 unfold layE;split<;>rfl
theorem z4r:∀(cs:List En) (ps:List Nat),bare (layC cs ps)=bare cs
 | [],_=>rfl
 | e::r,ps=>by
  have e1:bare (layC (e::r) ps)=(layE e ps).bare::bare (layC r (ps.drop (cN e))):=rfl;have e2:bare (e::r)=e.bare::bare r:=rfl;rw[e1,e2,x4e,z4r r]
mutual
theorem y4p:∀(t:Tr) (ps:List Nat),bare (layT t ps).es=bare t.es
 | .leaf pg cs,ps=>by
  rw[layT]
  by_cases h1:pg=0
  ·rw[if_pos h1,Tr.es,Tr.es,z4r]
  ·rw[if_neg h1]
 | .bran pg ks ts,ps=>by
  rw[layT]
  by_cases h1:pg=0
  ·rw[if_pos h1,Tr.es,Tr.es,z4s]
  ·rw[if_neg h1]
theorem z4s:∀(ts:List Tr) (ps:List Nat),bare (esL (layL ts ps))=bare (esL ts)
 | [],_=>by rw[layL]
 | t::r,ps=>by rw[layL,esL,esL,z6i,z6i,y4p t,z4s r]
end
theorem z33 (es:List En):z0s (bare es)=z0s es:=by
 unfold z0s szs;rw[z1p];unfold bare;rw[List.map_map];rfl
theorem y6t (t:Tr)(ps:List Nat):(layT t ps).sz=t.sz:=by
 cases t with
 | leaf pg cs=>
  rw[layT]
  by_cases h1:pg=0
  ·rw[if_pos h1,Tr.sz,Tr.sz,←z33,z4r,z33]
  ·rw[if_neg h1]
 | bran pg ks ts=>
  rw[layT]
  by_cases h1:pg=0
  ·rw[if_pos h1];rfl
  ·rw[if_neg h1]
theorem z2y:∀(ts:List Tr) (ps:List Nat),(layL ts ps).length=ts.length
 | [],_=>by rw[layL]
 | t::r,ps=>by rw[layL,List.length_cons,List.length_cons,z2y r]
theorem z34:∀(cs:List En) (ps:List Nat),(layC cs ps).length=cs.length
 | [],_=>rfl
 | e::r,ps=>by rw[layC,List.length_cons,List.length_cons,z34 r]
theorem y80 (p:Nat):∀(cs:List En) (ps:List Nat),cNs cs≤ps.length→(chL (layC cs ps)).count p=(chL cs).count p+(ps.take (cNs cs)).count p
 | [],ps,_=>by simp[layC,chL,cNs]
 | e::r,ps,h=>by
  rw[cNs] at h⊢
  rw[layC,chL,chL,List.count_append,List.count_append,y80 p r _ (by rw[zld];omega),List.take_add,List.count_append];have:(layE e ps).ch.count p=e.ch.count p+(ps.take (cN e)).count p:=by
   unfold layE cN
   by_cases h1:z3s e=true
   ·rw[if_pos h1,if_pos h1];have h2:e.ch=[]:=by
     unfold z3s at h1;simp only[Bool.and_eq_true,decide_eq_true_iff] at h1;exact List.eq_nil_of_length_eq_zero h1.2
    simp[h2]
   ·rw[if_neg h1,if_neg h1];simp
  omega
mutual
theorem x76 (p:Nat):∀(t:Tr) (ps:List Nat),t.need≤ps.length→(∀x∈ps,x≠0)→cU p (layT t ps)=cU p t+(ps.take t.need).count p
 | .leaf pg cs,ps,h,hz=>by
  rw[Tr.need] at h⊢
  rw[layT]
  by_cases h1:pg=0
  ·rw[if_pos h1] at h⊢
   have h2:na ps (cNs cs)≠0:=hz _ (z4f (by omega));rw[if_pos h1,y2h,y2h,if_neg h2,if_pos h1,y80 p cs ps (by omega),z5u ps _ (by omega),List.count_append];omega
  ·rw[if_neg h1,if_neg h1];simp
 | .bran pg ks ts,ps,h,hz=>by
  rw[Tr.need] at h⊢
  rw[layT]
  by_cases h1:pg=0
  ·rw[if_pos h1] at h⊢
   have h2:na ps (z0f ts)≠0:=hz _ (z4f (by omega));rw[if_pos h1,z7i,z7i,if_neg h2,if_pos h1,y2i p ts ps (by omega) hz,z5u ps _ (by omega),List.count_append];omega
  ·rw[if_neg h1,if_neg h1];simp
theorem y2i (p:Nat):∀(ts:List Tr) (ps:List Nat),z0f ts≤ps.length→(∀x∈ps,x≠0)→cUL p (layL ts ps)=cUL p ts+(ps.take (z0f ts)).count p
 | [],ps,_,_=>by simp[layL,z0f,z5t]
 | t::r,ps,h,hz=>by
  rw[z0f] at h⊢
  rw[layL,z2r,z2r,x76 p t ps (by omega) hz,y2i p r _ (by rw[zld];omega) (fun x hx=>hz x (List.mem_of_mem_drop hx)),List.take_add,List.count_append];omega
end
section
variable (P:Nat→List Nat)
def ChH (v:ByteArray)(ch:List Nat):Prop:=ch.length=nP v.size∧∀i,i<ch.length→P (na ch i)=z1l 3 (beL (na ch (i+1)) 2++bn (cutS v i))
def CeO (e:En):Prop:=e.ch=[]∨(64<e.v.size∧ChH P e.v e.ch)
def CeL (e:En):Prop:=(e.v.size≤64∧e.ch=[])∨(64<e.v.size∧ChH P e.v e.ch)
def QH:Tr→Prop
 | .leaf pg es=>P pg=z1l 1 (z10 (es.map cE))∧∀e∈es,64<e.v.size→e.ch≠[]
 | .bran pg ks ts=>P pg=z1l 2 (z2n ks (ts.map pgI))∧∀t∈ts,t.pg≠0
theorem CeO.lies {e:En}(h:CeO P e)(h1:64<e.v.size→e.ch≠[]):CeL P e:=by
 rcases h with h|h
 ·refine .inl ⟨?_,h⟩
  rcases zng 64 e.v.size with h2|h2
  ·exact absurd h (h1 h2)
  ·exact h2
 ·exact .inr h
theorem CeL.o {e:En}(h:CeL P e):CeO P e:=by
 rcases h with h|h
 ·exact .inl h.2
 ·exact .inr h
theorem x4f {Q:Tr→Prop}:∀{ts:List Tr},onL Q ts→∀t∈ts,t.on Q
 | [],_,t,h=>by cases h
 | u::r,h,t,ht=>by
  rw[onL] at h
  rcases List.mem_cons.1 ht with rfl|ht
  ·exact h.1
  ·exact x4f h.2 t ht
mutual
/-- Of a tree that lies all long values lie.-/
theorem y2j:∀(t:Tr),t.on (QH P)→t.pg≠0→∀e∈t.es,64<e.v.size→e.ch≠[]
 | .leaf pg cs,h,h0=>by
  rw[Tr.on] at h;rw[Tr.es];exact(h h0).2
 | .bran pg ks ts,h,h0=>by
  rw[Tr.on] at h;rw[Tr.es];exact y4q ts h.2 (h.1 h0).2
theorem y4q:∀(ts:List Tr),onL (QH P) ts→(∀t∈ts,t.pg≠0)→∀e∈esL ts,64<e.v.size→e.ch≠[]
 | [],_,_=>by rw[esL];intro e he;cases he
 | t::r,h,h0=>by
  rw[onL] at h;rw[esL];intro e he
  rcases List.mem_append.1 he with he|he
  ·exact y2j t h.1 (h0 t (by simp)) e he
  ·exact y4q r h.2 (fun u hu=>h0 u (by simp[hu])) e he
end
theorem x4g {ps:List Nat}{n i:Nat}(hn:n≤ps.length)(hi:i<n):na (ps.take n).reverse i=na ps (n-1-i):=by
 have hl:(ps.take n).length=n:=by rw[zlk];omega
 have h2:i<(ps.take n).reverse.length:=by rw[List.length_reverse,hl];exact hi
 unfold na;rw[List.getD_eq_getElem?_getD,List.getElem?_eq_getElem h2,List.getElem_reverse,List.getElem_take,List.getD_eq_getElem?_getD,List.getElem?_eq_getElem (by omega)];simp only[hl]
theorem y6u {ps:List Nat}{i:Nat}(h:ps.length≤i):na ps i=0:=by
 unfold na;rw[List.getD_eq_getElem?_getD,List.getElem?_eq_none h];rfl
theorem x4h (e:En)(ps:List Nat)(hl:cN e≤ps.length)(hw:∀x∈wrE e ps,P x.1=x.2)(ho:CeO P e):CeL P (layE e ps):=by
 unfold layE
 by_cases h1:z3s e=true
 ·have h2:=h1;unfold z3s at h2;simp only[Bool.and_eq_true,decide_eq_true_iff] at h2;unfold cN at hl;unfold wrE at hw;rw[if_pos h1] at hl hw;rw[if_pos h1];obtain⟨n,hn⟩:∃n,nP e.v.size=n:=⟨_,rfl⟩
  rw[hn] at hl hw⊢
  have hlen:(ps.take n).reverse.length=n:=by rw[List.length_reverse,zlk];omega
  refine .inr ⟨h2.1,?_,fun i hi=> ?_⟩
  ·simp only;rw[hlen,hn]
  ·simp only at hi⊢
   rw[hlen] at hi;have h3:=hw (pcW e.v ps n (n-1-i)) (List.mem_map.2 ⟨n-1-i,List.mem_range.2 (by omega),rfl⟩);simp only[pcW] at h3;rw[x4g hl hi,h3];have e1:n-1-(n-1-i)=i:=by omega
   rw[e1]
   by_cases h4:i+1<n
   ·rw[x4g hl h4,if_neg (by omega)];have e2:n-1-i-1=n-1-(i+1):=by omega
    rw[e2]
   ·rw[if_pos (by omega),y6u (ps:=(ps.take n).reverse) (i:=i+1) (by rw[hlen];omega)]
 ·rw[if_neg h1];refine ho.lies P (fun h2 h3=>h1 ?_);unfold z3s;simp[h2,h3]
theorem y4r:∀(cs:List En) (ps:List Nat),cNs cs≤ps.length→(∀x∈wrC cs ps,P x.1=x.2)→(∀e∈cs,CeO P e)→∀e∈layC cs ps,CeL P e
 | [],_,_,_,_,e,he=>by cases he
 | c::r,ps,hl,hw,ho,e,he=>by
  rw[cNs] at hl;rw[wrC] at hw;rw[layC] at he
  rcases List.mem_cons.1 he with rfl|he
  ·exact x4h P c ps (by omega) (fun x hx=>hw x (List.mem_append_left _ hx)) (ho c (by simp))
  ·exact y4r r _ (by rw[zld];omega) (fun x hx=>hw x (List.mem_append_right _ hx)) (fun e he=>ho e (by simp[he])) e he
mutual
/-- What was laid lies.-/
theorem x4i:∀(t:Tr) (ps:List Nat),t.need≤ps.length→(∀x∈ps,x≠0)→(∀x∈wrT t ps,P x.1=x.2)→t.on (QH P)→(∀e∈t.es,CeO P e)→(layT t ps).on (QH P)∧(layT t ps).pg≠0∧∀e∈(layT t ps).es,CeL P e
 | .leaf pg cs,ps,hl,hz,hw,hq,ho=>by
  rw[Tr.need] at hl;rw[wrT] at hw;rw[layT];rw[Tr.es] at ho
  by_cases h1:pg=0
  ·rw[if_pos h1] at hl hw⊢
   have h3:=y4r P cs ps (by omega) (fun x hx=>hw x (List.mem_append_left _ hx)) ho;refine⟨?_,hz _ (z4f (by omega)),by rw[Tr.es];exact h3⟩;rw[Tr.on];intro _;refine⟨hw _ (List.mem_append_right _ (List.mem_singleton.2 rfl)),fun e he h4 h5=> ?_⟩
   rcases h3 e he with ⟨h6,_⟩|⟨_,h6,_⟩
   ·omega
   ·rw[h5] at h6;have:0<nP e.v.size:=y6o.2 (by omega);simp at h6;omega
  ·rw[if_neg h1];refine⟨hq,h1,fun e he=> ?_⟩;have h2:=y2j P (.leaf pg cs) hq h1 e he;rw[Tr.es] at he;exact(ho e he).lies P h2
 | .bran pg ks ts,ps,hl,hz,hw,hq,ho=>by
  rw[Tr.need] at hl;rw[wrT] at hw;rw[layT]
  by_cases h1:pg=0
  ·rw[if_pos h1] at hl hw⊢
   rw[Tr.es] at ho;have hq2:=hq;rw[Tr.on] at hq2;obtain⟨h3,h4,h5⟩:=z9l ts ps (by omega) hz (fun x hx=>hw x (List.mem_append_left _ hx)) hq2.2 ho;refine⟨?_,hz _ (z4f (by omega)),by rw[Tr.es];exact h5⟩;rw[Tr.on];exact⟨fun _=>⟨hw _ (List.mem_append_right _ (List.mem_singleton.2 rfl)),h4⟩,h3⟩
  ·rw[if_neg h1];exact⟨hq,h1,fun e he=>(ho e he).lies P (y2j P _ hq h1 e he)⟩
theorem z9l:∀(ts:List Tr) (ps:List Nat),z0f ts≤ps.length→(∀x∈ps,x≠0)→(∀x∈wrL ts ps,P x.1=x.2)→onL (QH P) ts→(∀e∈esL ts,CeO P e)→onL (QH P) (layL ts ps)∧(∀t∈layL ts ps,t.pg≠0)∧∀e∈esL (layL ts ps),CeL P e
 | [],_,_,_,_,_,_=>by
  rw[layL,onL,esL];exact⟨trivial,fun t ht=>(by cases ht),fun e he=>(by cases he)⟩
 | t::r,ps,hl,hz,hw,hq,ho=>by
  rw[z0f] at hl;rw[wrL] at hw;rw[onL] at hq;rw[esL] at ho;rw[layL,onL,esL];obtain⟨a1,a2,a3⟩:=x4i t ps (by omega) hz (fun x hx=>hw x (List.mem_append_left _ hx)) hq.1 (fun e he=>ho e (List.mem_append_left _ he));obtain⟨b1,b2,b3⟩:=z9l r (ps.drop t.need) (by rw[zld];omega) (fun x hx=>hz x (List.mem_of_mem_drop hx)) (fun x hx=>hw x (List.mem_append_right _ hx)) hq.2 (fun e he=>ho e (List.mem_append_right _ he));refine⟨⟨a1,b1⟩,fun u hu=> ?_,fun e he=> ?_⟩
  ·rcases List.mem_cons.1 hu with rfl|hu
   ·exact a2
   ·exact b2 u hu
  ·rcases List.mem_append.1 he with he|he
   ·exact a3 e he
   ·exact b3 e he
end
end
theorem y4s (t:Tr)(h:t.pg≠0):t.need=0:=by
 cases t with
 | leaf pg cs=>
  have h':¬pg=0:=h;rw[Tr.need,if_neg h']
 | bran pg ks ts=>
  have h':¬pg=0:=h;rw[Tr.need,if_neg h']
theorem x77 (t:Tr)(ps:List Nat)(h:t.pg≠0):layT t ps=t∧wrT t ps=[]:=by
 cases t with
 | leaf pg cs=>
  have h':¬pg=0:=h;rw[layT,wrT,if_neg h',if_neg h'];exact⟨rfl,rfl⟩
 | bran pg ks ts=>
  have h':¬pg=0:=h;rw[layT,wrT,if_neg h',if_neg h'];exact⟨rfl,rfl⟩
end Go.Proofs.YtdnfhjfbanhhcaaGreatDoor
namespace Go.Proofs.YtdnfhjfbanhhcaaGreatDoor
open Go Go.RowKit Go.Shelf
theorem q4o (a b:ByteArray):(!Op.bytesLess a.toList b.toList&& !a.toList==b.toList)=blt b a:=by
 rw[←Bool.not_or,x1k,Bool.not_not]
abbrev STS:TypeId:=80
set_option maxRecDepth 100000 in
theorem x78 (w:World)(b1 b2 h:Nat)(a:Option Addr)(n c:Nat)(ks:List ByteArray)(key:ByteArray)(h1:w.cell? ⟨b1,0,none⟩=some (.slice a n c))(h2:w.cell? ⟨b2,0,none⟩=some (.string key))(hn:ks.length=n)(hs:TxS w a ks)(hh:h<n):
  Calls Tryz.prog 94 #[.int .i64 h,.pointer (some ⟨b1,0,none⟩),.pointer (some ⟨b2,0,none⟩)] w fun e w'=>e=.returned (.bool (blt key (sa ks h)))∧Below w.heap.size w w':=by
 obtain⟨g,o,rfl,hcell⟩:=hs (by omega);have hA:=hcell h (by omega);have q0:∀w',Ext w.drew w'→w'.cell? ⟨g,o+h,none⟩=some (.string (sa ks h)):=fun w' hw=>by
  rw[((zbr w.heap.size w).drew.trans hw).cell (p:=⟨g,o+h,none⟩) (block_lt_of_cell hA)];exact hA
 have l1:=block_lt_of_cell h1;have l2:=block_lt_of_cell h2;have q1:∀w',Ext w.drew w'→w'.cell? ⟨b1,0,none⟩=some (.slice (some ⟨g,o,none⟩) n c):=fun w' hw=>by
  rw[((zbr w.heap.size w).drew.trans hw).cell (p:=⟨b1,0,none⟩) l1];exact h1
 have q2:∀w',Ext w.drew w'→w'.cell? ⟨b2,0,none⟩=some (.string key):=fun w' hw=>by
  rw[((zbr w.heap.size w).drew.trans hw).cell (p:=⟨b2,0,none⟩) l2];exact h2
 have hle:=q4o (sa ks h) key;generalize blt key (sa ks h)=D at*;clear hcell hA hs h1 h2 hn
 go_enter Tryz.func94,Tryz.ntmps94
 go_wp2_with fail;refine z0n [(0,true),(1,true),(2,true),(3,true),(4,true),(5,true),(6,true)] (by kernel_rfl) (by kernel_rfl) (by kernel_rfl) (by kernel_rfl) (fun _ _ _ _ _ h=>h) ?_;iterate 7 (refine grr (v:= ?_) rfl (by rfl) ?_ ?_;rotate_left;(intro w' hw';go_simp;with_reducible rfl);simp only[Act.put,zs0,zs1,zs2])
 refine z07 ?_;go_wp2_with fail;go_ret;exact⟨rfl,(zbr _ _).drew⟩
set_option maxRecDepth 100000 in
theorem y2k (w:World)(b1 b2:Nat)(a:Option Addr)(n c:Nat)(ks:List ByteArray)(key:ByteArray)(h1:w.cell? ⟨b1,0,none⟩=some (.slice a n c))(h2:w.cell? ⟨b2,0,none⟩=some (.string key))(hn:ks.length=n)(hs:TxS w a ks)(ha:z3j ks)(hl:n≤65536):
  Calls Tryz.prog 93 #[.int .i64 n,.func (.func 94) #[] #[.pointer (some ⟨b1,0,none⟩),.pointer (some ⟨b2,0,none⟩)]] w fun e w'=>e=.returned (.int .i64 (wayS ks key:Nat))∧Below w.heap.size w w':=by
 have eg:∀args w,(callFunc 94 args).run Tryz.prog w=.ok (.enter 94 args) w:=enters_of Tryz.func94 (by kernel_rfl) rfl;have hcall:∀(w':World) (h:Nat),h<n→Below w.heap.size w w'→Calls Tryz.prog 94 #[.int .i64 h,.pointer (some ⟨b1,0,none⟩),.pointer (some ⟨b2,0,none⟩)] w' fun e w''=>e=.returned (.bool (blt key (sa ks h)))∧Below w'.heap.size w' w'':=fun w' h hh hb=>
  x78 w' b1 b2 h a n c ks key (by rw[hb.cell (p:=⟨b1,0,none⟩) (block_lt_of_cell h1)];exact h1) (by rw[hb.cell (p:=⟨b2,0,none⟩) (block_lt_of_cell h2)];exact h2) hn (hs.below hb (zlr _)) hh
 have Hcall:=zh hcall;have hyes:∀h,h<n→blt key (sa ks h)=false→h<wayS ks key:=fun h hh hb=>by
  rcases zng h (wayS ks key) with h3|h3
  ·exact h3
  ·rw[q12 ha key h h3 (by omega)] at hb;cases hb
 have hno:∀h,h<n→blt key (sa ks h)=true→wayS ks key≤h:=fun h hh hb=>by
  rcases zng h (wayS ks key) with h3|h3
  ·rw[y15 ks key h h3] at hb;cases hb
  ·exact h3
 have Hyes:=zh (zai hyes hno);have hF:wayS ks key≤n:=by have:=z9c ks key;omega
 clear hcall hyes hno h1 h2 hn hs ha;generalize wayS ks key=F at*
 go_enter Tryz.func93,Tryz.ntmps93
 go_wp2_with fail
 go_loopw [5,6] (fun i j wr=>∃x y:Nat,i=.int .i64 x∧j=.int .i64 y∧x≤y∧y≤n∧x≤F∧F≤y∧Hid (Below w.heap.size w wr)) (fun i j _=>(intOf j-intOf i).toNat)
 case atStart=>exact⟨0,n,rfl,rfl,by omega,by omega,by omega,by omega,zbr _ _⟩
 case round=>
  obtain⟨x,y,rfl,rfl,hxy,hyn,hx,hy,hB⟩:=hrel
  by_cases hlt:x<y
  ·obtain⟨H,hH⟩:∃H,H=(x+y)/2:=⟨_,rfl⟩
   have e1:((x:Int)+(y:Int))/2=(H:Int):=by omega
   have z1:x≤H:=by omega
   have z2:H<y:=by omega
   have hc:=zh (Hcall.out wr H (by omega) hB.out);have hs:=Hyes.out.1 H (by omega);have hs2:=Hyes.out.2 H (by omega);clear hH;generalize blt key (sa ks H)=D at*
   cases D with
   | false=>
    have hs':=hs rfl;clear hs hs2
    go_wp2_with (go_at_fn 94;refine hc.out.mono ?_;rintro e w' ⟨rfl,hb⟩)
    have hB2:=zh (hB.out.trans (hb.mono hB.out.size));clear hb
    go_roundw
    case rel=>exact⟨H+1,y,by go_num,rfl,by omega,by omega,by omega,by omega,hB2⟩
    case measure=>simp[intOf];omega
   | true=>
    have hs':=hs2 rfl;clear hs hs2
    go_wp2_with (go_at_fn 94;refine hc.out.mono ?_;rintro e w' ⟨rfl,hb⟩)
    have hB2:=zh (hB.out.trans (hb.mono hB.out.size));clear hb
    go_roundw
    case rel=>exact⟨x,H,rfl,by go_num,by omega,by omega,by omega,by omega,hB2⟩
    case measure=>simp[intOf];omega
  ·obtain rfl:x=F:=by omega
   go_wp2;go_ret;exact⟨rfl,hB.out⟩
set_option maxRecDepth 100000 in
theorem y4t (a:Option Addr)(n c:Nat)(ks:List ByteArray)(key:ByteArray)(w:World)(hn:ks.length=n)(hs:TxS w a ks)(ha:z3j ks)(hl:n≤65536):
  Calls Tryz.prog 63 #[.slice a n c,.string key] w fun e w'=>e=.returned (.int .i64 (wayS ks key:Nat))∧Below w.heap.size w w':=by
 obtain⟨w2,hw2⟩:∃w2,w2=(w.alloc (.cells #[.slice a n c] STS)).alloc (.cells #[.string key] 9):=⟨_,rfl⟩
 have hb2:Below w.heap.size w w2:=by rw[hw2];exact((zbr _ _).alloc (zlr _) _).alloc (by simp) _
 have c1:w2.cell? ⟨w.heap.size,0,none⟩=some (.slice a n c):=by rw[hw2];simp
 have c2:w2.cell? ⟨w.heap.size+1,0,none⟩=some (.string key):=by rw[hw2];simp
 have hsr:=zh (y2k w2 w.heap.size (w.heap.size+1) a n c ks key c1 c2 hn (hs.below hb2 (zlr _)) ha hl);have hmf:∀(fn:Fn) (first cap:Array Value) (w:World),(Instr.makeFunc fn first cap).run Tryz.prog w=.ok (.func fn first cap) w:=fun _ _ _ _=>rfl
 have Hb2:=zh hb2;clear c1 c2 hs hn hb2 ha;generalize wayS ks key=F at*;subst hw2
 go_enter Tryz.func63,Tryz.ntmps63
 go_wp2_with fail;refine hsr.out.mono ?_;rintro e w3 ⟨rfl,hb3⟩;have HB:=zh (Hb2.out.trans (hb3.mono Hb2.out.size));clear hb3 hsr Hb2 hmf;go_wp2;go_ret;exact⟨rfl,HB.out⟩
end Go.Proofs.YtdnfhjfbanhhcaaGreatDoor
namespace Go.Proofs.YtdnfhjfbanhhcaaGreatDoor
open Go Go.RowKit
abbrev CST2:TypeId:=9
end Go.Proofs.YtdnfhjfbanhhcaaGreatDoor
namespace Go.Proofs.YtdnfhjfbanhhcaaGreatDoor
open Go.RowKit
theorem y6v (x:Nat)(w:World)(h0:0<x)(hx:x<18446744073709551616):Calls Tryz.prog 182 #[.int .u64 x] w fun e w'=>e=.returned (.int .i64 (Lib.bitLen x-1:Nat))∧w=w':=by
 have hb:=y0g x h0 hx;have b1:=hb.1;have b2:=hb.2.1;clear hb;have e:(x:Int).toNat=x:=rfl;have hl:=libLen x w (by omega) (by omega);rw[e] at hl;have ec:((Lib.bitLen x-1:Nat):Int)=(Lib.bitLen x:Int)-1:=by omega
 rw[ec];clear ec e;generalize Lib.bitLen x=L at*
 go_enter Tryz.func182,Tryz.ntmps182
 go_wp2_with (go_at_call 196;refine hl.mono ?_;rintro e w' ⟨rfl,rfl⟩)
 go_ret;exact⟨rfl,rfl⟩
theorem q4p (v:Nat)(h:v<18446744073709551616):bits .or .u64 (v:Int) 1=((v/2*2+1:Nat):Int):=by
 refine(bits_or_u64_nat v 1 h (by omega)).trans ?_
 congr 1
 apply Nat.eq_of_testBit_eq;intro i;rw[Nat.testBit_or,show v/2*2+1=2^1*(v/2)+1 by omega,Nat.testBit_two_pow_mul_add _ (by decide)]
 cases i with
 | zero=>simp
 | succ i=>simp[Nat.testBit_succ]
theorem z6n (v:Nat)(w:World)(h:v<18446744073709551616):
  Calls Tryz.prog 158 #[.int .u64 v] w fun e w'=>e=.returned (.int .i64 (vs v:Nat))∧w=w':=by
 have ho:=q4p v h;have hb:=y0g (v/2*2+1) (by omega) (by omega);have hh:=y6v (v/2*2+1) w (by omega) (by omega);have hv:=zh ((q35 v).symm.trans (q34 _ _ hb.2.2));have b3:Lib.bitLen (v/2*2+1)-1≤63:=by have:=hb.2.1;omega
 clear hb;generalize Lib.bitLen (v/2*2+1)-1=L at*;generalize v/2*2+1=O at*;obtain⟨Q,hQ⟩:∃Q,Q=L/7:=⟨_,rfl⟩
 have eQ:(L:Int)/7=(Q:Int):=by omega
 have HQ:=zh hQ;have hq9:Q≤9:=by have:=Nat.div_le_div_right (c:=7) b3;omega
 clear hQ
 go_enter Tryz.func158,Tryz.ntmps158
 go_wp2_with (go_at_call 182;refine hh.mono ?_;rintro e w' ⟨rfl,rfl⟩)
 go_ret;exact⟨by rw[hv.out,←HQ.out];rfl,rfl⟩
end Go.Proofs.YtdnfhjfbanhhcaaGreatDoor
