/-
  Steps.
-/
import Derived.Deep.Upon
import Derived.Test.YtifmepiahlodhaaGreatDoorProg
import Derived.Test.YtifmepiahlodhaaGreatDoorQLTd07
import Derived.Lib.ConvBytes
namespace Go.Proofs.YtifmepiahlodhaaGreatDoor
open Go Go.RowKit
structure Elt (α:Type) where
 sz:Nat
 by_:Nat
 zero:Value
 enc:α→List Value
 len:∀a,(enc a).length=sz
 one:∀a,∀u∈enc a,u.oneCell'=true
 pos:0<sz
 zc:zero.cells.size=sz
 ty:TypeId→Bool
def RT (w:World)(g:Nat)(ty:TypeId→Bool):Prop:=∃A T fz,w.heap[g]? =some (.cells A T fz)∧ty T=true
theorem RT.ext {w w':World}{g B:Nat}{ty:TypeId→Bool}(h:RT w g ty)(hb:Below B w w')(hB:w.heap.size≤B):RT w' g ty:=by
 obtain⟨A,T,fz,h1,h2⟩:=h;exact⟨A,T,fz,(hb.block g (Nat.lt_of_lt_of_le (zag.1 h1).1 hB)).trans h1,h2⟩
section
variable {α:Type} (E:Elt α)
def Elt.row:List α→List Value
 | []=> []
 | x::r=>E.enc x++Elt.row r
theorem q6b:∀(a b:List α),E.row (a++b)=E.row a++E.row b
 | [],_=>rfl
 | x::r,b=>by rw[List.cons_append,Elt.row,Elt.row,q6b r b,List.append_assoc]
theorem Elt.row_len:∀(l:List α),(E.row l).length=l.length*E.sz
 | []=>by simp[Elt.row]
 | x::r=>by rw[Elt.row,zla,E.len,Elt.row_len r,List.length_cons,Nat.add_mul,Nat.one_mul,Nat.add_comm]
theorem Elt.row_one:∀(l:List α),∀u∈E.row l,u.oneCell'=true
 | [],u,h=>by cases h
 | x::r,u,h=>by
  rw[Elt.row,List.mem_append] at h
  rcases h with h|h
  ·exact E.one x u h
  ·exact Elt.row_one r u h
theorem Elt.row_take (l:List α)(k j:Nat)(u:Value)(h:(E.row (l.take k))[j]? =some u):(E.row l)[j]? =some u:=by
 have e:E.row l=E.row (l.take k)++E.row (l.drop k):=by rw[←q6b,List.take_append_drop]
 rw[e,List.getElem?_append_left (List.getElem?_eq_some_iff.1 h).1];exact h
theorem Elt.row_drop (l:List α)(k j:Nat)(hk:k≤l.length)(u:Value)(h:(E.row (l.drop k))[j]? =some u):(E.row l)[k*E.sz+j]? =some u:=by
 have e:E.row l=E.row (l.take k)++E.row (l.drop k):=by rw[←q6b,List.take_append_drop]
 have e2:(E.row (l.take k)).length=k*E.sz:=by rw[Elt.row_len,zlk,Nat.min_eq_left hk]
 rw[e,List.getElem?_append_right (by omega),e2,Nat.add_sub_cancel_left];exact h
theorem Elt.row_at (l:List α)(i j:Nat)(x:α)(hi:l[i]? =some x)(hj:j<E.sz):(E.row l)[i*E.sz+j]? =(E.enc x)[j]? :=by
 have hl:i<l.length:=(List.getElem?_eq_some_iff.1 hi).1;have e:E.row l=E.row (l.take i)++(E.enc x++E.row (l.drop (i+1))):=by
  have h1:l=l.take i++x::l.drop (i+1):=by
   have h2:=List.getElem?_eq_some_iff.1 hi;obtain⟨_,rfl⟩:=h2;rw[←List.drop_eq_getElem_cons hl,List.take_append_drop]
  conv=>lhs;rw[h1]
  rw[q6b,Elt.row]
 have e2:(E.row (l.take i)).length=i*E.sz:=by rw[Elt.row_len,zlk,Nat.min_eq_left (by omega)]
 rw[e,List.getElem?_append_right (by omega),e2,Nat.add_sub_cancel_left,List.getElem?_append_left (by rw[E.len];exact hj)]
def ES (w:World)(a:Option Addr)(l:List α):Prop:=(a=none∧l=[])∨∃g o,a=some ⟨g,o,none⟩∧RT w g E.ty∧∀j u,(E.row l)[j]? =some u→w.cell? ⟨g,o+j,none⟩=some u
variable {E}
theorem ES.nil (w:World):ES E w none []:=.inl ⟨rfl,rfl⟩
theorem ES.at {w:World}{a:Option Addr}{l:List α}(h:ES E w a l)(h0:0<l.length):∃g o,a=some ⟨g,o,none⟩∧∀j u,(E.row l)[j]? =some u→w.cell? ⟨g,o+j,none⟩=some u:=by
 rcases h with ⟨_,rfl⟩|⟨g,o,h,_,hc⟩
 ·simp at h0
 ·exact⟨g,o,h,hc⟩
theorem ES.below {w w':World}{a:Option Addr}{l:List α}{B:Nat}(h:ES E w a l)(hb:Below B w w')(hB:w.heap.size≤B):ES E w' a l:=by
 rcases h with h|⟨g,o,rfl,ht,hc⟩
 ·exact .inl h
 ·exact .inr ⟨g,o,rfl,ht.ext hb hB,fun j u hu=>by have:=hc j u hu;rw[hb.cell (p:=⟨g,o+j,none⟩) (Nat.lt_of_lt_of_le (block_lt_of_cell this) hB)];exact this⟩
theorem ES.take {w:World}{a:Option Addr}{l:List α}(h:ES E w a l)(k:Nat):ES E w a (l.take k):=by
 rcases h with ⟨h,rfl⟩|⟨g,o,rfl,ht,hc⟩
 ·exact .inl ⟨h,by simp⟩
 ·exact .inr ⟨g,o,rfl,ht,fun j u hu=>hc j u (E.row_take l k j u hu)⟩
theorem ES.drop {w:World}{g o:Nat}{l:List α}(h:ES E w (some ⟨g,o,none⟩) l)(k q:Nat)(hk:k≤l.length)(hq:q=o+k*E.sz):ES E w (some ⟨g,q,none⟩) (l.drop k):=by
 rcases h with ⟨h,_⟩|⟨g',o',h,ht,hc⟩
 ·cases h
 ·cases h
  subst hq;exact .inr ⟨g,_,rfl,ht,fun j u hu=>by rw[Nat.add_assoc];exact hc _ u (E.row_drop l k j hk u hu)⟩
def EV (E:Elt α)(w:World)(v:Value)(l:List α):Prop:=∃a c,v=.slice a l.length c∧ES E w a l∧(a=none→c=0)∧l.length≤c∧c≤maxLen
theorem EV.below {w w':World}{v:Value}{l:List α}{B:Nat}(h:EV E w v l)(hb:Below B w w')(hB:w.heap.size≤B):EV E w' v l:=by
 obtain⟨a,c,rfl,hs,h1⟩:=h;exact⟨a,c,rfl,hs.below hb hB,h1⟩
theorem EV.ext {w w':World}{v:Value}{l:List α}(h:EV E w v l)(hb:Below w.heap.size w w'):EV E w' v l:=h.below hb (zlr _)
theorem EV.none (w:World):EV E w (.slice none 0 0) []:=⟨Option.none,0,rfl,ES.nil _,fun _=>rfl,zlr _,by unfold maxLen;omega⟩
theorem z1t {w:World}{B T:Nat}{v:Value}{l:List α}(h:w.ownsRow B T E.sz v l.length (E.row l))(hT:E.ty T=true:=by decide):EV E w v l:=by
 have h':=h;obtain⟨_,h2⟩:=h
 rcases h2 with ⟨rfl,h0⟩|⟨g,cap,cur,rfl,hb,hg,hnc,hcm,_⟩
 ·have:l=[]:=List.eq_nil_of_length_eq_zero h0;subst this;exact EV.none w
 ·refine⟨_,cap,rfl,.inr ⟨g,0,rfl,⟨_,_,_,hg,hT⟩,fun j u hu=> ?_⟩,(fun h=>by cases h),hnc,hcm⟩;have hj:j<l.length*E.sz:=by have:=(List.getElem?_eq_some_iff.1 hu).1;rwa [E.row_len] at this
  have:=h'.cellAt j hj;rw[Nat.zero_add,this];exact hu
theorem ES.lit {w:World}{g T:Nat}{l:List α}{m:Nat×Nat}(h:w.heap[g]? =some (.cells (E.row l).toArray T m))(hT:E.ty T=true:=by decide):ES E w (some ⟨g,0,Option.none⟩) l:=
 .inr ⟨g,0,rfl,⟨_,_,_,h,hT⟩,fun j u hu=>by simp[World.cell?,h,hu]⟩
theorem q4n {w:World}{g T:Nat}{l:List α}{m:Nat×Nat}(h:w.heap[g]? =some (.cells (E.row l).toArray T m))(hm:l.length≤maxLen)(hT:E.ty T=true:=by decide):EV E w (.slice (some ⟨g,0,Option.none⟩) l.length l.length) l:=
 ⟨_,_,rfl,.inr ⟨g,0,rfl,⟨_,_,_,h,hT⟩,fun j u hu=>by simp[World.cell?,h,hu]⟩,(fun h=>by cases h),zlr _,hm⟩
section
variable {P:Program} {w:World}
theorem q0f {t e:TypeId}(ht:P.underlying t=some (.slice e)){a:Option Addr}{n c:Nat}{l:List α}(hn:l.length=n)(hz:a=none→c=0∧n=0)(h:ES E w a l):Go.Src P E.sz t (.slice a n c) n (E.row l) w:=by
 rcases Nat.eq_zero_or_pos n with h0|h0
 ·obtain rfl:l=[]:=List.eq_nil_of_length_eq_zero (by omega);subst h0
  cases a with
  | none=>exact Go.Src.ofNil w ht c
  | some ad=>exact Go.Src.ofSlice w ht ad 0 c [] (by simp) (fun j u hu=>by simp at hu) (fun u hu=>by cases hu)
 ·obtain⟨g,o,rfl,hc⟩:=h.at (by omega);exact Go.Src.ofSlice w ht ⟨g,o,none⟩ n c (E.row l) (by rw[E.row_len,hn]) (fun j u hu=>by rw[z2r];exact hc j u hu) (E.row_one l)
theorem z7s (t ty e:TypeId)(ht:P.underlying t=some (.slice e))(h2:(P.info? e).map (fun i=>(i.zero,i.size,i.bytes))=some (some E.zero,E.sz,E.by_))
  (a:Option Addr) (n:Nat) (l:List α) (hn:l.length=n) (hs:ES E w a l) (a2:Option Addr) (n2 c2:Nat) (m:List α) (hn2:m.length=n2) (hz2:a2=none→c2=0) (hm:ES E w a2 m)
  (h63:n+n2≤maxLen) (hby:(n+n2)*E.by_≤140737488355328):
  ∃v' w',(Builtin.append_ #[t,t] ty #[.slice a n n,.slice a2 n2 c2]).run P w=.ok v' w'∧Below w.heap.size w w'∧
   ((m=[]∧v'=.slice a n n∧w'=w)∨w'.ownsRow w.heap.size e E.sz v' (n+n2) (E.row (l++m))):=by
 obtain⟨i0,hi,hz,hs0,hb0⟩:=info_parts h2;have hzz:a2=none→c2=0∧n2=0:=fun h=>⟨hz2 h,by
  rcases Nat.eq_zero_or_pos n2 with h0|h0
  ·exact h0
  ·obtain⟨g,o,h3,_⟩:=hm.at (by omega);rw[h] at h3;cases h3⟩
 have hsrc:=q0f (P:=P) (w:=w) ht hn2 hzz hm;have hsmall:n+n2≤9223372036854775807:=by simp only[maxLen] at h63;omega
 rcases Nat.eq_zero_or_pos n2 with h0|h0
 ·obtain rfl:m=[]:=List.eq_nil_of_length_eq_zero (by omega);subst h0;exact⟨_,_,run_append_nothing w t t ty e i0 ht hi a n n (zlr _) _ (by rw[hs0];exact hsrc),zbr _ _,.inl ⟨rfl,rfl,rfl⟩⟩
 ·have hold:(Builtin.firstCells i0.size n (.slice a n n)).run P w.drew=.ok (E.row l).toArray w.drew:=by
   rcases Nat.eq_zero_or_pos n with h3|h3
   ·obtain rfl:l=[]:=List.eq_nil_of_length_eq_zero (by omega);subst h3
    cases a with
    | none=>exact run_firstCells_none w.drew i0.size 0 0 0
    | some ad=>exact run_firstCells_some w.drew i0.size 0 ad 0 0 [] (by simp) (fun j u hu=>by simp at hu)
   ·obtain⟨g,o,rfl,hc⟩:=hs.at (by omega);exact run_firstCells_some w.drew i0.size n ⟨g,o,none⟩ n n (E.row l) (by rw[E.row_len,hn,hs0]) (fun j u hu=>by rw[z2r];exact hc j u hu)
  have hrun:=run_append_grow_src (P:=P) w t t ty e i0 E.zero ht hi hz a n n (E.row l) hold _ n2 (E.row m) (by rw[hs0];exact hsrc) (by omega) (by omega) (growslice_fits (by omega) (by rw[hb0];exact hby));have hG1:n+n2≤grownCap w (n+n2) n e:=grownCap_ge w (n+n2) n e;have hG2:=grownCap_le_maxLen w (n+n2) n e h63;refine⟨_,_,hrun,(zbr _ _).drew.alloc (zlr _) _,.inr ?_⟩;have hL:(E.row l++E.row m).length=(n+n2)*E.sz:=by rw[←q6b,Elt.row_len,zla,hn,hn2]
  rw[q6b];refine⟨hL,.inr ⟨w.heap.size,grownCap w (n+n2) n e,(E.row l++E.row m).toArray++Builtin.zeroCells E.zero.cells (grownCap w (n+n2) n e-(n+n2)),rfl,zlr _,?_,hG1,hG2,?_,?_⟩⟩
  ·show(w.drew.heap.push _)[w.heap.size]? =_;rw[show w.heap.size=w.drew.heap.size from rfl,Array.getElem?_push_size]
  ·rw[Array.size_append,List.size_toArray,hL,size_zeroCells,E.zc,←Nat.add_mul]
   congr 1
   omega
  ·rw[Array.toList_append,List.take_append_of_le_length (by rw[List.toList_toArray];omega),List.toList_toArray,List.take_of_length_le (by omega)]
theorem z08 (B:Nat)(t ty e:TypeId)(ht:P.underlying t=some (.slice e))(h2:(P.info? e).map (fun i=>(i.zero,i.size,i.bytes))=some (some E.zero,E.sz,E.by_))
  (v:Value) (n:Nat) (l:List α) (hs:w.ownsRow B e E.sz v n (E.row l)) (hB:B≤w.heap.size) (a2:Option Addr) (n2 c2:Nat) (m:List α) (hn2:m.length=n2) (hz2:a2=none→c2=0) (hm:ES E w a2 m)
  (h63:n+n2≤maxLen) (hby:(n+n2)*E.by_≤140737488355328):
  ∃v' w',(Builtin.append_ #[t,t] ty #[v,.slice a2 n2 c2]).run P w=.ok v' w'∧Below B w w'∧w'.ownsRow B e E.sz v' (n+n2) (E.row (l++m)):=by
 obtain⟨i0,hi,hz,hs0,hb0⟩:=info_parts h2
 rcases Nat.eq_zero_or_pos n2 with h0|h0
 ·obtain rfl:m=[]:=List.eq_nil_of_length_eq_zero (by omega);subst h0;have hzz:a2=none→c2=0∧(0:Nat)=0:=fun h=>⟨hz2 h,rfl⟩
  have hsrc:=q0f (P:=P) (w:=w) ht (show([]:List α).length=0 from rfl) hzz hm;rw[List.append_nil,Nat.add_zero];refine⟨v,w,?_,zbr _ _,hs⟩
  rcases hs.2 with ⟨rfl,h3⟩|⟨g,cap,cur,rfl,_,_,hnc,_⟩
  ·exact run_append_nothing w t t ty e i0 ht hi none 0 0 (zlr _) _ (by rw[hs0];exact hsrc)
  ·exact run_append_nothing w t t ty e i0 ht hi _ n cap hnc _ (by rw[hs0];exact hsrc)
 ·obtain⟨g,o,rfl,hc⟩:=hm.at (by omega);obtain⟨v',w',hr,h3,h4,_⟩:=run_append_own (P:=P) w B t ty e i0 E.zero E.sz E.by_ ht hi hz hs0 hb0 E.zc E.pos v n (E.row l) hs ⟨g,o,none⟩ n2 c2 (E.row m) (by rw[E.row_len,hn2]) (fun j u hu=>by rw[z2r];exact hc j u hu) (E.row_one m) h63 hby hB;refine⟨v',w',hr,(zbr B w).grown h4 hB (fun k hk=>(hs.lt k hk).1),?_⟩;rw[q6b];exact h3
theorem z1g {o:Oper}{ac:Act}{K:Act→World→Prop}{Q:Exit→Act→World→Prop}(s x:Operand)(t:TypeId)(ho:o.op=.call {callee:=.builtin .append,args:= #[s,x],argTypes:= #[t,t]})
  {v xv v':Value} {w':World} (hs:ac.eval s=v) (hx:ac.eval x=xv) (hr:(Builtin.append_ #[t,t] o.type #[v,xv]).run P w=.ok v' w') (h:K (ac.put o.dst v') w'):Oper.wp P o ac w K Q:=by
 unfold Oper.wp;simp[execOp,ho,resolve,invoke,builtin,hs,hx,hr,Result.andThen];exact h
theorem z2o (t ty ty2 e:TypeId)(ht:P.underlying t=some (.slice e))(h2:(P.info? e).map (fun i=>(i.zero,i.size,i.bytes))=some (some E.zero,E.sz,E.by_))
  (a:Option Addr) (n:Nat) (l:List α) (hn:l.length=n) (hs:ES E w a l) (a2:Option Addr) (n2 c2:Nat) (m:List α) (hn2:m.length=n2) (hz2:a2=none→c2=0) (hm:ES E w a2 m)
  (a3:Option Addr) (n3 c3:Nat) (r:List α) (hn3:r.length=n3) (hz3:a3=none→c3=0) (hr:ES E w a3 r)
  (h63:n+n2+n3≤maxLen) (hby:(n+n2+n3)*E.by_≤140737488355328) (he:E.ty e=true:=by decide):
  ∃v1 w1 v2 w2,(Builtin.append_ #[t,t] ty #[.slice a n n,.slice a2 n2 c2]).run P w=.ok v1 w1∧Below w.heap.size w w1∧
   (Builtin.append_ #[t,t] ty2 #[v1,.slice a3 n3 c3]).run P w1=.ok v2 w2∧Below w.heap.size w1 w2∧Below w.heap.size w w2∧EV E w2 v2 (l++(m++r)):=by
 have hmul:(n+n2)*E.by_≤(n+n2+n3)*E.by_:=Nat.mul_le_mul_right _ (by omega);obtain⟨v1,w1,h1,hb1,h4⟩:=z7s (P:=P) (w:=w) t ty e ht h2 a n l hn hs a2 n2 c2 m hn2 hz2 hm (by omega) (by omega)
 rcases h4 with ⟨rfl,rfl,rfl⟩|hown
 ·obtain rfl:n2=0:=hn2.symm;obtain⟨v2,w2,h5,hb2,h6⟩:=z7s (P:=P) (w:=w1) t ty2 e ht h2 a n l hn hs a3 n3 c3 r hn3 hz3 hr (by omega) (by simpa using hby);refine⟨_,_,v2,w2,h1,hb1,h5,hb2,hb2,?_⟩;rw[List.nil_append]
  rcases h6 with ⟨rfl,rfl,rfl⟩|h6
  ·refine⟨a,n,by rw[List.append_nil,hn],by rw[List.append_nil];exact hs,fun h=> ?_,by rw[List.append_nil];omega,by omega⟩
   rcases Nat.eq_zero_or_pos n with h0|h0
   ·exact h0
   ·obtain⟨g,o,h3,_⟩:=hs.at (by omega);rw[h] at h3;cases h3
  ·refine z1t (B:=w1.heap.size) (T:=e) ?_ he;rw[zla,hn,hn3];exact h6
 ·obtain⟨v2,w2,h5,hb2,h6⟩:=z08 (P:=P) (w:=w1) w.heap.size t ty2 e ht h2 v1 (n+n2) (l++m) hown hb1.size a3 n3 c3 r hn3 hz3 (hr.below hb1 (zlr _)) (by omega) hby;refine⟨v1,w1,v2,w2,h1,hb1,h5,hb2,hb1.trans hb2,?_⟩;refine z1t (B:=w.heap.size) (T:=e) ?_ he;rw[←List.append_assoc,zla,zla,hn,hn2,hn3];exact h6
end
end
theorem z0t (W:World)(T:TypeId)(vs:Array Value):∃g W',W.heap.size=g∧W.alloc (.cells vs T)=W'∧W'.heap[g]? =some (.cells vs T (0,0))∧Below W.heap.size W W':=
 ⟨_,_,rfl,rfl,by show(W.heap.push _)[W.heap.size]? =_;rw[Array.getElem?_push_size],(zbr _ _).alloc (zlr _) _⟩
theorem z0j (W:World)(T:TypeId)(vs:Array Value):(W.alloc (.cells vs T)).heap[W.heap.size]? =some (.cells vs T (0,0)):=by
 show(W.heap.push _)[W.heap.size]? =_;rw[Array.getElem?_push_size]
theorem y6i (w:World)(g:Nat)(cs:Array Value):Turn (fun i=>i=g) w (w.setRow g cs):=
 ⟨rfl,rfl,rfl,by simp[World.setRow],fun i _ hne=>setRow_other w g i cs hne⟩
theorem z56 {P:Program}{w:World}{o:Oper}{a:Act}{K:Act→World→Prop}{Q:Exit→Act→World→Prop}(d s:Operand)(dT sT:TypeId)
  (ho:o.op=.call {callee:=.builtin .copy,args:= #[d,s],argTypes:= #[dT,sT]}) (e:TypeId) (hu:P.underlying dT=some (.slice e)) (hsz:(P.info? e).map (·.size)=some 1)
  (g off dLen dCap:Nat) (sp:Option Addr) (sLen sCap:Nat) (cur l:List Nat) (hl:l.length=sLen) (hd:a.eval d=.slice (some ⟨g,off,none⟩) dLen dCap) (hs:a.eval s=.slice sp sLen sCap)
  (hrow:Row w g e cur) (hsrc:Src w sp l) (hfit:off+sLen≤cur.length) (hlen:sLen≤dLen) (hpos:0<sLen)
  (h:∀w',Row w' g e (splice cur off l)→Turn (fun i=>i=g) w w'→K (a.put o.dst (goInt sLen)) w'):Oper.wp P o a w K Q:=by
 subst hl;obtain⟨ad,rfl,hcs⟩:=hsrc.cells hpos;have hmin:(bv l).length=Nat.min l.length dLen:=by rw[z02];exact(Nat.min_eq_left hlen).symm
 have hrun:=run_copy_row (P:=P) w dT sT o.type e g off dLen dCap ad l.length sCap (bv cur).toArray e (bv l) hu hsz hrow hmin hcs (by simpa [z02] using hfit) (y8c l);rw[z02] at hrun;unfold Oper.wp;simp only[execOp,ho,resolve,invoke,builtin];simp[hd,hs,hrun,Result.andThen];refine h _ ?_ (y6i _ _ _);show _=_;have:=setRow_heap w g (bv cur).toArray ((bv cur).take off++(bv l++(bv cur).drop (off+l.length))).toArray e (0,0) hrow;rw[←z8t]
 simpa [splice,z02] using this
theorem y8o (v s:Nat)(w:World)(hs1:1≤s)(hs:s≤64)(hv:v<18446744073709551616):
  Calls Tryz.prog 157 #[.slice none 0 0,.int .u64 v,.int .i64 s] w fun e w'=>e=.returned (.slice (some ⟨w.heap.size,0,none⟩) s s)∧Row w' w.heap.size 5 (beL v s)∧Below w.heap.size w w':=by
 have h:=q4h none 0 [] v s w (by simp) hs1 hs hv (Src.nil _ _)
 simpa using h
def y6j (k:Nat):List Nat:=(List.replicate 512 0).set 0 k
def x0o (k n:Nat):List Nat:=splice (y6j k) 2 (beL n 2)
def y1v (k n:Nat)(l:List Nat):List Nat:=splice (x0o k n) 4 l
theorem x7q (k:Nat):y6j k=k::0::0::0::List.replicate 508 0:=rfl
theorem q12 (n:Nat)(h:n≤504):beL n 2=[n/256,n%256]:=by
 show[n/256%256,n%256]=_;rw[Nat.mod_eq_of_lt (show n/256<256 by omega)]
theorem y8p (k n:Nat)(h:n≤504):x0o k n=k::0::n/256::n%256::List.replicate 508 0:=by
 unfold x0o;rw[x7q,q12 n h];rfl
theorem y8q (k n:Nat)(l:List Nat)(hn:l.length=n)(h:n≤504):y1v k n l=z31 k l++[0,0,0,0]:=by
 unfold y1v;rw[y8p k n h,y0k,←hn];simp only[splice,List.take_succ_cons,List.take_zero,List.cons_append,List.nil_append,List.append_assoc]
 congr 5
 rw[show 4+l.length=l.length+1+1+1+1 by omega];simp only[List.drop_succ_cons,List.drop_replicate];rw[show[0,0,0,0]=List.replicate 4 0 from rfl,List.replicate_append_replicate]
 congr 1;omega
theorem z7t (k n:Nat)(l:List Nat)(hn:l.length=n)(h:n≤504):(y1v k n l).length=512:=by
 rw[y8q k n l hn h,zla,z1s (by omega)];rfl
theorem y0n (k n:Nat)(l:List Nat)(hn:l.length=n)(h:n≤504):(y1v k n l).take 508=z31 k l:=by
 rw[y8q k n l hn h,←z1s (k:=k) (l:=l) (by omega),List.take_left]
theorem x7r (k n:Nat)(l:List Nat)(hn:l.length=n)(h:n≤504):splice (y1v k n l) 508 (beL (more 0#32 (z31 k l)).toNat 4)=z1k k l:=by
 unfold splice;rw[y0n k n l hn h,List.drop_of_length_le (by rw[z7t k n l hn h,z1b];exact zlr _),List.append_nil];rfl
theorem y32 (k:Nat):(y6j k).length=512:=by unfold y6j;rw[List.length_set,List.length_replicate]
theorem y33 (k n:Nat)(h:n≤504):(x0o k n).length=512:=by rw[y8p k n h,List.length_cons,List.length_cons,List.length_cons,List.length_cons,List.length_replicate]
theorem x7s (w:World)(g:Nat)(L m:List Nat)(hm:L.take 508=m)(hl:L.length=512)(hb:B8 m)(hr:Row w g 5 L)(hT:z0x w):
  Calls Tryz.prog 166 #[.slice (some ⟨g,0,none⟩) 508 512] w fun e w'=>e=.returned (.int .u32 ((more 0#32 m).toNat:Nat))∧w=w':=by
 have h8:m.length=508:=by rw[←hm,zlk];omega
 have:=x2l (some ⟨g,0,none⟩) 512 m w hb (by omega) (by rw[←hm];exact(hr.cs.start 508).src) hT;rw[h8] at this;exact this
set_option maxRecDepth 100000 in
set_option maxHeartbeats 1000000 in
theorem q13 (k:Nat)(a:Option Addr)(n c:Nat)(l:List Nat)(hn:l.length=n)(w:World)(hk1:1≤k)(hk5:k≤5)(hl:n≤504)(hb:B8 l)(hsrc:Src w a l)(hT:z0x w):
  Calls Tryz.prog 125 #[.int .u8 k,.slice a n c] w fun e w'=>e=.returned (.tuple #[.slice (some ⟨w.heap.size,0,none⟩) 512 512,.nilIface])∧Row w' w.heap.size 5 (z1k k l)∧Below w.heap.size w w':=by
 have hK:=y0m k w (by omega);rw[show decide (1≤k∧k≤5)=true by simp;omega] at hK;have d1:decide (504<(n:Int))=false:=by simp;omega
 have Hn:=zh hn;have Hs:=zh hsrc;have HT:=zh hT;have e1:=y0n k n l hn hl;have e2:=x7r k n l hn hl;have e3:=z7t k n l hn hl;have hbb:=y8f (k:=k) (l:=l) (by omega) (by omega) hb;have HE:=zh (zai e1 (zai e2 (zai e3 hbb)));clear hn hsrc hT e1 e2 e3 hbb
 go_enter Tryz.func125,Tryz.ntmps125
 go_wp2_with (first
  | (go_at_call 165;refine hK.mono ?_;rintro e w' ⟨rfl,rfl⟩)
  | (at_make;refine z06 rfl _ _ 46 rfl 5 Tryz.underlying46 z8c _ _ _ _ 512 rfl rfl rfl rfl (by omega) ?_;intro w1 hr1 hb1;have hc1:=hr1.out.cell 0 (by rw[List.length_replicate];omega);have hf1:=hr1.out.frozen 0;have hx1:=zh (hr1.out.set 0 k)))
 have hr2:Row (w1.setCell ⟨w.heap.size,0,none⟩ (.int .u8 (k:Int))) w.heap.size 5 (y6j k):=hx1.out;have hb2:Below w.heap.size w (w1.setCell ⟨w.heap.size,0,none⟩ (.int .u8 (k:Int))):=hb1.setCell (zlr _) _;refine z0k (F:=fun i=>i=w.heap.size) [(0,true),(1,true),(2,true),(3,true),(4,true),(5,false),(6,false)] (by kernel_rfl) (by kernel_rfl) (by kernel_rfl) (by kernel_rfl) (fun _ _ _ _ _ h=>h) ?_;have hr3:=(y8d (w1.setCell ⟨w.heap.size,0,none⟩ (.int .u8 (k:Int))) w.heap.size 5 (y6j k)).mpr hr2;have hb3:=hb2.drew;clear hr1 hc1 hf1 hx1 hr2 hb1 hb2;generalize (w1.setCell ⟨w.heap.size,0,none⟩ (.int .u8 (k:Int))).drew=w3 at*;have z1:IntKind.u64.wrap (n:Int)=(n:Int):=by rw[IntKind.wrap_u64];omega
 iterate 5 (refine gtr (v:= ?_) rfl (by rfl) ?_ ?_;rotate_left;(intro w' hw';go_simp;with_reducible rfl);simp only[Act.put,zs0,zs1,zs2])
 refine gtc rfl (by rfl) (fun K hK=> ?_);go_simp;refine(y8o n 2 w3 (by decide) (by decide) (by omega)).mono ?_;rintro e w4 ⟨rfl,hr4,hb4⟩;refine hK _ _ (q6a hb4) ?_;clear hK K;refine gtc rfl (by rfl) (fun K hK=> ?_);refine z56 (.tmp 21) (.tmp 25) 46 46 rfl 5 Tryz.underlying46 z4z w.heap.size 2 510 510 _ 2 2 (y6j k) (beL n 2) (z1b _ _) (by rfl) (by rfl) (hr3.below hb4 hr3.lt) (z5j hr4) (by rw[y32];omega) (by omega) (by omega) ?_;intro w5 hr5 ht5;refine hK _ _ ht5 ?_;clear hK K;simp only[Act.put];refine z0z ?_;have hr5':Row w5 w.heap.size 5 (x0o k n):=hr5;have hb5:Below w.heap.size w w5:=(hb3.trans (hb4.mono hb3.size)).trans (ht5.below (znt hb3.size hb4.size) (fun i hi=>by rw[hi];exact zlr _));have hs5:=zh (Hs.out.below hb5 (zlr _));clear hr3 hb3 hr4 hb4 hr5 ht5
 go_wp2_with (show wpList _ _ _ (⟨some 30,_,_,_,_,_⟩::_) _ _;refine z1w rfl (.tmp 28) (.tmp 29) 46 46 rfl 5 Tryz.underlying46 z4z w.heap.size 4 508 508 a c (x0o k n) l (by rfl) (by rw[Hn.out];rfl) hr5' hs5.out (by rw[y33 k n hl,Hn.out];omega) (by rw[Hn.out];omega) w.heap.size w hb5 (zlr _) ?_;intro w6 hr6 hb6;clear hr5' hb5 hs5)
 refine(x7s w6 w.heap.size (y1v k n l) (z31 k l) HE.out.1 HE.out.2.2.1 HE.out.2.2.2 hr6.out (HT.out.below hb6)).mono ?_;rintro e w' ⟨rfl,rfl⟩;have hr6':Row w6 w.heap.size 5 (y1v k n l):=hr6.out;have hSl:(more 0#32 (z31 k l)).toNat<4294967296:=by have:=(more 0#32 (z31 k l)).isLt;omega
 have hE:=HE.out.2.1;have hEl:=HE.out.2.2.1;generalize (more 0#32 (z31 k l)).toNat=S at*;have HE2:=zh (zai hE hEl);clear hE hEl hr6 HE;go_wp2_with fail;refine z0k (F:=fun i=>i=w.heap.size) [(0,true),(1,true),(2,true),(3,true),(4,false),(5,false)] (by kernel_rfl) (by kernel_rfl) (by kernel_rfl) (by kernel_rfl) (fun _ _ _ _ _ h=>h) ?_;have hr7:=(y8d w6 w.heap.size 5 (y1v k n l)).mpr hr6';have hb7:=hb6.drew;clear hr6' hb6;generalize w6.drew=w7 at*;have z2:IntKind.u64.wrap (S:Int)=(S:Int):=by rw[IntKind.wrap_u64];omega
 iterate 4 (refine gtr (v:= ?_) rfl (by rfl) ?_ ?_;rotate_left;(intro w' hw';go_simp;with_reducible rfl);simp only[Act.put,zs0,zs1,zs2])
 refine gtc rfl (by rfl) (fun K hK=> ?_);go_simp;refine(y8o S 4 w7 (by decide) (by decide) (by omega)).mono ?_;rintro e w8 ⟨rfl,hr8,hb8⟩;refine hK _ _ (q6a hb8) ?_;clear hK K;refine gtc rfl (by rfl) (fun K hK=> ?_);refine z56 (.tmp 35) (.tmp 38) 46 46 rfl 5 Tryz.underlying46 z4z w.heap.size 508 4 4 _ 4 4 (y1v k n l) (beL S 4) (z1b _ _) (by rfl) (by rfl) (hr7.below hb8 hr7.lt) (z5j hr8) (by rw[HE2.out.2];omega) (by omega) (by omega) ?_;intro w9 hr9 ht9;refine hK _ _ ht9 ?_;clear hK K;simp only[Act.put];refine z0z ?_;have hr9':Hid (Row w9 w.heap.size 5 (z1k k l)):=by
  have:=hr9
  rwa [HE2.out.1] at this
 have hb9:Hid (Below w.heap.size w w9):=(hb7.trans (hb8.mono hb7.size)).trans (ht9.below (znt hb7.size hb8.size) (fun i hi=>by rw[hi];exact zlr _));clear hr7 hb7 hr8 hb8 hr9 ht9;go_wp2
 go_ret2
 exact⟨rfl,hr9'.out,hb9.out⟩
def TyF (w:World)(F:Nat→Prop)(T:TypeId):Prop:=∀b,F b→∃A fz,w.heap[b]? =some (.cells A T fz)
section
variable {w w':World} {F:Nat→Prop} {T:TypeId}
theorem TyF.one {g:Nat}{A:Array Value}{fz:Nat×Nat}(h:w.heap[g]? =some (.cells A T fz)):TyF w (fun i=>i=g) T:=fun _ e=>⟨A,fz,e▸h⟩
theorem TyF.own {B E sz n:Nat}{v:Value}{xs:List Value}(h:w.ownsRow B E sz v n xs):TyF w (fun i=>v.ownBlock=some i) E:=fun b hb=>by
 rcases h.2 with ⟨rfl,_⟩|⟨g,cap,cur,rfl,_,hg,_⟩
 ·cases hb
 ·injection hb with hb
  subst hb;exact⟨cur,_,hg⟩
theorem TyF.not {b T2:Nat}{A:Array Value}{fz:Nat×Nat}(hF:TyF w F T)(h:w.heap[b]? =some (.cells A T2 fz))(hT:T≠T2):¬F b:=fun hb=>by
 obtain⟨A',fz',h2⟩:=hF b hb;rw[h] at h2;injection h2 with h2
 injection h2 with _ h2 _
 exact hT h2.symm
theorem ES.tur {α:Type}{E:Elt α}{a:Option Addr}{l:List α}(h:ES E w a l)(ht:Turn F w w')(hF:TyF w F T)(hT:E.ty T=false):ES E w' a l:=by
 rcases h with h|⟨b,o,rfl,⟨A2,T2,fz2,h2,h3⟩,hc⟩
 ·exact .inl h
 ·have hne:¬F b:=hF.not h2 (fun e=>by rw[e,h3] at hT;cases hT);refine .inr ⟨b,o,rfl,⟨A2,T2,fz2,ht.hg h2 hne,h3⟩,fun j2 u hu=> ?_⟩;have h4:=hc j2 u hu;rw[ht.cell (p:=⟨b,o+j2,none⟩) (block_lt_of_cell h4) hne];exact h4
theorem EV.tur {α:Type}{E:Elt α}{v:Value}{l:List α}(h:EV E w v l)(ht:Turn F w w')(hF:TyF w F T)(hT:E.ty T=false):EV E w' v l:=by
 obtain⟨a,c,rfl,hs,h1⟩:=h;exact⟨a,c,rfl,hs.tur ht hF hT,h1⟩
theorem z18 {B E sz n:Nat}{v:Value}{xs:List Value}(h:w.ownsRow B E sz v n xs)(ht:Turn F w w')(hF:TyF w F T)(hT:T≠E):w'.ownsRow B E sz v n xs:=by
 refine⟨h.1,?_⟩
 rcases h.2 with h2|⟨b,cap,cur,rfl,hb,hgb,h3⟩
 ·exact .inl h2
 ·exact .inr ⟨b,cap,cur,rfl,hb,ht.hg hgb (hF.not hgb hT),h3⟩
end
theorem z2a {α:Type}{E:Elt α}{P:Program}{w:World}(B:Nat)(t ty e:TypeId)(ht:P.underlying t=some (.slice e))(h2:(P.info? e).map (fun i=>(i.zero,i.size,i.bytes))=some (some E.zero,E.sz,E.by_))
  (v:Value) (n:Nat) (l:List α) (hs:w.ownsRow B e E.sz v n (E.row l)) (hB:B≤w.heap.size) (a2:Option Addr) (n2 c2:Nat) (m:List α) (hn2:m.length=n2) (h0:0<n2) (hm:ES E w a2 m)
  (h63:n+n2≤maxLen) (hby:(n+n2)*E.by_≤140737488355328):
  ∃v' w',(Builtin.append_ #[t,t] ty #[v,.slice a2 n2 c2]).run P w=.ok v' w'∧Below B w w'∧Turn (fun i=>v.ownBlock=some i) w w'∧w'.ownsRow B e E.sz v' (n+n2) (E.row (l++m)):=by
 obtain⟨i0,hi,hz,hs0,hb0⟩:=info_parts h2;obtain⟨g,o,rfl,hc⟩:=hm.at (by omega);obtain⟨v',w',hr,h3,h4,_⟩:=run_append_own (P:=P) w B t ty e i0 E.zero E.sz E.by_ ht hi hz hs0 hb0 E.zc E.pos v n (E.row l) hs ⟨g,o,none⟩ n2 c2 (E.row m) (by rw[E.row_len,hn2]) (fun j u hu=>by rw[z2r];exact hc j u hu) (E.row_one m) h63 hby hB;refine⟨v',w',hr,(zbr B w).grown h4 hB (fun k hk=>(hs.lt k hk).1),⟨h4.os,h4.tape,h4.output,h4.size,fun i hi hne=>h4.block i hi (fun e=>hne e.symm)⟩,?_⟩;rw[q6b];exact h3
theorem y1w (w:World)(s:ByteArray)(hs:s.size≤1099511627776):∃g c w1,(convert 9 46 (.string s)).run Tryz.prog w=.ok (.slice (some ⟨g,0,none⟩) s.size c) w1∧Src w1 (some ⟨g,0,none⟩) (bn s)∧s.size≤c∧c≤maxLen∧Below w.heap.size w w1:=by
 refine⟨w.heap.size,grownCap w s.size 0 5,Lib.bytesWorld w 5 s,?_,?_,?_,?_,⟨rfl,rfl,rfl,by rw[Lib.bytesWorld_size];omega,fun j hj=>Lib.bytesWorld_at_old w _ _ j hj⟩⟩
 ·exact Lib.run_convert_string_bytes w _ _ _ s Tryz.underlying9 Tryz.underlying46 Tryz.underlying5
 ·have hcs:Cs (Lib.bytesWorld w 5 s) w.heap.size 0 (bn s):=fun i hi=>by
   rw[z2h] at hi;rw[Nat.zero_add,Lib.bytesWorld_cell w 5 s i hi];unfold bn;have hi2:i<s.data.toList.length:=by simpa using hi
   congr 2
   rw[List.getD_eq_getElem?_getD,List.getD_eq_getElem?_getD,List.getElem?_map,show(bl s)=s.data.toList from rfl,List.getElem?_eq_getElem hi2]
   rfl
  exact hcs.src
 ·have:=grownCap_ge w s.size 0 5;omega
 ·exact grownCap_le_maxLen w s.size 0 5 (by unfold maxLen;omega)
end Go.Proofs.YtifmepiahlodhaaGreatDoor
