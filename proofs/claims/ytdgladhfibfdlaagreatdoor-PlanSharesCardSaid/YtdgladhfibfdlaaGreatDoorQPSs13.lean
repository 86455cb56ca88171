/-
  Steps.
-/
import Derived.Test.YtdgladhfibfdlaaGreatDoorQPSs12
import Derived.Test.YtdgladhfibfdlaaGreatDoorProg
import Derived.Deep.LoopGhost
import Derived.Test.YtdgladhfibfdlaaGreatDoorQPSs03
import Derived.Lib.Zigzag
namespace Go.Proofs.YtdgladhfibfdlaaGreatDoor
open Go Go.RowKit Tryz
abbrev ACT:TypeId:=64
structure Ac where
 x:Int
 k:ByteArray
 v:ByteArray
instance :Inhabited Ac:=⟨⟨0,ByteArray.empty,ByteArray.empty⟩⟩
def aca (l:List Ac)(i:Nat):Ac:=l.getD i default
def AS (w:World)(a:Option Addr)(l:List Ac):Prop:=0<l.length→∃g o,a=some ⟨g,o,none⟩∧∀i,i<l.length→w.cell? ⟨g,o+i*3,none⟩=some (.int .i64 (aca l i).x)∧w.cell? ⟨g,o+i*3+1,none⟩=some (.string (aca l i).k)∧w.cell? ⟨g,o+i*3+2,none⟩=some (.string (aca l i).v)
theorem AS.below {w w':World}{a:Option Addr}{l:List Ac}{B:Nat}(h:AS w a l)(hb:Below B w w')(hB:w.heap.size≤B):AS w' a l:=fun h0=>by
 obtain⟨g,o,rfl,hc⟩:=h h0;refine⟨g,o,rfl,fun i hi=> ?_⟩;obtain⟨h1,h2,h3⟩:=hc i hi;have hl:=Nat.lt_of_lt_of_le (block_lt_of_cell h1) hB;exact⟨by rw[hb.cell (p:=⟨g,o+i*3,none⟩) hl];exact h1,by rw[hb.cell (p:=⟨g,o+i*3+1,none⟩) hl];exact h2,by rw[hb.cell (p:=⟨g,o+i*3+2,none⟩) hl];exact h3⟩
def chL:List En→List Nat
 | []=> []
 | e::r=>e.ch++chL r
theorem E7:∀(a b:List En),chL (a++b)=chL a++chL b
 | [],_=>rfl
 | e::r,b=>by rw[List.cons_append,chL,chL,E7 r b,List.append_assoc]
def cU (p:Nat)(t:Tr):Nat:=t.pgs.count p+(chL t.es).count p
def cUL (p:Nat)(ts:List Tr):Nat:=(Pq ts).count p+(chL (esL ts)).count p
theorem Qu (p:Nat)(t:Tr)(r:List Tr):cUL p (t::r)=cU p t+cUL p r:=by
 unfold cUL cU;rw[Pq,esL,E7,List.count_append,List.count_append];omega
theorem Iv (p:Nat):cUL p []=0:=by unfold cUL;simp[Pq,esL,chL]
theorem y01 (p:Nat):∀(a b:List Tr),cUL p (a++b)=cUL p a+cUL p b
 | [],b=>by rw[Iv];simp
 | t::r,b=>by rw[List.cons_append,Qu,Qu,y01 p r b];omega
theorem YY (p pg:Nat)(ks:List ByteArray)(ts:List Tr):cU p (.bran pg ks ts)=(if pg=0 then 0 else [pg].count p)+cUL p ts:=by
 unfold cU cUL;simp only[Tr.pgs,Tr.es];rw[List.count_append]
 by_cases h:pg=0
 ·simp[h]
 ·simp only[if_neg h];omega
theorem z2g (p pg:Nat)(cs:List En):cU p (.leaf pg cs)=(if pg=0 then 0 else [pg].count p)+(chL cs).count p:=by
 unfold cU;simp only[Tr.pgs,Tr.es]
 by_cases h:pg=0
 ·simp[h]
 ·simp only[if_neg h]
def N0 (e:En):Bool:=decide (64<e.v.size)&&decide (e.ch.length=0)
def cN (e:En):Nat:=if N0 e=true then nP e.v.size else 0
def cNs:List En→Nat
 | []=>0
 | e::r=>cN e+cNs r
mutual
def Tr.need:Tr→Nat
 | .leaf pg cs=>if pg=0 then cNs cs+1 else 0
 | .bran pg _ ts=>if pg=0 then Z2 ts+1 else 0
def Z2:List Tr→Nat
 | []=>0
 | t::r=>t.need+Z2 r
end
def cE (e:En):Ce:=if 64<e.v.size then ⟨e.k,ByteArray.empty,(e.v.size:Int),((na e.ch 0:Nat):Int)⟩ else ⟨e.k,e.v,(e.v.size:Int),0⟩
def pgI (t:Tr):Int:=((t.pg:Nat):Int)
def E8 (e:En)(ps:List Nat):En:=if N0 e=true then ⟨e.k,e.v,(ps.take (nP e.v.size)).reverse⟩ else e
def Tz:List En→List Nat→List En
 | [],_=> []
 | e::r,ps=>E8 e ps::Tz r (ps.drop (cN e))
mutual
def Pk:Tr→List Nat→Tr
 | .leaf pg cs,ps=>if pg=0 then .leaf (na ps (cNs cs)) (Tz cs ps) else .leaf pg cs
 | .bran pg ks ts,ps=>if pg=0 then .bran (na ps (Z2 ts)) ks (Uy ts ps) else .bran pg ks ts
def Uy:List Tr→List Nat→List Tr
 | [],_=> []
 | t::r,ps=>Pk t ps::Uy r (ps.drop t.need)
end
abbrev PgW:=Nat×List Nat
def pcW (v:ByteArray)(ps:List Nat)(n j:Nat):PgW:=(na ps j,V7 3 (beL (if j=0 then 0 else na ps (j-1)) 2++bn (Iq v (n-1-j))))
def wrE (e:En)(ps:List Nat):List PgW:=if N0 e=true then (List.range (nP e.v.size)).map (pcW e.v ps (nP e.v.size)) else []
def wrC:List En→List Nat→List PgW
 | [],_=> []
 | e::r,ps=>wrE e ps++wrC r (ps.drop (cN e))
mutual
def wrT:Tr→List Nat→List PgW
 | .leaf pg cs,ps=>if pg=0 then wrC cs ps++[(na ps (cNs cs),V7 1 (Tj ((Tz cs ps).map cE)))] else []
 | .bran pg ks ts,ps=>if pg=0 then wrL ts ps++[(na ps (Z2 ts),V7 2 (Rj ks ((Uy ts ps).map pgI)))] else []
def wrL:List Tr→List Nat→List PgW
 | [],_=> []
 | t::r,ps=>wrT t ps++wrL r (ps.drop t.need)
end
theorem YZ (ps:List Nat)(a i:Nat):na (ps.drop a) i=na ps (a+i):=by
 unfold na;simp[List.getD]
theorem Ox {ps:List Nat}{i:Nat}(h:i<ps.length):na ps i∈ps:=by
 unfold na;simp[List.getD,h]
theorem Iw (ps:List Nat)(k:Nat)(h:k<ps.length):ps.take (k+1)=ps.take k++[na ps k]:=by
 rw[List.take_succ_eq_append_getElem h];simp[na,List.getD,h]
theorem XA (ps:List Nat):∀n,n≤ps.length→(List.range n).map (na ps)=ps.take n
 | 0,_=>by simp
 | n+1,h=>by rw[List.range_succ,List.map_append,XA ps n (by omega),Iw ps n (by omega)];rfl
theorem y9o (e:En)(ps:List Nat)(h:cN e≤ps.length):(wrE e ps).map Prod.fst=ps.take (cN e):=by
 unfold wrE;unfold cN at h⊢
 by_cases h1:N0 e=true
 ·rw[if_pos h1] at h;rw[if_pos h1,if_pos h1,List.map_map,←XA ps _ h];rfl
 ·rw[if_neg h1,if_neg h1];simp
theorem y02:∀(cs:List En) (ps:List Nat),cNs cs≤ps.length→(wrC cs ps).map Prod.fst=ps.take (cNs cs)
 | [],ps,_=>by simp[wrC,cNs]
 | e::r,ps,h=>by
  rw[cNs] at h⊢
  rw[wrC,List.map_append,y9o e ps (by omega),y02 r _ (by rw[zld];omega),List.take_add]
mutual
theorem y9p:∀(t:Tr) (ps:List Nat),t.need≤ps.length→(wrT t ps).map Prod.fst=ps.take t.need
 | .leaf pg cs,ps,h=>by
  rw[Tr.need] at h⊢
  rw[wrT]
  by_cases h1:pg=0
  ·rw[if_pos h1] at h⊢
   rw[if_pos h1,List.map_append,y02 cs ps (by omega),Iw ps _ (by omega)];rfl
  ·rw[if_neg h1,if_neg h1];simp
 | .bran pg ks ts,ps,h=>by
  rw[Tr.need] at h⊢
  rw[wrT]
  by_cases h1:pg=0
  ·rw[if_pos h1] at h⊢
   rw[if_pos h1,List.map_append,z2h ts ps (by omega),Iw ps _ (by omega)];rfl
  ·rw[if_neg h1,if_neg h1];simp
theorem z2h:∀(ts:List Tr) (ps:List Nat),Z2 ts≤ps.length→(wrL ts ps).map Prod.fst=ps.take (Z2 ts)
 | [],ps,_=>by simp[wrL,Z2]
 | t::r,ps,h=>by
  rw[Z2] at h⊢
  rw[wrL,List.map_append,y9p t ps (by omega),z2h r _ (by rw[zld];omega),List.take_add]
end
theorem y03 (e:En)(ps:List Nat):(E8 e ps).bare=e.bare:=by
 unfold E8;split<;>rfl
theorem Lj:∀(cs:List En) (ps:List Nat),bare (Tz cs ps)=bare cs
 | [],_=>rfl
 | e::r,ps=>by
  have e1:bare (Tz (e::r) ps)=(E8 e ps).bare::bare (Tz r (ps.drop (cN e))):=rfl;have e2:bare (e::r)=e.bare::bare r:=rfl;rw[e1,e2,y03,Lj r]
mutual
theorem z0c:∀(t:Tr) (ps:List Nat),bare (Pk t ps).es=bare t.es
 | .leaf pg cs,ps=>by
  rw[Pk]
  by_cases h1:pg=0
  ·rw[if_pos h1,Tr.es,Tr.es,Lj]
  ·rw[if_neg h1]
 | .bran pg ks ts,ps=>by
  rw[Pk]
  by_cases h1:pg=0
  ·rw[if_pos h1,Tr.es,Tr.es,G9]
  ·rw[if_neg h1]
theorem G9:∀(ts:List Tr) (ps:List Nat),bare (esL (Uy ts ps))=bare (esL ts)
 | [],_=>by rw[Uy]
 | t::r,ps=>by rw[Uy,esL,esL,G5,G5,z0c t,G9 r]
end
theorem N1 (es:List En):Y3 (bare es)=Y3 es:=by
 unfold Y3 szs;rw[Uk];unfold bare;rw[List.map_map];rfl
theorem z2i (t:Tr)(ps:List Nat):(Pk t ps).sz=t.sz:=by
 cases t with
 | leaf pg cs=>
  rw[Pk]
  by_cases h1:pg=0
  ·rw[if_pos h1,Tr.sz,Tr.sz,←N1,Lj,N1]
  ·rw[if_neg h1]
 | bran pg ks ts=>
  rw[Pk]
  by_cases h1:pg=0
  ·rw[if_pos h1];rfl
  ·rw[if_neg h1]
theorem Q0:∀(ts:List Tr) (ps:List Nat),(Uy ts ps).length=ts.length
 | [],_=>by rw[Uy]
 | t::r,ps=>by rw[Uy,List.length_cons,List.length_cons,Q0 r]
theorem N5:∀(cs:List En) (ps:List Nat),(Tz cs ps).length=cs.length
 | [],_=>rfl
 | e::r,ps=>by rw[Tz,List.length_cons,List.length_cons,N5 r]
theorem z46 (p:Nat):∀(cs:List En) (ps:List Nat),cNs cs≤ps.length→(chL (Tz cs ps)).count p=(chL cs).count p+(ps.take (cNs cs)).count p
 | [],ps,_=>by simp[Tz,chL,cNs]
 | e::r,ps,h=>by
  rw[cNs] at h⊢
  rw[Tz,chL,chL,List.count_append,List.count_append,z46 p r _ (by rw[zld];omega),List.take_add,List.count_append];have:(E8 e ps).ch.count p=e.ch.count p+(ps.take (cN e)).count p:=by
   unfold E8 cN
   by_cases h1:N0 e=true
   ·rw[if_pos h1,if_pos h1];have h2:e.ch=[]:=by
     unfold N0 at h1;simp only[Bool.and_eq_true,decide_eq_true_iff] at h1;exact List.eq_nil_of_length_eq_zero h1.2
    simp[h2]
   ·rw[if_neg h1,if_neg h1];simp
  omega
mutual
theorem y40 (p:Nat):∀(t:Tr) (ps:List Nat),t.need≤ps.length→(∀x∈ps,x≠0)→cU p (Pk t ps)=cU p t+(ps.take t.need).count p
 | .leaf pg cs,ps,h,hz=>by
  rw[Tr.need] at h⊢
  rw[Pk]
  by_cases h1:pg=0
  ·rw[if_pos h1] at h⊢
   have h2:na ps (cNs cs)≠0:=hz _ (Ox (by omega));rw[if_pos h1,z2g,z2g,if_neg h2,if_pos h1,z46 p cs ps (by omega),Iw ps _ (by omega),List.count_append];omega
  ·rw[if_neg h1,if_neg h1];simp
 | .bran pg ks ts,ps,h,hz=>by
  rw[Tr.need] at h⊢
  rw[Pk]
  by_cases h1:pg=0
  ·rw[if_pos h1] at h⊢
   have h2:na ps (Z2 ts)≠0:=hz _ (Ox (by omega));rw[if_pos h1,YY,YY,if_neg h2,if_pos h1,zV p ts ps (by omega) hz,Iw ps _ (by omega),List.count_append];omega
  ·rw[if_neg h1,if_neg h1];simp
theorem zV (p:Nat):∀(ts:List Tr) (ps:List Nat),Z2 ts≤ps.length→(∀x∈ps,x≠0)→cUL p (Uy ts ps)=cUL p ts+(ps.take (Z2 ts)).count p
 | [],ps,_,_=>by simp[Uy,Z2,Iv]
 | t::r,ps,h,hz=>by
  rw[Z2] at h⊢
  rw[Uy,Qu,Qu,y40 p t ps (by omega) hz,zV p r _ (by rw[zld];omega) (fun x hx=>hz x (List.mem_of_mem_drop hx)),List.take_add,List.count_append];omega
end
section
variable (P:Nat→List Nat)
def ChH (v:ByteArray)(ch:List Nat):Prop:=ch.length=nP v.size∧∀i,i<ch.length→P (na ch i)=V7 3 (beL (na ch (i+1)) 2++bn (Iq v i))
def CeO (e:En):Prop:=e.ch=[]∨(64<e.v.size∧ChH P e.v e.ch)
def CeL (e:En):Prop:=(e.v.size≤64∧e.ch=[])∨(64<e.v.size∧ChH P e.v e.ch)
def QH:Tr→Prop
 | .leaf pg es=>P pg=V7 1 (Tj (es.map cE))∧∀e∈es,64<e.v.size→e.ch≠[]
 | .bran pg ks ts=>P pg=V7 2 (Rj ks (ts.map pgI))∧∀t∈ts,t.pg≠0
theorem CeO.lies {e:En}(h:CeO P e)(h1:64<e.v.size→e.ch≠[]):CeL P e:=by
 rcases h with h|h
 ·refine .inl ⟨?_,h⟩
  rcases zng 64 e.v.size with h2|h2
  ·exact absurd h (h1 h2)
  ·exact h2
 ·exact .inr h
theorem CeL.o {e:En}(h:CeL P e):CeO P e:=by
 rcases h with h|h
 ·exact .inl h.2
 ·exact .inr h
theorem y04 {Q:Tr→Prop}:∀{ts:List Tr},onL Q ts→∀t∈ts,t.on Q
 | [],_,t,h=>by cases h
 | u::r,h,t,ht=>by
  rw[onL] at h
  rcases List.mem_cons.1 ht with rfl|ht
  ·exact h.1
  ·exact y04 h.2 t ht
mutual
/-- Of a tree that lies all long values lie.-/
theorem zW:∀(t:Tr),t.on (QH P)→t.pg≠0→∀e∈t.es,64<e.v.size→e.ch≠[]
 | .leaf pg cs,h,h0=>by
  rw[Tr.on] at h;rw[Tr.es];exact(h h0).2
 | .bran pg ks ts,h,h0=>by
  rw[Tr.on] at h;rw[Tr.es];exact z0d ts h.2 (h.1 h0).2
theorem z0d:∀(ts:List Tr),onL (QH P) ts→(∀t∈ts,t.pg≠0)→∀e∈esL ts,64<e.v.size→e.ch≠[]
 | [],_,_=>by rw[esL];intro e he;cases he
 | t::r,h,h0=>by
  rw[onL] at h;rw[esL];intro e he
  rcases List.mem_append.1 he with he|he
  ·exact zW t h.1 (h0 t (by simp)) e he
  ·exact z0d r h.2 (fun u hu=>h0 u (by simp[hu])) e he
end
theorem y05 {ps:List Nat}{n i:Nat}(hn:n≤ps.length)(hi:i<n):na (ps.take n).reverse i=na ps (n-1-i):=by
 have hl:(ps.take n).length=n:=by rw[zlk];omega
 have h2:i<(ps.take n).reverse.length:=by rw[List.length_reverse,hl];exact hi
 unfold na;rw[List.getD_eq_getElem?_getD,List.getElem?_eq_getElem h2,List.getElem_reverse,List.getElem_take,List.getD_eq_getElem?_getD,List.getElem?_eq_getElem (by omega)];simp only[hl]
theorem XB {ps:List Nat}{i:Nat}(h:ps.length≤i):na ps i=0:=by
 unfold na;rw[List.getD_eq_getElem?_getD,List.getElem?_eq_none h];rfl
theorem y06 (e:En)(ps:List Nat)(hl:cN e≤ps.length)(hw:∀x∈wrE e ps,P x.1=x.2)(ho:CeO P e):CeL P (E8 e ps):=by
 unfold E8
 by_cases h1:N0 e=true
 ·have h2:=h1;unfold N0 at h2;simp only[Bool.and_eq_true,decide_eq_true_iff] at h2;unfold cN at hl;unfold wrE at hw;rw[if_pos h1] at hl hw;rw[if_pos h1];obtain⟨n,hn⟩:∃n,nP e.v.size=n:=⟨_,rfl⟩
  rw[hn] at hl hw⊢
  have hlen:(ps.take n).reverse.length=n:=by rw[List.length_reverse,zlk];omega
  refine .inr ⟨h2.1,?_,fun i hi=> ?_⟩
  ·simp only;rw[hlen,hn]
  ·simp only at hi⊢
   rw[hlen] at hi;have h3:=hw (pcW e.v ps n (n-1-i)) (List.mem_map.2 ⟨n-1-i,List.mem_range.2 (by omega),rfl⟩);simp only[pcW] at h3;rw[y05 hl hi,h3];have e1:n-1-(n-1-i)=i:=by omega
   rw[e1]
   by_cases h4:i+1<n
   ·rw[y05 hl h4,if_neg (by omega)];have e2:n-1-i-1=n-1-(i+1):=by omega
    rw[e2]
   ·rw[if_pos (by omega),XB (ps:=(ps.take n).reverse) (i:=i+1) (by rw[hlen];omega)]
 ·rw[if_neg h1];refine ho.lies P (fun h2 h3=>h1 ?_);unfold N0;simp[h2,h3]
theorem z0e:∀(cs:List En) (ps:List Nat),cNs cs≤ps.length→(∀x∈wrC cs ps,P x.1=x.2)→(∀e∈cs,CeO P e)→∀e∈Tz cs ps,CeL P e
 | [],_,_,_,_,e,he=>by cases he
 | c::r,ps,hl,hw,ho,e,he=>by
  rw[cNs] at hl;rw[wrC] at hw;rw[Tz] at he
  rcases List.mem_cons.1 he with rfl|he
  ·exact y06 P c ps (by omega) (fun x hx=>hw x (List.mem_append_left _ hx)) (ho c (by simp))
  ·exact z0e r _ (by rw[zld];omega) (fun x hx=>hw x (List.mem_append_right _ hx)) (fun e he=>ho e (by simp[he])) e he
mutual
/-- What was laid lies.-/
theorem y07:∀(t:Tr) (ps:List Nat),t.need≤ps.length→(∀x∈ps,x≠0)→(∀x∈wrT t ps,P x.1=x.2)→t.on (QH P)→(∀e∈t.es,CeO P e)→(Pk t ps).on (QH P)∧(Pk t ps).pg≠0∧∀e∈(Pk t ps).es,CeL P e
 | .leaf pg cs,ps,hl,hz,hw,hq,ho=>by
  rw[Tr.need] at hl;rw[wrT] at hw;rw[Pk];rw[Tr.es] at ho
  by_cases h1:pg=0
  ·rw[if_pos h1] at hl hw⊢
   have h3:=z0e P cs ps (by omega) (fun x hx=>hw x (List.mem_append_left _ hx)) ho;refine⟨?_,hz _ (Ox (by omega)),by rw[Tr.es];exact h3⟩;rw[Tr.on];intro _;refine⟨hw _ (List.mem_append_right _ (List.mem_singleton.2 rfl)),fun e he h4 h5=> ?_⟩
   rcases h3 e he with ⟨h6,_⟩|⟨_,h6,_⟩
   ·omega
   ·rw[h5] at h6;have:0<nP e.v.size:=zR.2 (by omega);simp at h6;omega
  ·rw[if_neg h1];refine⟨hq,h1,fun e he=> ?_⟩;have h2:=zW P (.leaf pg cs) hq h1 e he;rw[Tr.es] at he;exact(ho e he).lies P h2
 | .bran pg ks ts,ps,hl,hz,hw,hq,ho=>by
  rw[Tr.need] at hl;rw[wrT] at hw;rw[Pk]
  by_cases h1:pg=0
  ·rw[if_pos h1] at hl hw⊢
   rw[Tr.es] at ho;have hq2:=hq;rw[Tr.on] at hq2;obtain⟨h3,h4,h5⟩:=XC ts ps (by omega) hz (fun x hx=>hw x (List.mem_append_left _ hx)) hq2.2 ho;refine⟨?_,hz _ (Ox (by omega)),by rw[Tr.es];exact h5⟩;rw[Tr.on];exact⟨fun _=>⟨hw _ (List.mem_append_right _ (List.mem_singleton.2 rfl)),h4⟩,h3⟩
  ·rw[if_neg h1];exact⟨hq,h1,fun e he=>(ho e he).lies P (zW P _ hq h1 e he)⟩
theorem XC:∀(ts:List Tr) (ps:List Nat),Z2 ts≤ps.length→(∀x∈ps,x≠0)→(∀x∈wrL ts ps,P x.1=x.2)→onL (QH P) ts→(∀e∈esL ts,CeO P e)→onL (QH P) (Uy ts ps)∧(∀t∈Uy ts ps,t.pg≠0)∧∀e∈esL (Uy ts ps),CeL P e
 | [],_,_,_,_,_,_=>by
  rw[Uy,onL,esL];exact⟨trivial,fun t ht=>(by cases ht),fun e he=>(by cases he)⟩
 | t::r,ps,hl,hz,hw,hq,ho=>by
  rw[Z2] at hl;rw[wrL] at hw;rw[onL] at hq;rw[esL] at ho;rw[Uy,onL,esL];obtain⟨a1,a2,a3⟩:=y07 t ps (by omega) hz (fun x hx=>hw x (List.mem_append_left _ hx)) hq.1 (fun e he=>ho e (List.mem_append_left _ he));obtain⟨b1,b2,b3⟩:=XC r (ps.drop t.need) (by rw[zld];omega) (fun x hx=>hz x (List.mem_of_mem_drop hx)) (fun x hx=>hw x (List.mem_append_right _ hx)) hq.2 (fun e he=>ho e (List.mem_append_right _ he));refine⟨⟨a1,b1⟩,fun u hu=> ?_,fun e he=> ?_⟩
  ·rcases List.mem_cons.1 hu with rfl|hu
   ·exact a2
   ·exact b2 u hu
  ·rcases List.mem_append.1 he with he|he
   ·exact a3 e he
   ·exact b3 e he
end
end
theorem z0f (t:Tr)(h:t.pg≠0):t.need=0:=by
 cases t with
 | leaf pg cs=>
  have h':¬pg=0:=h;rw[Tr.need,if_neg h']
 | bran pg ks ts=>
  have h':¬pg=0:=h;rw[Tr.need,if_neg h']
theorem z47 (t:Tr)(ps:List Nat)(h:t.pg≠0):Pk t ps=t∧wrT t ps=[]:=by
 cases t with
 | leaf pg cs=>
  have h':¬pg=0:=h;rw[Pk,wrT,if_neg h',if_neg h'];exact⟨rfl,rfl⟩
 | bran pg ks ts=>
  have h':¬pg=0:=h;rw[Pk,wrT,if_neg h',if_neg h'];exact⟨rfl,rfl⟩
end Go.Proofs.YtdgladhfibfdlaaGreatDoor
namespace Go.Proofs.YtdgladhfibfdlaaGreatDoor
open Go Go.RowKit Go.Shelf Tryz
theorem x1y (a b:ByteArray):(!Op.bytesLess a.toList b.toList&& !a.toList==b.toList)=blt b a:=by
 rw[←Bool.not_or,z8a,Bool.not_not]
abbrev STS:TypeId:=92
set_option maxRecDepth 100000 in
theorem y41 (w:World)(b1 b2 h:Nat)(a:Option Addr)(n c:Nat)(ks:List ByteArray)(key:ByteArray)(h1:w.cell? ⟨b1,0,none⟩=some (.slice a n c))(h2:w.cell? ⟨b2,0,none⟩=some (.string key))(hn:ks.length=n)(hs:TxS w a ks)(hh:h<n):
  Calls prog 116 #[.int .i64 h,.pointer (some ⟨b1,0,none⟩),.pointer (some ⟨b2,0,none⟩)] w fun e w'=>e=.returned (.bool (blt key (sa ks h)))∧zB w w':=by
 obtain⟨g,o,rfl,hcell⟩:=hs (by omega);have hA:=hcell h (by omega);have q0:∀w',Ext w.drew w'→w'.cell? ⟨g,o+h,none⟩=some (.string (sa ks h)):=fun w' hw=>by
  rw[((zbr w.heap.size w).drew.trans hw).cell (p:=⟨g,o+h,none⟩) (block_lt_of_cell hA)];exact hA
 have l1:=block_lt_of_cell h1;have l2:=block_lt_of_cell h2;have q1:∀w',Ext w.drew w'→w'.cell? ⟨b1,0,none⟩=some (.slice (some ⟨g,o,none⟩) n c):=fun w' hw=>by
  rw[((zbr w.heap.size w).drew.trans hw).cell (p:=⟨b1,0,none⟩) l1];exact h1
 have q2:∀w',Ext w.drew w'→w'.cell? ⟨b2,0,none⟩=some (.string key):=fun w' hw=>by
  rw[((zbr w.heap.size w).drew.trans hw).cell (p:=⟨b2,0,none⟩) l2];exact h2
 have hle:=x1y (sa ks h) key;generalize blt key (sa ks h)=D at*;clear hcell hA hs h1 h2 hn
 go_enter func116,ntmps116
 go_wp2_with fail;refine rgr [(0,true),(1,true),(2,true),(3,true),(4,true),(5,true),(6,true)] (h:= ?_);iterate 7 (refine grr (v:= ?_) rfl (by rfl) ?_ ?_;rotate_left;(intro w' hw';go_simp;with_reducible rfl);simp only[Act.put,zs0,zs1,zs2])
 refine Yq ?_;go_wp2_with fail;go_ret;exact⟨rfl,(zbr _ _).drew⟩
set_option maxRecDepth 100000 in
theorem zX (w:World)(b1 b2:Nat)(a:Option Addr)(n c:Nat)(ks:List ByteArray)(key:ByteArray)(h1:w.cell? ⟨b1,0,none⟩=some (.slice a n c))(h2:w.cell? ⟨b2,0,none⟩=some (.string key))(hn:ks.length=n)(hs:TxS w a ks)(ha:Pw ks)(hl:n≤65536):
  Calls prog 115 #[.int .i64 n,.func (.func 116) #[] #[.pointer (some ⟨b1,0,none⟩),.pointer (some ⟨b2,0,none⟩)]] w fun e w'=>e=.returned (.int .i64 (Qk ks key:Nat))∧zB w w':=by
 have eg:∀args w,(callFunc 116 args).run prog w=.ok (.enter 116 args) w:=enters_of func116 (by kernel_rfl) rfl;have hcall:∀(w':World) (h:Nat),h<n→zB w w'→Calls prog 116 #[.int .i64 h,.pointer (some ⟨b1,0,none⟩),.pointer (some ⟨b2,0,none⟩)] w' fun e w''=>e=.returned (.bool (blt key (sa ks h)))∧zB w' w'':=fun w' h hh hb=>
  y41 w' b1 b2 h a n c ks key (by rw[hb.cell (p:=⟨b1,0,none⟩) (block_lt_of_cell h1)];exact h1) (by rw[hb.cell (p:=⟨b2,0,none⟩) (block_lt_of_cell h2)];exact h2) hn (hs.below hb (zlr _)) hh
 have Hcall:=zh hcall;have hyes:∀h,h<n→blt key (sa ks h)=false→h<Qk ks key:=fun h hh hb=>by
  rcases zng h (Qk ks key) with h3|h3
  ·exact h3
  ·rw[y85 ha key h h3 (by omega)] at hb;cases hb
 have hno:∀h,h<n→blt key (sa ks h)=true→Qk ks key≤h:=fun h hh hb=>by
  rcases zng h (Qk ks key) with h3|h3
  ·rw[zI ks key h h3] at hb;cases hb
  ·exact h3
 have Hyes:=zh (zai hyes hno);have hF:Qk ks key≤n:=by have:=YT ks key;omega
 clear hcall hyes hno h1 h2 hn hs ha;generalize Qk ks key=F at*
 go_enter func115,ntmps115
 go_wp2_with fail
 go_loopw [5,6] (fun i j wr=>∃x y:Nat,i=.int .i64 x∧j=.int .i64 y∧x≤y∧y≤n∧x≤F∧F≤y∧Hid (zB w wr)) (fun i j _=>(intOf j-intOf i).toNat)
 case atStart=>exact⟨0,n,rfl,rfl,by omega,by omega,by omega,by omega,zbr _ _⟩
 case round=>
  obtain⟨x,y,rfl,rfl,hxy,hyn,hx,hy,hB⟩:=hrel
  by_cases hlt:x<y
  ·obtain⟨H,hH⟩:∃H,H=(x+y)/2:=⟨_,rfl⟩
   have e1:((x:Int)+(y:Int))/2=(H:Int):=by omega
   have z1:x≤H:=by omega
   have z2:H<y:=by omega
   have hc:=zh (Hcall.out wr H (by omega) hB.out);have hs:=Hyes.out.1 H (by omega);have hs2:=Hyes.out.2 H (by omega);clear hH;generalize blt key (sa ks H)=D at*
   cases D with
   | false=>
    have hs':=hs rfl;clear hs hs2
    go_wp2_with (go_at_fn 116;refine hc.out.mono ?_;rintro e w' ⟨rfl,hb⟩)
    have hB2:=zh (hB.out.trans (hb.mono hB.out.size));clear hb
    go_roundw
    case rel=>exact⟨H+1,y,by go_num,rfl,by omega,by omega,by omega,by omega,hB2⟩
    case measure=>simp[intOf];omega
   | true=>
    have hs':=hs2 rfl;clear hs hs2
    go_wp2_with (go_at_fn 116;refine hc.out.mono ?_;rintro e w' ⟨rfl,hb⟩)
    have hB2:=zh (hB.out.trans (hb.mono hB.out.size));clear hb
    go_roundw
    case rel=>exact⟨x,H,rfl,by go_num,by omega,by omega,by omega,by omega,hB2⟩
    case measure=>simp[intOf];omega
  ·obtain rfl:x=F:=by omega
   go_wp2;go_ret;exact⟨rfl,hB.out⟩
set_option maxRecDepth 100000 in
theorem z0g (a:Option Addr)(n c:Nat)(ks:List ByteArray)(key:ByteArray)(w:World)(hn:ks.length=n)(hs:TxS w a ks)(ha:Pw ks)(hl:n≤65536):
  Calls prog 88 #[.slice a n c,.string key] w fun e w'=>e=.returned (.int .i64 (Qk ks key:Nat))∧zB w w':=by
 obtain⟨w2,hw2⟩:∃w2,w2=(w.alloc (.cells #[.slice a n c] STS)).alloc (.cells #[.string key] 9):=⟨_,rfl⟩
 have hb2:zB w w2:=by rw[hw2];exact((zbr _ _).alloc (zlr _) _).alloc (by simp) _
 have c1:w2.cell? ⟨w.heap.size,0,none⟩=some (.slice a n c):=by rw[hw2];simp
 have c2:w2.cell? ⟨w.heap.size+1,0,none⟩=some (.string key):=by rw[hw2];simp
 have hsr:=zh (zX w2 w.heap.size (w.heap.size+1) a n c ks key c1 c2 hn (hs.below hb2 (zlr _)) ha hl);have hmf:∀(fn:Fn) (first cap:Array Value) (w:World),(Instr.makeFunc fn first cap).run prog w=.ok (.func fn first cap) w:=fun _ _ _ _=>rfl
 have Hb2:=zh hb2;clear c1 c2 hs hn hb2 ha;generalize Qk ks key=F at*;subst hw2
 go_enter func88,ntmps88
 go_wp2_with fail;refine hsr.out.mono ?_;rintro e w3 ⟨rfl,hb3⟩;have HB:=zh (Hb2.out.trans (hb3.mono Hb2.out.size));clear hb3 hsr Hb2 hmf;go_wp2;go_ret;exact⟨rfl,HB.out⟩
end Go.Proofs.YtdgladhfibfdlaaGreatDoor
namespace Go.Proofs.YtdgladhfibfdlaaGreatDoor
open Go Go.RowKit Tryz
abbrev x3i:TypeId:=9
end Go.Proofs.YtdgladhfibfdlaaGreatDoor
namespace Go.Proofs.YtdgladhfibfdlaaGreatDoor
open Go.RowKit Tryz
theorem z2j (x:Nat)(w:World)(h0:0<x)(hx:x<18446744073709551616):Calls prog 195 #[.int .u64 x] w fun e w'=>e=.returned (.int .i64 (Lib.bitLen x-1:Nat))∧w=w':=by
 have hb:=QN x h0 hx;have b1:=hb.1;have b2:=hb.2.1;clear hb;have e:(x:Int).toNat=x:=rfl;have hl:=libLen x w (by omega) (by omega);rw[e] at hl;have ec:((Lib.bitLen x-1:Nat):Int)=(Lib.bitLen x:Int)-1:=by omega
 rw[ec];clear ec e;generalize Lib.bitLen x=L at*
 go_enter func195,ntmps195
 go_wp2_with (go_at_call 209;refine hl.mono ?_;rintro e w' ⟨rfl,rfl⟩)
 go_ret;exact⟨rfl,rfl⟩
theorem x1z (v:Nat)(h:v<18446744073709551616):bits .or .u64 (v:Int) 1=((v/2*2+1:Nat):Int):=by
 refine(bits_or_u64_nat v 1 h (by omega)).trans ?_
 congr 1
 apply Nat.eq_of_testBit_eq;intro i;rw[Nat.testBit_or,show v/2*2+1=2^1*(v/2)+1 by omega,Nat.testBit_two_pow_mul_add _ (by decide)]
 cases i with
 | zero=>simp
 | succ i=>simp[Nat.testBit_succ]
theorem Fq (v:Nat)(w:World)(h:v<18446744073709551616):
  Calls prog 171 #[.int .u64 v] w fun e w'=>e=.returned (.int .i64 (vs v:Nat))∧w=w':=by
 have ho:=x1z v h;have hb:=QN (v/2*2+1) (by omega) (by omega);have hh:=z2j (v/2*2+1) w (by omega) (by omega);have hv:=zh ((x1a v).symm.trans (x09 _ _ hb.2.2));have b3:Lib.bitLen (v/2*2+1)-1≤63:=by have:=hb.2.1;omega
 clear hb;generalize Lib.bitLen (v/2*2+1)-1=L at*;generalize v/2*2+1=O at*;obtain⟨Q,hQ⟩:∃Q,Q=L/7:=⟨_,rfl⟩
 have eQ:(L:Int)/7=(Q:Int):=by omega
 have HQ:=zh hQ;have hq9:Q≤9:=by have:=Nat.div_le_div_right (c:=7) b3;omega
 clear hQ
 go_enter func171,ntmps171
 go_wp2_with (go_at_call 195;refine hh.mono ?_;rintro e w' ⟨rfl,rfl⟩)
 go_ret;exact⟨by rw[hv.out,←HQ.out];rfl,rfl⟩
end Go.Proofs.YtdgladhfibfdlaaGreatDoor
namespace Go.Proofs.YtdgladhfibfdlaaGreatDoor
open Go.RowKit Tryz
def x2y (f:Nat):Value:=if f=0 then .nilIface else .iface 110 (.int .i64 f)
end Go.Proofs.YtdgladhfibfdlaaGreatDoor
namespace Go.Proofs.YtdgladhfibfdlaaGreatDoor
open Go.RowKit Tryz
def z76 (l P:List Nat)(n:Nat):List Nat:=l++(P++List.replicate n 0)
theorem z2k (l P:List Nat)(n:Nat):(z76 l P n).length=l.length+(P.length+n):=by simp[z76]
theorem z48 (l P:List Nat)(n x:Nat):(z76 l P (n+1)).set (l.length+P.length) x=z76 l (P++[x]) n:=by
 unfold z76;rw[List.set_append_right _ _ (by omega),List.set_append_right _ _ (by omega),show l.length+P.length-l.length-P.length=0 by omega,List.replicate_succ,List.set_cons_zero,List.append_assoc];rfl
theorem x3j (V:Nat):bits .or .u8 ((V%256:Nat):Int) 128=((V%128+128:Nat):Int):=by
 rw[Lib.u8_or128_any _ (by omega) (by omega)];omega
set_option maxRecDepth 100000 in
theorem y9q (a:Option Addr)(c:Nat)(l:List Nat)(v:Nat)(w:World)(hl:l.length≤65536)(hv:v<18446744073709551616)(hsrc:Src w a l):
  Calls prog 173 #[.slice a l.length c,.int .u64 v] w fun e w'=>e=.returned (.slice (some ⟨w.heap.size,0,none⟩) (l.length+vs v:Nat) (l.length+vs v:Nat))∧Row w' w.heap.size 5 (l++vb v)∧zB w w':=by
 have Hsrc:=zh hsrc;clear hsrc;have hsz:=Fq v w hv;have hs10:=I9 hv;obtain⟨s,hs⟩:∃s,s=vs v:=⟨_,rfl⟩
 rw[←hs] at hsz hs10⊢
 have HS:=zh hs;have HC:=zh hsz;clear hs hsz
 go_enter func173,ntmps173
 go_wp2_with fail;refine HC.out.mono ?_;rintro e w' ⟨rfl,rfl⟩
 go_wp2_with (first|(at_make;refine V6 rfl _ _ 48 rfl 5 underlying48 KC _ _ _ _ (l.length+s) rfl rfl (by omega) (by omega) (by omega) ?_;intro w1 hr1 hb1;have hs1':=zh (Hsrc.out.below hb1 (zlr _)))|(show wpList _ _ _ (⟨some 15,_,_,_,_,_⟩::_) _ _;refine Tq rfl (.tmp 13) (.tmp 14) 48 48 rfl 5 underlying48 I4 w.heap.size 0 (l.length+s) (l.length+s) a c (List.replicate (l.length+s) 0) l (by rfl) (by rfl) hr1 hs1'.out (by simp) (by omega) w.heap.size w hb1 (zlr _) ?_;intro w2 hr2 hb2;clear hr1 hs1' hb1))
 have Hr2:Hid (Row w2 w.heap.size 5 (z76 l [] s)):=by
  have:=hr2.out;rw[M7] at this;have e:l++List.drop l.length (List.replicate (l.length+s) 0)=z76 l [] s:=by
   unfold z76;rw[List.drop_replicate,Nat.add_sub_cancel_left];rfl
  rw[e] at this;exact this
 clear hr2
 go_loopw [1,6] (fun Vv I wr=>∃(P:List Nat) (V p:Nat),p=P.length∧p+vs V=s∧V<18446744073709551616∧Hid (P++vb V=vb v)∧I=.int .i64 ((l.length:Int)+p)∧Vv=.int .u64 (V:Nat)∧Hid (Row wr w.heap.size 5 (z76 l P (vs V)))∧Hid (zB w wr)) (fun Vv _ _=>(intOf Vv).toNat)
 case atStart=>exact⟨[],v,0,rfl,by rw[HS.out];omega,hv,rfl,by simp,rfl,by rw[←HS.out];exact Hr2,hb2⟩
 case round=>
  obtain⟨P,V,p,hp,hps,hV,hPv,rfl,rfl,hrow,hbel⟩:=hrel;have hpos:=O1 V;have hcell:=hrow.out.cell (l.length+p) (by rw[z2k];omega);have hfr:=hrow.out.frozen (l.length+p);generalize (z76 l P (vs V)).getD (l.length+p) 0=C at*;obtain⟨M,hM⟩:∃M,M=V%256:=⟨_,rfl⟩
  have eM:(V:Int)%256=(M:Int):=by omega
  obtain⟨q,hq⟩:∃q,q=l.length+p:=⟨_,rfl⟩
  have eq':(l.length:Int)+(p:Int)=(q:Int):=by omega
  rw[←hq] at hcell hfr;have hq1:q<l.length+s:=by omega
  by_cases h128:128≤V
  ·have hor:=x3j V;rw[←hM] at hor;have hset:=hrow.out.set q (V%128+128);rw[Oq h128,hq,hp,z48] at hset;obtain⟨X,hX⟩:∃X,X=V%128+128:=⟨_,rfl⟩
   obtain⟨D,hD⟩:∃D,D=V/128:=⟨_,rfl⟩
   have eD:(V:Int)/128=(D:Int):=by omega
   have hDV:D<V:=by omega
   have Hnext:Hid ((P++[X])++vb D=vb v):=by
    show _=_;rw[List.append_assoc,←hPv.out,YC h128,hX,hD];rfl
   have hvs:Hid (vs V=vs D+1):=by show _=_;rw[Oq h128,hD]
   rw[←hX] at hor hset;rw[←hD,←hp,←hq] at hset;have Hset:=zh hset;have HX:=zh (zai hX (zai hD (zai hM (zai hq hp))));have hps':Hid (p+vs V=s):=hps;clear hset hX hD hM hrow hPv hps hp hq hpos;have hX8:X<256:=by have:=HX.out.1;omega
   go_wp2
   go_roundw
   case rel=>exact⟨P++[X],D,p+1,by rw[zla,←HX.out.2.2.2.2];rfl,by have:=hps'.out;have:=hvs.out;omega,by omega,Hnext,by rw[←eq'];exact congrArg (Value.int IntKind.i64) (by omega),rfl,Hset,hbel.out.setCell (zlr _) _⟩
   case measure=>simp[intOf];omega
  ·have hset:=hrow.out.set q V;rw[Uj (by omega),hq,hp,show(1:Nat)=0+1 from rfl,z48] at hset;have hlast:z76 l (P++[V]) 0=l++vb v:=by
    unfold z76;rw[←hPv.out,P9 (by omega)];simp
   rw[hlast,←hp,←hq] at hset;have Hset:=zh hset;have hMV:M=V:=by omega
   subst hMV;clear hset hM hrow hPv hps hp hq hpos hlast;go_wp2;go_ret;exact⟨rfl,Hset.out,hbel.out.setCell (zlr _) _⟩
end Go.Proofs.YtdgladhfibfdlaaGreatDoor
namespace Go.Proofs.YtdgladhfibfdlaaGreatDoor
open Go Go.RowKit Tryz
theorem Iy (a:Option Addr)(n c:Nat)(l:List Nat)(hn:l.length=n)(v:Nat)(w:World)(hs:Src w a l)(hl:n≤65536)(hv:v<18446744073709551616):
  Calls prog 136 #[.slice a n c,.int .u64 v] w fun e w'=>∃v',e=.returned v'∧Sl w' v' (l++vb v)∧zB w w':=by
 subst hn;have h:=y9q a c l v w hl hv hs;have h10:=I9 hv;have hlen:(l++vb v).length=l.length+vs v:=by rw[zla];rfl
 have Hl:=zh hlen;clear hlen
 go_enter func136,ntmps136
 go_wp2_with fail;refine h.mono ?_;rintro e w' ⟨rfl,hr,hb⟩;have hs:=Sl.row hr (by rw[Hl.out];unfold maxLen;omega);rw[Hl.out] at hs;go_wp2;go_ret;exact⟨_,rfl,hs,hb⟩
end Go.Proofs.YtdgladhfibfdlaaGreatDoor
namespace Go.Proofs.YtdgladhfibfdlaaGreatDoor
open Go.RowKit Tryz
theorem y08 (l:List Nat)(j:Nat)(h:j<l.length):Ny (l.drop j)=l.getD j 0%128+128*Ny (l.drop (j+1)):=by
 rw[List.drop_eq_getElem_cons h,Ny];simp[List.getD,h]
theorem z0h (l:List Nat)(j:Nat):Ny (l.drop j)≤Ny l:=by
 induction l generalizing j with
 | nil=>simp
 | cons x r ih=>
  cases j with
  | zero=>exact zlr _
  | succ j=>rw[List.drop_succ_cons,Ny];have:=ih j;omega
def y3n (l:List Nat):Value:=.tuple #[.int .u64 ((gt l).1:Nat),.int .i64 ((gt l).2.1:Nat),.int .i64 ((gt l).2.2:Nat)]
set_option maxRecDepth 100000 in
set_option maxHeartbeats 1000000 in
theorem z2l (a:Option Addr)(c:Nat)(l:List Nat)(w:World)(hb:B8 l)(hl:l.length≤9223372036854775807)(hsrc:Src w a l):
  Calls prog 144 #[.slice a l.length c] w fun e w'=>e=.returned (y3n l)∧w=w':=by
 have Hs:=zh hsrc;clear hsrc
 go_enter func144,ntmps144
 go_wp2
 go_loop [5] (fun i=>∃k:Nat,k≤l.length∧k≤10∧Hid (k≤T6 l)∧i=.int .i64 k) (fun i=>l.length-(intOf i).toNat)
 case atStart=>exact⟨0,Nat.zero_le _,by omega,Nat.zero_le _,rfl⟩
 case round=>
  obtain⟨k,hk,hk10,hkl,rfl⟩:=hrel
  by_cases hlt:k<l.length
  ·obtain⟨b,o,rfl,hc⟩:=Hs.out (by omega);have hcell:=hc k hlt;have hx:=hb.get k;have Hc:=zh hc;clear hc;obtain⟨X,hX⟩:∃X,X=l.getD k 0:=⟨_,rfl⟩
   rw[←hX] at hcell hx;have HX:=zh hX;clear hX
   by_cases h10:k=10
   ·subst h10;have hg:Hid (gt l=(0,0,2)):=ZE (Nat.le_of_lt hkl.out) (by have:=Jy l 9 hkl.out;omega);go_wp2
    go_ret3
    exact⟨by unfold y3n;rw[hg.out];rfl,rfl⟩
   have hk9:k≤9:=by omega
   clear hk10 h10
   by_cases hC:128≤X
   ·have hn:Hid (k+1≤T6 l):=z88 hkl.out hlt (by rw[←HX.out];exact hC);go_wp2
    go_round
    case rel=>exact⟨k+1,by omega,by omega,hn,by go_num⟩
    case measure=>simp[intOf];omega
   ·by_cases hA:k=9∧1<X
    ·obtain⟨rfl,hX1⟩:=hA;have hg:Hid (gt l=(0,0,2)):=ZE hkl.out (by rw[←HX.out];exact hX1);go_wp2
     go_ret3
     exact⟨by unfold y3n;rw[hg.out];rfl,rfl⟩
    ·have hB:(((k:Int)==9)=true∧decide (1<(X:Int))=false∧9<l.length∧w.cell? ⟨b,o+9,none⟩=some (.int .u8 X))∨((k:Int)==9)=false:=by
      rcases zng k 9 with h9|h9
      ·right;simp;omega
      ·left
       obtain rfl:k=9:=by omega
       exact⟨rfl,by simp;omega,by omega,hcell⟩
     have hX9:k=9→X≤1:=by omega
     by_cases hF:X=0∧0<k
     ·obtain⟨hX00,hk0⟩:=hF;have hg:Hid (gt l=(0,0,3)):=y8n hkl.out hlt hk9 (HX.out.symm.trans hX00) hk0;have hX0:((X:Int)==0)=true:=by simp;omega
      clear hX9 hX00 hA
      rcases hB with ⟨hB,hD,hE,hE9⟩|hB
      ·go_wp2
       all_goals (go_ret3;exact⟨by unfold y3n;rw[hg.out];rfl,rfl⟩)
      ·go_wp2
       all_goals (go_ret3;exact⟨by unfold y3n;rw[hg.out];rfl,rfl⟩)
     ·have hg:Hid (gt l=(Ny (l.take (k+1)),k+1,0)):=z89 hkl.out hlt hk9 (by rw[←HX.out];omega) (by rw[←HX.out];exact hX9) (by rw[←HX.out];omega);have hv:Hid (Ny (l.take (k+1))<18446744073709551616):=by have:=YE l;rw[hg.out] at this;exact this
      have hZ:((X:Int)==0)=false∨k=0:=by
       rcases Nat.eq_zero_or_pos k with h0|h0
       ·exact .inr h0
       ·left;simp;omega
      have hlen:Hid ((l.take (k+1)).length=k+1):=by show _=_;rw[zlk];omega
      have hget:Hid (∀j,j<k+1→(l.take (k+1)).getD j 0=l.getD j 0):=fun j hj=>by simp[List.getD,hj]
      obtain⟨L,hL⟩:∃L,L=l.take (k+1):=⟨_,rfl⟩
      rw[←hL] at hlen hget hv;have HL:=zh hL;clear hX9 hF hL hA;have hfin:Hid (∀(V:Nat),V=Ny (L.drop 0)→Value.tuple #[.int .u64 (V:Nat),.int .i64 ((k:Int)+1),.int .i64 0]=y3n l):=fun V hV=>by
       unfold y3n;rw[hg.out,hV,List.drop_zero,HL.out];rfl
      have loop:Hid (∀j,j<k+1→Ny (L.drop j)=L.getD j 0%128+128*Ny (L.drop (j+1))∧Ny (L.drop j)<18446744073709551616∧w.cell? ⟨b,o+j,none⟩=some (.int .u8 ((L.getD j 0:Nat):Int))∧L.getD j 0<256):=fun j hj=>by
       refine⟨y08 L j (by rw[hlen.out];exact hj),Nat.lt_of_le_of_lt (z0h L j) hv.out,?_,?_⟩
       ·rw[hget.out j hj];exact Hc.out j (by omega)
       ·rw[hget.out j hj];exact hb.get j
      have h0:Hid (Ny (L.drop (k+1))=0):=by show _=_;rw[List.drop_of_length_le (by rw[hlen.out];exact zlr _)];rfl
      have hcase:(((k:Int)==9)=true∧decide (1<(X:Int))=false∧9<l.length∧w.cell? ⟨b,o+9,none⟩=some (.int .u8 X)∧((X:Int)==0)=false∧0<k)∨(((k:Int)==9)=false∧((X:Int)==0)=false∧0<k)∨(((k:Int)==9)=false∧¬0<k):=by
       rcases hB with ⟨hB,hD,hE,hE9⟩|hB
       ·left
        have h9:(k:Int)=9:=by simpa using hB
        refine⟨hB,hD,hE,hE9,?_,by omega⟩
        rcases hZ with h|h
        ·exact h
        ·omega
       ·right
        by_cases h0:0<k
        ·left
         rcases hZ with h|h
         ·exact⟨hB,h,h0⟩
         ·omega
        ·exact .inr ⟨hB,h0⟩
      clear hB hZ
      rcases hcase with ⟨hB,hD,hE,hE9,hZ,hZ0⟩|⟨hB,hZ,hZ0⟩|⟨hB,hZ0⟩
      all_goals
       go_wp2
       go_loop [6,7] (fun V I=>∃(m:Nat) (i:Int),m≤k+1∧I=.int .i64 i∧i+1≤m∧(m:Int)≤i+1∧V=.int .u64 (Ny (L.drop m):Nat)) (fun _ I=>(intOf I+1).toNat)
       case atStart=>exact⟨k+1,k,zlr _,rfl,by omega,by omega,by rw[h0.out];rfl⟩
       case round=>
        obtain⟨m,i,hm,rfl,hi1,hi2,rfl⟩:=hrel
        by_cases hm0:0<m
        ·obtain⟨j,rfl⟩:∃j,m=j+1:=⟨m-1,by omega⟩
         obtain rfl:i=(j:Int):=by omega
         obtain⟨q1,q2,q3,q4⟩:=loop.out j (by omega);have hjl:j<l.length:=by omega
         rw[q1] at q2;generalize L.getD j 0=A at*;generalize Ny (L.drop (j+1))=V at*;obtain⟨Y,hY⟩:∃Y,Y=A%128:=⟨_,rfl⟩
         have eY:(A:Int)%128=(Y:Int):=by omega
         obtain⟨W,hW⟩:∃W,W=128*V:=⟨_,rfl⟩
         have eW:128*(V:Int)=(W:Int):=by omega
         have hWl:W<18446744073709551616:=by omega
         obtain⟨R,hR⟩:∃R,R=W+Y:=⟨_,rfl⟩
         have eR:(W:Int)+(Y:Int)=(R:Int):=by omega
         have hRl:R<18446744073709551616:=by omega
         have HR:=zh (show Ny (L.drop j)=R by rw[q1];omega);clear q1 q2 hY hW hR;go_wp2
         go_round
         case rel=>exact⟨j,(j:Int)-1,by omega,rfl,by omega,by omega,by rw[HR.out]⟩
         case measure=>simp[intOf]
        ·obtain rfl:m=0:=by omega
         have hf:=hfin.out _ rfl;generalize Ny (L.drop 0)=V at*;have Hf:=zh hf;clear hf;go_wp2
         go_ret3
         exact⟨by rw[←Hf.out];rfl,rfl⟩
  ·obtain rfl:k=l.length:=by omega
   by_cases h10:l.length=10
   ·obtain⟨b,o,rfl,hc⟩:=Hs.out (by omega);have hcell:=hc 9 (by omega);have hx:=hb.get 9;have hX1:=Jy l 9 (by have:=hkl.out;omega);have hg:Hid (gt l=(0,0,2)):=ZE (by have:=hkl.out;omega) (by omega);clear hc hX1;generalize l.getD 9 0=X at*;generalize l.length=n at*;subst h10;go_wp2
    go_ret3
    exact⟨by unfold y3n;rw[hg.out];rfl,rfl⟩
   ·have hg:Hid (gt l=(0,0,6)):=y8m hkl.out rfl (by omega);have hlen:l.length≤9:=by omega
    clear h10 hk10 hk hlt;go_wp2
    all_goals (go_ret3;exact⟨by unfold y3n;rw[hg.out];rfl,rfl⟩)
end Go.Proofs.YtdgladhfibfdlaaGreatDoor
namespace Go.Proofs.YtdgladhfibfdlaaGreatDoor
open Go Go.RowKit Tryz
def JD (w:World)(b:Nat):Prop:=∀j x,w.cell? ⟨b,j,none⟩≠some (.int .u8 x)
theorem Cs.turn {w w':World}{g o b:Nat}{l:List Nat}(h:Cs w g o l)(t:Zx (fun i=>i=b) w w')(hn:JD w b):Cs w' g o l:=fun i hi=>by
 have hc:=h i hi;have hne:g≠b:=fun e=>by subst e;exact hn _ _ hc
 rw[t.cell (p:=⟨g,o+i,none⟩) (block_lt_of_cell hc) hne];exact hc
theorem Sl.turn {w w':World}{b:Nat}{v:Value}{l:List Nat}(h:Sl w v l)(t:Zx (fun i=>i=b) w w')(hn:JD w b):Sl w' v l:=by
 rcases h with h|⟨g,o,c,rfl,hc,h1,h2⟩
 ·exact .inl h
 ·exact .inr ⟨g,o,c,rfl,hc.turn t hn,h1,h2⟩
def RSB (w:World)(b:Nat)(T:TypeId)(v:Value)(x:Bool):Prop:=w.heap[b]? =some (.cells #[v,.bool x] T (0,0))
theorem RSB.c0 {w:World}{b:Nat}{T:TypeId}{v:Value}{x:Bool}(h:RSB w b T v x):w.cell? ⟨b,0,none⟩=some v:=by
 have h':w.heap[b]? =_:=h;simp[World.cell?,h']
theorem RSB.c1 {w:World}{b:Nat}{T:TypeId}{v:Value}{x:Bool}(h:RSB w b T v x):w.cell? ⟨b,1,none⟩=some (.bool x):=by
 have h':w.heap[b]? =_:=h;simp[World.cell?,h']
theorem RSB.fz {w:World}{b:Nat}{T:TypeId}{v:Value}{x:Bool}(h:RSB w b T v x)(j:Nat):w.frozen? ⟨b,j,none⟩=false:=by
 have h':w.heap[b]? =_:=h;simp[World.frozen?,h']
theorem RSB.lt {w:World}{b:Nat}{T:TypeId}{v:Value}{x:Bool}(h:RSB w b T v x):b<w.heap.size:=(zag.1 h).1
theorem RSB.noByte {w:World}{b:Nat}{T:TypeId}{a:Option Addr}{n c:Nat}{x:Bool}(h:RSB w b T (.slice a n c) x):JD w b:=fun j y hj=>by
 have h':w.heap[b]? =_:=h;simp only[World.cell?,h'] at hj
 rcases j with _|_|j<;>simp at hj
theorem RSB.set0 {w:World}{b:Nat}{T:TypeId}{v:Value}{x:Bool}(h:RSB w b T v x)(u:Value):RSB (w.setCell ⟨b,0,none⟩ u) b T u x:=heap_setCell_same w b 0 _ _ _ h
theorem RSB.set1 {w:World}{b:Nat}{T:TypeId}{v:Value}{x:Bool}(h:RSB w b T v x)(y:Bool):RSB (w.setCell ⟨b,1,none⟩ (.bool y)) b T v y:=heap_setCell_same w b 1 _ _ _ h
theorem RSB.new (w:World)(T:TypeId)(v:Value)(x:Bool):RSB (w.alloc (.cells #[v,.bool x] T)) w.heap.size T v x:=by
 show(w.heap.push _)[w.heap.size]? =_;rw[Array.getElem?_push_size]
theorem RSB.below {w w':World}{b B:Nat}{T:TypeId}{v:Value}{x:Bool}(h:RSB w b T v x)(hb:Below B w w')(hB:b<B):RSB w' b T v x:=(hb.block b hB).trans h
theorem RSB.turn {w w':World}{b:Nat}{F:Nat→Prop}{T:TypeId}{v:Value}{x:Bool}(h:RSB w b T v x)(t:Zx F w w')(hF:¬F b):RSB w' b T v x:=t.hg h hF
theorem Px (w:World)(b j:Nat)(u:Value):Zx (fun i=>i=b) w (w.setCell ⟨b,j,none⟩ u):=Zx.setCell (p:=⟨b,j,none⟩) (Zx.refl _ w) u (fun _=>rfl)
theorem Y2 (w:World)(b:Nat)(u v:Value):Zx (fun i=>i=b) w ((w.setCell ⟨b,0,none⟩ u).setCell ⟨b,1,none⟩ v):=Zx.setCell (p:=⟨b,1,none⟩) (Px w b 0 u) v (fun _=>rfl)
end Go.Proofs.YtdgladhfibfdlaaGreatDoor
