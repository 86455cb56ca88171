/-
  Steps.
-/
import Derived.Test.YtdgladhfibfdlaaGreatDoorProg
import Derived.Test.YtdgladhfibfdlaaGreatDoorQPSs13
namespace Go.Proofs.YtdgladhfibfdlaaGreatDoor
open Go Go.RowKit Tryz
theorem Yy {B:Nat}{a b:World}(h:Below B a b):Zx (fun i=>B≤i) a b:=⟨h.os,h.tape,h.output,h.size,fun i _ hF=>h.block i (by omega)⟩
set_option maxRecDepth 100000 in
theorem y44 (a:Option Addr)(n c:Nat)(l:List Rw)(p q:Nat)(a2:Option Addr)(n2 c2:Nat)(m:List Rw)(w:World)(hn:l.length=n)(hs:ES Uw w a l)(hnc:n≤c)(hcm:c≤maxLen)(hz:a=none→c=0)
  (hpq:p+q≤n) (hn2:m.length=n2) (hz2:a2=none→c2=0) (hm:ES Uw w a2 m) (hl:n≤1000000) (hl2:n2≤1000000):
  Calls prog 120 #[.slice a n c,.int .i64 p,.int .i64 q,.slice a2 n2 c2] w fun e w'=>∃v,e=.returned v∧EV Uw w' v (l.take p++(m++l.drop (p+q)))∧zB w w':=by
 have hbd:zB w w.drew:=(zbr _ _).drew;have hcm':c≤9223372036854775807:=by unfold maxLen at hcm;omega
 have z00:IntKind.i64.wrap 0=0:=by decide
 rcases hs with ⟨rfl,rfl⟩|⟨g,o,rfl,hc⟩
 ·obtain rfl:n=0:=hn.symm;obtain rfl:=hz rfl;obtain rfl:p=0:=by omega
  obtain rfl:q=0:=by omega
  obtain⟨v1,w1,v2,w2,h1,hb1,h2,hb12,hb2,hev⟩:=T7 (P:=prog) (w:=w.drew) (E:=Uw) 91 91 91 128 underlying91 jY none 0 [] rfl (ES.nil _) a2 n2 c2 m hn2 hz2 (hm.below hbd (zlr _)) none 0 0 [] rfl (fun _=>rfl) (ES.nil _) (by unfold maxLen;omega) (by show(0+n2+0)*56≤_;omega);have Hev:=zh hev;have Hb:=zh (hbd.trans hb2);have e1:=zh (Yy hb1);have e2:=zh (Yy hb12);clear hev hb1 hb2 hb12 hbd hm hn2 hz2 hl2 hn
  go_enter func120,ntmps120
  go_wp2_with fail;refine rgt (F:=fun i=>w.heap.size≤i) [(0,true),(1,true),(2,true),(3,true),(4,true),(6,true),(7,true),(8,true),(9,true),(10,true),(5,false),(11,false),(12,true)] (h:= ?_);iterate 10 (refine gtr (v:= ?_) rfl (by rfl) ?_ ?_;rotate_left;(intro w' hw';go_simp;with_reducible rfl);simp only[Act.put,zs0,zs1,zs2])
  refine gtc rfl (by rfl) (fun K hK=> ?_);refine Y8 (.tmp 12) (.tmp 13) 91 rfl (by rfl) (by rfl) h1 ?_;refine hK _ _ e1.out ?_;simp only[Act.put,zs0,zs1,zs2];clear hK K h1;refine gtc rfl (by rfl) (fun K hK=> ?_);refine Y8 (.tmp 14) (.tmp 19) 91 rfl (by rfl) (by rfl) h2 ?_;refine hK _ _ e2.out ?_;simp only[Act.put,zs0,zs1,zs2];clear hK K h2
  (refine gtr (v:= ?_) rfl (by rfl) ?_ ?_;rotate_left;(intro w' hw';go_simp;with_reducible rfl);simp only[Act.put,zs0,zs1,zs2])
  refine Yj ?_;go_wp2_with fail;go_ret;exact⟨_,rfl,Hev.out,Hb.out⟩
 ·have z1:IntKind.i64.wrap ((p:Int)+(q:Int))=((p+q:Nat):Int):=by rw[IntKind.wrap_i64];omega
  have z0:IntKind.i64.wrap (p:Int)=(p:Int):=by rw[IntKind.wrap_i64];omega
  obtain⟨r,hr⟩:∃r,r=p+q:=⟨_,rfl⟩
  rw[←hr] at z1⊢
  have z2:IntKind.i64.wrap (r:Int)=(r:Int):=by rw[IntKind.wrap_i64];omega
  have hs:ES Uw w (some ⟨g,o,none⟩) l:=.inr ⟨g,o,rfl,hc⟩;obtain⟨A3,hA3⟩:∃A3,(if c=r then some (⟨g,o,none⟩:Addr) else some ⟨g,o+r*3,none⟩)=A3:=⟨_,rfl⟩
  have hs3:ES Uw w A3 (l.drop r):=by
   rw[←hA3]
   by_cases h:c=r
   ·rw[if_pos h,List.drop_of_length_le (by omega)];exact .inr ⟨g,o,rfl,hc.1,fun j u hu=>by simp[Elt.row] at hu⟩
   ·rw[if_neg h];exact hs.drop r _ (by omega) (by show _=o+r*3;omega)
  have hz3:A3=none→c-r=0:=fun h=>by rw[←hA3] at h;split at h<;>cases h
  obtain⟨v1,w1,v2,w2,h1,hb1,h2,hb12,hb2,hev⟩:=T7 (P:=prog) (w:=w.drew) (E:=Uw) 91 91 91 128 underlying91 jY (some ⟨g,o,none⟩) p (l.take p) (by rw[zlk];omega) ((hs.take p).below hbd (zlr _)) a2 n2 c2 m hn2 hz2 (hm.below hbd (zlr _))
   A3 (n-r) (c-r) (l.drop r) (by rw[zld];omega) hz3 (hs3.below hbd (zlr _)) (by unfold maxLen;omega) (by show(p+n2+(n-r))*56≤_;omega)
  have Hev:=zh hev;have Hb:=zh (hbd.trans hb2);have e1:=zh (Yy hb1);have e2:=zh (Yy hb12);have i1:(0:Int)≤(p:Int):=by omega
  have i2:(p:Int)≤(c:Int):=by omega
  have i3:(r:Int)≤(n:Int):=by omega
  have i4:(0:Int)≤(r:Int):=by omega
  have i5:(n:Int)≤(c:Int):=by omega
  have j2:p≤c:=by omega
  have j3:r≤n:=by omega
  clear hev hb1 hb2 hb12 hbd hm hn2 hz2 hl2 hn hs hc hz hpq hr hs3 hz3
  go_enter func120,ntmps120
  go_wp2_with fail;refine rgt (F:=fun i=>w.heap.size≤i) [(0,true),(1,true),(2,true),(3,true),(4,true),(6,true),(7,true),(8,true),(9,true),(10,true),(5,false),(11,false),(12,true)] (h:= ?_);iterate 10 (refine gtr (v:= ?_) rfl (by rfl) ?_ ?_;rotate_left;(intro w' hw';go_simp;with_reducible rfl);simp only[Act.put,zs0,zs1,zs2])
  refine gtc rfl (by rfl) (fun K hK=> ?_);refine Y8 (.tmp 12) (.tmp 13) 91 rfl (by rfl) (by rfl) h1 ?_;refine hK _ _ e1.out ?_;simp only[Act.put,zs0,zs1,zs2];clear hK K h1;refine gtc rfl (by rfl) (fun K hK=> ?_);refine Y8 (.tmp 14) (.tmp 19) 91 rfl (by rfl) (by rfl) h2 ?_;refine hK _ _ e2.out ?_;simp only[Act.put,zs0,zs1,zs2];clear hK K h2
  (refine gtr (v:= ?_) rfl (by rfl) ?_ ?_;rotate_left;(intro w' hw';go_simp;with_reducible rfl);simp only[Act.put,zs0,zs1,zs2])
  refine Yj ?_;go_wp2_with fail;go_ret;exact⟨_,rfl,Hev.out,Hb.out⟩
set_option maxRecDepth 100000 in
theorem Kx (a:Option Addr)(n c:Nat)(l:List Nat)(p q:Nat)(a2:Option Addr)(n2 c2:Nat)(m:List Nat)(w:World)(hn:l.length=n)(hs:ES V8 w a l)(hnc:n≤c)(hcm:c≤maxLen)(hz:a=none→c=0)
  (hpq:p+q≤n) (hn2:m.length=n2) (hz2:a2=none→c2=0) (hm:ES V8 w a2 m) (hl:n≤1000000) (hl2:n2≤1000000):
  Calls prog 150 #[.slice a n c,.int .i64 p,.int .i64 q,.slice a2 n2 c2] w fun e w'=>∃v,e=.returned v∧EV V8 w' v (l.take p++(m++l.drop (p+q)))∧zB w w':=by
 have hbd:zB w w.drew:=(zbr _ _).drew;have hcm':c≤9223372036854775807:=by unfold maxLen at hcm;omega
 have z00:IntKind.i64.wrap 0=0:=by decide
 rcases hs with ⟨rfl,rfl⟩|⟨g,o,rfl,hc⟩
 ·obtain rfl:n=0:=hn.symm;obtain rfl:=hz rfl;obtain rfl:p=0:=by omega
  obtain rfl:q=0:=by omega
  obtain⟨v1,w1,v2,w2,h1,hb1,h2,hb12,hb2,hev⟩:=T7 (P:=prog) (w:=w.drew) (E:=V8) 93 93 93 26 underlying93 y0z none 0 [] rfl (ES.nil _) a2 n2 c2 m hn2 hz2 (hm.below hbd (zlr _)) none 0 0 [] rfl (fun _=>rfl) (ES.nil _) (by unfold maxLen;omega) (by show(0+n2+0)*8≤_;omega);have Hev:=zh hev;have Hb:=zh (hbd.trans hb2);have e1:=zh (Yy hb1);have e2:=zh (Yy hb12);clear hev hb1 hb2 hb12 hbd hm hn2 hz2 hl2 hn
  go_enter func150,ntmps150
  go_wp2_with fail;refine rgt (F:=fun i=>w.heap.size≤i) [(0,true),(1,true),(2,true),(3,true),(4,true),(6,true),(7,true),(8,true),(9,true),(10,true),(5,false),(11,false),(12,true)] (h:= ?_);iterate 10 (refine gtr (v:= ?_) rfl (by rfl) ?_ ?_;rotate_left;(intro w' hw';go_simp;with_reducible rfl);simp only[Act.put,zs0,zs1,zs2])
  refine gtc rfl (by rfl) (fun K hK=> ?_);refine Y8 (.tmp 12) (.tmp 13) 93 rfl (by rfl) (by rfl) h1 ?_;refine hK _ _ e1.out ?_;simp only[Act.put,zs0,zs1,zs2];clear hK K h1;refine gtc rfl (by rfl) (fun K hK=> ?_);refine Y8 (.tmp 14) (.tmp 19) 93 rfl (by rfl) (by rfl) h2 ?_;refine hK _ _ e2.out ?_;simp only[Act.put,zs0,zs1,zs2];clear hK K h2
  (refine gtr (v:= ?_) rfl (by rfl) ?_ ?_;rotate_left;(intro w' hw';go_simp;with_reducible rfl);simp only[Act.put,zs0,zs1,zs2])
  refine Yj ?_;go_wp2_with fail;go_ret;exact⟨_,rfl,Hev.out,Hb.out⟩
 ·have z1:IntKind.i64.wrap ((p:Int)+(q:Int))=((p+q:Nat):Int):=by rw[IntKind.wrap_i64];omega
  have z0:IntKind.i64.wrap (p:Int)=(p:Int):=by rw[IntKind.wrap_i64];omega
  obtain⟨r,hr⟩:∃r,r=p+q:=⟨_,rfl⟩
  rw[←hr] at z1⊢
  have z2:IntKind.i64.wrap (r:Int)=(r:Int):=by rw[IntKind.wrap_i64];omega
  have hs:ES V8 w (some ⟨g,o,none⟩) l:=.inr ⟨g,o,rfl,hc⟩;obtain⟨A3,hA3⟩:∃A3,(if c=r then some (⟨g,o,none⟩:Addr) else some ⟨g,o+r,none⟩)=A3:=⟨_,rfl⟩
  have hs3:ES V8 w A3 (l.drop r):=by
   rw[←hA3]
   by_cases h:c=r
   ·rw[if_pos h,List.drop_of_length_le (by omega)];exact .inr ⟨g,o,rfl,hc.1,fun j u hu=>by simp[Elt.row] at hu⟩
   ·rw[if_neg h];exact hs.drop r _ (by omega) (by show _=o+r*1;omega)
  have hz3:A3=none→c-r=0:=fun h=>by rw[←hA3] at h;split at h<;>cases h
  obtain⟨v1,w1,v2,w2,h1,hb1,h2,hb12,hb2,hev⟩:=T7 (P:=prog) (w:=w.drew) (E:=V8) 93 93 93 26 underlying93 y0z (some ⟨g,o,none⟩) p (l.take p) (by rw[zlk];omega) ((hs.take p).below hbd (zlr _)) a2 n2 c2 m hn2 hz2 (hm.below hbd (zlr _))
   A3 (n-r) (c-r) (l.drop r) (by rw[zld];omega) hz3 (hs3.below hbd (zlr _)) (by unfold maxLen;omega) (by show(p+n2+(n-r))*8≤_;omega)
  have Hev:=zh hev;have Hb:=zh (hbd.trans hb2);have e1:=zh (Yy hb1);have e2:=zh (Yy hb12);have i1:(0:Int)≤(p:Int):=by omega
  have i2:(p:Int)≤(c:Int):=by omega
  have i3:(r:Int)≤(n:Int):=by omega
  have i4:(0:Int)≤(r:Int):=by omega
  have i5:(n:Int)≤(c:Int):=by omega
  have j2:p≤c:=by omega
  have j3:r≤n:=by omega
  clear hev hb1 hb2 hb12 hbd hm hn2 hz2 hl2 hn hs hc hz hpq hr hs3 hz3
  go_enter func150,ntmps150
  go_wp2_with fail;refine rgt (F:=fun i=>w.heap.size≤i) [(0,true),(1,true),(2,true),(3,true),(4,true),(6,true),(7,true),(8,true),(9,true),(10,true),(5,false),(11,false),(12,true)] (h:= ?_);iterate 10 (refine gtr (v:= ?_) rfl (by rfl) ?_ ?_;rotate_left;(intro w' hw';go_simp;with_reducible rfl);simp only[Act.put,zs0,zs1,zs2])
  refine gtc rfl (by rfl) (fun K hK=> ?_);refine Y8 (.tmp 12) (.tmp 13) 93 rfl (by rfl) (by rfl) h1 ?_;refine hK _ _ e1.out ?_;simp only[Act.put,zs0,zs1,zs2];clear hK K h1;refine gtc rfl (by rfl) (fun K hK=> ?_);refine Y8 (.tmp 14) (.tmp 19) 93 rfl (by rfl) (by rfl) h2 ?_;refine hK _ _ e2.out ?_;simp only[Act.put,zs0,zs1,zs2];clear hK K h2
  (refine gtr (v:= ?_) rfl (by rfl) ?_ ?_;rotate_left;(intro w' hw';go_simp;with_reducible rfl);simp only[Act.put,zs0,zs1,zs2])
  refine Yj ?_;go_wp2_with fail;go_ret;exact⟨_,rfl,Hev.out,Hb.out⟩
set_option maxRecDepth 100000 in
theorem yF (a:Option Addr)(n c:Nat)(l:List ByteArray)(p q:Nat)(a2:Option Addr)(n2 c2:Nat)(m:List ByteArray)(w:World)(hn:l.length=n)(hs:ES V5 w a l)(hnc:n≤c)(hcm:c≤maxLen)(hz:a=none→c=0)
  (hpq:p+q≤n) (hn2:m.length=n2) (hz2:a2=none→c2=0) (hm:ES V5 w a2 m) (hl:n≤1000000) (hl2:n2≤1000000):
  Calls prog 153 #[.slice a n c,.int .i64 p,.int .i64 q,.slice a2 n2 c2] w fun e w'=>∃v,e=.returned v∧EV V5 w' v (l.take p++(m++l.drop (p+q)))∧zB w w':=by
 have hbd:zB w w.drew:=(zbr _ _).drew;have hcm':c≤9223372036854775807:=by unfold maxLen at hcm;omega
 have z00:IntKind.i64.wrap 0=0:=by decide
 rcases hs with ⟨rfl,rfl⟩|⟨g,o,rfl,hc⟩
 ·obtain rfl:n=0:=hn.symm;obtain rfl:=hz rfl;obtain rfl:p=0:=by omega
  obtain rfl:q=0:=by omega
  obtain⟨v1,w1,v2,w2,h1,hb1,h2,hb12,hb2,hev⟩:=T7 (P:=prog) (w:=w.drew) (E:=V5) 92 92 92 9 underlying92 z0b none 0 [] rfl (ES.nil _) a2 n2 c2 m hn2 hz2 (hm.below hbd (zlr _)) none 0 0 [] rfl (fun _=>rfl) (ES.nil _) (by unfold maxLen;omega) (by show(0+n2+0)*16≤_;omega);have Hev:=zh hev;have Hb:=zh (hbd.trans hb2);have e1:=zh (Yy hb1);have e2:=zh (Yy hb12);clear hev hb1 hb2 hb12 hbd hm hn2 hz2 hl2 hn
  go_enter func153,ntmps153
  go_wp2_with fail;refine rgt (F:=fun i=>w.heap.size≤i) [(0,true),(1,true),(2,true),(3,true),(4,true),(6,true),(7,true),(8,true),(9,true),(10,true),(5,false),(11,false),(12,true)] (h:= ?_);iterate 10 (refine gtr (v:= ?_) rfl (by rfl) ?_ ?_;rotate_left;(intro w' hw';go_simp;with_reducible rfl);simp only[Act.put,zs0,zs1,zs2])
  refine gtc rfl (by rfl) (fun K hK=> ?_);refine Y8 (.tmp 12) (.tmp 13) 92 rfl (by rfl) (by rfl) h1 ?_;refine hK _ _ e1.out ?_;simp only[Act.put,zs0,zs1,zs2];clear hK K h1;refine gtc rfl (by rfl) (fun K hK=> ?_);refine Y8 (.tmp 14) (.tmp 19) 92 rfl (by rfl) (by rfl) h2 ?_;refine hK _ _ e2.out ?_;simp only[Act.put,zs0,zs1,zs2];clear hK K h2
  (refine gtr (v:= ?_) rfl (by rfl) ?_ ?_;rotate_left;(intro w' hw';go_simp;with_reducible rfl);simp only[Act.put,zs0,zs1,zs2])
  refine Yj ?_;go_wp2_with fail;go_ret;exact⟨_,rfl,Hev.out,Hb.out⟩
 ·have z1:IntKind.i64.wrap ((p:Int)+(q:Int))=((p+q:Nat):Int):=by rw[IntKind.wrap_i64];omega
  have z0:IntKind.i64.wrap (p:Int)=(p:Int):=by rw[IntKind.wrap_i64];omega
  obtain⟨r,hr⟩:∃r,r=p+q:=⟨_,rfl⟩
  rw[←hr] at z1⊢
  have z2:IntKind.i64.wrap (r:Int)=(r:Int):=by rw[IntKind.wrap_i64];omega
  have hs:ES V5 w (some ⟨g,o,none⟩) l:=.inr ⟨g,o,rfl,hc⟩;obtain⟨A3,hA3⟩:∃A3,(if c=r then some (⟨g,o,none⟩:Addr) else some ⟨g,o+r,none⟩)=A3:=⟨_,rfl⟩
  have hs3:ES V5 w A3 (l.drop r):=by
   rw[←hA3]
   by_cases h:c=r
   ·rw[if_pos h,List.drop_of_length_le (by omega)];exact .inr ⟨g,o,rfl,hc.1,fun j u hu=>by simp[Elt.row] at hu⟩
   ·rw[if_neg h];exact hs.drop r _ (by omega) (by show _=o+r*1;omega)
  have hz3:A3=none→c-r=0:=fun h=>by rw[←hA3] at h;split at h<;>cases h
  obtain⟨v1,w1,v2,w2,h1,hb1,h2,hb12,hb2,hev⟩:=T7 (P:=prog) (w:=w.drew) (E:=V5) 92 92 92 9 underlying92 z0b (some ⟨g,o,none⟩) p (l.take p) (by rw[zlk];omega) ((hs.take p).below hbd (zlr _)) a2 n2 c2 m hn2 hz2 (hm.below hbd (zlr _))
   A3 (n-r) (c-r) (l.drop r) (by rw[zld];omega) hz3 (hs3.below hbd (zlr _)) (by unfold maxLen;omega) (by show(p+n2+(n-r))*16≤_;omega)
  have Hev:=zh hev;have Hb:=zh (hbd.trans hb2);have e1:=zh (Yy hb1);have e2:=zh (Yy hb12);have i1:(0:Int)≤(p:Int):=by omega
  have i2:(p:Int)≤(c:Int):=by omega
  have i3:(r:Int)≤(n:Int):=by omega
  have i4:(0:Int)≤(r:Int):=by omega
  have i5:(n:Int)≤(c:Int):=by omega
  have j2:p≤c:=by omega
  have j3:r≤n:=by omega
  clear hev hb1 hb2 hb12 hbd hm hn2 hz2 hl2 hn hs hc hz hpq hr hs3 hz3
  go_enter func153,ntmps153
  go_wp2_with fail;refine rgt (F:=fun i=>w.heap.size≤i) [(0,true),(1,true),(2,true),(3,true),(4,true),(6,true),(7,true),(8,true),(9,true),(10,true),(5,false),(11,false),(12,true)] (h:= ?_);iterate 10 (refine gtr (v:= ?_) rfl (by rfl) ?_ ?_;rotate_left;(intro w' hw';go_simp;with_reducible rfl);simp only[Act.put,zs0,zs1,zs2])
  refine gtc rfl (by rfl) (fun K hK=> ?_);refine Y8 (.tmp 12) (.tmp 13) 92 rfl (by rfl) (by rfl) h1 ?_;refine hK _ _ e1.out ?_;simp only[Act.put,zs0,zs1,zs2];clear hK K h1;refine gtc rfl (by rfl) (fun K hK=> ?_);refine Y8 (.tmp 14) (.tmp 19) 92 rfl (by rfl) (by rfl) h2 ?_;refine hK _ _ e2.out ?_;simp only[Act.put,zs0,zs1,zs2];clear hK K h2
  (refine gtr (v:= ?_) rfl (by rfl) ?_ ?_;rotate_left;(intro w' hw';go_simp;with_reducible rfl);simp only[Act.put,zs0,zs1,zs2])
  refine Yj ?_;go_wp2_with fail;go_ret;exact⟨_,rfl,Hev.out,Hb.out⟩
theorem y45 (a:Option Addr)(n c:Nat)(l:List En)(p q:Nat)(a2:Option Addr)(n2 c2:Nat)(m:List En)(w:World)(hn:l.length=n)(hs:CS w a l)(hnc:n≤c)(hcm:c≤maxLen)(hz:a=none→c=0)
  (hpq:p+q≤n) (hn2:m.length=n2) (hz2:a2=none→c2=0) (hm:CS w a2 m) (hl:n≤1000000) (hl2:n2≤1000000):
  Calls prog 120 #[.slice a n c,.int .i64 p,.int .i64 q,.slice a2 n2 c2] w fun e w'=>∃v,e=.returned v∧CV w' v (l.take p++(m++l.drop (p+q)))∧zB w w':=by
 obtain⟨xs,h1,h2⟩:=hs;obtain⟨ys,k1,k2⟩:=hm;refine(y44 a n c xs p q a2 n2 c2 ys w (by rw[h2.len];exact hn) h1 hnc hcm hz hpq (by rw[k2.len];exact hn2) hz2 k1 hl hl2).mono ?_;rintro e w' ⟨v,rfl,hev,hb⟩;exact⟨v,rfl,x4s hev (((h2.take p).app (k2.app (h2.drop _))).below hb (zlr _)),hb⟩
end Go.Proofs.YtdgladhfibfdlaaGreatDoor
namespace Go.Proofs.YtdgladhfibfdlaaGreatDoor
open Go Go.RowKit Go.Shelf Tryz
set_option maxRecDepth 100000 in
theorem z64 (w:World)(b1 b2 h:Nat)(a:Option Addr)(n c:Nat)(cs:List En)(key:ByteArray)(h1:w.cell? ⟨b1,0,none⟩=some (.slice a n c))(h2:w.cell? ⟨b2,0,none⟩=some (.string key))(hn:cs.length=n)(hs:CS w a cs)(hh:h<n):
  Calls prog 117 #[.int .i64 h,.pointer (some ⟨b1,0,none⟩),.pointer (some ⟨b2,0,none⟩)] w fun e w'=>e=.returned (.bool (!blt (ea cs h).k key))∧zB w w':=by
 obtain⟨g,o,rfl,hcell⟩:=hs.ents (by omega);have hA:=(hcell h (by omega)).1;have lA:=block_lt_of_cell hA;have q0:∀w',Ext w.drew w'→w'.cell? ⟨g,o+h*3,none⟩=some (.string (ea cs h).k):=fun w' hw=>by
  rw[((zbr w.heap.size w).drew.trans hw).cell (p:=⟨g,o+h*3,none⟩) lA];exact hA
 have l1:=block_lt_of_cell h1;have l2:=block_lt_of_cell h2;have q1:∀w',Ext w.drew w'→w'.cell? ⟨b1,0,none⟩=some (.slice (some ⟨g,o,none⟩) n c):=fun w' hw=>by
  rw[((zbr w.heap.size w).drew.trans hw).cell (p:=⟨b1,0,none⟩) l1];exact h1
 have q2:∀w',Ext w.drew w'→w'.cell? ⟨b2,0,none⟩=some (.string key):=fun w' hw=>by
  rw[((zbr w.heap.size w).drew.trans hw).cell (p:=⟨b2,0,none⟩) l2];exact h2
 have hle:Op.bytesLess (ea cs h).k.toList key.toList=blt (ea cs h).k key:=rfl;generalize blt (ea cs h).k key=D at*;clear hcell hA lA hs h1 h2 hn
 go_enter func117,ntmps117
 go_wp2_with fail;refine rgr [(0,true),(1,true),(2,true),(3,true),(4,true),(5,true),(6,true),(7,true),(8,true)] (h:= ?_);iterate 9 (refine grr (v:= ?_) rfl (by rfl) ?_ ?_;rotate_left;(intro w' hw';go_simp;with_reducible rfl);simp only[Act.put,zs0,zs1,zs2])
 refine Yq ?_;go_wp2_with fail;go_ret;exact⟨rfl,(zbr _ _).drew⟩
set_option maxRecDepth 100000 in
theorem z2p (w:World)(b1 b2:Nat)(a:Option Addr)(n c:Nat)(cs:List En)(key:ByteArray)(h1:w.cell? ⟨b1,0,none⟩=some (.slice a n c))(h2:w.cell? ⟨b2,0,none⟩=some (.string key))(hn:cs.length=n)(hs:CS w a cs)(ha:srt cs)(hl:n≤65536):
  Calls prog 115 #[.int .i64 n,.func (.func 117) #[] #[.pointer (some ⟨b1,0,none⟩),.pointer (some ⟨b2,0,none⟩)]] w fun e w'=>e=.returned (.int .i64 (fE cs key:Nat))∧zB w w':=by
 have eg:∀args w,(callFunc 117 args).run prog w=.ok (.enter 117 args) w:=enters_of func117 (by kernel_rfl) rfl;have hcall:∀(w':World) (h:Nat),h<n→zB w w'→Calls prog 117 #[.int .i64 h,.pointer (some ⟨b1,0,none⟩),.pointer (some ⟨b2,0,none⟩)] w' fun e w''=>e=.returned (.bool (!blt (ea cs h).k key))∧zB w' w'':=fun w' h hh hb=>
  z64 w' b1 b2 h a n c cs key (by rw[hb.cell (p:=⟨b1,0,none⟩) (block_lt_of_cell h1)];exact h1) (by rw[hb.cell (p:=⟨b2,0,none⟩) (block_lt_of_cell h2)];exact h2) hn (hs.below hb (zlr _)) hh
 have Hcall:=zh hcall;have hyes:∀h,h<n→blt (ea cs h).k key=true→h<fE cs key:=fun h hh hb=>by
  rcases zng h (fE cs key) with h3|h3
  ·exact h3
  ·rw[x3h ha key h h3 (by omega)] at hb;cases hb
 have hno:∀h,h<n→blt (ea cs h).k key=false→fE cs key≤h:=fun h hh hb=>by
  rcases zng h (fE cs key) with h3|h3
  ·rw[y89 cs key h h3] at hb;cases hb
  ·exact h3
 have Hyes:=zh (zai hyes hno);have hF:fE cs key≤n:=by have:=QD cs key;unfold Tx at this;split at this<;>omega
 clear hcall hyes hno h1 h2 hn hs ha;generalize fE cs key=F at*
 go_enter func115,ntmps115
 go_wp2_with fail
 go_loopw [5,6] (fun i j wr=>∃x y:Nat,i=.int .i64 x∧j=.int .i64 y∧x≤y∧y≤n∧x≤F∧F≤y∧Hid (zB w wr)) (fun i j _=>(intOf j-intOf i).toNat)
 case atStart=>exact⟨0,n,rfl,rfl,by omega,by omega,by omega,by omega,zbr _ _⟩
 case round=>
  obtain⟨x,y,rfl,rfl,hxy,hyn,hx,hy,hB⟩:=hrel
  by_cases hlt:x<y
  ·obtain⟨H,hH⟩:∃H,H=(x+y)/2:=⟨_,rfl⟩
   have e1:((x:Int)+(y:Int))/2=(H:Int):=by omega
   have z1:x≤H:=by omega
   have z2:H<y:=by omega
   have hc:=zh (Hcall.out wr H (by omega) hB.out);have hs:=Hyes.out.1 H (by omega);have hs2:=Hyes.out.2 H (by omega);clear hH;generalize blt (ea cs H).k key=D at*
   cases D with
   | true=>
    have hs':=hs rfl;clear hs hs2;rw[show(!true)=false from rfl] at hc
    go_wp2_with (go_at_fn 117;refine hc.out.mono ?_;rintro e w' ⟨rfl,hb⟩)
    have hB2:=zh (hB.out.trans (hb.mono hB.out.size));clear hb
    go_roundw
    case rel=>exact⟨H+1,y,by go_num,rfl,by omega,by omega,by omega,by omega,hB2⟩
    case measure=>simp[intOf];omega
   | false=>
    have hs':=hs2 rfl;clear hs hs2;rw[show(!false)=true from rfl] at hc
    go_wp2_with (go_at_fn 117;refine hc.out.mono ?_;rintro e w' ⟨rfl,hb⟩)
    have hB2:=zh (hB.out.trans (hb.mono hB.out.size));clear hb
    go_roundw
    case rel=>exact⟨x,H,rfl,by go_num,by omega,by omega,by omega,by omega,hB2⟩
    case measure=>simp[intOf];omega
  ·obtain rfl:x=F:=by omega
   go_wp2;go_ret;exact⟨rfl,hB.out⟩
set_option maxRecDepth 100000 in
theorem z0k (a:Option Addr)(n c:Nat)(cs:List En)(key:ByteArray)(w:World)(hn:cs.length=n)(hs:CS w a cs)(ha:srt cs)(hl:n≤65536):
  Calls prog 89 #[.slice a n c,.string key] w fun e w'=>e=.returned (.tuple #[.int .i64 (fE cs key:Nat),.bool (isE cs key)])∧zB w w':=by
 obtain⟨w2,hw2⟩:∃w2,w2=(w.alloc (.cells #[.slice a n c] SCT)).alloc (.cells #[.string key] 9):=⟨_,rfl⟩
 have hb2:zB w w2:=by rw[hw2];exact((zbr _ _).alloc (zlr _) _).alloc (by simp) _
 have c1:w2.cell? ⟨w.heap.size,0,none⟩=some (.slice a n c):=by rw[hw2];simp
 have c2:w2.cell? ⟨w.heap.size+1,0,none⟩=some (.string key):=by rw[hw2];simp
 have hsr:=zh (z2p w2 w.heap.size (w.heap.size+1) a n c cs key c1 c2 hn (hs.below hb2 (zlr _)) ha hl);have l1:w.heap.size<w2.heap.size:=by rw[hw2];simp;omega
 have l2:w.heap.size+1<w2.heap.size:=by rw[hw2];simp
 have hmf:∀(fn:Fn) (first cap:Array Value) (w:World),(Instr.makeFunc fn first cap).run prog w=.ok (.func fn first cap) w:=fun _ _ _ _=>rfl
 have hF:fE cs key≤n:=by have:=QD cs key;unfold Tx at this;split at this<;>omega
 have hat:Hid (isE cs key=(decide (fE cs key<n)&&((ea cs (fE cs key)).k.toList==key.toList))):=by show _=_;rw[jN,hn]
 have Hs:=zh hs;have Hn:=zh hn;have Hb2:=zh hb2;have Hc:=zh (zai c1 c2);clear c1 c2 hs hn hb2 ha;generalize isE cs key=AT at*;generalize fE cs key=F at*;subst hw2
 go_enter func89,ntmps89
 go_wp2_with fail;refine hsr.out.mono ?_;rintro e w3 ⟨rfl,hb3⟩;have r1:∀w',Ext w3.drew w'→w'.cell? ⟨w.heap.size,0,none⟩=some (.slice a n c):=fun w' hw=>by
  have hb4:=(hb3.drew).trans (hw.mono hb3.size);rw[hb4.cell (p:=⟨w.heap.size,0,none⟩) l1];exact Hc.out.1
 have r2:∀w',Ext w3.drew w'→w'.cell? ⟨w.heap.size+1,0,none⟩=some (.string key):=fun w' hw=>by
  have hb4:=(hb3.drew).trans (hw.mono hb3.size);rw[hb4.cell (p:=⟨w.heap.size+1,0,none⟩) l2];exact Hc.out.2
 have HB:=zh (Hb2.out.trans (hb3.mono Hb2.out.size));have Hs3:=zh (Hs.out.below HB.out (zlr _));have HBd:Hid (zB w w3.drew):=HB.out.drew;clear hb3 hsr Hc Hb2 hmf l1 l2 HB
 by_cases hlt:F<n
 ·obtain⟨g,o,rfl,hcell⟩:=Hs3.out.ents (by rw[Hn.out];omega);have hA:=(hcell F (by rw[Hn.out];exact hlt)).1;have lA:=block_lt_of_cell hA;have q0:∀w',Ext w3.drew w'→w'.cell? ⟨g,o+F*3,none⟩=some (.string (ea cs F).k):=fun w' hw=>by
   rw[((zbr w3.heap.size w3).drew.trans hw).cell (p:=⟨g,o+F*3,none⟩) lA];exact hA
  have hD:∃D,((ea cs F).k.toList==key.toList)=D:=⟨_,rfl⟩
  obtain⟨D,hD⟩:=hD;have hat2:Hid (AT=D):=by show _=_;rw[hat.out,hD];simp[hlt]
  generalize ea cs F=y at*;obtain⟨y0,y1,_⟩:=y;dsimp only at q0 hD;clear hcell hA lA hat;go_wp2_with fail;refine rgr [(0,true),(1,true),(2,true),(3,true),(4,true),(5,true),(6,true),(7,true),(8,true),(9,true),(10,true),(11,true),(12,true),(13,true),(14,true),(15,true),(16,true)] (h:= ?_);iterate 17 (first|(refine grr (v:= ?_) rfl (by rfl) ?_ ?_;rotate_left;(intro w' hw';go_simp;with_reducible rfl);simp only[Act.put,zs0,zs1,zs2])|(refine Xx (o:=⟨_,_,_,_,_,_⟩) rfl (by rfl) ?_;simp only[Act.put,zs0,zs1,zs2]))
  refine Yq ?_;go_wp2_with fail
  go_ret2
  exact⟨by rw[hat2.out];rfl,HBd.out⟩
 ·have hat2:Hid (AT=false):=by show _=_;rw[hat.out];simp[hlt]
  clear hat;go_wp2_with fail;refine rgr [(0,true),(1,true),(2,true),(3,true),(4,true),(5,true),(6,true),(7,true),(8,true),(9,true),(10,true),(11,true),(12,true),(13,true),(14,true),(15,true),(16,true)] (h:= ?_);iterate 17 (first|(refine grr (v:= ?_) rfl (by rfl) ?_ ?_;rotate_left;(intro w' hw';go_simp;with_reducible rfl);simp only[Act.put,zs0,zs1,zs2])|(refine Xx (o:=⟨_,_,_,_,_,_⟩) rfl (by rfl) ?_;simp only[Act.put,zs0,zs1,zs2]))
  refine Yq ?_;go_wp2_with fail
  go_ret2
  exact⟨by rw[hat2.out];rfl,HBd.out⟩
end Go.Proofs.YtdgladhfibfdlaaGreatDoor
namespace Go.Proofs.YtdgladhfibfdlaaGreatDoor
open Go Go.RowKit Tryz
theorem yG (n:Int)(w:World):Calls prog 174 #[.int .i64 n] w fun e w'=>e=.returned (.bool (decide (n≤64)))∧w=w':=by
 generalize hD:decide (n≤64)=D
 go_enter func174,ntmps174
 go_wp2;go_ret;exact⟨rfl,rfl⟩
set_option maxRecDepth 100000 in
theorem Cy (k:ByteArray)(n:Nat)(w:World)(hk:k.size≤65536)(hn:n≤65536):Calls prog 172 #[.string k,.int .i64 n] w fun e w'=>e=.returned (.int .i64 (Ej k n:Nat))∧w=w':=by
 have h1:=Fq k.size w (by omega);have h2:=Fq n w (by omega);have v1:=I9 (show k.size<18446744073709551616 by omega);have v2:=I9 (show n<18446744073709551616 by omega);have hi:=yG n w;have hmx:max (n:Int) 0=(n:Int):=by omega
 have hS:Hid (Ej k n=vs k.size+k.size+vs n+(if (n:Int)≤64 then n else 2)):=by show _=_;unfold Ej;rw[show((n:Int)).toNat=n from rfl]
 generalize Ej k n=S at*;generalize vs k.size=A at*;generalize vs n=B at*
 by_cases h64:(n:Int)≤64
 ·have d1:decide ((n:Int)≤64)=true:=by simpa using h64
  rw[d1] at hi;have hS2:Hid (S=A+k.size+B+n):=by show _=_;rw[hS.out,if_pos h64]
  clear hS d1
  go_enter func172,ntmps172
  go_wp2_with fail;refine h1.mono ?_;rintro e w' ⟨rfl,rfl⟩;go_wp2_with fail;refine h2.mono ?_;rintro e w' ⟨rfl,rfl⟩;go_wp2_with fail;refine hi.mono ?_;rintro e w' ⟨rfl,rfl⟩;go_wp2;go_ret;exact⟨by rw[hS2.out];simp,rfl⟩
 ·have d1:decide ((n:Int)≤64)=false:=by simpa using h64
  rw[d1] at hi;have hS2:Hid (S=A+k.size+B+2):=by show _=_;rw[hS.out,if_neg h64]
  clear hS d1
  go_enter func172,ntmps172
  go_wp2_with fail;refine h1.mono ?_;rintro e w' ⟨rfl,rfl⟩;go_wp2_with fail;refine h2.mono ?_;rintro e w' ⟨rfl,rfl⟩;go_wp2_with fail;refine hi.mono ?_;rintro e w' ⟨rfl,rfl⟩;go_wp2;go_ret;exact⟨by rw[hS2.out];simp,rfl⟩
abbrev CT:TypeId:=182
abbrev RCT:TypeId:=165
theorem y1g (k v:ByteArray)(n p:Int)(h:n≤64):plB ⟨k,v,n,p⟩=(((v.size:Int)==n)&&(p==0)):=by
 unfold plB;simp only;rw[if_pos h,Bool.eq_iff_iff];simp
theorem y1h (k v:ByteArray)(n p:Int)(h:¬n≤64):plB ⟨k,v,n,p⟩=(v.toList.isEmpty&&(decide (2≤p)&&decide (p<1024))):=by
 have e:v.toList.isEmpty=decide (v.size=0):=by
  rw[Bool.eq_iff_iff,List.isEmpty_iff,decide_eq_true_iff,Lib.toList_data];constructor
  ·intro h;have:=congrArg List.length h;simpa using this
  ·intro h;exact List.eq_nil_of_length_eq_zero (by simpa using h)
 unfold plB;simp only;rw[if_neg h,e,Bool.eq_iff_iff];simp;omega
theorem z65 (k v:ByteArray)(n p:Int)(w:World):Calls prog 170 #[.agg #[.string k,.string v,.int .i64 n,.int .i64 p]] w fun e w'=>e=.returned (.bool (plB ⟨k,v,n,p⟩))∧zB w w':=by
 have hb:Hid (zB w (w.alloc (.cells #[.string k,.string v,.int .i64 n,.int .i64 p] CT))):=(zbr _ _).alloc (zlr _) _;have hi:=fun w=>yG n w
 by_cases h1:n≤64
 ·have hp:=zh (y1g k v n p h1);have d1:decide (n≤64)=true:=by simpa using h1
  rw[d1] at hi;obtain⟨D,hD⟩:∃D,((v.size:Int)==n)=D:=⟨_,rfl⟩
  rw[hD] at hp;obtain⟨E,hE⟩:∃E,(p==0)=E:=⟨_,rfl⟩
  rw[hE] at hp;clear d1 h1
  go_enter func170,ntmps170
  go_wp2_with fail;refine(hi _).mono ?_;rintro e w' ⟨rfl,rfl⟩
  cases D
  all_goals
   go_wp2;go_ret;exact⟨by rw[hp.out];rfl,hb.out⟩
 ·have hp:=zh (y1h k v n p h1);have d1:decide (n≤64)=false:=by simpa using h1
  rw[d1] at hi;obtain⟨E,hE⟩:∃E,decide (2≤p)=E:=⟨_,rfl⟩
  rw[hE] at hp;obtain⟨F,hF⟩:∃F,decide (p<1024)=F:=⟨_,rfl⟩
  rw[hF] at hp;clear d1 h1
  by_cases hv:v.toList=[]
  ·have hp2:Hid (plB ⟨k,v,n,p⟩=(E&&F)):=by show _=_;rw[hp.out,hv];rfl
   clear hp
   go_enter func170,ntmps170
   go_wp2_with fail;refine(hi _).mono ?_;rintro e w' ⟨rfl,rfl⟩
   cases E
   all_goals
    go_wp2;go_ret;exact⟨by rw[hp2.out];rfl,hb.out⟩
  ·have hp2:Hid (plB ⟨k,v,n,p⟩=false):=by
    show _=_;rw[hp.out,show v.toList.isEmpty=false from by simpa using hv];rfl
   have hv2:v.toList.isEmpty=false:=by simpa using hv
   clear hp
   go_enter func170,ntmps170
   go_wp2_with fail;refine(hi _).mono ?_;rintro e w' ⟨rfl,rfl⟩;go_wp2;go_ret;exact⟨by rw[hp2.out];rfl,hb.out⟩
def x3r (b:Bool):Value:=if b=true then .nilIface else .iface 110 (.int .i64 1)
theorem yH (k v:ByteArray)(n p:Int)(w:World):Calls prog 133 #[.agg #[.string k,.string v,.int .i64 n,.int .i64 p]] w fun e w'=>e=.returned (x3r (Nk ⟨k,v,n,p⟩))∧zB w w':=by
 have hb0:zB w (w.alloc (.cells #[.string k,.string v,.int .i64 n,.int .i64 p] CT)):=(zbr _ _).alloc (zlr _) _;have hb:=zh hb0;have hm:Hid (Nk ⟨k,v,n,p⟩=(okK k&&(decide (n≤2048)&&plB ⟨k,v,n,p⟩))):=rfl;have hk:=fun w=>I6 k w
 have hp:=zh (z65 k v n p (w.alloc (.cells #[.string k,.string v,.int .i64 n,.int .i64 p] CT)));clear hb0;unfold xS at hk;generalize plB ⟨k,v,n,p⟩=P at*;generalize Nk ⟨k,v,n,p⟩=M at*;obtain⟨K,hK⟩:∃K,okK k=K:=⟨_,rfl⟩
 rw[hK] at hk hm;clear hK
 cases K with
 | false=>
  simp only[Bool.false_eq_true,if_false] at hk;have hM:Hid (M=false):=by show _=_;rw[hm.out];rfl
  clear hm
  go_enter func133,ntmps133
  go_wp2_with fail;refine(hk _).mono ?_;rintro e w' ⟨rfl,rfl⟩;go_wp2;go_ret;exact⟨by rw[hM.out];rfl,hb.out⟩
 | true=>
  simp only[if_true] at hk
  by_cases h1:2048<n
  ·have hM:Hid (M=false):=by show _=_;rw[hm.out,show decide (n≤2048)=false by simp;omega];rfl
   have d1:decide (2048<n)=true:=by simpa using h1
   clear hm h1
   go_enter func133,ntmps133
   go_wp2_with fail;refine(hk _).mono ?_;rintro e w' ⟨rfl,rfl⟩;go_wp2;go_ret;exact⟨by rw[hM.out];rfl,hb.out⟩
  ·have hM:Hid (M=P):=by show _=_;rw[hm.out,show decide (n≤2048)=true by simp;omega];simp
   have d1:decide (2048<n)=false:=by simpa using h1
   clear hm h1
   go_enter func133,ntmps133
   go_wp2_with fail;refine(hk _).mono ?_;rintro e w' ⟨rfl,rfl⟩;go_wp2_with fail;refine hp.out.mono ?_;rintro e w' ⟨rfl,hb2⟩;have Hb2:=zh (hb.out.trans (hb2.mono hb.out.size));clear hb2 hp hb
   cases P
   all_goals
    go_wp2;go_ret;exact⟨by rw[hM.out];rfl,Hb2.out⟩
theorem x12 (k v:ByteArray)(n p:Int):Nk ⟨k,v,n,p⟩=(!decide ((k.size:Int)<1)&&(!decide (40<(k.size:Int))&&(!decide (n<0)&&(!decide (2048<n)&&plB ⟨k,v,n,p⟩)))):=by
 by_cases h0:n<0
 ·have:plB ⟨k,v,n,p⟩=false:=by rw[y1g k v n p (by omega)];simp;omega
  unfold Nk;rw[this];simp
 ·unfold Nk okK;rw[show decide (n<0)=false by simpa using h0,Bool.eq_iff_iff];simp;constructor
  ·rintro⟨⟨h1,h2⟩,h3,h4⟩;exact⟨by omega,by omega,by omega,h4⟩
  ·rintro⟨h1,h2,h3,h4⟩;exact⟨⟨by omega,by omega⟩,by omega,h4⟩
set_option maxRecDepth 100000 in
theorem z66 (k v:ByteArray)(n p:Int)(w:World):Calls prog 110 #[.agg #[.string k,.string v,.int .i64 n,.int .i64 p]] w fun e w'=>e=.returned (.bool (Nk ⟨k,v,n,p⟩))∧zB w w':=by
 have hb:Hid (zB w (w.alloc (.cells #[.string k,.string v,.int .i64 n,.int .i64 p] RCT))):=(zbr _ _).alloc (zlr _) _;have hm:=zh (x12 k v n p);generalize Nk ⟨k,v,n,p⟩=M at*;obtain⟨A,hA⟩:∃A,decide ((k.size:Int)<1)=A:=⟨_,rfl⟩
 obtain⟨B,hB⟩:∃B,decide (40<(k.size:Int))=B:=⟨_,rfl⟩
 obtain⟨C,hC⟩:∃C,decide (n<0)=C:=⟨_,rfl⟩
 obtain⟨D,hD⟩:∃D,decide (2048<n)=D:=⟨_,rfl⟩
 rw[hA,hB,hC,hD] at hm;have key:A=true∨(A=false∧B=true)∨(A=false∧B=false∧C=true)∨(A=false∧B=false∧C=false∧D=true)∨(A=false∧B=false∧C=false∧D=false):=by
  cases A<;>cases B<;>cases C<;>cases D<;>simp
 rcases key with rfl|⟨rfl,rfl⟩|⟨rfl,rfl,rfl⟩|⟨rfl,rfl,rfl,rfl⟩|⟨rfl,rfl,rfl,rfl⟩
 rotate_left 4
 ·by_cases h1:64<n
  ·have hp:=zh (y1h k v n p (by omega));have d1:decide (64<n)=true:=by simpa using h1
   obtain⟨E,hE⟩:∃E,decide (2≤p)=E:=⟨_,rfl⟩
   rw[hE] at hp;have eF:decide (p<1024)=decide (p≤1023):=by rw[Bool.eq_iff_iff];simp;omega
   rw[eF] at hp;obtain⟨F,hF⟩:∃F,decide (p≤1023)=F:=⟨_,rfl⟩
   rw[hF] at hp;generalize plB ⟨k,v,n,p⟩=P at*;clear h1 eF
   by_cases hv:v.toList=[]
   ·have hp2:Hid (M=(E&&F)):=by show _=_;rw[hm.out,hp.out,hv];rfl
    clear hp hm
    go_enter func110,ntmps110
    cases E
    all_goals
     go_wp2;go_ret;exact⟨by rw[hp2.out];rfl,hb.out⟩
   ·have hp2:Hid (M=false):=by
     show _=_;rw[hm.out,hp.out,show v.toList.isEmpty=false from by simpa using hv];rfl
    have hv2:v.toList.isEmpty=false:=by simpa using hv
    clear hp hm
    go_enter func110,ntmps110
    go_wp2;go_ret;exact⟨by rw[hp2.out];rfl,hb.out⟩
  ·have hp:=zh (y1g k v n p (by omega));have d1:decide (64<n)=false:=by simpa using h1
   obtain⟨E,hE⟩:∃E,((v.size:Int)==n)=E:=⟨_,rfl⟩
   rw[hE] at hp;obtain⟨F,hF⟩:∃F,(p==0)=F:=⟨_,rfl⟩
   rw[hF] at hp;generalize plB ⟨k,v,n,p⟩=P at*;have hp2:Hid (M=(E&&F)):=by show _=_;rw[hm.out,hp.out];rfl
   clear hp hm h1
   go_enter func110,ntmps110
   cases E
   all_goals
    go_wp2;go_ret;exact⟨by rw[hp2.out];rfl,hb.out⟩
 all_goals
  have hM:Hid (M=false):=by show _=_;rw[hm.out];rfl
  clear hm
  go_enter func110,ntmps110
  go_wp2;go_ret;exact⟨by rw[hM.out];rfl,hb.out⟩
theorem y1i (w:World)(E:TypeId)(a a2:Option Addr)(n c n2 c2:Nat)(l l2:List Nat)(hn:l.length=n)(hn2:l2.length=n2)(hs:Src w a l)(hs2:Src w a2 l2)(hz:a=none→c=0)(hz2:a2=none→c2=0):
  z9f (w.alloc (.cells #[.slice a n c,.slice a2 n2 c2] E)) w.heap.size [l,l2]:=fun i hi=>by
 have hb:zB w (w.alloc (.cells #[.slice a n c,.slice a2 n2 c2] E)):=(zbr _ _).alloc (zlr _) _
 rcases i with _|_|i
 ·exact⟨a,c,by simp[hn],hs.below hb (zlr _),hz⟩
 ·exact⟨a2,c2,by simp[hn2],hs2.below hb (zlr _),hz2⟩
 ·simp at hi;omega
theorem JF (w:World)(E:TypeId)(g:Nat)(arr:Array Value)(a a2:Option Addr)(n c n2 c2:Nat)(l l2:List Nat)(hg:g=w.heap.size)(harr:arr= #[.slice a n c,.slice a2 n2 c2])(hn:l.length=n)(hn2:l2.length=n2)(hs:Src w a l)(hs2:Src w a2 l2)(hz:a=none→c=0)(hz2:a2=none→c2=0)
  (hl:n+n2≤1099511627776):
  Calls prog 175 #[.slice (some ⟨g,0,none⟩) 2 2] (w.alloc (.cells arr E)) fun e w'=>∃v,e=.returned v∧Sl w' v (l++l2)∧zB w w':=by
 subst hg harr;have hb:zB w (w.alloc (.cells #[.slice a n c,.slice a2 n2 c2] E)):=(zbr _ _).alloc (zlr _) _;refine(z6q w.heap.size 2 2 [l,l2] rfl _ (y1i w E a a2 n c n2 c2 l l2 hn hn2 hs hs2 hz hz2) (by simp;omega) (by omega)).mono ?_;rintro e w' ⟨v,rfl,hv,hb'⟩;refine⟨v,rfl,?_,hb.trans (hb'.mono hb.size)⟩
 simpa using hv
set_option maxRecDepth 100000 in
theorem Fz (a a2:Option Addr)(n c n2 c2:Nat)(l l2:List Nat)(hn:l.length=n)(hn2:l2.length=n2)(w:World)(hs:Src w a l)(hs2:Src w a2 l2)(hz2:a2=none→c2=0)(hl:n≤65536)(hl2:n2≤1000000):
  Calls prog 142 #[.slice a n c,.slice a2 n2 c2] w fun e w'=>∃v,e=.returned v∧Sl w' v (l++vb n2++l2)∧zB w w':=by
 have h:=Iy a n c l hn n2 w hs hl (by omega);have Hs2:=zh hs2;have Hz2:=zh hz2;have Hn:=zh (zai hn hn2);have h10:=I9 (show n2<18446744073709551616 by omega);have Hlen:Hid ((l++vb n2).length=n+vs n2):=by show _=_;rw[zla,hn];rfl
 clear hs hs2 hz2 hn hn2
 go_enter func142,ntmps142
 go_wp2_with fail;refine h.mono ?_;rintro e w1 ⟨v,rfl,hv,hb⟩;obtain⟨a1,c1,rfl,hs1,hz1,_⟩:=hv.arg;have hs2:=zh (Hs2.out.below hb (zlr _));have hlen:=Hlen.out;generalize hL:l++vb n2=L at*;obtain⟨N,hN⟩:∃N,N=L.length:=⟨_,rfl⟩
 rw[←hN] at hlen⊢
 have hN2:N+n2≤1099511627776:=by omega
 have HN:=zh (zai hL hN);clear hlen hL hN Hlen;have Hs1:=zh hs1;have Hz1:=zh hz1;have Hb:=zh hb;clear hv hb h hs1 hz1;go_wp2_with fail;refine(JF _ _ _ _ a1 a2 N c1 n2 c2 L l2 (by rfl) rfl HN.out.2.symm Hn.out.2 Hs1.out hs2.out Hz1.out Hz2.out hN2).mono ?_;rintro e w' ⟨v,rfl,hv,hb'⟩;have hbn:=Hb.out.trans (hb'.mono Hb.out.size);go_wp2;go_ret;exact⟨_,rfl,by rw[HN.out.1];exact hv,hbn⟩
theorem z2q {w:World}{g o c k n:Nat}{l:List Nat}(hc:Cs w g o l)(hn:l.length=n)(hk:k≤n)(hnc:n≤c)(hcm:c≤maxLen):Sl w (.slice (some ⟨g,o,none⟩) k c) (l.take k):=by
 have e:(l.take k).length=k:=by rw[zlk];omega
 refine .inr ⟨g,o,c,by rw[e],hc.start k,by rw[e];omega,hcm⟩
theorem yI {w:World}{g o c k n:Nat}{l:List Nat}(hc:Cs w g o l)(hn:l.length=n)(hk:k≤n)(hnc:n≤c)(hcm:c≤maxLen):Sl w (.slice (some ⟨g,o+k,none⟩) (n-k) (c-k)) (l.drop k):=by
 have e:(l.drop k).length=n-k:=by rw[zld];omega
 refine .inr ⟨g,o+k,c-k,by rw[e],hc.rest k,by rw[e];omega,by omega⟩
theorem z49 {w:World}{g o k n:Nat}{l:List Nat}(hn:l.length=n)(hk:n≤k):Sl w (.slice (some ⟨g,o,none⟩) 0 0) (l.drop k):=by
 rw[List.drop_of_length_le (by omega)];exact .inr ⟨g,o,0,rfl,fun i hi=>by simp at hi,zlr _,by unfold maxLen;omega⟩
end Go.Proofs.YtdgladhfibfdlaaGreatDoor
