/-
  Steps.
-/
import Derived.Test.YtdgladhfibfdlaaGreatDoorQPSs05
import Derived.Test.YtdgladhfibfdlaaGreatDoorProg
import Derived.Test.YtdgladhfibfdlaaGreatDoorQPSs04
namespace Go.Proofs.YtdgladhfibfdlaaGreatDoor
open Go Go.RowKit Tryz
set_option maxRecDepth 100000
abbrev TS:TypeId:=32
theorem Blk.word {w:World}{b:Nat}{t:TypeId}{f:Nat→Bool}(h:Blk w b t (sc f))(i:Nat)(hi:i<16):w.cell? ⟨b,i,none⟩=some (.int .u64 (wd f i:Nat)):=by rw[h.cell,qE f i hi]
def y3l (t:TypeId)(n:Nat):Prop:=(∃e,prog.underlying t=some (.array n e))∧(prog.info? t).map (·.size)=some n
theorem Yz:y3l TS 16:=⟨⟨_,underlying32⟩,by kernel_rfl⟩
theorem x1w (f:Nat→Bool):(sc f).all (·.oneCell')=true:=by
 rw[Array.all_eq_true_iff_forall_mem];intro u hu;simp only[sc,List.mem_toArray,List.mem_map] at hu;obtain⟨k,_,rfl⟩:=hu
 rfl
theorem Tk:x0q TS (sc (fun _=>false)):=fun w=>by kernel_rfl
theorem Cw {t t2:TypeId}{n:Nat}(hT:y3l t n)(w:World)(g:Nat)(cs:Array Value)(hg:Blk w g t2 cs)(hn:cs.size=n):(loadVar t ⟨g,0,none⟩).run prog w=.ok (.agg cs) w:=by
 obtain⟨⟨e,hu⟩,hi⟩:=hT;exact run_loadVar_row w g t2 t cs _ _ hg hu rfl (by rw[hi,hn])
section
variable {ops:Array Oper} {rest:List Oper} {o:Oper} {a:Act} {w:World} {K:Act→World→Prop} {Q:Exit→Act→World→Prop}
theorem z16 (t:TypeId)(x:Operand)(ho:o.op=.load t x)(g:Nat)(cs:Array Value)(t2:TypeId)(hx:a.eval x=.pointer (some ⟨g,0,none⟩)){n:Nat}(hT:y3l t n)(hg:Blk w g t2 cs)(hn:cs.size=n):
  (execOp a.eval o).run prog w=.ok (.value (.agg cs)) w:=by
 unfold execOp;simp only[ho,hx,Instr.loadAt,Instr.sureAddr,Sem.run_bind,Sem.run_pure,Result.andThen_ok,Cw hT w g cs hg hn]
theorem E3 (t:TypeId)(x:Operand)(ho:o.op=.load t x)(g:Nat)(f:Nat→Bool)(t2:TypeId)(hx:a.eval x=.pointer (some ⟨g,0,none⟩))(hT:y3l t 16)(hg:Blk w g t2 (sc f)):
  (execOp a.eval o).run prog w=.ok (.value (.agg (sc f))) w:=z16 t x ho g _ t2 hx hT hg (Oy f)
theorem jS (t:TypeId)(x y:Operand)(ho:o.op=.store t x y)(g:Nat)(cs old:Array Value)(t2:TypeId)(hx:a.eval x=.pointer (some ⟨g,0,none⟩))(hy:a.eval y=.agg cs){n:Nat}(hT:y3l t n)(hg:Blk w g t2 old)(hn:cs.size=n)(hold:old.size=n)(h1:cs.all (·.oneCell')=true)
  (h:∀w',Blk w' g t2 cs→Zx (fun i=>i=g) w w'→w'.heap.size=w.heap.size→K (a.put o.dst undef) w'):o.wp prog a w K Q:=by
 have hk:=h (w.setRow g cs) (setRow_heap w g _ _ _ _ hg) ⟨rfl,rfl,rfl,by simp,fun i _ hne=>setRow_other w g i _ hne⟩ (by simp);exact wp_store_row t x y ho g cs hx hy t2 _ hg (by rw[hT.2,hn]) (by rw[hn,hold]) h1 hk
theorem X9 (t:TypeId)(x y:Operand)(ho:o.op=.store t x y)(g:Nat)(f f0:Nat→Bool)(t2:TypeId)(hx:a.eval x=.pointer (some ⟨g,0,none⟩))(hy:a.eval y=.agg (sc f))(hT:y3l t 16)(hg:Blk w g t2 (sc f0))
  (h:∀w',Blk w' g t2 (sc f)→Zx (fun i=>i=g) w w'→w'.heap.size=w.heap.size→K (a.put o.dst undef) w'):o.wp prog a w K Q:=
 jS t x y ho g _ _ t2 hx hy hT hg (Oy f) (Oy f0) (x1w f) h
theorem Yx (hgd:o.guard=none)(t:TypeId)(x y:Operand)(ho:o.op=.store t x y)(g:Nat)(f f0:Nat→Bool)(t2:TypeId)(hx:a.eval x=.pointer (some ⟨g,0,none⟩))(hy:a.eval y=.agg (sc f))(hT:y3l t 16)(hg:Blk w g t2 (sc f0))
  (h:∀w',Blk w' g t2 (sc f)→Zx (fun i=>i=g) w w'→w'.heap.size=w.heap.size→wpList prog ops Q rest (a.put o.dst undef) w'):wpList prog ops Q (o::rest) a w:=
 wpList_plain hgd fun _ hK=>X9 t x y ho g f f0 t2 hx hy hT hg fun w' h1 h2 h3=>hK _ _ (h w' h1 h2 h3)
theorem Z7 (hgd:o.guard=none)(t:TypeId)(x:Operand)(ho:o.op=.load t x)(g:Nat)(f:Nat→Bool)(t2:TypeId)(hx:a.eval x=.pointer (some ⟨g,0,none⟩))(hT:y3l t 16)(hg:Blk w g t2 (sc f))
  (h:wpList prog ops Q rest (a.put o.dst (.agg (sc f))) w):wpList prog ops Q (o::rest) a w:=by
 obtain⟨⟨e,hu⟩,hi⟩:=hT;exact wpList_load_row hgd t x ho g hx t2 _ _ _ hg hu rfl (by rw[hi,Oy]) h
end
theorem Vw {fn:Func}{p:Tmp}{t t2:TypeId}(hT:y3l t 16)(h:fn.results= #[.cell p t])(tmps:Array Value)(w:World)(g:Nat)(f:Nat→Bool)(hp:tmps.getD p undef=.pointer (some ⟨g,0,none⟩))(hg:Blk w g t2 (sc f)):
  (results fn tmps).run prog w=.ok (.agg (sc f)) w:=by
 obtain⟨⟨e,hu⟩,hi⟩:=hT;exact results_cell_row h tmps w g t2 _ _ _ hp hg hu rfl (by rw[hi,Oy])
theorem y4q:prog.eqGuardType prog.depth TS=false:=by kernel_rfl
section
variable {P:Program} (w:World)
theorem E4 (d:Nat)(t e:TypeId)(n:Nat)(ht:P.underlying t=some (.array n e))(he:P.underlying e=some (.int .u64))(hsz:∀w,(sizeOf e).run P w=.ok 1 w)
  (xs:List Nat) (hx:xs.length=n) (cs:Array Value) (hc:cs=(xs.map (fun k:Nat=>Value.int .u64 k)).toArray):
  (Op.equalIn (d+2) t (.agg cs) (.agg cs)).run P w=.ok true w:=by
 rw[hc,Op.equalIn];simp only[Sem.run_bind,run_underlying ht,Result.andThen_ok,hsz,Std.Legacy.Range.forIn_eq_forIn_range',Std.Legacy.Range.size,Nat.sub_zero,Nat.add_sub_cancel,Nat.div_one];have hl:∀i∈List.range' 0 n 1,i<n:=fun i hi=>by simpa using (List.mem_range'_1.1 hi).2
 generalize List.range' 0 n 1=l at hl⊢
 induction l with
 | nil=>simp
 | cons i l ih=>
  have hi:i<n:=hl i (by simp);have px:(part e (xs.map (fun k:Nat=>Value.int .u64 k)).toArray (i*1)).run P w=.ok (.int .u64 (xs.getD i 0:Nat)) w:=by
   simp[part,isAgg,run_underlying he,List.getD,List.getElem?_eq_getElem (show i<xs.length by omega)]
  have pe:(Op.equalIn (d+1) e (.int .u64 (xs.getD i 0:Nat)) (.int .u64 (xs.getD i 0:Nat))).run P w=.ok true w:=by
   rw[run_equalIn_int w d e .u64 .u64 _ _ he];simp
  simp only[List.forIn_cons,Sem.run_bind,px,pe,Result.andThen_ok];simp only[Bool.not_true,Bool.false_eq_true,if_false,Sem.run_pure,Result.andThen_ok];exact ih fun j hj=>hl j (by simp[hj])
end
theorem y4r (f:Nat→Bool)(w:World):(Op.equalIn 10000 TS (.agg (sc f)) (.agg (sc f))).run prog w=.ok true w:=
 E4 w 9998 TS 24 16 underlying32 underlying24 (fun w=>by kernel_rfl) ((List.range 16).map (wd f)) (by simp) _ (by unfold sc;rw[List.map_map];rfl)
theorem z6w (f:Nat→Bool)(w:World):(binOp .neq TS (.agg (sc f)) (.agg (sc f))).run prog w=.ok (.bool false) w:=by
 rw[run_neq_struct,y4r f w];rfl
section
variable {ops:Array Oper} {rest:List Oper} {o:Oper} {a:Act} {w:World} {K:Act→World→Prop} {Q:Exit→Act→World→Prop}
theorem y0r (x y:Operand)(rt:TypeId)(ho:o.op=.binOp .neq TS x y rt)(f g:Nat→Bool)(hx:a.eval x=.agg (sc f))(hy:a.eval y=.agg (sc g))(h:sc g=sc f):
  (execOp a.eval o).run prog w=.ok (.value (.bool false)) w:=by
 rw[h] at hy;unfold execOp;simp only[ho,hx,hy,Sem.run_bind,Sem.run_pure,Result.andThen_ok,run_eqGuard_agg (hm:=y4q),z6w]
end
def inB (f:Nat→Bool)(x:Int):Bool:=decide (0≤x)&&(decide (x<1024)&&f x.toNat)
theorem z17 (f:Nat→Bool)(n:Nat)(h:n<1024):inB f n=f n:=by
 have h1:decide (0≤(n:Int))=true:=zdt (by omega);have h2:decide ((n:Int)<1024)=true:=zdt (by omega);rw[inB,h1,h2];simp
theorem y9j (f:Nat→Bool)(x:Int)(h:x<0∨1024≤x):inB f x=false:=by
 unfold inB
 rcases h with h|h
 ·rw[zdf (by omega)];rfl
 ·rw[zdf (show¬x<1024 by omega)];simp
theorem z18 (n:Nat)(w:World)(h:n<1024):Calls prog 52 #[.int .i64 n] w fun e w'=>e=.returned (.bool true)∧w=w':=by
 have h1:(n:Int)<1024:=by omega
 go_enter func52,ntmps52
 go_wp2;go_ret;exact⟨rfl,rfl⟩
theorem y0s (x:Int)(w:World)(h:x<0∨1024≤x):Calls prog 52 #[.int .i64 x] w fun e w'=>e=.returned (.bool false)∧w=w':=by
 by_cases h0:x<0
 ·have h1:decide (0≤x)=false:=zdf (by omega);clear h h0
  go_enter func52,ntmps52
  go_wp2;go_ret;exact⟨rfl,rfl⟩
 ·have h1:decide (0≤x)=true:=zdt (by omega);have h2:decide (x<1024)=false:=zdf (by omega);clear h h0
  go_enter func52,ntmps52
  go_wp2;go_ret;exact⟨rfl,rfl⟩
theorem z19 (n:Nat)(w:World):Calls prog 53 #[.int .i64 n] w fun e w'=>e=.returned (.int .u64 (2^(n%64):Nat))∧w=w':=by
 have e1:(n:Int).tmod 64=((n%64:Nat):Int):=rfl;have hk:n%64<64:=by omega
 have e2:=z3z (n%64) hk;generalize n%64=k at*;have E2:=zh e2;clear e2
 go_enter func53,ntmps53
 go_wp2;go_ret;exact⟨by rw[←E2.out];rfl,rfl⟩
theorem G7 (n:Nat):2^(n%64)<18446744073709551616:=by
 have h:2^(n%64)<2^64:=Nat.pow_lt_pow_right (by decide) (by omega);have e:2^64=18446744073709551616:=by decide
 omega
theorem y9k (f:Nat→Bool)(n:Nat):∃R:Nat,wd f (n/64)&&&2^(n%64)=R∧(((R:Int)==0)= !f n)∧(((R:Int) !=0)=f n):=by
 refine⟨_,rfl,?_⟩;have e:=M2 f (n/64) (n%64) (by omega);rw[show 64*(n/64)+n%64=n by omega] at e;rw[nat_bit,←e,Nat.testBit_eq_decide_div_mod_eq];have hp:0<2^(n%64):=Nat.pow_pos (by decide);generalize wd f (n/64)/2^(n%64)=u;generalize 2^(n%64)=P at*
 rcases Nat.mod_two_eq_zero_or_one u with h|h
 ·rw[h];simp
 ·rw[h];have h1:(((1*P:Nat):Int)==0)=false:=by
   rw[beq_eq_false_iff_ne];omega
  exact⟨by rw[h1];rfl,by show(!(_==_))=_;rw[h1];rfl⟩
theorem y9l (f:Nat→Bool)(n:Nat)(w:World)(h:n<1024):Calls prog 20 #[.agg (sc f),.int .i64 n] w fun e w'=>e=.returned (.bool (f n))∧zB w w':=by
 have e1:(n:Int).tdiv 64=((n/64:Nat):Int):=rfl;have hq:n/64<16:=by omega
 have hq2:((n/64:Nat):Int)<16:=by omega
 have q0:(0:Int)≤((n/64:Nat):Int):=by omega
 have qw:IntKind.i64.wrap ((n/64:Nat):Int)=((n/64:Nat):Int):=by rw[IntKind.wrap_i64];omega
 have hbit:=z19 n;obtain⟨R,hR,_,hR2⟩:=y9k f n;have hv:=M1 f (n/64);have hP:=G7 n;have hcell:=fun(w1:World) (g1:Nat) (hk:Blk w1 g1 TS (sc f))=>hk.word (n/64) hq
 generalize 2^(n%64)=P at*;generalize wd f (n/64)=v at*;generalize n/64=q at*;have e2:bits .and .u64 (v:Int) (P:Int)=(R:Int):=by rw[u64_and_nat v P hv hP,hR]
 have Hbit:=zh hbit;have Hcell:=zh hcell;clear hbit hcell hR hv hP
 go_enter func20,ntmps20
 go_wp2_with (first|(refine Zw rfl TS (.tmp 0) rfl (sc f) (by rfl) ?_;intro g1 w1 hg1 hk1 hb1))
 refine rgr [(0,true),(1,false),(2,true),(3,true),(4,true),(5,true),(6,true),(7,true),(8,false),(9,true),(10,true),(11,true),(12,true)] (h:= ?_);have hb2:zB w w1.drew:=hb1.drew;have hk2:Blk w1.drew g1 TS (sc f):=hk1;clear hb1 hk1;generalize w1.drew=w2 at*;have hc:∀w',Ext w2 w'→w'.cell? ⟨g1,q,none⟩=some (.int .u64 v):=fun w' he=>Hcell.out w' g1 (hk2.ext he)
 have Hk:=zh hk2;have Hb:=zh hb2;clear hk2 hb2;iterate 1 (refine grr (v:= ?_) rfl (by rfl) ?_ ?_;rotate_left;(intro w' hw';go_simp;with_reducible rfl);simp only[Act.put,zs0,zs1,zs2])
 refine grc rfl (by rfl) (fun K hK=> ?_);go_simp;refine(z18 n w2 h).mono ?_;rintro e w3 ⟨rfl,rfl⟩;refine hK _ _ (Ext.refl _) ?_;clear hK K;iterate 6 (refine grr (v:= ?_) rfl (by rfl) ?_ ?_;rotate_left;(intro w' hw';go_simp;with_reducible rfl);simp only[Act.put,zs0,zs1,zs2])
 refine grc rfl (by rfl) (fun K hK=> ?_);go_simp;refine(Hbit.out w2).mono ?_;rintro e w3 ⟨rfl,rfl⟩;refine hK _ _ (Ext.refl _) ?_;clear hK K;iterate 4 (refine grr (v:= ?_) rfl (by rfl) ?_ ?_;rotate_left;(intro w' hw';go_simp;with_reducible rfl);simp only[Act.put,zs0,zs1,zs2])
 refine Yq ?_;go_wp2;go_ret;exact⟨rfl,Hb.out⟩
theorem x1x (f:Nat→Bool)(x:Int)(w:World)(h:x<0∨1024≤x):Calls prog 20 #[.agg (sc f),.int .i64 x] w fun e w'=>e=.returned (.bool false)∧zB w w':=by
 have Hmay:=zh (fun w=>y0s x w h);clear h
 go_enter func20,ntmps20
 go_wp2_with (first|(refine Zw rfl TS (.tmp 0) rfl (sc f) (by rfl) ?_;intro g1 w1 hg1 hk1 hb1))
 refine rgr [(0,true),(1,false),(2,true),(3,true),(4,true),(5,true),(6,true),(7,true),(8,false),(9,true),(10,true),(11,true),(12,true)] (h:= ?_);have hb2:zB w w1.drew:=hb1.drew;clear hb1 hk1;generalize w1.drew=w2 at*;have Hb:=zh hb2;clear hb2;iterate 1 (refine grr (v:= ?_) rfl (by rfl) ?_ ?_;rotate_left;(intro w' hw';go_simp;with_reducible rfl);simp only[Act.put,zs0,zs1,zs2])
 refine grc rfl (by rfl) (fun K hK=> ?_);go_simp;refine(Hmay.out w2).mono ?_;rintro e w3 ⟨rfl,rfl⟩;refine hK _ _ (Ext.refl _) ?_;clear hK K;iterate 1 (refine grr (v:= ?_) rfl (by rfl) ?_ ?_;rotate_left;(intro w' hw';go_simp;with_reducible rfl);simp only[Act.put,zs0,zs1,zs2])
 iterate 5 (refine Xx (o:=⟨_,_,_,_,_,_⟩) rfl (by rfl) ?_;simp only[Act.put,zs0,zs1,zs2])
 refine Qy (o:=⟨_,_,_,_,_,_⟩) rfl (by rfl) ?_;simp only[Act.put,zs0,zs1,zs2];iterate 2 (refine Xx (o:=⟨_,_,_,_,_,_⟩) rfl (by rfl) ?_;simp only[Act.put,zs0,zs1,zs2])
 iterate 2 (refine grr (v:= ?_) rfl (by rfl) ?_ ?_;rotate_left;(intro w' hw';go_simp;with_reducible rfl);simp only[Act.put,zs0,zs1,zs2])
 refine Yq ?_;go_wp2;go_ret;exact⟨rfl,Hb.out⟩
theorem zT (f:Nat→Bool)(x:Int)(w:World):Calls prog 20 #[.agg (sc f),.int .i64 x] w fun e w'=>e=.returned (.bool (inB f x))∧zB w w':=by
 by_cases h:x<0∨1024≤x
 ·rw[y9j f x h];exact x1x f x w h
 ·obtain⟨n,rfl⟩:∃n:Nat,x=(n:Int):=⟨x.toNat,by omega⟩
  rw[z17 f n (by omega)];exact y9l f n w (by omega)
def YW (f:Nat→Bool)(x:Int)(m:Nat):Bool:=f m||decide ((m:Int)=x)
theorem y0t (f:Nat→Bool)(x:Int)(h:x<0∨1024≤x):sc f=sc (YW f x):=ZV (fun m hm=>by
 have:decide ((m:Int)=x)=false:=zdf (by omega);unfold YW;rw[this];simp)
theorem y0u (f:Nat→Bool)(n:Nat)(h:n<1024)(v P R:Nat)(hv:wd f (n/64)=v)(hP:2^(n%64)=P)(hR:v|||P=R):
  (sc f).setIfInBounds (n/64) (.int .u64 (R:Nat))=sc (YW f n):=by
 refine z30 f _ (n/64) R (by omega) ?_ (fun m hm hne=> ?_)
 ·have hp:=G7 n;rw[←hR,←hv,←hP];refine z1t (Nat.or_lt_two_pow (n:=64) (M1 f _) hp) (fun i hi=> ?_);rw[Nat.testBit_or,M2 f _ i hi,Nat.testBit_two_pow];have e:decide (n%64=i)=decide (((64*(n/64)+i:Nat):Int)=(n:Int)):=by
   rw[Bool.eq_iff_iff,decide_eq_true_iff,decide_eq_true_iff];omega
  unfold YW;rw[e]
 ·have:decide ((m:Int)=(n:Int))=false:=zdf (by omega);unfold YW;rw[this];simp
theorem y4s (f:Nat→Bool)(n:Nat)(w:World)(h:n<1024):Calls prog 21 #[.agg (sc f),.int .i64 n] w fun e w'=>e=.returned (.agg (sc (YW f n)))∧zB w w':=by
 have e1:(n:Int).tdiv 64=((n/64:Nat):Int):=rfl;have hq:n/64<16:=by omega
 have hq2:((n/64:Nat):Int)<16:=by omega
 have q0:(0:Int)≤((n/64:Nat):Int):=by omega
 have qw:IntKind.i64.wrap ((n/64:Nat):Int)=((n/64:Nat):Int):=by rw[IntKind.wrap_i64];omega
 have hbit:=z19 n;have hv:=M1 f (n/64);have hP:=G7 n;have hcell:=fun(w1:World) (g1:Nat) (hk:Blk w1 g1 TS (sc f))=>hk.word (n/64) hq
 have hset:=y0u f n h;have hmay:=fun w=>z18 n w h
 have hblk:=fun(w1:World) (g1:Nat) (hk:Blk w1 g1 TS (sc f)) (v:Value)=>hk.set (n/64) v
 obtain⟨P,hPe⟩:∃P,2^(n%64)=P:=⟨_,rfl⟩
 obtain⟨v,hve⟩:∃v,wd f (n/64)=v:=⟨_,rfl⟩
 obtain⟨R,hR⟩:∃R,v|||P=R:=⟨_,rfl⟩
 have hset2:=hset v P R hve hPe hR;rw[hPe] at hP hbit;rw[hve] at hv hcell;generalize n/64=q at*;have e2:bits .or .u64 (v:Int) (P:Int)=(R:Int):=by rw[u64_or_nat v P hv hP,hR]
 have Hbit:=zh hbit;have Hcell:=zh hcell;have Hset:=zh hset2;have Hmay:=zh hmay;have Hblk:=zh hblk;generalize YW f n=F at*;clear hbit hcell hR hv hP hset hset2 hPe hve hmay h hblk
 go_enter func21,ntmps21
 go_wp2_with (first|(refine Zw rfl TS (.tmp 0) rfl (sc f) (by rfl) ?_;intro g1 w1 hg1 hk1 hb1)|(refine Zv rfl TS rfl Tk ?_;intro g2 w2 hg2 hk2 hb2))
 have Hg:Hid (w.heap.size≤g1∧w.heap.size≤g2∧g1≠g2):=⟨hg1,znt hb1.size hg2,by have:=hk1.lt;omega⟩
 have Hb:Hid (zB w w2):=hb1.trans (hb2.mono hb1.size);have Hk1:Hid (Blk w2 g1 TS (sc f)):=hk1.ext hb2;have Hk2:=zh hk2;clear hg1 hg2 hb1 hb2 hk1 hk2;refine(Hmay.out w2).mono ?_;rintro e w3 ⟨rfl,rfl⟩;go_wp2_with fail;refine rgs (F:=fun i=>i=g1) (.rd 0 (.rd 1 (.rd 2 (.rd 4 (.two 3 (.call 5 (.rd 6 (.rd 7 (.call 8 .done)))) 5 (.call 3 (.rd 6 (.rd 7 (.call 8 .done))))))))) (h:= ?_);have HB:Hid (zB w w2.drew):=Hb.out.drew;have HK1:Hid (Blk w2.drew g1 TS (sc f)):=Hk1.out;have HK2:Hid (Blk w2.drew g2 TS (sc (fun _=>false))):=Hk2.out;clear Hb Hk1 Hk2;generalize w2.drew=w3 at*;have c0:=Hcell.out w3 g1 HK1.out;have f0:=HK1.out.fz q;have HT:Hid (Zx (fun i=>i=g1) w3 (w3.setCell ⟨g1,q,none⟩ (.int .u64 R))):=(Zx.refl _ _).setCell _ (fun _=>rfl);have HK1b:Hid (Blk (w3.setCell ⟨g1,q,none⟩ (.int .u64 R)) g1 TS (sc F)):=by
  rw[←Hset.out];exact Hblk.out w3 g1 HK1.out _
 have HK2b:Hid (Blk (w3.setCell ⟨g1,q,none⟩ (.int .u64 R)) g2 TS (sc (fun _=>false))):=HK2.out.turn HT.out (fun h=>Hg.out.2.2 h.symm);have HBb:Hid (zB w (w3.setCell ⟨g1,q,none⟩ (.int .u64 R))):=HB.out.setCell Hg.out.1 _;clear HK1 HK2 HB;iterate 4 (refine gsr (v:= ?_) rfl (by rfl) ?_ ?_;rotate_left;(intro w' hw';go_simp;with_reducible rfl);simp only[Act.put,zs0,zs1,zs2])
 refine⟨?_,?_⟩
 ·skip
  refine gsc rfl (by rfl) (fun K hK=> ?_);go_simp;refine hK _ _ (Zx.refl _ _) ?_;clear hK K;refine gsc rfl (by rfl) (fun K hK=> ?_);go_simp;refine(Hbit.out w3).mono ?_;rintro e w4 ⟨rfl,rfl⟩;refine hK _ _ (Zx.refl _ _) ?_;clear hK K;iterate 2 (refine gsr (v:= ?_) rfl (by rfl) ?_ ?_;rotate_left;(intro w' hw';go_simp;with_reducible rfl);simp only[Act.put,zs0,zs1,zs2])
  refine gsc rfl (by rfl) (fun K hK=> ?_);go_simp;refine hK _ _ HT.out ?_;clear hK K c0 f0 HT;generalize w3.setCell ⟨g1,q,none⟩ (.int .u64 R)=w4 at*;refine Zy ?_
  go_wp2_with (first|(refine Z7 rfl TS (.tmp 2) rfl g1 F TS (by rfl) Yz HK1b.out ?_)|(refine Yx rfl TS (.tmp 4) (.tmp 15) rfl g2 F _ TS (by rfl) (by rfl) Yz HK2b.out ?_;intro w5 hk5 ht5 _))
  refine bodyPost_ret (v:=.agg (sc F)) ?_ rfl ?_
  ·exact Vw Yz rfl _ _ g2 F (by rfl) hk5
  ·exact⟨rfl,HBb.out.trans (ht5.below HBb.out.size (fun i hi=>by subst hi;exact Hg.out.2.1))⟩
 ·skip
  refine gsc rfl (by rfl) (fun K hK=> ?_);go_simp;refine(Hbit.out w3).mono ?_;rintro e w4 ⟨rfl,rfl⟩;refine hK _ _ (Zx.refl _ _) ?_;clear hK K;refine gsc rfl (by rfl) (fun K hK=> ?_);go_simp;refine hK _ _ (Zx.refl _ _) ?_;clear hK K;iterate 2 (refine gsr (v:= ?_) rfl (by rfl) ?_ ?_;rotate_left;(intro w' hw';go_simp;with_reducible rfl);simp only[Act.put,zs0,zs1,zs2])
  refine gsc rfl (by rfl) (fun K hK=> ?_);go_simp;refine hK _ _ HT.out ?_;clear hK K c0 f0 HT;generalize w3.setCell ⟨g1,q,none⟩ (.int .u64 R)=w4 at*;refine Zy ?_
  go_wp2_with (first|(refine Z7 rfl TS (.tmp 2) rfl g1 F TS (by rfl) Yz HK1b.out ?_)|(refine Yx rfl TS (.tmp 4) (.tmp 15) rfl g2 F _ TS (by rfl) (by rfl) Yz HK2b.out ?_;intro w5 hk5 ht5 _))
  refine bodyPost_ret (v:=.agg (sc F)) ?_ rfl ?_
  ·exact Vw Yz rfl _ _ g2 F (by rfl) hk5
  ·exact⟨rfl,HBb.out.trans (ht5.below HBb.out.size (fun i hi=>by subst hi;exact Hg.out.2.1))⟩
theorem y9m (f:Nat→Bool)(x:Int)(w:World)(h:x<0∨1024≤x):Calls prog 21 #[.agg (sc f),.int .i64 x] w fun e w'=>e=.returned (.agg (sc f))∧zB w w':=by
 have Hmay:=zh (fun w=>y0s x w h);clear h
 go_enter func21,ntmps21
 go_wp2_with (first|(refine Zw rfl TS (.tmp 0) rfl (sc f) (by rfl) ?_;intro g1 w1 hg1 hk1 hb1)|(refine Zv rfl TS rfl Tk ?_;intro g2 w2 hg2 hk2 hb2))
 have Hg:Hid (w.heap.size≤g1∧w.heap.size≤g2∧g1≠g2):=⟨hg1,znt hb1.size hg2,by have:=hk1.lt;omega⟩
 have Hb:Hid (zB w w2):=hb1.trans (hb2.mono hb1.size);have Hk1:Hid (Blk w2 g1 TS (sc f)):=hk1.ext hb2;have Hk2:=zh hk2;clear hg1 hg2 hb1 hb2 hk1 hk2;refine(Hmay.out w2).mono ?_;rintro e w3 ⟨rfl,rfl⟩
 go_wp2_with (first|(refine Z7 rfl TS (.tmp 2) rfl g1 f TS (by rfl) Yz Hk1.out ?_)|(refine Yx rfl TS (.tmp 4) (.tmp 15) rfl g2 f _ TS (by rfl) (by rfl) Yz Hk2.out ?_;intro w4 hk4 ht4 _))
 refine bodyPost_ret (v:=.agg (sc f)) ?_ rfl ?_
 ·exact Vw Yz rfl _ _ g2 f (by rfl) hk4
 ·exact⟨rfl,Hb.out.trans (ht4.below Hb.out.size (fun i hi=>by subst hi;exact Hg.out.2.1))⟩
theorem z45 (f:Nat→Bool)(x:Int)(w:World):Calls prog 21 #[.agg (sc f),.int .i64 x] w fun e w'=>e=.returned (.agg (sc (YW f x)))∧zB w w':=by
 by_cases h:x<0∨1024≤x
 ·rw[←y0t f x h];exact y9m f x w h
 ·obtain⟨n,rfl⟩:∃n:Nat,x=(n:Int):=⟨x.toNat,by omega⟩
  exact y4s f n w (by omega)
theorem jT (f:Nat→Bool)(k:Nat)(hk:k<16)(w:World):(Instr.index TS (.agg (sc f)) (.int .i64 k)).run prog w=.ok (.int .u64 (wd f k:Nat)) w:=by
 have hu:=underlying32;have he:=underlying24;have hsz:∀w,(sizeOf 24).run prog w=.ok 1 w:=fun w=>by kernel_rfl
 have h2:¬16≤k:=by omega
 have hg:(sc f)[k]? =some (.int .u64 (wd f k:Nat)):=qE f k hk;simp[Instr.index,run_underlying hu,asIntOf,part,isAgg,run_underlying he,hsz,h2,hg,Result.andThen]
section
variable {ops:Array Oper} {rest:List Oper} {o:Oper} {a:Act} {w:World} {Q:Exit→Act→World→Prop}
theorem Lx (hgd:o.guard=none)(x y:Operand)(ho:o.op=.index TS x y)(f:Nat→Bool)(k:Nat)(hx:a.eval x=.agg (sc f))(hy:a.eval y=.int .i64 k)(hk:k<16)
  (h:wpList prog ops Q rest (a.put o.dst (.int .u64 (wd f k:Nat))) w):wpList prog ops Q (o::rest) a w:=by
 refine wpList_plain hgd fun K hK=> ?_
 have hk2:=hK _ _ h;unfold Oper.wp execOp;simp only[ho,hx,hy,Sem.run_bind,Sem.run_pure,Result.andThen_ok,jT f k hk];exact hk2
end
theorem E5 (f:Nat→Bool)(w:World):Calls prog 14 #[.agg (sc f)] w fun e w'=>e=.returned (.int .i64 (cnt f 1024:Nat))∧zB w w':=by
 have Hp:=zh (x02 f)
 go_enter func14,ntmps14
 go_wp2_with (first
  | (refine Zw rfl TS (.tmp 0) rfl (sc f) (by rfl) ?_;intro g1 w1 hg1 hk1 hb1)
  | (refine Z7 rfl TS (.tmp 1) rfl g1 f TS (by rfl) Yz hk1 ?_))
 have Hb:=zh hb1;clear hg1 hb1 hk1
 go_loopw [3,5,7] (fun s _ i wr=>∃k c:Nat,s=.int .i64 c∧i=.int .i64 k∧k≤16∧c≤64*k∧Hid (c=cnt f (64*k))∧Hid (zB w wr)) (fun _ _ i _=>16-(intOf i).toNat)
 case atStart=>exact⟨0,0,rfl,rfl,by omega,by omega,rfl,Hb⟩
 case round=>
  obtain⟨k,c,rfl,rfl,hk,hc,he,HB⟩:=hrel
  by_cases hlt:k<16
  ·have hlt2:(k:Int)<16:=by omega
   have h1:=y3v (wd f k) wr (M1 f k);have h2:=Hp.out k;rw[←he.out] at h2;have h3:=y3t (wd f k);generalize pop (wd f k)=p at*;have H1:=zh h1;have H2:=zh h2;clear h1 h2 he
   go_wp2_with (first|(refine Lx rfl (.tmp 6) (.tmp 7) rfl f k (by rfl) (by rfl) hlt ?_))
   refine H1.out.mono ?_;rintro e w' ⟨rfl,rfl⟩;go_wp2
   go_roundw
   case rel=>exact⟨k+1,c+p,by go_num,by go_num,by omega,by omega,H2,HB⟩
   case measure=>simp[intOf];omega
  ·obtain rfl:k=16:=by omega
   go_wp2;go_ret;exact⟨by rw[show 1024=64*16 from rfl,←he.out];rfl,HB.out⟩
def y3m (f:Nat→Bool)(x:Int)(m:Nat):Bool:=f m&& !decide ((m:Int)=x)
theorem y4t (f:Nat→Bool)(x:Int)(h:x<0∨1024≤x):sc f=sc (y3m f x):=ZV (fun m hm=>by
 have:decide ((m:Int)=x)=false:=zdf (by omega);unfold y3m;rw[this];simp)
theorem y4u (f:Nat→Bool)(n:Nat)(h:n<1024)(v P R:Nat)(hv:wd f (n/64)=v)(hP:2^(n%64)=P)(hR:v&&&(18446744073709551615-P)=R):
  (sc f).setIfInBounds (n/64) (.int .u64 (R:Nat))=sc (y3m f n):=by
 refine z30 f _ (n/64) R (by omega) ?_ (fun m hm hne=> ?_)
 ·have hp:=G7 n;rw[←hR,←hv,←hP];refine z1t (Nat.lt_of_le_of_lt Nat.and_le_left (M1 f _)) (fun i hi=> ?_);rw[Nat.testBit_and,M2 f _ i hi,z8p hp i hi,Nat.testBit_two_pow];have e:decide (n%64=i)=decide (((64*(n/64)+i:Nat):Int)=(n:Int)):=by
   rw[Bool.eq_iff_iff,decide_eq_true_iff,decide_eq_true_iff];omega
  unfold y3m;rw[e]
 ·have:decide ((m:Int)=(n:Int))=false:=zdf (by omega);unfold y3m;rw[this];simp
theorem z2a (f:Nat→Bool)(n:Nat)(w:World)(h:n<1024):Calls prog 72 #[.agg (sc f),.int .i64 n] w fun e w'=>e=.returned (.agg (sc (y3m f n)))∧zB w w':=by
 have e1:(n:Int).tdiv 64=((n/64:Nat):Int):=rfl;have hq:n/64<16:=by omega
 have hq2:((n/64:Nat):Int)<16:=by omega
 have q0:(0:Int)≤((n/64:Nat):Int):=by omega
 have qw:IntKind.i64.wrap ((n/64:Nat):Int)=((n/64:Nat):Int):=by rw[IntKind.wrap_i64];omega
 have hbit:=z19 n;have hv:=M1 f (n/64);have hP:=G7 n;have hcell:=fun(w1:World) (g1:Nat) (hk:Blk w1 g1 TS (sc f))=>hk.word (n/64) hq
 have hset:=y4u f n h;have hmay:=fun w=>z18 n w h
 have hblk:=fun(w1:World) (g1:Nat) (hk:Blk w1 g1 TS (sc f)) (v:Value)=>hk.set (n/64) v
 obtain⟨P,hPe⟩:∃P,2^(n%64)=P:=⟨_,rfl⟩
 obtain⟨v,hve⟩:∃v,wd f (n/64)=v:=⟨_,rfl⟩
 obtain⟨R,hR⟩:∃R,v&&&(18446744073709551615-P)=R:=⟨_,rfl⟩
 have hset2:=hset v P R hve hPe hR;rw[hPe] at hP hbit;rw[hve] at hv hcell;generalize n/64=q at*;have e2:bits .andNot .u64 (v:Int) (P:Int)=(R:Int):=by rw[u64_andNot_nat v P hv hP,hR]
 have Hbit:=zh hbit;have Hcell:=zh hcell;have Hset:=zh hset2;have Hmay:=zh hmay;have Hblk:=zh hblk;generalize y3m f n=F at*;clear hbit hcell hR hv hP hset hset2 hPe hve hmay h hblk
 go_enter func72,ntmps72
 go_wp2_with (first|(refine Zw rfl TS (.tmp 0) rfl (sc f) (by rfl) ?_;intro g1 w1 hg1 hk1 hb1)|(refine Zv rfl TS rfl Tk ?_;intro g2 w2 hg2 hk2 hb2))
 have Hg:Hid (w.heap.size≤g1∧w.heap.size≤g2∧g1≠g2):=⟨hg1,znt hb1.size hg2,by have:=hk1.lt;omega⟩
 have Hb:Hid (zB w w2):=hb1.trans (hb2.mono hb1.size);have Hk1:Hid (Blk w2 g1 TS (sc f)):=hk1.ext hb2;have Hk2:=zh hk2;clear hg1 hg2 hb1 hb2 hk1 hk2;refine(Hmay.out w2).mono ?_;rintro e w3 ⟨rfl,rfl⟩;go_wp2_with fail;refine rgs (F:=fun i=>i=g1) (.rd 0 (.rd 1 (.rd 2 (.rd 4 (.two 3 (.call 5 (.rd 6 (.rd 7 (.call 8 .done)))) 5 (.call 3 (.rd 6 (.rd 7 (.call 8 .done))))))))) (h:= ?_);have HB:Hid (zB w w2.drew):=Hb.out.drew;have HK1:Hid (Blk w2.drew g1 TS (sc f)):=Hk1.out;have HK2:Hid (Blk w2.drew g2 TS (sc (fun _=>false))):=Hk2.out;clear Hb Hk1 Hk2;generalize w2.drew=w3 at*;have c0:=Hcell.out w3 g1 HK1.out;have f0:=HK1.out.fz q;have HT:Hid (Zx (fun i=>i=g1) w3 (w3.setCell ⟨g1,q,none⟩ (.int .u64 R))):=(Zx.refl _ _).setCell _ (fun _=>rfl);have HK1b:Hid (Blk (w3.setCell ⟨g1,q,none⟩ (.int .u64 R)) g1 TS (sc F)):=by
  rw[←Hset.out];exact Hblk.out w3 g1 HK1.out _
 have HK2b:Hid (Blk (w3.setCell ⟨g1,q,none⟩ (.int .u64 R)) g2 TS (sc (fun _=>false))):=HK2.out.turn HT.out (fun h=>Hg.out.2.2 h.symm);have HBb:Hid (zB w (w3.setCell ⟨g1,q,none⟩ (.int .u64 R))):=HB.out.setCell Hg.out.1 _;clear HK1 HK2 HB;iterate 4 (refine gsr (v:= ?_) rfl (by rfl) ?_ ?_;rotate_left;(intro w' hw';go_simp;with_reducible rfl);simp only[Act.put,zs0,zs1,zs2])
 refine⟨?_,?_⟩
 ·skip
  refine gsc rfl (by rfl) (fun K hK=> ?_);go_simp;refine hK _ _ (Zx.refl _ _) ?_;clear hK K;refine gsc rfl (by rfl) (fun K hK=> ?_);go_simp;refine(Hbit.out w3).mono ?_;rintro e w4 ⟨rfl,rfl⟩;refine hK _ _ (Zx.refl _ _) ?_;clear hK K;iterate 2 (refine gsr (v:= ?_) rfl (by rfl) ?_ ?_;rotate_left;(intro w' hw';go_simp;with_reducible rfl);simp only[Act.put,zs0,zs1,zs2])
  refine gsc rfl (by rfl) (fun K hK=> ?_);go_simp;refine hK _ _ HT.out ?_;clear hK K c0 f0 HT;generalize w3.setCell ⟨g1,q,none⟩ (.int .u64 R)=w4 at*;refine Zy ?_
  go_wp2_with (first|(refine Z7 rfl TS (.tmp 2) rfl g1 F TS (by rfl) Yz HK1b.out ?_)|(refine Yx rfl TS (.tmp 4) (.tmp 15) rfl g2 F _ TS (by rfl) (by rfl) Yz HK2b.out ?_;intro w5 hk5 ht5 _))
  refine bodyPost_ret (v:=.agg (sc F)) ?_ rfl ?_
  ·exact Vw Yz rfl _ _ g2 F (by rfl) hk5
  ·exact⟨rfl,HBb.out.trans (ht5.below HBb.out.size (fun i hi=>by subst hi;exact Hg.out.2.1))⟩
 ·skip
  refine gsc rfl (by rfl) (fun K hK=> ?_);go_simp;refine(Hbit.out w3).mono ?_;rintro e w4 ⟨rfl,rfl⟩;refine hK _ _ (Zx.refl _ _) ?_;clear hK K;refine gsc rfl (by rfl) (fun K hK=> ?_);go_simp;refine hK _ _ (Zx.refl _ _) ?_;clear hK K;iterate 2 (refine gsr (v:= ?_) rfl (by rfl) ?_ ?_;rotate_left;(intro w' hw';go_simp;with_reducible rfl);simp only[Act.put,zs0,zs1,zs2])
  refine gsc rfl (by rfl) (fun K hK=> ?_);go_simp;refine hK _ _ HT.out ?_;clear hK K c0 f0 HT;generalize w3.setCell ⟨g1,q,none⟩ (.int .u64 R)=w4 at*;refine Zy ?_
  go_wp2_with (first|(refine Z7 rfl TS (.tmp 2) rfl g1 F TS (by rfl) Yz HK1b.out ?_)|(refine Yx rfl TS (.tmp 4) (.tmp 15) rfl g2 F _ TS (by rfl) (by rfl) Yz HK2b.out ?_;intro w5 hk5 ht5 _))
  refine bodyPost_ret (v:=.agg (sc F)) ?_ rfl ?_
  ·exact Vw Yz rfl _ _ g2 F (by rfl) hk5
  ·exact⟨rfl,HBb.out.trans (ht5.below HBb.out.size (fun i hi=>by subst hi;exact Hg.out.2.1))⟩
theorem z6x (f:Nat→Bool)(x:Int)(w:World)(h:x<0∨1024≤x):Calls prog 72 #[.agg (sc f),.int .i64 x] w fun e w'=>e=.returned (.agg (sc f))∧zB w w':=by
 have Hmay:=zh (fun w=>y0s x w h);clear h
 go_enter func72,ntmps72
 go_wp2_with (first|(refine Zw rfl TS (.tmp 0) rfl (sc f) (by rfl) ?_;intro g1 w1 hg1 hk1 hb1)|(refine Zv rfl TS rfl Tk ?_;intro g2 w2 hg2 hk2 hb2))
 have Hg:Hid (w.heap.size≤g1∧w.heap.size≤g2∧g1≠g2):=⟨hg1,znt hb1.size hg2,by have:=hk1.lt;omega⟩
 have Hb:Hid (zB w w2):=hb1.trans (hb2.mono hb1.size);have Hk1:Hid (Blk w2 g1 TS (sc f)):=hk1.ext hb2;have Hk2:=zh hk2;clear hg1 hg2 hb1 hb2 hk1 hk2;refine(Hmay.out w2).mono ?_;rintro e w3 ⟨rfl,rfl⟩
 go_wp2_with (first|(refine Z7 rfl TS (.tmp 2) rfl g1 f TS (by rfl) Yz Hk1.out ?_)|(refine Yx rfl TS (.tmp 4) (.tmp 15) rfl g2 f _ TS (by rfl) (by rfl) Yz Hk2.out ?_;intro w4 hk4 ht4 _))
 refine bodyPost_ret (v:=.agg (sc f)) ?_ rfl ?_
 ·exact Vw Yz rfl _ _ g2 f (by rfl) hk4
 ·exact⟨rfl,Hb.out.trans (ht4.below Hb.out.size (fun i hi=>by subst hi;exact Hg.out.2.1))⟩
theorem z2b (f:Nat→Bool)(x:Int)(w:World):Calls prog 72 #[.agg (sc f),.int .i64 x] w fun e w'=>e=.returned (.agg (sc (y3m f x)))∧zB w w':=by
 by_cases h:x<0∨1024≤x
 ·rw[←y4t f x h];exact z6x f x w h
 ·obtain⟨n,rfl⟩:∃n:Nat,x=(n:Int):=⟨x.toNat,by omega⟩
  exact z2a f n w (by omega)
theorem Lz (f g:Nat→Bool)(w:World):Calls prog 10 #[.agg (sc f),.agg (sc g)] w fun e w'=>e=.returned (.agg (sc (fun m=>f m&& !g m)))∧zB w w':=by
 have H:=zh (z8s (fun a b=>a&& !b) f g)
 go_enter func10,ntmps10
 go_wp2_with (first
  | (show wpList _ _ _ (⟨some 2,_,_,_,_,_⟩::_) _ _;refine Zw rfl TS (.tmp 0) rfl (sc f) (by rfl) ?_;intro g1 w1 hg1 hk1 hb1)
  | (show wpList _ _ _ (⟨some 3,_,_,_,_,_⟩::_) _ _;refine Zw rfl TS (.tmp 1) rfl (sc g) (by rfl) ?_;intro g2 w2 hg2 hk2 hb2)
  | (refine Zv rfl TS rfl Tk ?_;intro g3 w3 hg3 hk3 hb3))
 have Hg:Hid (w.heap.size≤g1∧w.heap.size≤g3∧g2≠g1∧g3≠g1):=⟨hg1,by have:=hb1.size;have:=hb2.size;omega,by have:=hk1.lt;omega,by have:=hk1.lt;have:=hb2.size;omega⟩
 have Hb:Hid (zB w w3):=(hb1.trans (hb2.mono hb1.size)).trans (hb3.mono (hb1.trans (hb2.mono hb1.size)).size);have Hk:Hid (Blk w3 g1 TS (sc f)∧Blk w3 g2 TS (sc g)∧Blk w3 g3 TS (sc (fun _=>false))):=⟨(hk1.ext hb2).ext hb3,hk2.ext hb3,hk3⟩
 clear hg1 hg2 hg3 hk1 hk2 hk3 hb1 hb2 hb3
 go_loopw [5,6] (fun _ i wr=>∃k:Nat,i=.int .i64 k∧k≤16∧Hid (Blk wr g1 TS (sc (z1p (fun a b=>a&& !b) f g k))∧Blk wr g2 TS (sc g)∧Blk wr g3 TS (sc (fun _=>false)))∧Hid (zB w wr)) (fun _ i _=>16-(intOf i).toNat)
 case atStart=>exact⟨0,rfl,by omega,by rw[z34];exact Hk,Hb⟩
 case round=>
  obtain⟨k,rfl,hk,HK,HB⟩:=hrel
  by_cases hlt:k<16
  ·have hlt2:(k:Int)<16:=by omega
   have k0:(0:Int)≤(k:Int):=by omega
   have qw:IntKind.i64.wrap (k:Int)=(k:Int):=by rw[IntKind.wrap_i64];omega
   have hstep:=z36 (fun a b=>a&& !b) f g k _ hlt (y71 f g k);have hword:=z35 (fun a b=>a&& !b) f g k;obtain⟨F2,hF2⟩:∃F2,z1p (fun a b=>a&& !b) f g (k+1)=F2:=⟨_,rfl⟩
   rw[hF2] at hstep;have HF2:=zh hF2;clear hF2;generalize z1p (fun a b=>a&& !b) f g k=F1 at*;obtain⟨R,hR⟩:∃R,wd f k&&&(18446744073709551615-wd g k)=R:=⟨_,rfl⟩
   have e2:bits .andNot .u64 (wd f k:Nat) (wd g k:Nat)=(R:Int):=by rw[u64_andNot_nat _ _ (M1 f k) (M1 g k),hR]
   have hc1:=fun(w1:World) (h:Blk w1 g1 TS (sc F1))=>h.word k hlt
   have hc2:=fun(w1:World) (h:Blk w1 g2 TS (sc g))=>h.word k hlt
   rw[hword] at hc1;rw[hR] at hstep;generalize wd f k=v1 at*;generalize wd g k=v2 at*;have Hc:=zh (zai hc1 hc2);have Hs:=zh hstep;clear hstep hword hR hc1 hc2 H;go_wp2_with fail;refine rgt (F:=fun i=>i=g1) [(0,true),(1,true),(3,true),(4,true),(5,true),(2,false),(6,true),(7,true),(8,false)] (h:= ?_);have HB2:Hid (zB w wr.drew):=HB.out.drew;have HK2:Hid (Blk wr.drew g1 TS (sc F1)∧Blk wr.drew g2 TS (sc g)∧Blk wr.drew g3 TS (sc (fun _=>false))):=HK.out;clear HB HK;generalize wr.drew=w3 at*;have c0:=Hc.out.1 w3 HK2.out.1;have f0:=HK2.out.1.fz k;have c1:∀w',Zx (fun i=>i=g1) w3 w'→w'.cell? ⟨g2,k,none⟩=some (.int .u64 v2):=fun w' ht=>Hc.out.2 w' (HK2.out.2.1.turn ht Hg.out.2.2.1)
   have HT:Hid (Zx (fun i=>i=g1) w3 (w3.setCell ⟨g1,k,none⟩ (.int .u64 R))):=(Zx.refl _ _).setCell _ (fun _=>rfl);have HK3:Hid (Blk (w3.setCell ⟨g1,k,none⟩ (.int .u64 R)) g1 TS (sc F2)∧Blk (w3.setCell ⟨g1,k,none⟩ (.int .u64 R)) g2 TS (sc g)∧Blk (w3.setCell ⟨g1,k,none⟩ (.int .u64 R)) g3 TS (sc (fun _=>false))):=⟨by rw[←Hs.out];exact HK2.out.1.set k _,HK2.out.2.1.turn HT.out Hg.out.2.2.1,HK2.out.2.2.turn HT.out Hg.out.2.2.2⟩
   have HB3:Hid (zB w (w3.setCell ⟨g1,k,none⟩ (.int .u64 R))):=HB2.out.setCell Hg.out.1 _;clear HK2 HB2;iterate 5 (refine gtr (v:= ?_) rfl (by rfl) ?_ ?_;rotate_left;(intro w' hw';go_simp;with_reducible rfl);simp only[Act.put,zs0,zs1,zs2])
   refine gtc rfl (by rfl) (fun K hK=> ?_);go_simp;refine hK _ _ (Zx.refl _ _) ?_;clear hK K;iterate 2 (refine gtr (v:= ?_) rfl (by rfl) ?_ ?_;rotate_left;(intro w' hw';go_simp;with_reducible rfl);simp only[Act.put,zs0,zs1,zs2])
   refine gtc rfl (by rfl) (fun K hK=> ?_);go_simp;refine hK _ _ HT.out ?_;clear hK K c0 f0 HT c1;generalize w3.setCell ⟨g1,k,none⟩ (.int .u64 R)=w4 at*;refine Yj ?_;go_wp2
   go_roundw
   case rel=>exact⟨k+1,by go_num,by omega,by rw[HF2.out];exact HK3,HB3⟩
   case measure=>simp[intOf];omega
  ·obtain rfl:k=16:=by omega
   have HK2:=zh HK.out;rw[H.out] at HK2;clear HK
   go_wp2_with (first|(refine Z7 rfl TS (.tmp 2) rfl g1 _ TS (by rfl) Yz HK2.out.1 ?_)|(refine Yx rfl TS (.tmp 4) (.tmp 18) rfl g3 _ _ TS (by rfl) (by rfl) Yz HK2.out.2.2 ?_;intro w5 hk5 ht5 _))
   refine bodyPost_ret (v:=.agg (sc (fun m=>f m&& !g m))) ?_ rfl ?_
   ·exact Vw Yz rfl _ _ g3 _ (by rfl) hk5
   ·exact⟨rfl,HB.out.trans (ht5.below HB.out.size (fun i hi=>by subst hi;exact Hg.out.2.1))⟩
theorem Kq (f g:Nat→Bool)(w:World):Calls prog 45 #[.agg (sc f),.agg (sc g)] w fun e w'=>e=.returned (.agg (sc (fun m=>f m||g m)))∧zB w w':=by
 have H:=zh (z8s (fun a b=>a||b) f g)
 go_enter func45,ntmps45
 go_wp2_with (first
  | (show wpList _ _ _ (⟨some 2,_,_,_,_,_⟩::_) _ _;refine Zw rfl TS (.tmp 0) rfl (sc f) (by rfl) ?_;intro g1 w1 hg1 hk1 hb1)
  | (show wpList _ _ _ (⟨some 3,_,_,_,_,_⟩::_) _ _;refine Zw rfl TS (.tmp 1) rfl (sc g) (by rfl) ?_;intro g2 w2 hg2 hk2 hb2)
  | (refine Zv rfl TS rfl Tk ?_;intro g3 w3 hg3 hk3 hb3))
 have Hg:Hid (w.heap.size≤g1∧w.heap.size≤g3∧g2≠g1∧g3≠g1):=⟨hg1,by have:=hb1.size;have:=hb2.size;omega,by have:=hk1.lt;omega,by have:=hk1.lt;have:=hb2.size;omega⟩
 have Hb:Hid (zB w w3):=(hb1.trans (hb2.mono hb1.size)).trans (hb3.mono (hb1.trans (hb2.mono hb1.size)).size);have Hk:Hid (Blk w3 g1 TS (sc f)∧Blk w3 g2 TS (sc g)∧Blk w3 g3 TS (sc (fun _=>false))):=⟨(hk1.ext hb2).ext hb3,hk2.ext hb3,hk3⟩
 clear hg1 hg2 hg3 hk1 hk2 hk3 hb1 hb2 hb3
 go_loopw [5,6] (fun _ i wr=>∃k:Nat,i=.int .i64 k∧k≤16∧Hid (Blk wr g1 TS (sc (z1p (fun a b=>a||b) f g k))∧Blk wr g2 TS (sc g)∧Blk wr g3 TS (sc (fun _=>false)))∧Hid (zB w wr)) (fun _ i _=>16-(intOf i).toNat)
 case atStart=>exact⟨0,rfl,by omega,by rw[z34];exact Hk,Hb⟩
 case round=>
  obtain⟨k,rfl,hk,HK,HB⟩:=hrel
  by_cases hlt:k<16
  ·have hlt2:(k:Int)<16:=by omega
   have k0:(0:Int)≤(k:Int):=by omega
   have qw:IntKind.i64.wrap (k:Int)=(k:Int):=by rw[IntKind.wrap_i64];omega
   have hstep:=z36 (fun a b=>a||b) f g k _ hlt (x3a f g k);have hword:=z35 (fun a b=>a||b) f g k;obtain⟨F2,hF2⟩:∃F2,z1p (fun a b=>a||b) f g (k+1)=F2:=⟨_,rfl⟩
   rw[hF2] at hstep;have HF2:=zh hF2;clear hF2;generalize z1p (fun a b=>a||b) f g k=F1 at*;obtain⟨R,hR⟩:∃R,wd f k|||wd g k=R:=⟨_,rfl⟩
   have e2:bits .or .u64 (wd f k:Nat) (wd g k:Nat)=(R:Int):=by rw[u64_or_nat _ _ (M1 f k) (M1 g k),hR]
   have hc1:=fun(w1:World) (h:Blk w1 g1 TS (sc F1))=>h.word k hlt
   have hc2:=fun(w1:World) (h:Blk w1 g2 TS (sc g))=>h.word k hlt
   rw[hword] at hc1;rw[hR] at hstep;generalize wd f k=v1 at*;generalize wd g k=v2 at*;have Hc:=zh (zai hc1 hc2);have Hs:=zh hstep;clear hstep hword hR hc1 hc2 H;go_wp2_with fail;refine rgt (F:=fun i=>i=g1) [(0,true),(1,true),(3,true),(4,true),(5,true),(2,false),(6,true),(7,true),(8,false)] (h:= ?_);have HB2:Hid (zB w wr.drew):=HB.out.drew;have HK2:Hid (Blk wr.drew g1 TS (sc F1)∧Blk wr.drew g2 TS (sc g)∧Blk wr.drew g3 TS (sc (fun _=>false))):=HK.out;clear HB HK;generalize wr.drew=w3 at*;have c0:=Hc.out.1 w3 HK2.out.1;have f0:=HK2.out.1.fz k;have c1:∀w',Zx (fun i=>i=g1) w3 w'→w'.cell? ⟨g2,k,none⟩=some (.int .u64 v2):=fun w' ht=>Hc.out.2 w' (HK2.out.2.1.turn ht Hg.out.2.2.1)
   have HT:Hid (Zx (fun i=>i=g1) w3 (w3.setCell ⟨g1,k,none⟩ (.int .u64 R))):=(Zx.refl _ _).setCell _ (fun _=>rfl);have HK3:Hid (Blk (w3.setCell ⟨g1,k,none⟩ (.int .u64 R)) g1 TS (sc F2)∧Blk (w3.setCell ⟨g1,k,none⟩ (.int .u64 R)) g2 TS (sc g)∧Blk (w3.setCell ⟨g1,k,none⟩ (.int .u64 R)) g3 TS (sc (fun _=>false))):=⟨by rw[←Hs.out];exact HK2.out.1.set k _,HK2.out.2.1.turn HT.out Hg.out.2.2.1,HK2.out.2.2.turn HT.out Hg.out.2.2.2⟩
   have HB3:Hid (zB w (w3.setCell ⟨g1,k,none⟩ (.int .u64 R))):=HB2.out.setCell Hg.out.1 _;clear HK2 HB2;iterate 5 (refine gtr (v:= ?_) rfl (by rfl) ?_ ?_;rotate_left;(intro w' hw';go_simp;with_reducible rfl);simp only[Act.put,zs0,zs1,zs2])
   refine gtc rfl (by rfl) (fun K hK=> ?_);go_simp;refine hK _ _ (Zx.refl _ _) ?_;clear hK K;iterate 2 (refine gtr (v:= ?_) rfl (by rfl) ?_ ?_;rotate_left;(intro w' hw';go_simp;with_reducible rfl);simp only[Act.put,zs0,zs1,zs2])
   refine gtc rfl (by rfl) (fun K hK=> ?_);go_simp;refine hK _ _ HT.out ?_;clear hK K c0 f0 HT c1;generalize w3.setCell ⟨g1,k,none⟩ (.int .u64 R)=w4 at*;refine Yj ?_;go_wp2
   go_roundw
   case rel=>exact⟨k+1,by go_num,by omega,by rw[HF2.out];exact HK3,HB3⟩
   case measure=>simp[intOf];omega
  ·obtain rfl:k=16:=by omega
   have HK2:=zh HK.out;rw[H.out] at HK2;clear HK
   go_wp2_with (first|(refine Z7 rfl TS (.tmp 2) rfl g1 _ TS (by rfl) Yz HK2.out.1 ?_)|(refine Yx rfl TS (.tmp 4) (.tmp 18) rfl g3 _ _ TS (by rfl) (by rfl) Yz HK2.out.2.2 ?_;intro w5 hk5 ht5 _))
   refine bodyPost_ret (v:=.agg (sc (fun m=>f m||g m))) ?_ rfl ?_
   ·exact Vw Yz rfl _ _ g3 _ (by rfl) hk5
   ·exact⟨rfl,HB.out.trans (ht5.below HB.out.size (fun i hi=>by subst hi;exact Hg.out.2.1))⟩
end Go.Proofs.YtdgladhfibfdlaaGreatDoor
