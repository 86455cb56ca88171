/-
  Steps.
-/
import Derived.Test.YtdnfhjfbanhhcaaGreatDoorQLBk09
import Derived.Test.YtdnfhjfbanhhcaaGreatDoorProg
namespace Go.Proofs.YtdnfhjfbanhhcaaGreatDoor
open Go.RowKit
theorem y4j:∀(l:List Nat),lead l<l.length→l.getD (lead l) 0≠0→1≤valR (l.take (lead l+1))
 | [],h,_=>by simp[lead] at h
 | x::r,h,h0=>by
  unfold lead at h h0⊢
  by_cases hx:x<128
  ·rw[if_pos hx] at h0⊢
   simp[valR] at h0⊢
   omega
  ·rw[if_neg hx] at h h0⊢
   rw[List.take_succ_cons,valR];have:=y4j r (by simpa using h) (by simpa using h0);omega
theorem x3x:∀(l:List Nat),lead l<l.length→(0<lead l→l.getD (lead l) 0≠0)→vs (valR (l.take (lead l+1)))=lead l+1
 | [],h,_=>by simp[lead] at h
 | x::r,h,h0=>by
  unfold lead at h h0⊢
  by_cases hx:x<128
  ·rw[if_pos hx];simp only[List.take_succ_cons,List.take_zero,valR];rw[z1k (by omega)]
  ·rw[if_neg hx] at h h0⊢
   rw[List.take_succ_cons,valR];have h2:r.getD (lead r) 0≠0:=by simpa using h0 (by omega)
   have h3:lead r<r.length:=by simpa using h
   have h1:=y4j r h3 h2;rw[z21 (by omega),show(x%128+128*valR (r.take (lead r+1)))/128=valR (r.take (lead r+1)) by omega,x3x r h3 (fun _=>h2)]
theorem gt_vs {l:List Nat}(h:(gt l).2.2=0):(gt l).2.1=vs (gt l).1∧(gt l).2.1≤l.length:=by
 unfold gt at h⊢
 split at h
 ·exact absurd h (by simp)
 ·split at h
  ·exact absurd h (by simp)
  ·split at h
   ·exact absurd h (by simp)
   ·rename_i h1 h2 h3
    rw[if_neg h1,if_neg h2,if_neg h3];refine⟨(x3x l (by omega) (fun h0 h4=>h3 ⟨h0,h4⟩)).symm,?_⟩;show lead l+1≤_;omega
theorem y2g {S:RS}{m:Nat}(h:(numS S m).2.wr=false):S.l.length=vs (numS S m).1+(numS S m).2.l.length:=by
 obtain⟨h1,h2,h3⟩:=y6c h;rw[h1];have:=gt_vs h2;simp only[zld];omega
theorem y0u {S:RS}{m:Nat}(h:(z0g S m).2.wr=false):S.l.length=vs (z0g S m).1.length+(z0g S m).1.length+(z0g S m).2.l.length∧(numS S m).2.wr=false∧(z0g S m).1.length=(numS S m).1:=by
 by_cases h1:(numS S m).2.wr=false∧(numS S m).1≤(numS S m).2.l.length
 ·have h2:=y2g h1.1;rw[z2l h1.1 h1.2];simp only[zlk,zld];rw[Nat.min_eq_left h1.2];exact⟨by omega,h1.1,rfl⟩
 ·rw[z16 h1] at h;cases h
theorem z8k (l:List Nat):(bstr l).size=l.length:=z58 l
theorem x7u {l r:List Nat}{c:Ce}(h:z5f l=some (c,r)):l.length=z32 c.k c.n+r.length:=by
 unfold z5f at h;simp only at h;split at h
 ·cases h
 ·rename_i hw
  have hN:(numS (z0g ⟨l,false⟩ 40).2 2048).2.wr=false:=by simpa using hw
  have hB:(z0g ⟨l,false⟩ 40).2.wr=false:=by
   cases hb:(z0g ⟨l,false⟩ 40).2.wr with
   | false=>rfl
   | true=>
    exfalso
    have h9:z0g ⟨l,false⟩ 40=([],⟨[],true⟩):=by
     by_cases h1:(numS ⟨l,false⟩ 40).2.wr=false∧(numS ⟨l,false⟩ 40).1≤(numS ⟨l,false⟩ 40).2.l.length
     ·rw[z2l h1.1 h1.2] at hb;cases hb
     ·exact z16 h1
    rw[h9,y1t 2048 rfl] at hN
    cases hN
  have h1:=(y0u hB).1;have h2:=y2g hN;simp only at h1;split at h
  ·rename_i h64
   split at h
   ·rename_i hl
    cases h
    unfold z32;simp only[z8k,zld,Int.toNat_natCast];rw[if_pos (by omega)];omega
   ·cases h
  ·rename_i h64
   split at h
   ·rename_i hl
    cases h
    unfold z32;simp only[z8k,zld,Int.toNat_natCast];rw[if_neg (by omega)];omega
   ·cases h
def szC (cs:List Ce):Nat:=(cs.map (fun c=>z32 c.k c.n)).sum
theorem q2e (a b:List Ce):szC (a++b)=szC a+szC b:=by unfold szC;rw[List.map_append,List.sum_append]
theorem x3y:∀(n:Nat) (l:List Nat) (cs:List Ce) (r:List Nat),decN n l=some (cs,r)→l.length=szC cs+r.length∧cs.length=n
 | 0,l,cs,r,h=>by unfold decN at h;cases h;exact⟨by simp[szC],rfl⟩
 | n+1,l,cs,r,h=>by
  unfold decN at h;split at h
  ·cases h
  ·rename_i cs1 r1 h1
   have h2:=x3y n l cs1 r1 h1;split at h
   ·cases h
   ·rename_i c r2 h3
    have h4:=x7u h3;split at h
    ·cases h
     rw[q2e,zla];have:szC [c]=z32 c.k c.n:=by simp[szC]
     rw[this];exact⟨by omega,by rw[h2.2];rfl⟩
    ·cases h
theorem z46 {l:List Nat}{cs:List Ce}(h:decS l=some cs):l.length=vs cs.length+szC cs∧(∀c∈cs,mayB c=true)∧asc cs∧l.length≤504:=by
 unfold decS at h;split at h
 ·cases h
 ·split at h
  ·cases h
  ·rename_i h5 hw
   have hw':(numS ⟨l,false⟩ 504).2.wr=false:=by simpa using hw
   have h1:=y2g hw';split at h
   ·cases h
   ·rename_i cs1 r h2
    have h3:=x3y _ _ _ _ h2;split at h
    ·rename_i h4
     cases h
     refine⟨?_,x7e h2,h4.2,by omega⟩;rw[h4.1] at h3;simp only[List.length_nil] at h3;rw[h3.2];simp only at h1;omega
    ·cases h
theorem x3z {l r:List Nat}{k:ByteArray}{p:Int}(h:z2t l=some (k,p,r)):l.length=3+k.size+r.length:=by
 unfold z2t at h;simp only at h;split at h
 ·cases h
 ·rename_i hw
  have hB:(z0g ⟨l,false⟩ 40).2.wr=false:=by simpa using hw
  obtain⟨h1,h2,h3⟩:=y0u hB;have h4:=z80 (⟨l,false⟩:RS) 40;split at h
  ·cases h
  ·cases h
   simp only at h1;simp only[z8k,zld];rw[z1k (by omega)] at h1;omega
theorem y8w:∀(f:Nat) (l:List Nat) (ks:List ByteArray) (ps:List Int),decF f l=some (ks,ps)→l.length=kss ks
 | 0,l,ks,ps,h=>by
  unfold decF at h;split at h
  ·rename_i h0;cases h;rw[h0];rfl
  ·cases h
 | f+1,l,ks,ps,h=>by
  unfold decF at h;split at h
  ·rename_i h0;cases h;rw[h0];rfl
  ·split at h
   ·cases h
   ·rename_i k p r hp
    cases hd:decF f r with
    | none=>rw[hd] at h;cases h
    | some x=>
     rw[hd] at h
     cases h
     have h1:=x3z hp;have h2:=y8w f r x.1 x.2 hd;unfold kss at h2⊢
     rw[List.map_cons,List.sum_cons];omega
theorem z9g {l:List Nat}{ks:List ByteArray}{ps:List Int}(h:z22 l=some (ks,ps)):l.length=brSz ks∧mayF ks ps∧l.length≤504:=by
 unfold z22 at h;split at h
 ·cases h
 ·rename_i h5
  split at h
  ·cases h
  ·rename_i ks1 ps1 h1
   split at h
   ·rename_i hm
    cases h
    have:=y8w _ _ _ _ h1;rw[zld] at this;unfold brSz;exact⟨by omega,hm,by omega⟩
   ·cases h
end Go.Proofs.YtdnfhjfbanhhcaaGreatDoor
namespace Go.Proofs.YtdnfhjfbanhhcaaGreatDoor
open Go Go.RowKit
abbrev TS:TypeId:=39
theorem Blk.word {w:World}{b:Nat}{t:TypeId}{f:Nat→Bool}(h:Blk w b t (sc f))(i:Nat)(hi:i<16):w.cell? ⟨b,i,none⟩=some (.int .u64 (wd f i:Nat)):=by rw[h.cell,y3k f i hi]
def ArrT (t:TypeId)(n:Nat):Prop:=(∃e,Tryz.prog.underlying t=some (.array n e))∧(Tryz.prog.info? t).map (·.size)=some n
theorem z0i:ArrT TS 16:=⟨⟨_,Tryz.underlying39⟩,by kernel_rfl⟩
theorem q4n (f:Nat→Bool):(sc f).all (·.oneCell')=true:=by
 rw[Array.all_eq_true_iff_forall_mem];intro u hu;simp only[sc,List.mem_toArray,List.mem_map] at hu;obtain⟨k,_,rfl⟩:=hu
 rfl
theorem z18:ArrZ TS (sc (fun _=>false)):=fun w=>by kernel_rfl
theorem z70 {t t2:TypeId}{n:Nat}(hT:ArrT t n)(w:World)(g:Nat)(cs:Array Value)(hg:Blk w g t2 cs)(hn:cs.size=n):(loadVar t ⟨g,0,none⟩).run Tryz.prog w=.ok (.agg cs) w:=by
 obtain⟨⟨e,hu⟩,hi⟩:=hT;exact run_loadVar_row w g t2 t cs _ _ hg hu rfl (by rw[hi,hn])
section
variable {ops:Array Oper} {rest:List Oper} {o:Oper} {a:Act} {w:World} {K:Act→World→Prop} {Q:Exit→Act→World→Prop}
theorem y6p (t:TypeId)(x:Operand)(ho:o.op=.load t x)(g:Nat)(cs:Array Value)(t2:TypeId)(hx:a.eval x=.pointer (some ⟨g,0,none⟩)){n:Nat}(hT:ArrT t n)(hg:Blk w g t2 cs)(hn:cs.size=n):
  (execOp a.eval o).run Tryz.prog w=.ok (.value (.agg cs)) w:=by
 unfold execOp;simp only[ho,hx,Instr.loadAt,Instr.sureAddr,Sem.run_bind,Sem.run_pure,Result.andThen_ok,z70 hT w g cs hg hn]
theorem z7f (t:TypeId)(x:Operand)(ho:o.op=.load t x)(g:Nat)(f:Nat→Bool)(t2:TypeId)(hx:a.eval x=.pointer (some ⟨g,0,none⟩))(hT:ArrT t 16)(hg:Blk w g t2 (sc f)):
  (execOp a.eval o).run Tryz.prog w=.ok (.value (.agg (sc f))) w:=y6p t x ho g _ t2 hx hT hg (z3h f)
theorem y4k (t:TypeId)(x y:Operand)(ho:o.op=.store t x y)(g:Nat)(cs old:Array Value)(t2:TypeId)(hx:a.eval x=.pointer (some ⟨g,0,none⟩))(hy:a.eval y=.agg cs){n:Nat}(hT:ArrT t n)(hg:Blk w g t2 old)(hn:cs.size=n)(hold:old.size=n)(h1:cs.all (·.oneCell')=true)
  (h:∀w',Blk w' g t2 cs→Turn (fun i=>i=g) w w'→w'.heap.size=w.heap.size→K (a.put o.dst undef) w'):o.wp Tryz.prog a w K Q:=by
 have hk:=h (w.setRow g cs) (setRow_heap w g _ _ _ _ hg) ⟨rfl,rfl,rfl,by simp,fun i _ hne=>setRow_other w g i _ hne⟩ (by simp);exact wp_store_row t x y ho g cs hx hy t2 _ hg (by rw[hT.2,hn]) (by rw[hn,hold]) h1 hk
theorem z1d (t:TypeId)(x y:Operand)(ho:o.op=.store t x y)(g:Nat)(f f0:Nat→Bool)(t2:TypeId)(hx:a.eval x=.pointer (some ⟨g,0,none⟩))(hy:a.eval y=.agg (sc f))(hT:ArrT t 16)(hg:Blk w g t2 (sc f0))
  (h:∀w',Blk w' g t2 (sc f)→Turn (fun i=>i=g) w w'→w'.heap.size=w.heap.size→K (a.put o.dst undef) w'):o.wp Tryz.prog a w K Q:=
 y4k t x y ho g _ _ t2 hx hy hT hg (z3h f) (z3h f0) (q4n f) h
theorem z0j (hgd:o.guard=none)(t:TypeId)(x y:Operand)(ho:o.op=.store t x y)(g:Nat)(f f0:Nat→Bool)(t2:TypeId)(hx:a.eval x=.pointer (some ⟨g,0,none⟩))(hy:a.eval y=.agg (sc f))(hT:ArrT t 16)(hg:Blk w g t2 (sc f0))
  (h:∀w',Blk w' g t2 (sc f)→Turn (fun i=>i=g) w w'→w'.heap.size=w.heap.size→wpList Tryz.prog ops Q rest (a.put o.dst undef) w'):wpList Tryz.prog ops Q (o::rest) a w:=
 wpList_plain hgd fun _ hK=>z1d t x y ho g f f0 t2 hx hy hT hg fun w' h1 h2 h3=>hK _ _ (h w' h1 h2 h3)
theorem z0e (hgd:o.guard=none)(t:TypeId)(x:Operand)(ho:o.op=.load t x)(g:Nat)(f:Nat→Bool)(t2:TypeId)(hx:a.eval x=.pointer (some ⟨g,0,none⟩))(hT:ArrT t 16)(hg:Blk w g t2 (sc f))
  (h:wpList Tryz.prog ops Q rest (a.put o.dst (.agg (sc f))) w):wpList Tryz.prog ops Q (o::rest) a w:=by
 obtain⟨⟨e,hu⟩,hi⟩:=hT;exact wpList_load_row hgd t x ho g hx t2 _ _ _ hg hu rfl (by rw[hi,z3h]) h
end
theorem z1h {fn:Func}{p:Tmp}{t t2:TypeId}(hT:ArrT t 16)(h:fn.results= #[.cell p t])(tmps:Array Value)(w:World)(g:Nat)(f:Nat→Bool)(hp:tmps.getD p undef=.pointer (some ⟨g,0,none⟩))(hg:Blk w g t2 (sc f)):
  (results fn tmps).run Tryz.prog w=.ok (.agg (sc f)) w:=by
 obtain⟨⟨e,hu⟩,hi⟩:=hT;exact results_cell_row h tmps w g t2 _ _ _ hp hg hu rfl (by rw[hi,z3h])
theorem y8x:Tryz.prog.eqGuardType Tryz.prog.depth TS=false:=by kernel_rfl
section
variable {P:Program} (w:World)
theorem z7g (d:Nat)(t e:TypeId)(n:Nat)(ht:P.underlying t=some (.array n e))(he:P.underlying e=some (.int .u64))(hsz:∀w,(sizeOf e).run P w=.ok 1 w)
  (xs:List Nat) (hx:xs.length=n) (cs:Array Value) (hc:cs=(xs.map (fun k:Nat=>Value.int .u64 k)).toArray):
  (Op.equalIn (d+2) t (.agg cs) (.agg cs)).run P w=.ok true w:=by
 rw[hc,Op.equalIn];simp only[Sem.run_bind,run_underlying ht,Result.andThen_ok,hsz,Std.Legacy.Range.forIn_eq_forIn_range',Std.Legacy.Range.size,Nat.sub_zero,Nat.add_sub_cancel,Nat.div_one];have hl:∀i∈List.range' 0 n 1,i<n:=fun i hi=>by simpa using (List.mem_range'_1.1 hi).2
 generalize List.range' 0 n 1=l at hl⊢
 induction l with
 | nil=>simp
 | cons i l ih=>
  have hi:i<n:=hl i (by simp);have px:(part e (xs.map (fun k:Nat=>Value.int .u64 k)).toArray (i*1)).run P w=.ok (.int .u64 (xs.getD i 0:Nat)) w:=by
   simp[part,isAgg,run_underlying he,List.getD,List.getElem?_eq_getElem (show i<xs.length by omega)]
  have pe:(Op.equalIn (d+1) e (.int .u64 (xs.getD i 0:Nat)) (.int .u64 (xs.getD i 0:Nat))).run P w=.ok true w:=by
   rw[run_equalIn_int w d e .u64 .u64 _ _ he];simp
  simp only[List.forIn_cons,Sem.run_bind,px,pe,Result.andThen_ok];simp only[Bool.not_true,Bool.false_eq_true,if_false,Sem.run_pure,Result.andThen_ok];exact ih fun j hj=>hl j (by simp[hj])
end
theorem y8y (f:Nat→Bool)(w:World):(Op.equalIn 10000 TS (.agg (sc f)) (.agg (sc f))).run Tryz.prog w=.ok true w:=
 z7g w 9998 TS 37 16 Tryz.underlying39 Tryz.underlying37 (fun w=>by kernel_rfl) ((List.range 16).map (wd f)) (by simp) _ (by unfold sc;rw[List.map_map];rfl)
theorem x0l (f:Nat→Bool)(w:World):(binOp .eql TS (.agg (sc f)) (.agg (sc f))).run Tryz.prog w=.ok (.bool true) w:=by
 rw[run_eql_struct,y8y f w];rfl
theorem x0m (f:Nat→Bool)(w:World):(binOp .neq TS (.agg (sc f)) (.agg (sc f))).run Tryz.prog w=.ok (.bool false) w:=by
 rw[run_neq_struct,y8y f w];rfl
section
variable {ops:Array Oper} {rest:List Oper} {o:Oper} {a:Act} {w:World} {K:Act→World→Prop} {Q:Exit→Act→World→Prop}
theorem x30 (x y:Operand)(rt:TypeId)(ho:o.op=.binOp .eql TS x y rt)(f g:Nat→Bool)(hx:a.eval x=.agg (sc f))(hy:a.eval y=.agg (sc g))(h:sc g=sc f):
  (execOp a.eval o).run Tryz.prog w=.ok (.value (.bool true)) w:=by
 rw[h] at hy;unfold execOp;simp only[ho,hx,hy,Sem.run_bind,Sem.run_pure,Result.andThen_ok,run_eqGuard_agg (hm:=y8x),x0l]
theorem x31 (x y:Operand)(rt:TypeId)(ho:o.op=.binOp .neq TS x y rt)(f g:Nat→Bool)(hx:a.eval x=.agg (sc f))(hy:a.eval y=.agg (sc g))(h:sc g=sc f):
  (execOp a.eval o).run Tryz.prog w=.ok (.value (.bool false)) w:=by
 rw[h] at hy;unfold execOp;simp only[ho,hx,hy,Sem.run_bind,Sem.run_pure,Result.andThen_ok,run_eqGuard_agg (hm:=y8x),x0m]
end
theorem x32 (n:Nat)(w:World)(h:n<1024):Calls Tryz.prog 79 #[.int .i64 n] w fun e w'=>e=.returned (.bool true)∧w=w':=by
 have h1:(n:Int)<1024:=by omega
 go_enter Tryz.func79,Tryz.ntmps79
 go_wp2;go_ret;exact⟨rfl,rfl⟩
theorem q0d (x:Int)(w:World)(h:x<0∨1024≤x):Calls Tryz.prog 79 #[.int .i64 x] w fun e w'=>e=.returned (.bool false)∧w=w':=by
 by_cases h0:x<0
 ·have h1:decide (0≤x)=false:=zdf (by omega);clear h h0
  go_enter Tryz.func79,Tryz.ntmps79
  go_wp2;go_ret;exact⟨rfl,rfl⟩
 ·have h1:decide (0≤x)=true:=zdt (by omega);have h2:decide (x<1024)=false:=zdf (by omega);clear h h0
  go_enter Tryz.func79,Tryz.ntmps79
  go_wp2;go_ret;exact⟨rfl,rfl⟩
theorem x33 (n:Nat)(w:World):Calls Tryz.prog 80 #[.int .i64 n] w fun e w'=>e=.returned (.int .u64 (2^(n%64):Nat))∧w=w':=by
 have e1:(n:Int).tmod 64=((n%64:Nat):Int):=rfl;have hk:n%64<64:=by omega
 have e2:=y7y (n%64) hk;generalize n%64=k at*;have E2:=zh e2;clear e2
 go_enter Tryz.func80,Tryz.ntmps80
 go_wp2;go_ret;exact⟨by rw[←E2.out];rfl,rfl⟩
theorem z8l (n:Nat):2^(n%64)<18446744073709551616:=by
 have h:2^(n%64)<2^64:=Nat.pow_lt_pow_right (by decide) (by omega);have e:2^64=18446744073709551616:=by decide
 omega
def z9h (f:Nat→Bool)(x:Int)(m:Nat):Bool:=f m||decide ((m:Int)=x)
theorem x34 (f:Nat→Bool)(x:Int)(h:x<0∨1024≤x):sc f=sc (z9h f x):=z8s (fun m hm=>by
 have:decide ((m:Int)=x)=false:=zdf (by omega);unfold z9h;rw[this];simp)
theorem x35 (f:Nat→Bool)(n:Nat)(h:n<1024)(v P R:Nat)(hv:wd f (n/64)=v)(hP:2^(n%64)=P)(hR:v|||P=R):
  (sc f).setIfInBounds (n/64) (.int .u64 (R:Nat))=sc (z9h f n):=by
 refine y7z f _ (n/64) R (by omega) ?_ (fun m hm hne=> ?_)
 ·have hp:=z8l n;rw[←hR,←hv,←hP];refine y6a (Nat.or_lt_two_pow (n:=64) (z5e f _) hp) (fun i hi=> ?_);rw[Nat.testBit_or,z5h f _ i hi,Nat.testBit_two_pow];have e:decide (n%64=i)=decide (((64*(n/64)+i:Nat):Int)=(n:Int)):=by
   rw[Bool.eq_iff_iff,decide_eq_true_iff,decide_eq_true_iff];omega
  unfold z9h;rw[e]
 ·have:decide ((m:Int)=(n:Int))=false:=zdf (by omega);unfold z9h;rw[this];simp
set_option maxRecDepth 100000 in
theorem x7v (f:Nat→Bool)(n:Nat)(w:World)(h:n<1024):Calls Tryz.prog 75 #[.agg (sc f),.int .i64 n] w fun e w'=>e=.returned (.agg (sc (z9h f n)))∧Below w.heap.size w w':=by
 have e1:(n:Int).tdiv 64=((n/64:Nat):Int):=rfl;have hq:n/64<16:=by omega
 have hq2:((n/64:Nat):Int)<16:=by omega
 have q0:(0:Int)≤((n/64:Nat):Int):=by omega
 have qw:IntKind.i64.wrap ((n/64:Nat):Int)=((n/64:Nat):Int):=by rw[IntKind.wrap_i64];omega
 have hbit:=x33 n;have hv:=z5e f (n/64);have hP:=z8l n;have hcell:=fun(w1:World) (g1:Nat) (hk:Blk w1 g1 TS (sc f))=>hk.word (n/64) hq
 have hset:=x35 f n h;have hmay:=fun w=>x32 n w h
 have hblk:=fun(w1:World) (g1:Nat) (hk:Blk w1 g1 TS (sc f)) (v:Value)=>hk.set (n/64) v
 obtain⟨P,hPe⟩:∃P,2^(n%64)=P:=⟨_,rfl⟩
 obtain⟨v,hve⟩:∃v,wd f (n/64)=v:=⟨_,rfl⟩
 obtain⟨R,hR⟩:∃R,v|||P=R:=⟨_,rfl⟩
 have hset2:=hset v P R hve hPe hR;rw[hPe] at hP hbit;rw[hve] at hv hcell;generalize n/64=q at*;have e2:bits .or .u64 (v:Int) (P:Int)=(R:Int):=by rw[u64_or_nat v P hv hP,hR]
 have Hbit:=zh hbit;have Hcell:=zh hcell;have Hset:=zh hset2;have Hmay:=zh hmay;have Hblk:=zh hblk;generalize z9h f n=F at*;clear hbit hcell hR hv hP hset hset2 hPe hve hmay h hblk
 go_enter Tryz.func75,Tryz.ntmps75
 go_wp2_with (first|(refine z0q rfl TS (.tmp 0) rfl (sc f) (by rfl) ?_;intro g1 w1 hg1 hk1 hb1)|(refine z0o rfl TS rfl z18 ?_;intro g2 w2 hg2 hk2 hb2))
 have Hg:Hid (w.heap.size≤g1∧w.heap.size≤g2∧g1≠g2):=⟨hg1,znt hb1.size hg2,by have:=hk1.lt;omega⟩
 have Hb:Hid (Below w.heap.size w w2):=hb1.trans (hb2.mono hb1.size);have Hk1:Hid (Blk w2 g1 TS (sc f)):=hk1.ext hb2;have Hk2:=zh hk2;clear hg1 hg2 hb1 hb2 hk1 hk2;refine(Hmay.out w2).mono ?_;rintro e w3 ⟨rfl,rfl⟩;go_wp2_with fail;refine z0l (F:=fun i=>i=g1) (.rd 0 (.rd 1 (.rd 2 (.rd 4 (.two 3 (.call 5 (.rd 6 (.rd 7 (.call 8 .done)))) 5 (.call 3 (.rd 6 (.rd 7 (.call 8 .done))))))))) (by kernel_rfl) (by kernel_rfl) (by kernel_rfl) (by kernel_rfl) (fun _ _ _ _ _ h=>h) ?_;have HB:Hid (Below w.heap.size w w2.drew):=Hb.out.drew;have HK1:Hid (Blk w2.drew g1 TS (sc f)):=Hk1.out;have HK2:Hid (Blk w2.drew g2 TS (sc (fun _=>false))):=Hk2.out;clear Hb Hk1 Hk2;generalize w2.drew=w3 at*;have c0:=Hcell.out w3 g1 HK1.out;have f0:=HK1.out.fz q;have HT:Hid (Turn (fun i=>i=g1) w3 (w3.setCell ⟨g1,q,none⟩ (.int .u64 R))):=(Turn.refl _ _).setCell _ (fun _=>rfl);have HK1b:Hid (Blk (w3.setCell ⟨g1,q,none⟩ (.int .u64 R)) g1 TS (sc F)):=by
  rw[←Hset.out];exact Hblk.out w3 g1 HK1.out _
 have HK2b:Hid (Blk (w3.setCell ⟨g1,q,none⟩ (.int .u64 R)) g2 TS (sc (fun _=>false))):=HK2.out.turn HT.out (fun h=>Hg.out.2.2 h.symm);have HBb:Hid (Below w.heap.size w (w3.setCell ⟨g1,q,none⟩ (.int .u64 R))):=HB.out.setCell Hg.out.1 _;clear HK1 HK2 HB;iterate 4 (refine gsr (v:= ?_) rfl (by rfl) ?_ ?_;rotate_left;(intro w' hw';go_simp;with_reducible rfl);simp only[Act.put,zs0,zs1,zs2])
 refine⟨?_,?_⟩
 ·skip
  refine gsc rfl (by rfl) (fun K hK=> ?_);go_simp;refine hK _ _ (Turn.refl _ _) ?_;clear hK K;refine gsc rfl (by rfl) (fun K hK=> ?_);go_simp;refine(Hbit.out w3).mono ?_;rintro e w4 ⟨rfl,rfl⟩;refine hK _ _ (Turn.refl _ _) ?_;clear hK K;iterate 2 (refine gsr (v:= ?_) rfl (by rfl) ?_ ?_;rotate_left;(intro w' hw';go_simp;with_reducible rfl);simp only[Act.put,zs0,zs1,zs2])
  refine gsc rfl (by rfl) (fun K hK=> ?_);go_simp;refine hK _ _ HT.out ?_;clear hK K c0 f0 HT;generalize w3.setCell ⟨g1,q,none⟩ (.int .u64 R)=w4 at*;refine z0a ?_
  go_wp2_with (first|(refine z0e rfl TS (.tmp 2) rfl g1 F TS (by rfl) z0i HK1b.out ?_)|(refine z0j rfl TS (.tmp 4) (.tmp 15) rfl g2 F _ TS (by rfl) (by rfl) z0i HK2b.out ?_;intro w5 hk5 ht5 _))
  refine bodyPost_ret (v:=.agg (sc F)) ?_ rfl ?_
  ·exact z1h z0i rfl _ _ g2 F (by rfl) hk5
  ·exact⟨rfl,HBb.out.trans (ht5.below HBb.out.size (fun i hi=>by subst hi;exact Hg.out.2.1))⟩
 ·skip
  refine gsc rfl (by rfl) (fun K hK=> ?_);go_simp;refine(Hbit.out w3).mono ?_;rintro e w4 ⟨rfl,rfl⟩;refine hK _ _ (Turn.refl _ _) ?_;clear hK K;refine gsc rfl (by rfl) (fun K hK=> ?_);go_simp;refine hK _ _ (Turn.refl _ _) ?_;clear hK K;iterate 2 (refine gsr (v:= ?_) rfl (by rfl) ?_ ?_;rotate_left;(intro w' hw';go_simp;with_reducible rfl);simp only[Act.put,zs0,zs1,zs2])
  refine gsc rfl (by rfl) (fun K hK=> ?_);go_simp;refine hK _ _ HT.out ?_;clear hK K c0 f0 HT;generalize w3.setCell ⟨g1,q,none⟩ (.int .u64 R)=w4 at*;refine z0a ?_
  go_wp2_with (first|(refine z0e rfl TS (.tmp 2) rfl g1 F TS (by rfl) z0i HK1b.out ?_)|(refine z0j rfl TS (.tmp 4) (.tmp 15) rfl g2 F _ TS (by rfl) (by rfl) z0i HK2b.out ?_;intro w5 hk5 ht5 _))
  refine bodyPost_ret (v:=.agg (sc F)) ?_ rfl ?_
  ·exact z1h z0i rfl _ _ g2 F (by rfl) hk5
  ·exact⟨rfl,HBb.out.trans (ht5.below HBb.out.size (fun i hi=>by subst hi;exact Hg.out.2.1))⟩
theorem q2f (f:Nat→Bool)(x:Int)(w:World)(h:x<0∨1024≤x):Calls Tryz.prog 75 #[.agg (sc f),.int .i64 x] w fun e w'=>e=.returned (.agg (sc f))∧Below w.heap.size w w':=by
 have Hmay:=zh (fun w=>q0d x w h);clear h
 go_enter Tryz.func75,Tryz.ntmps75
 go_wp2_with (first|(refine z0q rfl TS (.tmp 0) rfl (sc f) (by rfl) ?_;intro g1 w1 hg1 hk1 hb1)|(refine z0o rfl TS rfl z18 ?_;intro g2 w2 hg2 hk2 hb2))
 have Hg:Hid (w.heap.size≤g1∧w.heap.size≤g2∧g1≠g2):=⟨hg1,znt hb1.size hg2,by have:=hk1.lt;omega⟩
 have Hb:Hid (Below w.heap.size w w2):=hb1.trans (hb2.mono hb1.size);have Hk1:Hid (Blk w2 g1 TS (sc f)):=hk1.ext hb2;have Hk2:=zh hk2;clear hg1 hg2 hb1 hb2 hk1 hk2;refine(Hmay.out w2).mono ?_;rintro e w3 ⟨rfl,rfl⟩
 go_wp2_with (first|(refine z0e rfl TS (.tmp 2) rfl g1 f TS (by rfl) z0i Hk1.out ?_)|(refine z0j rfl TS (.tmp 4) (.tmp 15) rfl g2 f _ TS (by rfl) (by rfl) z0i Hk2.out ?_;intro w4 hk4 ht4 _))
 refine bodyPost_ret (v:=.agg (sc f)) ?_ rfl ?_
 ·exact z1h z0i rfl _ _ g2 f (by rfl) hk4
 ·exact⟨rfl,Hb.out.trans (ht4.below Hb.out.size (fun i hi=>by subst hi;exact Hg.out.2.1))⟩
theorem y8z (f:Nat→Bool)(x:Int)(w:World):Calls Tryz.prog 75 #[.agg (sc f),.int .i64 x] w fun e w'=>e=.returned (.agg (sc (z9h f x)))∧Below w.heap.size w w':=by
 by_cases h:x<0∨1024≤x
 ·rw[←x34 f x h];exact q2f f x w h
 ·obtain⟨n,rfl⟩:∃n:Nat,x=(n:Int):=⟨x.toNat,by omega⟩
  exact x7v f n w (by omega)
theorem y4l (f:Nat→Bool)(k:Nat)(hk:k<16)(w:World):(Instr.index TS (.agg (sc f)) (.int .i64 k)).run Tryz.prog w=.ok (.int .u64 (wd f k:Nat)) w:=by
 have hu:=Tryz.underlying39;have he:=Tryz.underlying37;have hsz:∀w,(sizeOf 37).run Tryz.prog w=.ok 1 w:=fun w=>by kernel_rfl
 have h2:¬16≤k:=by omega
 have hg:(sc f)[k]? =some (.int .u64 (wd f k:Nat)):=y3k f k hk;simp[Instr.index,run_underlying hu,asIntOf,part,isAgg,run_underlying he,hsz,h2,hg,Result.andThen]
section
variable {ops:Array Oper} {rest:List Oper} {o:Oper} {a:Act} {w:World} {Q:Exit→Act→World→Prop}
theorem z4p (hgd:o.guard=none)(x y:Operand)(ho:o.op=.index TS x y)(f:Nat→Bool)(k:Nat)(hx:a.eval x=.agg (sc f))(hy:a.eval y=.int .i64 k)(hk:k<16)
  (h:wpList Tryz.prog ops Q rest (a.put o.dst (.int .u64 (wd f k:Nat))) w):wpList Tryz.prog ops Q (o::rest) a w:=by
 refine wpList_plain hgd fun K hK=> ?_
 have hk2:=hK _ _ h;unfold Oper.wp execOp;simp only[ho,hx,hy,Sem.run_bind,Sem.run_pure,Result.andThen_ok,y4l f k hk];exact hk2
end
set_option maxRecDepth 100000 in
theorem y0v (f:Nat→Bool)(w:World):Calls Tryz.prog 22 #[.agg (sc f)] w fun e w'=>e=.returned (.int .i64 (cnt f 1024:Nat))∧Below w.heap.size w w':=by
 have Hp:=zh (q3x f)
 go_enter Tryz.func22,Tryz.ntmps22
 go_wp2_with (first
  | (refine z0q rfl TS (.tmp 0) rfl (sc f) (by rfl) ?_;intro g1 w1 hg1 hk1 hb1)
  | (refine z0e rfl TS (.tmp 1) rfl g1 f TS (by rfl) z0i hk1 ?_))
 have Hb:=zh hb1;clear hg1 hb1 hk1
 go_loopw [3,5,7] (fun s _ i wr=>∃k c:Nat,s=.int .i64 c∧i=.int .i64 k∧k≤16∧c≤64*k∧Hid (c=cnt f (64*k))∧Hid (Below w.heap.size w wr)) (fun _ _ i _=>16-(intOf i).toNat)
 case atStart=>exact⟨0,0,rfl,rfl,by omega,by omega,rfl,Hb⟩
 case round=>
  obtain⟨k,c,rfl,rfl,hk,hc,he,HB⟩:=hrel
  by_cases hlt:k<16
  ·have hlt2:(k:Int)<16:=by omega
   have h1:=x6x (wd f k) wr (z5e f k);have h2:=Hp.out k;rw[←he.out] at h2;have h3:=x6w (wd f k);generalize pop (wd f k)=p at*;have H1:=zh h1;have H2:=zh h2;clear h1 h2 he
   go_wp2_with (first|(refine z4p rfl (.tmp 6) (.tmp 7) rfl f k (by rfl) (by rfl) hlt ?_))
   refine H1.out.mono ?_;rintro e w' ⟨rfl,rfl⟩;go_wp2
   go_roundw
   case rel=>exact⟨k+1,c+p,by go_num,by go_num,by omega,by omega,H2,HB⟩
   case measure=>simp[intOf];omega
  ·obtain rfl:k=16:=by omega
   go_wp2;go_ret;exact⟨by rw[show 1024=64*16 from rfl,←he.out];rfl,HB.out⟩
def outR (f:Nat→Bool)(x:Int)(m:Nat):Bool:=f m&& !decide ((m:Int)=x)
theorem x7w (f:Nat→Bool)(x:Int)(h:x<0∨1024≤x):sc f=sc (outR f x):=z8s (fun m hm=>by
 have:decide ((m:Int)=x)=false:=zdf (by omega);unfold outR;rw[this];simp)
theorem x7x (f:Nat→Bool)(n:Nat)(h:n<1024)(v P R:Nat)(hv:wd f (n/64)=v)(hP:2^(n%64)=P)(hR:v&&&(18446744073709551615-P)=R):
  (sc f).setIfInBounds (n/64) (.int .u64 (R:Nat))=sc (outR f n):=by
 refine y7z f _ (n/64) R (by omega) ?_ (fun m hm hne=> ?_)
 ·have hp:=z8l n;rw[←hR,←hv,←hP];refine y6a (Nat.lt_of_le_of_lt Nat.and_le_left (z5e f _)) (fun i hi=> ?_);rw[Nat.testBit_and,z5h f _ i hi,x1x hp i hi,Nat.testBit_two_pow];have e:decide (n%64=i)=decide (((64*(n/64)+i:Nat):Int)=(n:Int)):=by
   rw[Bool.eq_iff_iff,decide_eq_true_iff,decide_eq_true_iff];omega
  unfold outR;rw[e]
 ·have:decide ((m:Int)=(n:Int))=false:=zdf (by omega);unfold outR;rw[this];simp
set_option maxRecDepth 100000 in
theorem y6q (f:Nat→Bool)(n:Nat)(w:World)(h:n<1024):Calls Tryz.prog 51 #[.agg (sc f),.int .i64 n] w fun e w'=>e=.returned (.agg (sc (outR f n)))∧Below w.heap.size w w':=by
 have e1:(n:Int).tdiv 64=((n/64:Nat):Int):=rfl;have hq:n/64<16:=by omega
 have hq2:((n/64:Nat):Int)<16:=by omega
 have q0:(0:Int)≤((n/64:Nat):Int):=by omega
 have qw:IntKind.i64.wrap ((n/64:Nat):Int)=((n/64:Nat):Int):=by rw[IntKind.wrap_i64];omega
 have hbit:=x33 n;have hv:=z5e f (n/64);have hP:=z8l n;have hcell:=fun(w1:World) (g1:Nat) (hk:Blk w1 g1 TS (sc f))=>hk.word (n/64) hq
 have hset:=x7x f n h;have hmay:=fun w=>x32 n w h
 have hblk:=fun(w1:World) (g1:Nat) (hk:Blk w1 g1 TS (sc f)) (v:Value)=>hk.set (n/64) v
 obtain⟨P,hPe⟩:∃P,2^(n%64)=P:=⟨_,rfl⟩
 obtain⟨v,hve⟩:∃v,wd f (n/64)=v:=⟨_,rfl⟩
 obtain⟨R,hR⟩:∃R,v&&&(18446744073709551615-P)=R:=⟨_,rfl⟩
 have hset2:=hset v P R hve hPe hR;rw[hPe] at hP hbit;rw[hve] at hv hcell;generalize n/64=q at*;have e2:bits .andNot .u64 (v:Int) (P:Int)=(R:Int):=by rw[u64_andNot_nat v P hv hP,hR]
 have Hbit:=zh hbit;have Hcell:=zh hcell;have Hset:=zh hset2;have Hmay:=zh hmay;have Hblk:=zh hblk;generalize outR f n=F at*;clear hbit hcell hR hv hP hset hset2 hPe hve hmay h hblk
 go_enter Tryz.func51,Tryz.ntmps51
 go_wp2_with (first|(refine z0q rfl TS (.tmp 0) rfl (sc f) (by rfl) ?_;intro g1 w1 hg1 hk1 hb1)|(refine z0o rfl TS rfl z18 ?_;intro g2 w2 hg2 hk2 hb2))
 have Hg:Hid (w.heap.size≤g1∧w.heap.size≤g2∧g1≠g2):=⟨hg1,znt hb1.size hg2,by have:=hk1.lt;omega⟩
 have Hb:Hid (Below w.heap.size w w2):=hb1.trans (hb2.mono hb1.size);have Hk1:Hid (Blk w2 g1 TS (sc f)):=hk1.ext hb2;have Hk2:=zh hk2;clear hg1 hg2 hb1 hb2 hk1 hk2;refine(Hmay.out w2).mono ?_;rintro e w3 ⟨rfl,rfl⟩;go_wp2_with fail;refine z0l (F:=fun i=>i=g1) (.rd 0 (.rd 1 (.rd 2 (.rd 4 (.two 3 (.call 5 (.rd 6 (.rd 7 (.call 8 .done)))) 5 (.call 3 (.rd 6 (.rd 7 (.call 8 .done))))))))) (by kernel_rfl) (by kernel_rfl) (by kernel_rfl) (by kernel_rfl) (fun _ _ _ _ _ h=>h) ?_;have HB:Hid (Below w.heap.size w w2.drew):=Hb.out.drew;have HK1:Hid (Blk w2.drew g1 TS (sc f)):=Hk1.out;have HK2:Hid (Blk w2.drew g2 TS (sc (fun _=>false))):=Hk2.out;clear Hb Hk1 Hk2;generalize w2.drew=w3 at*;have c0:=Hcell.out w3 g1 HK1.out;have f0:=HK1.out.fz q;have HT:Hid (Turn (fun i=>i=g1) w3 (w3.setCell ⟨g1,q,none⟩ (.int .u64 R))):=(Turn.refl _ _).setCell _ (fun _=>rfl);have HK1b:Hid (Blk (w3.setCell ⟨g1,q,none⟩ (.int .u64 R)) g1 TS (sc F)):=by
  rw[←Hset.out];exact Hblk.out w3 g1 HK1.out _
 have HK2b:Hid (Blk (w3.setCell ⟨g1,q,none⟩ (.int .u64 R)) g2 TS (sc (fun _=>false))):=HK2.out.turn HT.out (fun h=>Hg.out.2.2 h.symm);have HBb:Hid (Below w.heap.size w (w3.setCell ⟨g1,q,none⟩ (.int .u64 R))):=HB.out.setCell Hg.out.1 _;clear HK1 HK2 HB;iterate 4 (refine gsr (v:= ?_) rfl (by rfl) ?_ ?_;rotate_left;(intro w' hw';go_simp;with_reducible rfl);simp only[Act.put,zs0,zs1,zs2])
 refine⟨?_,?_⟩
 ·skip
  refine gsc rfl (by rfl) (fun K hK=> ?_);go_simp;refine hK _ _ (Turn.refl _ _) ?_;clear hK K;refine gsc rfl (by rfl) (fun K hK=> ?_);go_simp;refine(Hbit.out w3).mono ?_;rintro e w4 ⟨rfl,rfl⟩;refine hK _ _ (Turn.refl _ _) ?_;clear hK K;iterate 2 (refine gsr (v:= ?_) rfl (by rfl) ?_ ?_;rotate_left;(intro w' hw';go_simp;with_reducible rfl);simp only[Act.put,zs0,zs1,zs2])
  refine gsc rfl (by rfl) (fun K hK=> ?_);go_simp;refine hK _ _ HT.out ?_;clear hK K c0 f0 HT;generalize w3.setCell ⟨g1,q,none⟩ (.int .u64 R)=w4 at*;refine z0a ?_
  go_wp2_with (first|(refine z0e rfl TS (.tmp 2) rfl g1 F TS (by rfl) z0i HK1b.out ?_)|(refine z0j rfl TS (.tmp 4) (.tmp 15) rfl g2 F _ TS (by rfl) (by rfl) z0i HK2b.out ?_;intro w5 hk5 ht5 _))
  refine bodyPost_ret (v:=.agg (sc F)) ?_ rfl ?_
  ·exact z1h z0i rfl _ _ g2 F (by rfl) hk5
  ·exact⟨rfl,HBb.out.trans (ht5.below HBb.out.size (fun i hi=>by subst hi;exact Hg.out.2.1))⟩
 ·skip
  refine gsc rfl (by rfl) (fun K hK=> ?_);go_simp;refine(Hbit.out w3).mono ?_;rintro e w4 ⟨rfl,rfl⟩;refine hK _ _ (Turn.refl _ _) ?_;clear hK K;refine gsc rfl (by rfl) (fun K hK=> ?_);go_simp;refine hK _ _ (Turn.refl _ _) ?_;clear hK K;iterate 2 (refine gsr (v:= ?_) rfl (by rfl) ?_ ?_;rotate_left;(intro w' hw';go_simp;with_reducible rfl);simp only[Act.put,zs0,zs1,zs2])
  refine gsc rfl (by rfl) (fun K hK=> ?_);go_simp;refine hK _ _ HT.out ?_;clear hK K c0 f0 HT;generalize w3.setCell ⟨g1,q,none⟩ (.int .u64 R)=w4 at*;refine z0a ?_
  go_wp2_with (first|(refine z0e rfl TS (.tmp 2) rfl g1 F TS (by rfl) z0i HK1b.out ?_)|(refine z0j rfl TS (.tmp 4) (.tmp 15) rfl g2 F _ TS (by rfl) (by rfl) z0i HK2b.out ?_;intro w5 hk5 ht5 _))
  refine bodyPost_ret (v:=.agg (sc F)) ?_ rfl ?_
  ·exact z1h z0i rfl _ _ g2 F (by rfl) hk5
  ·exact⟨rfl,HBb.out.trans (ht5.below HBb.out.size (fun i hi=>by subst hi;exact Hg.out.2.1))⟩
theorem x0n (f:Nat→Bool)(x:Int)(w:World)(h:x<0∨1024≤x):Calls Tryz.prog 51 #[.agg (sc f),.int .i64 x] w fun e w'=>e=.returned (.agg (sc f))∧Below w.heap.size w w':=by
 have Hmay:=zh (fun w=>q0d x w h);clear h
 go_enter Tryz.func51,Tryz.ntmps51
 go_wp2_with (first|(refine z0q rfl TS (.tmp 0) rfl (sc f) (by rfl) ?_;intro g1 w1 hg1 hk1 hb1)|(refine z0o rfl TS rfl z18 ?_;intro g2 w2 hg2 hk2 hb2))
 have Hg:Hid (w.heap.size≤g1∧w.heap.size≤g2∧g1≠g2):=⟨hg1,znt hb1.size hg2,by have:=hk1.lt;omega⟩
 have Hb:Hid (Below w.heap.size w w2):=hb1.trans (hb2.mono hb1.size);have Hk1:Hid (Blk w2 g1 TS (sc f)):=hk1.ext hb2;have Hk2:=zh hk2;clear hg1 hg2 hb1 hb2 hk1 hk2;refine(Hmay.out w2).mono ?_;rintro e w3 ⟨rfl,rfl⟩
 go_wp2_with (first|(refine z0e rfl TS (.tmp 2) rfl g1 f TS (by rfl) z0i Hk1.out ?_)|(refine z0j rfl TS (.tmp 4) (.tmp 15) rfl g2 f _ TS (by rfl) (by rfl) z0i Hk2.out ?_;intro w4 hk4 ht4 _))
 refine bodyPost_ret (v:=.agg (sc f)) ?_ rfl ?_
 ·exact z1h z0i rfl _ _ g2 f (by rfl) hk4
 ·exact⟨rfl,Hb.out.trans (ht4.below Hb.out.size (fun i hi=>by subst hi;exact Hg.out.2.1))⟩
theorem y6r (f:Nat→Bool)(x:Int)(w:World):Calls Tryz.prog 51 #[.agg (sc f),.int .i64 x] w fun e w'=>e=.returned (.agg (sc (outR f x)))∧Below w.heap.size w w':=by
 by_cases h:x<0∨1024≤x
 ·rw[←x7w f x h];exact x0n f x w h
 ·obtain⟨n,rfl⟩:∃n:Nat,x=(n:Int):=⟨x.toNat,by omega⟩
  exact y6q f n w (by omega)
set_option maxRecDepth 100000 in
theorem z4q (f g:Nat→Bool)(w:World):Calls Tryz.prog 26 #[.agg (sc f),.agg (sc g)] w fun e w'=>e=.returned (.agg (sc (fun m=>f m&& !g m)))∧Below w.heap.size w w':=by
 have H:=zh (x10 (fun a b=>a&& !b) f g)
 go_enter Tryz.func26,Tryz.ntmps26
 go_wp2_with (first
  | (show wpList _ _ _ (⟨some 2,_,_,_,_,_⟩::_) _ _;refine z0q rfl TS (.tmp 0) rfl (sc f) (by rfl) ?_;intro g1 w1 hg1 hk1 hb1)
  | (show wpList _ _ _ (⟨some 3,_,_,_,_,_⟩::_) _ _;refine z0q rfl TS (.tmp 1) rfl (sc g) (by rfl) ?_;intro g2 w2 hg2 hk2 hb2)
  | (refine z0o rfl TS rfl z18 ?_;intro g3 w3 hg3 hk3 hb3))
 have Hg:Hid (w.heap.size≤g1∧w.heap.size≤g3∧g2≠g1∧g3≠g1):=⟨hg1,by have:=hb1.size;have:=hb2.size;omega,by have:=hk1.lt;omega,by have:=hk1.lt;have:=hb2.size;omega⟩
 have Hb:Hid (Below w.heap.size w w3):=(hb1.trans (hb2.mono hb1.size)).trans (hb3.mono (hb1.trans (hb2.mono hb1.size)).size);have Hk:Hid (Blk w3 g1 TS (sc f)∧Blk w3 g2 TS (sc g)∧Blk w3 g3 TS (sc (fun _=>false))):=⟨(hk1.ext hb2).ext hb3,hk2.ext hb3,hk3⟩
 clear hg1 hg2 hg3 hk1 hk2 hk3 hb1 hb2 hb3
 go_loopw [5,6] (fun _ i wr=>∃k:Nat,i=.int .i64 k∧k≤16∧Hid (Blk wr g1 TS (sc (mixR (fun a b=>a&& !b) f g k))∧Blk wr g2 TS (sc g)∧Blk wr g3 TS (sc (fun _=>false)))∧Hid (Below w.heap.size w wr)) (fun _ i _=>16-(intOf i).toNat)
 case atStart=>exact⟨0,rfl,by omega,by rw[y72];exact Hk,Hb⟩
 case round=>
  obtain⟨k,rfl,hk,HK,HB⟩:=hrel
  by_cases hlt:k<16
  ·have hlt2:(k:Int)<16:=by omega
   have k0:(0:Int)≤(k:Int):=by omega
   have qw:IntKind.i64.wrap (k:Int)=(k:Int):=by rw[IntKind.wrap_i64];omega
   have hstep:=y74 (fun a b=>a&& !b) f g k _ hlt (q05 f g k);have hword:=y73 (fun a b=>a&& !b) f g k;obtain⟨F2,hF2⟩:∃F2,mixR (fun a b=>a&& !b) f g (k+1)=F2:=⟨_,rfl⟩
   rw[hF2] at hstep;have HF2:=zh hF2;clear hF2;generalize mixR (fun a b=>a&& !b) f g k=F1 at*;obtain⟨R,hR⟩:∃R,wd f k&&&(18446744073709551615-wd g k)=R:=⟨_,rfl⟩
   have e2:bits .andNot .u64 (wd f k:Nat) (wd g k:Nat)=(R:Int):=by rw[u64_andNot_nat _ _ (z5e f k) (z5e g k),hR]
   have hc1:=fun(w1:World) (h:Blk w1 g1 TS (sc F1))=>h.word k hlt
   have hc2:=fun(w1:World) (h:Blk w1 g2 TS (sc g))=>h.word k hlt
   rw[hword] at hc1;rw[hR] at hstep;generalize wd f k=v1 at*;generalize wd g k=v2 at*;have Hc:=zh (zai hc1 hc2);have Hs:=zh hstep;clear hstep hword hR hc1 hc2 H;go_wp2_with fail;refine z0k (F:=fun i=>i=g1) [(0,true),(1,true),(3,true),(4,true),(5,true),(2,false),(6,true),(7,true),(8,false)] (by kernel_rfl) (by kernel_rfl) (by kernel_rfl) (by kernel_rfl) (fun _ _ _ _ _ h=>h) ?_;have HB2:Hid (Below w.heap.size w wr.drew):=HB.out.drew;have HK2:Hid (Blk wr.drew g1 TS (sc F1)∧Blk wr.drew g2 TS (sc g)∧Blk wr.drew g3 TS (sc (fun _=>false))):=HK.out;clear HB HK;generalize wr.drew=w3 at*;have c0:=Hc.out.1 w3 HK2.out.1;have f0:=HK2.out.1.fz k;have c1:∀w',Turn (fun i=>i=g1) w3 w'→w'.cell? ⟨g2,k,none⟩=some (.int .u64 v2):=fun w' ht=>Hc.out.2 w' (HK2.out.2.1.turn ht Hg.out.2.2.1)
   have HT:Hid (Turn (fun i=>i=g1) w3 (w3.setCell ⟨g1,k,none⟩ (.int .u64 R))):=(Turn.refl _ _).setCell _ (fun _=>rfl);have HK3:Hid (Blk (w3.setCell ⟨g1,k,none⟩ (.int .u64 R)) g1 TS (sc F2)∧Blk (w3.setCell ⟨g1,k,none⟩ (.int .u64 R)) g2 TS (sc g)∧Blk (w3.setCell ⟨g1,k,none⟩ (.int .u64 R)) g3 TS (sc (fun _=>false))):=⟨by rw[←Hs.out];exact HK2.out.1.set k _,HK2.out.2.1.turn HT.out Hg.out.2.2.1,HK2.out.2.2.turn HT.out Hg.out.2.2.2⟩
   have HB3:Hid (Below w.heap.size w (w3.setCell ⟨g1,k,none⟩ (.int .u64 R))):=HB2.out.setCell Hg.out.1 _;clear HK2 HB2;iterate 5 (refine gtr (v:= ?_) rfl (by rfl) ?_ ?_;rotate_left;(intro w' hw';go_simp;with_reducible rfl);simp only[Act.put,zs0,zs1,zs2])
   refine gtc rfl (by rfl) (fun K hK=> ?_);go_simp;refine hK _ _ (Turn.refl _ _) ?_;clear hK K;iterate 2 (refine gtr (v:= ?_) rfl (by rfl) ?_ ?_;rotate_left;(intro w' hw';go_simp;with_reducible rfl);simp only[Act.put,zs0,zs1,zs2])
   refine gtc rfl (by rfl) (fun K hK=> ?_);go_simp;refine hK _ _ HT.out ?_;clear hK K c0 f0 HT c1;generalize w3.setCell ⟨g1,k,none⟩ (.int .u64 R)=w4 at*;refine z0z ?_;go_wp2
   go_roundw
   case rel=>exact⟨k+1,by go_num,by omega,by rw[HF2.out];exact HK3,HB3⟩
   case measure=>simp[intOf];omega
  ·obtain rfl:k=16:=by omega
   have HK2:=zh HK.out;rw[H.out] at HK2;clear HK
   go_wp2_with (first|(refine z0e rfl TS (.tmp 2) rfl g1 _ TS (by rfl) z0i HK2.out.1 ?_)|(refine z0j rfl TS (.tmp 4) (.tmp 18) rfl g3 _ _ TS (by rfl) (by rfl) z0i HK2.out.2.2 ?_;intro w5 hk5 ht5 _))
   refine bodyPost_ret (v:=.agg (sc (fun m=>f m&& !g m))) ?_ rfl ?_
   ·exact z1h z0i rfl _ _ g3 _ (by rfl) hk5
   ·exact⟨rfl,HB.out.trans (ht5.below HB.out.size (fun i hi=>by subst hi;exact Hg.out.2.1))⟩
end Go.Proofs.YtdnfhjfbanhhcaaGreatDoor
