/-
  Steps.
-/
import Derived.Test.YtdgladhfibfdlaaGreatDoorRows
import Derived.Lib.LaidTab
import Derived.LaidLaws
import Derived.LaidHandle
import Derived.ChangeBears2
import Derived.Test.YtdgladhfibfdlaaGreatDoorQPSs10
import Derived.Test.YtdgladhfibfdlaaGreatDoorQPSs12
namespace Go.Proofs.YtdgladhfibfdlaaGreatDoor
open Go.RowKit Go.Proofs.Tryz
theorem y9r:ownKnob prog.godebug=none:=by kernel_rfl
theorem x10 : prog.globalNamed "errors.errorType" = some 0 := by kernel_rfl
theorem x11 : (prog.cutTypes.find? (·.1 == "internal/reflectlite.rtype")).map (·.2) = some 193 := by kernel_rfl
theorem y9s:((List.range 340).filter fun t=>prog.rowNamed t [101,114,114,111,114])=[38]:=by kernel_rfl
theorem y42:prog.types.size=340:=by kernel_rfl
abbrev Oz {H : Type} : List (String × DataW H) := [("math/bits.deBruijn64tab", Rows.laid_math_bits_deBruijn64tab), ("errors.errorType", Rows.laid_errors_errorType), ("warren/crc.worth", Rows.laid_warren_crc_worth)]
theorem E9 {W : World} (h : laidMetH prog Oz W) : laidMet prog [("math/bits.deBruijn64tab", Rows.laid_math_bits_deBruijn64tab), ("warren/crc.worth", Rows.laid_warren_crc_worth)] W ∧ handlesMet prog [("errors.errorType", Rows.laid_errors_errorType)] W := h
theorem z60 {W:World}(h:laidMetH prog Oz W):Hg W:=by
 obtain⟨name,u,ty,e1,e2,e3,e4,e5⟩:=(E9 h).2 _ (List.mem_singleton.2 rfl);have en:name=[101,114,114,111,114]:=(Option.some.inj e1).symm;subst en;obtain rfl:=Option.some.inj (x11.symm.trans e2);have hm:ty∈(List.range 340).filter fun t=>prog.rowNamed t [101,114,114,111,114]:=List.mem_filter.2 ⟨List.mem_range.2 (by rw[←y42];exact e3),e4⟩
 rw[y9s] at hm;obtain rfl:=List.mem_singleton.1 hm;have hh:typeHandle prog 38=.pointer (some ⟨3,38,none⟩):=by kernel_rfl
 rw[hh] at e5;have:=World.var?_cell x10 e5 0;unfold Hg
 simpa using this
theorem z0i {P:Program}{x:String×DataW Unit}{r:List (String×DataW Unit)}{W:World}(h:laidMet P (x::r) W):laidMet P r W:=by
 obtain⟨ps,⟨g,t,cs,fuel,p,q,_,_,_,_,hr,rfl⟩,hn,hc⟩:=h;exact⟨q,hr,(List.nodup_append.1 hn).2.1,fun b off hm=>hc b off (List.mem_append_right _ hm)⟩
theorem y09:(M9.map fun n:Nat=>(n:Int))=[0,274646895,549293790,820201905,1098587580,1361435347,1640403810,1905808397,2197175160,2460548119,2722870694,2987750089,3280807620,3553878443,3811616794,4084100981]:=by decide+kernel
theorem z2m {H:Type}:(Rows.laid_warren_crc_worth:DataW H)=Lib.tabData .u32 (M9.map fun n:Nat=>(n:Int)):=by rw[y09];rfl
theorem zY {W:World}(h:laidMetH prog Oz W):Vz W:=by
 have h1:=z0i (E9 h).1;rw[z2m] at h1;have ht:=Lib.tabIs_of_head (P:=prog) (g:=2) (t:=312) (e:=81) (n:=16) (by kernel_rfl) (by kernel_rfl) underlying312 underlying81 (by kernel_rfl) (by kernel_rfl) h1;intro j hj;have:=ht.cell (g:=2) (by kernel_rfl) j (by simpa [M9] using hj);rw[this]
 congr 2
 have hj':j<M9.length:=by simpa [M9] using hj
 simp[List.getD,hj']
theorem y1a {H:Type}:(Rows.laid_math_bits_deBruijn64tab:DataW H)=Lib.tabData .u8 (Lib.deBruijn64tab.map fun n:Nat=>(n:Int)):=rfl
theorem z2n {W:World}(h:laidMetH prog Oz W):I7 W:=by
 have h1:=(E9 h).1;rw[y1a] at h1;have ht:=Lib.tabIs_of_head (P:=prog) (g:=1) (t:=268) (e:=5) (n:=64) (by kernel_rfl) (by kernel_rfl) underlying268 underlying5 (by kernel_rfl) (by kernel_rfl) h1;intro j hj;have:=ht.cell (g:=1) (by kernel_rfl) j (by simpa using hj);rw[this]
 congr 2
 simp[List.getD,hj]
noncomputable def z0j (os:Os):World:=
 let w0:=World.holding prog os ⟨#[],#[],[]⟩
 {w0 with heap:=((w0.heap.modify 0 fun
   | .cells _ t frozen=> .cells #[.iface 193 (.agg #[.pointer (some ⟨3,38,none⟩)])] t frozen
   | o=>o).modify 1 fun
   | .cells _ t frozen=> .cells (Lib.deBruijn64tab.map fun n:Nat=>Value.int .u8 (n:Int)).toArray t frozen
   | o=>o).modify 2 fun
   | .cells _ t frozen=> .cells (M9.map fun n:Nat=>Value.int .u32 (n:Int)).toArray t frozen
   | o=>o}
theorem zZ (os:Os)(args:Array Value):laidMetH prog Oz ((z0j os).forCall (fun _ _=>0) ⟨#[],args,[]⟩).memory:=
 laidMetH_of_parts (laidMet_of_run' 8 (by kernel_rfl) (by kernel_rfl)) (by kernel_rfl)
end Go.Proofs.YtdgladhfibfdlaaGreatDoor
namespace Go.Proofs.YtdgladhfibfdlaaGreatDoor
open Go Go.RowKit Go.Proofs.Tryz
set_option maxRecDepth 100000
abbrev ZT:TypeId:=3
abbrev SZT:TypeId:=101
theorem y1b (w:World)(T:TypeId)(y:Int):(w.alloc (.cells #[.int .i64 y] T)).cell? ⟨w.heap.size,0,none⟩=some (.int .i64 y):=by simp
theorem I7.below {w w':World}(h:I7 w)(hb:zB w w'):I7 w':=fun j hj=>by
 have hc:=h j hj;have hlt:1<w.heap.size:=by
  rcases zng 1 w.heap.size with h1|h1
  ·exact h1
  ·simp[World.cell?,Array.getElem?_eq_none h1] at hc
 rw[hb.cell (p:=⟨1,j,none⟩) hlt];exact hc
def eI (f:Nat→Bool)(k:Nat):List Int:=(els f k).map (fun n:Nat=>(n:Int))
theorem y7c (f:Nat→Bool)(k:Nat):(eI f k).length=cnt f k:=by rw[eI,List.length_map,Eq]
theorem x3k (f:Nat→Bool)(i:Nat)(h:i<cnt f 1024):ia (eI f 1024) i=(el f i:Int):=by
 obtain⟨h1,_⟩:=z8r f i h;rw[ia,List.getD_eq_getElem?_getD,eI,List.getElem?_map,h1];rfl
section
variable {P:Program} {w:World} {ops:Array Oper} {rest:List Oper} {o:Oper} {a:Act} {Q:Exit→Act→World→Prop}
theorem ZC (hg:o.guard=none)(l c:Operand)(t:TypeId)(hop:o.op=Op.makeSlice t l c)
  (h1:P.underlying t=some (.slice ZT)) (h2:(P.info? ZT).map (fun i=>(i.zero,i.size,i.bytes))=some (some (.int .i64 0),1,8))
  (kl kc:IntKind) (n:Nat) (hl:a.eval l=.int kl 0) (hc:a.eval c=.int kc n) (b:n≤1024) (B:Nat) (hB:B≤w.heap.size)
  (hK:∀v w',w'.ownsRow B ZT 1 v ([]:List Int).length (iv [])→zB w w'→wpList P ops Q rest (a.put o.dst v) w'):
  wpList P ops Q (o::rest) a w:=by
 obtain⟨i0,hi,hz0,hz1,hz2⟩:=info_parts h2;refine wpList_make_own w hg l c t hop B ZT i0 (.int .i64 0) 1 h1 hi hz0 hz1 kl kc n n hl hc rfl (by rw[hz2];omega) (by unfold maxLen;omega) hB ?_;intro w1 hown hgrow;exact hK _ w1 hown ((zbr w.heap.size w).grown hgrow (zlr _) (by intro k hk;cases hk))
end
theorem y43 (f:Nat→Bool)(w:World)(hT:I7 w):Calls prog 71 #[.agg (sc f)] w fun e w'=>∃v,e=.returned v∧w'.ownsRow w.heap.size ZT 1 v (eI f 1024).length (iv (eI f 1024))∧zB w w':=by
 have HT:=zh hT;clear hT
 go_enter func71,ntmps71
 go_wp2_with (first
  | (refine Zw rfl TS (.tmp 0) rfl (sc f) (by rfl) ?_;intro g1 w1 hg1 hk1 hb1)
  | (refine Z7 rfl TS (.tmp 1) rfl g1 f TS (by rfl) Yz hk1 ?_))
 refine(E5 f w1).mono ?_;rintro e w2 ⟨rfl,hb2⟩;have hk2:=hk1.ext hb2;have Hb2:Hid (zB w w2):=hb1.trans (hb2.mono hb1.size);have hc4:cnt f 1024≤1024:=z31 f 1024;have Hg:Hid (w.heap.size≤g1):=hg1;clear hb1 hb2 hk1 hg1;generalize cnt f 1024=C at*
 go_wp2_with (first
  | (show wpList _ _ _ (⟨some 8,_,_,_,_,_⟩::_) _ _;refine ZC rfl _ _ SZT rfl underlying101 YF .i64 .i64 C rfl rfl hc4 w.heap.size Hb2.out.size ?_;intro v3 w3 ho3 hb3)
  | (show wpList _ _ _ (⟨some 9,_,_,_,_,_⟩::_) _ _;refine Z7 rfl TS (.tmp 1) rfl g1 f TS (by rfl) Yz (hk2.ext hb3) ?_))
 have Hb3:Hid (zB w w3):=Hb2.out.trans (hb3.mono Hb2.out.size);have Ho3:=zh ho3;clear Hb2 hb3 ho3 hk2 hc4
 go_loopw [3,4,5,10] (fun lv _ _ i wr=>∃(k:Nat) (v:Value),v=lv∧i=.int .i64 k∧k≤16∧Hid (wr.ownsRow w.heap.size ZT 1 v (eI f (64*k)).length (iv (eI f (64*k))))∧Hid (zB w wr)) (fun _ _ _ i _=>16-(intOf i).toNat)
 case atStart=>exact⟨0,v3,rfl,rfl,by omega,Ho3,Hb3⟩
 case round=>
  obtain⟨k,v,rfl,rfl,hk,hown,hB⟩:=hrel;obtain⟨W0,hW0⟩:∃W0,W0=wr:=⟨_,rfl⟩
  subst hW0
  by_cases hlt:k<16
  ·have hlt2:(k:Int)<16:=by omega
   obtain⟨A,hA⟩:∃A,64*k=A:=⟨_,rfl⟩
   have q1:IntKind.i64.wrap ((k:Int)*64)=(A:Int):=by rw[IntKind.wrap_i64];omega
   have HA:=zh hA;have Hw0:=zh (y75 f k)
   go_wp2_with (first|(refine Lx rfl (.tmp 9) (.tmp 10) rfl f k (by rfl) (by rfl) hlt ?_))
   rw[←Hw0.out]
   go_loopw [3,5] (fun lv x wx=>∃(j:Nat) (v2:Value),v2=lv∧x=.int .u64 (wh f k j:Nat)∧j≤64∧Hid (wx.ownsRow w.heap.size ZT 1 v2 (eI f (64*k+j)).length (iv (eI f (64*k+j))))∧Hid (zB w wx)) (fun _ x _=>(intOf x).toNat)
   case atStart=>exact⟨0,v,rfl,rfl,by omega,hown,hB⟩
   case round=>
    obtain⟨j,v2,rfl,rfl,hj,hown2,hB2⟩:=hrel
    by_cases h0:wh f k j=0
    ·have hd:=y76 hj h0;have ho3:Hid (wr.ownsRow w.heap.size ZT 1 v2 (eI f (64*(k+1))).length (iv (eI f (64*(k+1))))):=by
      have:=hown2.out;rw[eI,hd] at this;exact this
     rw[h0];clear hown2 hd h0;go_wp2
     go_roundw
     case rel=>exact⟨k+1,v2,rfl,by go_num,by omega,ho3,hB2⟩
     case measure=>simp[intOf];omega
    ·obtain⟨t,ht,hjt,h64,hft,hels,hnext⟩:=y77 (f:=f) (k:=k) (j:=j) (by omega);have hlt3:=x03 f k j;have hlow:=z6b (wh f k j) wr (by omega) hlt3 (HT.out.below (hB2.out.mono (by exact zlr _)));rw[ht] at hlow;have hdec:wh f k (t+1)<wh f k j:=by
      rw[←hnext];have:=Nat.and_le_right (n:=wh f k j) (m:=wh f k j-1);omega
     have hand:bits .and .u64 (wh f k j:Nat) ((wh f k j-1:Nat):Int)=(wh f k (t+1):Nat):=by
      rw[u64_and_nat _ _ hlt3 (by omega),hnext]
     have hsub:IntKind.u64.wrap ((wh f k j:Nat)-1)=((wh f k j-1:Nat):Int):=by rw[IntKind.wrap_u64];omega
     have hne:(((wh f k j:Nat):Int)==0)=false:=by rw[beq_eq_false_iff_ne];omega
     have hln:Hid ((eI f (64*k+j)).length≤2048):=by
      show _≤_;rw[y7c];have:=z31 f (64*k+j);omega
     have hstep:Hid (eI f (64*k+j)++[((64*k+t:Nat):Int)]=eI f (64*k+(t+1))):=by
      show _=_;rw[eI,eI,hels,List.map_append];rfl
     obtain⟨Z,hZ⟩:∃Z,64*k+t=Z:=⟨_,rfl⟩
     have q2:IntKind.i64.wrap ((A:Int)+(t:Int))=(Z:Int):=by rw[IntKind.wrap_i64];have:=HA.out;omega
     rw[hZ] at hstep;obtain⟨V2,hV2⟩:∃V2,wh f k (t+1)=V2:=⟨_,rfl⟩
     rw[hV2] at hdec hand;have HV2:=zh hV2;generalize wh f k j-1=V1 at*;generalize wh f k j=V0 at*;have HL:=zh hlow;have Hdec:=zh hdec;have Ht:=zh h64;have hsz:=hB2.out.size;have hnew:=zh (y1b wr ZT (Z:Int));clear hZ hels hnext hft ht hjt hlow hdec h64 hV2 h0 hA hown;go_wp2_with fail;refine HL.out.mono ?_;rintro e w' ⟨rfl,rfl⟩
     go_wp2_with (at_builtin;refine S7 rfl (.tmp 16) (.tmp 22) SZT rfl w.heap.size ZT underlying101 YF _ (eI f (64*k+j)) (by rfl) (hown2.out.alloc _) wr.heap.size 1 (Z:Int) (by rfl) hnew.out (by have:=hln.out;omega) (by simp;omega) ?_;intro v4 w4 hown4 hgrow4)
     have hb4:Hid (zB w w4):=(hB2.out.alloc hsz _).grown hgrow4.out (by simp;omega) (fun j hj=>(hown2.out.lt j hj).1);have ho4:Hid (w4.ownsRow w.heap.size ZT 1 v4 (eI f (64*k+(t+1))).length (iv (eI f (64*k+(t+1))))):=by rw[←hstep.out];exact hown4
     clear hown4 hgrow4 hown2 hB2 hstep;go_wp2
     go_roundw
     case rel=>exact⟨t+1,v4,rfl,by rw[HV2.out],by have:=Ht.out;omega,ho4,hb4⟩
     case measure=>simp[intOf];exact Hdec.out
  ·obtain rfl:k=16:=by omega
   go_wp2;go_ret;exact⟨_,rfl,hown.out,hB.out⟩
theorem y1c {α:Type}(E:Elt α)(w:World)(T:TypeId):(w.alloc (.cells #[] T)).ownsRow w.heap.size T E.sz (.slice (some ⟨w.heap.size,0,none⟩) 0 0) 0 (E.row []):=by
 refine⟨by simp[Elt.row],.inr ⟨w.heap.size,0,#[],rfl,zlr _,?_,zlr _,by unfold maxLen;omega,by simp,by simp[Elt.row]⟩⟩;show(w.heap.push _)[w.heap.size]? =_;rw[Array.getElem?_push_size]
theorem z61 (v:Value)(l:List ByteArray)(w:World)(hv:EV V5 w v l)(hl:l.length≤1000000):
  Calls prog 103 #[v] w fun e w'=>∃u,e=.returned u∧w'.ownsRow w.heap.size 9 (V5).sz u l.length ((V5).row l)∧zB w w':=by
 obtain⟨a,c,rfl,hs,hz,hc,hm⟩:=hv;have q22:∀(w:World) (a:Option Addr) (n c n' c':Nat),(binOp .eql 92 (.slice a n c) (.slice none n' c')).run prog w=.ok (.bool a.isNone) w:=fun w a n c n' c'=>Lib.run_eql_slice_nil w _ _ a n c n' c' underlying92
 cases a with
 | none=>
  obtain rfl:l=[]:=by
   rcases hs with ⟨_,h⟩|⟨g,o,h,_⟩
   ·exact h
   ·cases h
  have hcz:=hz rfl;clear hs hz hc hm
  go_enter func103,ntmps103
  go_wp2;go_ret;exact⟨_,rfl,World.ownsRow_nil _ _ _ _,zbr _ _⟩
 | some ad=>
  have hb1:zB w (w.alloc (.cells #[] 9)):=(zbr _ _).alloc (zlr _) _;obtain⟨v1,w1,hrun,hb2,ho⟩:=Xu (P:=prog) (w:=w.alloc (.cells #[] 9)) (E:=V5) w.heap.size 92 92 9 underlying92 z0b _ 0 [] (y1c V5 w 9) hb1.size (some ad) l.length c l rfl hz (hs.below hb1 (zlr _)) (by unfold maxLen;omega) (by show _*16≤_;omega);rw[List.nil_append,Nat.zero_add] at ho;have Ho:=zh ho;have HB:=zh (hb1.trans hb2);obtain⟨n,hn⟩:∃n,l.length=n:=⟨_,rfl⟩
  rw[hn] at hrun Ho⊢
  clear hs hz hc hm hb1 hb2 ho hn hl
  go_enter func103,ntmps103
  go_wp2_with (at_builtin;refine Lib.wpList_append_run _ rfl (.tmp 5) (.tmp 6) _ _ rfl _ _ (by rfl) (by rfl) _ _ hrun ?_)
  go_ret;exact⟨_,rfl,Ho.out,HB.out⟩
theorem JE (v:Value)(l:List ByteArray)(w:World)(hv:EV V5 w v l)(hl:l.length≤1000000):
  Calls prog 103 #[v] w fun e w'=>∃u,e=.returned u∧EV V5 w' u l∧zB w w':=by
 refine(z61 v l w hv hl).mono ?_;rintro e w' ⟨u,rfl,ho,hb⟩;exact⟨u,rfl,U3 ho,hb⟩
theorem z62 (v:Value)(l:List Rw)(w:World)(hv:EV Uw w v l)(hl:l.length≤1000000):
  Calls prog 125 #[v] w fun e w'=>∃u,e=.returned u∧w'.ownsRow w.heap.size 128 (Uw).sz u l.length ((Uw).row l)∧zB w w':=by
 obtain⟨a,c,rfl,hs,hz,hc,hm⟩:=hv;have q22:∀(w:World) (a:Option Addr) (n c n' c':Nat),(binOp .eql 91 (.slice a n c) (.slice none n' c')).run prog w=.ok (.bool a.isNone) w:=fun w a n c n' c'=>Lib.run_eql_slice_nil w _ _ a n c n' c' underlying91
 cases a with
 | none=>
  obtain rfl:l=[]:=by
   rcases hs with ⟨_,h⟩|⟨g,o,h,_⟩
   ·exact h
   ·cases h
  have hcz:=hz rfl;clear hs hz hc hm
  go_enter func125,ntmps125
  go_wp2;go_ret;exact⟨_,rfl,World.ownsRow_nil _ _ _ _,zbr _ _⟩
 | some ad=>
  have hb1:zB w (w.alloc (.cells #[] 128)):=(zbr _ _).alloc (zlr _) _;obtain⟨v1,w1,hrun,hb2,ho⟩:=Xu (P:=prog) (w:=w.alloc (.cells #[] 128)) (E:=Uw) w.heap.size 91 91 128 underlying91 jY _ 0 [] (y1c Uw w 128) hb1.size (some ad) l.length c l rfl hz (hs.below hb1 (zlr _)) (by unfold maxLen;omega) (by show _*56≤_;omega);rw[List.nil_append,Nat.zero_add] at ho;have Ho:=zh ho;have HB:=zh (hb1.trans hb2);obtain⟨n,hn⟩:∃n,l.length=n:=⟨_,rfl⟩
  rw[hn] at hrun Ho⊢
  clear hs hz hc hm hb1 hb2 ho hn hl
  go_enter func125,ntmps125
  go_wp2_with (at_builtin;refine Lib.wpList_append_run _ rfl (.tmp 5) (.tmp 6) _ _ rfl _ _ (by rfl) (by rfl) _ _ hrun ?_)
  go_ret;exact⟨_,rfl,Ho.out,HB.out⟩
theorem z63 (v:Value)(l:List Nat)(w:World)(hv:EV pgE w v l)(hl:l.length≤1000000):
  Calls prog 126 #[v] w fun e w'=>∃u,e=.returned u∧w'.ownsRow w.heap.size 3 (pgE).sz u l.length ((pgE).row l)∧zB w w':=by
 obtain⟨a,c,rfl,hs,hz,hc,hm⟩:=hv;have q22:∀(w:World) (a:Option Addr) (n c n' c':Nat),(binOp .eql 101 (.slice a n c) (.slice none n' c')).run prog w=.ok (.bool a.isNone) w:=fun w a n c n' c'=>Lib.run_eql_slice_nil w _ _ a n c n' c' underlying101
 cases a with
 | none=>
  obtain rfl:l=[]:=by
   rcases hs with ⟨_,h⟩|⟨g,o,h,_⟩
   ·exact h
   ·cases h
  have hcz:=hz rfl;clear hs hz hc hm
  go_enter func126,ntmps126
  go_wp2;go_ret;exact⟨_,rfl,World.ownsRow_nil _ _ _ _,zbr _ _⟩
 | some ad=>
  have hb1:zB w (w.alloc (.cells #[] 3)):=(zbr _ _).alloc (zlr _) _;obtain⟨v1,w1,hrun,hb2,ho⟩:=Xu (P:=prog) (w:=w.alloc (.cells #[] 3)) (E:=pgE) w.heap.size 101 101 3 underlying101 jZ _ 0 [] (y1c pgE w 3) hb1.size (some ad) l.length c l rfl hz (hs.below hb1 (zlr _)) (by unfold maxLen;omega) (by show _*8≤_;omega);rw[List.nil_append,Nat.zero_add] at ho;have Ho:=zh ho;have HB:=zh (hb1.trans hb2);obtain⟨n,hn⟩:∃n,l.length=n:=⟨_,rfl⟩
  rw[hn] at hrun Ho⊢
  clear hs hz hc hm hb1 hb2 ho hn hl
  go_enter func126,ntmps126
  go_wp2_with (at_builtin;refine Lib.wpList_append_run _ rfl (.tmp 5) (.tmp 6) _ _ rfl _ _ (by rfl) (by rfl) _ _ hrun ?_)
  go_ret;exact⟨_,rfl,Ho.out,HB.out⟩
def Oj {α:Type}(E:Elt α)(w:World)(g:Nat)(es:List (List α)):Prop:=∀i,i<es.length→∃a c,w.cell? ⟨g,i,none⟩=some (.slice a (es.getD i []).length c)∧ES E w a (es.getD i [])∧(a=none→c=0)
section
variable {α:Type} {E:Elt α}
theorem Oj.below {w w':World}{g B:Nat}{es:List (List α)}(h:Oj E w g es)(hb:Below B w w')(hB:w.heap.size≤B):Oj E w' g es:=fun i hi=>by
 obtain⟨a,c,hc,hs,hz⟩:=h i hi;exact⟨a,c,by rw[hb.cell (p:=⟨g,i,none⟩) (Nat.lt_of_lt_of_le (block_lt_of_cell hc) hB)];exact hc,hs.below hb hB,hz⟩
def z1q (es:List (List α))(k:Nat):Nat:=(es.take k).flatten.length
theorem Fx (es:List (List α))(k:Nat)(h:k<es.length):(es.take (k+1)).flatten=(es.take k).flatten++es.getD k []:=by
 rw[List.take_succ_eq_append_getElem h,List.flatten_append];simp[List.getD,h]
theorem O7 (es:List (List α))(k:Nat)(h:k<es.length):z1q es (k+1)=z1q es k+(es.getD k []).length:=by
 unfold z1q;rw[Fx es k h,zla]
theorem yD (es:List (List α))(k:Nat)(h:es.length≤k):z1q es k=es.flatten.length:=by unfold z1q;rw[zlw h]
theorem Dq (es:List (List α))(k:Nat):z1q es k≤es.flatten.length:=by
 unfold z1q;have h:=congrArg List.length (congrArg List.flatten (List.take_append_drop k es));rw[List.flatten_append,zla] at h;omega
end
theorem y1d (n:Nat)(w:World)(hn:n≤1099511627776):
  Calls prog 200 #[.slice none 0 0,.int .i64 n] w fun e w'=>∃v,e=.returned v∧w'.ownsRow w.heap.size 128 (Uw).sz v 0 ((Uw).row [])∧zB w w':=by
 rcases Nat.eq_zero_or_pos n with h0|h0
 ·subst h0
  go_enter func200,ntmps200
  go_wp2;go_ret;exact⟨_,rfl,World.ownsRow_nil _ _ _ _,zbr _ _⟩
 ·obtain⟨i0,hi,hz0,hz1,hz2⟩:=info_parts jY;have hold:(Builtin.firstCells i0.size 0 (.slice none 0 0)).run prog w.drew=.ok ([]:List Value).toArray w.drew:=run_firstCells_none w.drew i0.size 0 0 0;have hrun:=fun ty=>Lib.run_append_grow_zeros w 91 3 ty 128 i0 (Uw).zero .i64 .i64 underlying91 underlying3 hi hz0 none 0 0 [] hold n h0 (by rw[hz1];exact(Uw).pos) (by omega) (by omega)
   (by rw[hz2];show n*56≤_;omega) (growslice_fits (by omega) (by rw[hz2];show _*56≤_;omega))
  have hG1:n≤grownCap w (0+n) 0 128:=by have:=grownCap_ge w (0+n) 0 128;omega
  have hG2:=grownCap_le_maxLen w (0+n) 0 128 (by unfold maxLen;omega);generalize grownCap w (0+n) 0 128=G at*;have hG3:G≤9223372036854775807:=by unfold maxLen at hG2;omega
  rw[Nat.zero_add] at hrun;obtain⟨w1,hw1⟩:∃w1,w1=w.drew.alloc (.cells (([]:List Value).toArray++Builtin.zeroCells (Uw).zero.cells n++Builtin.zeroCells (Uw).zero.cells (G-n)) 128):=⟨_,rfl⟩
  have hown:w1.ownsRow w.heap.size 128 (Uw).sz (.slice (some ⟨w.heap.size,0,none⟩) 0 G) 0 ((Uw).row []):=by
   rw[hw1];exact World.ownsRow_made w.drew _ G (zlr _) hG2 (by
    rw[Array.size_append,Array.size_append,size_zeroCells,size_zeroCells,(Uw).zc];show 0+n*3+(G-n)*3=G*3;omega)
  have hb:zB w w1:=by rw[hw1];exact(zbr _ _).drew.alloc (zlr _) _
  rw[←hw1] at hrun;have Hown:=zh hown;have Hb:=zh hb;clear hold hw1 hown hb hG2 hi hz0 hz1 hz2
  go_enter func200,ntmps200
  go_wp2_with (at_builtin;refine Lib.wpList_append_run _ rfl _ _ _ _ rfl _ _ rfl rfl _ _ (hrun _) ?_)
  all_goals (go_ret;exact⟨_,rfl,Hown.out,Hb.out⟩)
theorem z2o (g n c:Nat)(es:List (List Rw))(hn:es.length=n)(w:World)(hp:Oj Uw w g es)(hl:es.flatten.length≤1000000)(hk:n≤65536):
  Calls prog 182 #[.slice (some ⟨g,0,none⟩) n c] w fun e w'=>∃v,e=.returned v∧EV Uw w' v es.flatten∧zB w w':=by
 have Hp:=zh hp;have Hn:=zh hn;have Hl:=zh hl;clear hp hn hl
 go_enter func182,ntmps182
 go_wp2_with fail
 go_loop [3,5,11] (fun s _ i=>∃k t:Nat,k≤n∧i=.int .i64 k∧s=.int .i64 t∧Hid (t=z1q es k)∧t≤1000000) (fun _ _ i=>n-(intOf i).toNat)
 case atStart=>exact⟨0,0,Nat.zero_le _,rfl,rfl,rfl,by omega⟩
 case round=>
  obtain⟨k,t,hkn,rfl,rfl,ht,ht1⟩:=hrel
  by_cases hlt:k<n
  ·obtain⟨a,c1,hc,_,_⟩:=Hp.out k (by rw[Hn.out];exact hlt);have hs:=O7 es k (by rw[Hn.out];exact hlt);have hle:=Dq es (k+1);have hll:=Hl.out;generalize (es.getD k []).length=m at*;have hm:t+m≤1000000:=by have:=ht.out;omega
   have ht2:Hid (t+m=z1q es (k+1)):=by show _=_;rw[hs,ht.out]
   have hd:decide ((t:Int)+(m:Int)<0)=false:=by simp;omega
   clear hs hle hll ht;go_wp2
   go_round
   case rel=>exact⟨k+1,t+m,by omega,by go_num,by go_num,ht2,hm⟩
   case measure=>simp[intOf];omega
  ·obtain rfl:k=n:=by omega
   have ht2:Hid (t=es.flatten.length):=by show _=_;rw[ht.out,yD es k (by rw[Hn.out];exact zlr _)]
   clear ht hlt;go_wp2_with fail;refine(y1d t w (by omega)).mono ?_;rintro e w1 ⟨v1,rfl,hown1,hb1⟩;have Ho1:=zh hown1;have Hb1:=zh hb1;clear hown1 hb1;go_wp2_with fail
   go_loopw [6,8,27] (fun o _ i wr=>∃(k2:Nat) (ov:Value),k2≤k∧o=ov∧i=.int .i64 k2∧Hid (wr.ownsRow w.heap.size 128 (Uw).sz ov (es.take k2).flatten.length ((Uw).row (es.take k2).flatten))∧Hid (zB w wr)) (fun _ _ i _=>k-(intOf i).toNat)
   case atStart=>exact⟨0,v1,Nat.zero_le _,rfl,rfl,by rw[List.take_zero];exact Ho1,Hb1⟩
   case round=>
    obtain⟨j,ov,hj,rfl,rfl,hown,hbel⟩:=hrel
    by_cases hlt:j<k
    ·obtain⟨a,c1,hc,hs,hz⟩:=(Hp.out.below hbel.out (zlr _)) j (by rw[Hn.out];exact hlt);have hcat:=Fx es j (by rw[Hn.out];exact hlt);have hlen:(es.take j).flatten.length+(es.getD j []).length≤1000000:=by
      have h1:=Dq es (j+1);rw[O7 es j (by rw[Hn.out];exact hlt)] at h1;have h2:=Hl.out;unfold z1q at h1;omega
     have hsz:=hbel.out.size;obtain⟨v',w2,hrun,hb2,ho2⟩:=Xu (P:=prog) (E:=Uw) w.heap.size 91 91 128 underlying91 jY _ (es.take j).flatten.length (es.take j).flatten hown.out hsz a (es.getD j []).length c1 (es.getD j []) rfl hz hs (by unfold maxLen;omega) (by show _*56≤_;omega);have Hb2:=zh (hbel.out.trans hb2);have Ho2:Hid (w2.ownsRow w.heap.size 128 (Uw).sz v' (es.take (j+1)).flatten.length ((Uw).row (es.take (j+1)).flatten)):=by rw[hcat,zla];exact ho2
     clear hs hz hcat hlen hsz hb2 ho2 hown hbel;generalize (es.getD j []).length=M at*
     go_wp2_with (at_builtin;refine Lib.wpList_append_run _ rfl (.tmp 31) (.tmp 32) _ _ rfl _ _ (by rfl) (by rfl) _ _ hrun ?_)
     go_wp2
     go_roundw
     case rel=>exact⟨j+1,v',by omega,rfl,by go_num,Ho2,Hb2⟩
     case measure=>simp[intOf];omega
    ·obtain rfl:j=k:=by omega
     have ho:=U3 hown.out;rw[List.take_of_length_le (by rw[Hn.out];exact zlr _)] at ho;have ho:=zh ho;clear hown;go_wp2;go_ret;exact⟨_,rfl,ho.out,hbel.out⟩
theorem y1e (n:Nat)(w:World)(hn:n≤1099511627776):
  Calls prog 202 #[.slice none 0 0,.int .i64 n] w fun e w'=>∃v,e=.returned v∧w'.ownsRow w.heap.size 26 (V8).sz v 0 ((V8).row [])∧zB w w':=by
 rcases Nat.eq_zero_or_pos n with h0|h0
 ·subst h0
  go_enter func202,ntmps202
  go_wp2;go_ret;exact⟨_,rfl,World.ownsRow_nil _ _ _ _,zbr _ _⟩
 ·obtain⟨i0,hi,hz0,hz1,hz2⟩:=info_parts y0z;have hold:(Builtin.firstCells i0.size 0 (.slice none 0 0)).run prog w.drew=.ok ([]:List Value).toArray w.drew:=run_firstCells_none w.drew i0.size 0 0 0;have hrun:=fun ty=>Lib.run_append_grow_zeros w 93 3 ty 26 i0 (V8).zero .i64 .i64 underlying93 underlying3 hi hz0 none 0 0 [] hold n h0 (by rw[hz1];exact(V8).pos) (by omega) (by omega)
   (by rw[hz2];show n*8≤_;omega) (growslice_fits (by omega) (by rw[hz2];show _*8≤_;omega))
  have hG1:n≤grownCap w (0+n) 0 26:=by have:=grownCap_ge w (0+n) 0 26;omega
  have hG2:=grownCap_le_maxLen w (0+n) 0 26 (by unfold maxLen;omega);generalize grownCap w (0+n) 0 26=G at*;have hG3:G≤9223372036854775807:=by unfold maxLen at hG2;omega
  rw[Nat.zero_add] at hrun;obtain⟨w1,hw1⟩:∃w1,w1=w.drew.alloc (.cells (([]:List Value).toArray++Builtin.zeroCells (V8).zero.cells n++Builtin.zeroCells (V8).zero.cells (G-n)) 26):=⟨_,rfl⟩
  have hown:w1.ownsRow w.heap.size 26 (V8).sz (.slice (some ⟨w.heap.size,0,none⟩) 0 G) 0 ((V8).row []):=by
   rw[hw1];exact World.ownsRow_made w.drew _ G (zlr _) hG2 (by
    rw[Array.size_append,Array.size_append,size_zeroCells,size_zeroCells,(V8).zc];show 0+n*1+(G-n)*1=G*1;omega)
  have hb:zB w w1:=by rw[hw1];exact(zbr _ _).drew.alloc (zlr _) _
  rw[←hw1] at hrun;have Hown:=zh hown;have Hb:=zh hb;clear hold hw1 hown hb hG2 hi hz0 hz1 hz2
  go_enter func202,ntmps202
  go_wp2_with (at_builtin;refine Lib.wpList_append_run _ rfl _ _ _ _ rfl _ _ rfl rfl _ _ (hrun _) ?_)
  all_goals (go_ret;exact⟨_,rfl,Hown.out,Hb.out⟩)
theorem N6 (g n c:Nat)(es:List (List Nat))(hn:es.length=n)(w:World)(hp:Oj V8 w g es)(hl:es.flatten.length≤1000000)(hk:n≤65536):
  Calls prog 184 #[.slice (some ⟨g,0,none⟩) n c] w fun e w'=>∃v,e=.returned v∧EV V8 w' v es.flatten∧zB w w':=by
 have Hp:=zh hp;have Hn:=zh hn;have Hl:=zh hl;clear hp hn hl
 go_enter func184,ntmps184
 go_wp2_with fail
 go_loop [3,5,11] (fun s _ i=>∃k t:Nat,k≤n∧i=.int .i64 k∧s=.int .i64 t∧Hid (t=z1q es k)∧t≤1000000) (fun _ _ i=>n-(intOf i).toNat)
 case atStart=>exact⟨0,0,Nat.zero_le _,rfl,rfl,rfl,by omega⟩
 case round=>
  obtain⟨k,t,hkn,rfl,rfl,ht,ht1⟩:=hrel
  by_cases hlt:k<n
  ·obtain⟨a,c1,hc,_,_⟩:=Hp.out k (by rw[Hn.out];exact hlt);have hs:=O7 es k (by rw[Hn.out];exact hlt);have hle:=Dq es (k+1);have hll:=Hl.out;generalize (es.getD k []).length=m at*;have hm:t+m≤1000000:=by have:=ht.out;omega
   have ht2:Hid (t+m=z1q es (k+1)):=by show _=_;rw[hs,ht.out]
   have hd:decide ((t:Int)+(m:Int)<0)=false:=by simp;omega
   clear hs hle hll ht;go_wp2
   go_round
   case rel=>exact⟨k+1,t+m,by omega,by go_num,by go_num,ht2,hm⟩
   case measure=>simp[intOf];omega
  ·obtain rfl:k=n:=by omega
   have ht2:Hid (t=es.flatten.length):=by show _=_;rw[ht.out,yD es k (by rw[Hn.out];exact zlr _)]
   clear ht hlt;go_wp2_with fail;refine(y1e t w (by omega)).mono ?_;rintro e w1 ⟨v1,rfl,hown1,hb1⟩;have Ho1:=zh hown1;have Hb1:=zh hb1;clear hown1 hb1;go_wp2_with fail
   go_loopw [6,8,27] (fun o _ i wr=>∃(k2:Nat) (ov:Value),k2≤k∧o=ov∧i=.int .i64 k2∧Hid (wr.ownsRow w.heap.size 26 (V8).sz ov (es.take k2).flatten.length ((V8).row (es.take k2).flatten))∧Hid (zB w wr)) (fun _ _ i _=>k-(intOf i).toNat)
   case atStart=>exact⟨0,v1,Nat.zero_le _,rfl,rfl,by rw[List.take_zero];exact Ho1,Hb1⟩
   case round=>
    obtain⟨j,ov,hj,rfl,rfl,hown,hbel⟩:=hrel
    by_cases hlt:j<k
    ·obtain⟨a,c1,hc,hs,hz⟩:=(Hp.out.below hbel.out (zlr _)) j (by rw[Hn.out];exact hlt);have hcat:=Fx es j (by rw[Hn.out];exact hlt);have hlen:(es.take j).flatten.length+(es.getD j []).length≤1000000:=by
      have h1:=Dq es (j+1);rw[O7 es j (by rw[Hn.out];exact hlt)] at h1;have h2:=Hl.out;unfold z1q at h1;omega
     have hsz:=hbel.out.size;obtain⟨v',w2,hrun,hb2,ho2⟩:=Xu (P:=prog) (E:=V8) w.heap.size 93 93 26 underlying93 y0z _ (es.take j).flatten.length (es.take j).flatten hown.out hsz a (es.getD j []).length c1 (es.getD j []) rfl hz hs (by unfold maxLen;omega) (by show _*8≤_;omega);have Hb2:=zh (hbel.out.trans hb2);have Ho2:Hid (w2.ownsRow w.heap.size 26 (V8).sz v' (es.take (j+1)).flatten.length ((V8).row (es.take (j+1)).flatten)):=by rw[hcat,zla];exact ho2
     clear hs hz hcat hlen hsz hb2 ho2 hown hbel;generalize (es.getD j []).length=M at*
     go_wp2_with (at_builtin;refine Lib.wpList_append_run _ rfl (.tmp 31) (.tmp 32) _ _ rfl _ _ (by rfl) (by rfl) _ _ hrun ?_)
     go_wp2
     go_roundw
     case rel=>exact⟨j+1,v',by omega,rfl,by go_num,Ho2,Hb2⟩
     case measure=>simp[intOf];omega
    ·obtain rfl:j=k:=by omega
     have ho:=U3 hown.out;rw[List.take_of_length_le (by rw[Hn.out];exact zlr _)] at ho;have ho:=zh ho;clear hown;go_wp2;go_ret;exact⟨_,rfl,ho.out,hbel.out⟩
theorem y1f (n:Nat)(w:World)(hn:n≤1099511627776):
  Calls prog 201 #[.slice none 0 0,.int .i64 n] w fun e w'=>∃v,e=.returned v∧w'.ownsRow w.heap.size 9 (V5).sz v 0 ((V5).row [])∧zB w w':=by
 rcases Nat.eq_zero_or_pos n with h0|h0
 ·subst h0
  go_enter func201,ntmps201
  go_wp2;go_ret;exact⟨_,rfl,World.ownsRow_nil _ _ _ _,zbr _ _⟩
 ·obtain⟨i0,hi,hz0,hz1,hz2⟩:=info_parts z0b;have hold:(Builtin.firstCells i0.size 0 (.slice none 0 0)).run prog w.drew=.ok ([]:List Value).toArray w.drew:=run_firstCells_none w.drew i0.size 0 0 0;have hrun:=fun ty=>Lib.run_append_grow_zeros w 92 3 ty 9 i0 (V5).zero .i64 .i64 underlying92 underlying3 hi hz0 none 0 0 [] hold n h0 (by rw[hz1];exact(V5).pos) (by omega) (by omega)
   (by rw[hz2];show n*16≤_;omega) (growslice_fits (by omega) (by rw[hz2];show _*16≤_;omega))
  have hG1:n≤grownCap w (0+n) 0 9:=by have:=grownCap_ge w (0+n) 0 9;omega
  have hG2:=grownCap_le_maxLen w (0+n) 0 9 (by unfold maxLen;omega);generalize grownCap w (0+n) 0 9=G at*;have hG3:G≤9223372036854775807:=by unfold maxLen at hG2;omega
  rw[Nat.zero_add] at hrun;obtain⟨w1,hw1⟩:∃w1,w1=w.drew.alloc (.cells (([]:List Value).toArray++Builtin.zeroCells (V5).zero.cells n++Builtin.zeroCells (V5).zero.cells (G-n)) 9):=⟨_,rfl⟩
  have hown:w1.ownsRow w.heap.size 9 (V5).sz (.slice (some ⟨w.heap.size,0,none⟩) 0 G) 0 ((V5).row []):=by
   rw[hw1];exact World.ownsRow_made w.drew _ G (zlr _) hG2 (by
    rw[Array.size_append,Array.size_append,size_zeroCells,size_zeroCells,(V5).zc];show 0+n*1+(G-n)*1=G*1;omega)
  have hb:zB w w1:=by rw[hw1];exact(zbr _ _).drew.alloc (zlr _) _
  rw[←hw1] at hrun;have Hown:=zh hown;have Hb:=zh hb;clear hold hw1 hown hb hG2 hi hz0 hz1 hz2
  go_enter func201,ntmps201
  go_wp2_with (at_builtin;refine Lib.wpList_append_run _ rfl _ _ _ _ rfl _ _ rfl rfl _ _ (hrun _) ?_)
  all_goals (go_ret;exact⟨_,rfl,Hown.out,Hb.out⟩)
theorem N7 (g n c:Nat)(es:List (List ByteArray))(hn:es.length=n)(w:World)(hp:Oj V5 w g es)(hl:es.flatten.length≤1000000)(hk:n≤65536):
  Calls prog 183 #[.slice (some ⟨g,0,none⟩) n c] w fun e w'=>∃v,e=.returned v∧EV V5 w' v es.flatten∧zB w w':=by
 have Hp:=zh hp;have Hn:=zh hn;have Hl:=zh hl;clear hp hn hl
 go_enter func183,ntmps183
 go_wp2_with fail
 go_loop [3,5,11] (fun s _ i=>∃k t:Nat,k≤n∧i=.int .i64 k∧s=.int .i64 t∧Hid (t=z1q es k)∧t≤1000000) (fun _ _ i=>n-(intOf i).toNat)
 case atStart=>exact⟨0,0,Nat.zero_le _,rfl,rfl,rfl,by omega⟩
 case round=>
  obtain⟨k,t,hkn,rfl,rfl,ht,ht1⟩:=hrel
  by_cases hlt:k<n
  ·obtain⟨a,c1,hc,_,_⟩:=Hp.out k (by rw[Hn.out];exact hlt);have hs:=O7 es k (by rw[Hn.out];exact hlt);have hle:=Dq es (k+1);have hll:=Hl.out;generalize (es.getD k []).length=m at*;have hm:t+m≤1000000:=by have:=ht.out;omega
   have ht2:Hid (t+m=z1q es (k+1)):=by show _=_;rw[hs,ht.out]
   have hd:decide ((t:Int)+(m:Int)<0)=false:=by simp;omega
   clear hs hle hll ht;go_wp2
   go_round
   case rel=>exact⟨k+1,t+m,by omega,by go_num,by go_num,ht2,hm⟩
   case measure=>simp[intOf];omega
  ·obtain rfl:k=n:=by omega
   have ht2:Hid (t=es.flatten.length):=by show _=_;rw[ht.out,yD es k (by rw[Hn.out];exact zlr _)]
   clear ht hlt;go_wp2_with fail;refine(y1f t w (by omega)).mono ?_;rintro e w1 ⟨v1,rfl,hown1,hb1⟩;have Ho1:=zh hown1;have Hb1:=zh hb1;clear hown1 hb1;go_wp2_with fail
   go_loopw [6,8,27] (fun o _ i wr=>∃(k2:Nat) (ov:Value),k2≤k∧o=ov∧i=.int .i64 k2∧Hid (wr.ownsRow w.heap.size 9 (V5).sz ov (es.take k2).flatten.length ((V5).row (es.take k2).flatten))∧Hid (zB w wr)) (fun _ _ i _=>k-(intOf i).toNat)
   case atStart=>exact⟨0,v1,Nat.zero_le _,rfl,rfl,by rw[List.take_zero];exact Ho1,Hb1⟩
   case round=>
    obtain⟨j,ov,hj,rfl,rfl,hown,hbel⟩:=hrel
    by_cases hlt:j<k
    ·obtain⟨a,c1,hc,hs,hz⟩:=(Hp.out.below hbel.out (zlr _)) j (by rw[Hn.out];exact hlt);have hcat:=Fx es j (by rw[Hn.out];exact hlt);have hlen:(es.take j).flatten.length+(es.getD j []).length≤1000000:=by
      have h1:=Dq es (j+1);rw[O7 es j (by rw[Hn.out];exact hlt)] at h1;have h2:=Hl.out;unfold z1q at h1;omega
     have hsz:=hbel.out.size;obtain⟨v',w2,hrun,hb2,ho2⟩:=Xu (P:=prog) (E:=V5) w.heap.size 92 92 9 underlying92 z0b _ (es.take j).flatten.length (es.take j).flatten hown.out hsz a (es.getD j []).length c1 (es.getD j []) rfl hz hs (by unfold maxLen;omega) (by show _*16≤_;omega);have Hb2:=zh (hbel.out.trans hb2);have Ho2:Hid (w2.ownsRow w.heap.size 9 (V5).sz v' (es.take (j+1)).flatten.length ((V5).row (es.take (j+1)).flatten)):=by rw[hcat,zla];exact ho2
     clear hs hz hcat hlen hsz hb2 ho2 hown hbel;generalize (es.getD j []).length=M at*
     go_wp2_with (at_builtin;refine Lib.wpList_append_run _ rfl (.tmp 31) (.tmp 32) _ _ rfl _ _ (by rfl) (by rfl) _ _ hrun ?_)
     go_wp2
     go_roundw
     case rel=>exact⟨j+1,v',by omega,rfl,by go_num,Ho2,Hb2⟩
     case measure=>simp[intOf];omega
    ·obtain rfl:j=k:=by omega
     have ho:=U3 hown.out;rw[List.take_of_length_le (by rw[Hn.out];exact zlr _)] at ho;have ho:=zh ho;clear hown;go_wp2;go_ret;exact⟨_,rfl,ho.out,hbel.out⟩
end Go.Proofs.YtdgladhfibfdlaaGreatDoor
