/-
  Steps.
-/
import Derived.Test.YtdnfhjfbanhhcaaGreatDoorQLBk10
import Derived.Lib.MinMax
namespace Go.Proofs.YtdnfhjfbanhhcaaGreatDoor
open Go Go.RowKit
theorem x7y (k:Nat)(h:k≤64):IntKind.u64.wrap (IntKind.u64.wrap ((2:Int)^k)-1)=((2^k-1:Nat):Int):=by
 by_cases h1:k<64
 ·exact x1q k h1
 ·obtain rfl:k=64:=by omega
  decide
theorem x0o (m:Int)(w:World)(h1: -1024≤m)(h2:m≤9223372036854775807):Calls Tryz.prog 33 #[.int .i64 m] w fun e w'=>e=.returned (.int .u64 (2^(min m.toNat 64)-1:Nat))∧w=w':=by
 obtain⟨M,hM⟩:∃M:Nat,max m 0=(M:Int):=⟨m.toNat,by omega⟩
 have hm:min m.toNat 64=min M 64:=by omega
 rw[hm];have HM:=zh (show M≤9223372036854775807 by omega);clear hm
 go_enter Tryz.func33,Tryz.ntmps33
 go_wp2;go_ret;exact⟨by rw[x7y _ (Nat.min_le_right M 64)];rfl,rfl⟩
def z04 (x:Int)(m:Nat):Bool:=decide ((m:Int)<x)
def z9i (M k m:Nat):Bool:=decide (m<64*k)&&decide (m<M)
theorem x36 (M:Nat):z9i M 0=fun _=>false:=by
 funext m;unfold z9i;rw[zdf (by omega)];rfl
theorem x7z (x:Int)(M:Nat)(h:max x 0=(M:Int)):sc (z9i M 16)=sc (z04 x):=z8s (fun m hm=>by
 unfold z9i z04;rw[zdt (show m<64*16 by omega),Bool.true_and,Bool.eq_iff_iff,decide_eq_true_iff,decide_eq_true_iff];omega)
theorem x37 (M k:Nat)(hk:k<16):(sc (z9i M k)).setIfInBounds k (.int .u64 (2^(min (M-64*k) 64)-1:Nat))=sc (z9i M (k+1)):=by
 refine y7z _ _ k _ hk ((q3v M k).trans (y3j (fun i hi=> ?_))) (fun m hm hne=> ?_)
 ·unfold z9i;rw[zdt (show 64*k+i<64*(k+1) by omega)];rfl
 ·unfold z9i;rw[show decide (m<64*k)=decide (m<64*(k+1)) by rw[Bool.eq_iff_iff,decide_eq_true_iff,decide_eq_true_iff];omega]
set_option maxRecDepth 100000 in
theorem z2u (x:Int)(w:World)(hx:x≤9223372036854775807):Calls Tryz.prog 7 #[.int .i64 x] w fun e w'=>e=.returned (.agg (sc (z04 x)))∧Below w.heap.size w w':=by
 obtain⟨M,hM⟩:∃M:Nat,max x 0=(M:Int):=⟨x.toNat,by omega⟩
 have hM2:M≤9223372036854775807:=by omega
 have H:=zh (x7z x M hM);clear hx
 go_enter Tryz.func7,Tryz.ntmps7
 go_wp2_with (first
  | (show wpList _ _ _ (⟨some 2,_,_,_,_,_⟩::_) _ _;refine z0o rfl TS rfl z18 ?_;intro g2 w2 hg2 hk2 hb2)
  | (show wpList _ _ _ (⟨some 3,_,_,_,_,_⟩::_) _ _;refine z0o rfl TS rfl z18 ?_;intro g3 w3 hg3 hk3 hb3))
 have HgL:Hid (w.heap.size≤g2∧w.heap.size≤g3∧g2≠g3):=⟨hg2,by have:=hb2.size;omega,by have:=hk2.lt;omega⟩
 have Hb:Hid (Below w.heap.size w w3):=hb2.trans (hb3.mono hb2.size);have Hk:Hid (Blk w3 g3 TS (sc (fun _=>false))∧Blk w3 g2 TS (sc (fun _=>false))):=⟨hk3,hk2.ext hb3⟩
 clear hg2 hg3 hk2 hk3 hb2 hb3
 go_loopw [4,7] (fun _ i wr=>∃k:Nat,i=.int .i64 k∧k≤16∧Hid (Blk wr g3 TS (sc (z9i M k))∧Blk wr g2 TS (sc (fun _=>false)))∧Hid (Below w.heap.size w wr)) (fun _ i _=>16-(intOf i).toNat)
 case atStart=>exact⟨0,rfl,by omega,by rw[x36];exact Hk,Hb⟩
 case round=>
  obtain⟨k,rfl,hk,HK,HB⟩:=hrel
  by_cases hlt:k<16
  ·have hlt2:(k:Int)<16:=by omega
   have k0:(0:Int)≤(k:Int):=by omega
   have qw:IntKind.i64.wrap (k:Int)=(k:Int):=by rw[IntKind.wrap_i64];omega
   have q1:IntKind.i64.wrap ((k:Int)*64)=(k:Int)*64:=by rw[IntKind.wrap_i64];omega
   have hl:=x0o ((M:Int)-(k:Int)*64) wr (by omega) (by omega);have hs:=x37 M k hlt;rw[show((M:Int)-(k:Int)*64).toNat=M-64*k by omega] at hl;obtain⟨D,hD⟩:∃D,(M:Int)-(k:Int)*64=D:=⟨_,rfl⟩
   have q2:IntKind.i64.wrap ((M:Int)-(k:Int)*64)=D:=by rw[←hD,IntKind.wrap_i64];omega
   rw[hD] at hl;generalize 2^(min (M-64*k) 64)-1=R at*;have c0:=HK.out.1.cell k;rw[y3k _ k hlt] at c0;have f0:=HK.out.1.fz k;obtain⟨F2,hF2⟩:∃F2,z9i M (k+1)=F2:=⟨_,rfl⟩
   rw[hF2] at hs;generalize z9i M k=F1 at*;generalize wd F1 k=v1 at*;have HT:Hid (Turn (fun i=>i=g3) wr (wr.setCell ⟨g3,k,none⟩ (.int .u64 R))):=(Turn.refl _ _).setCell _ (fun _=>rfl);have HK3:Hid (Blk (wr.setCell ⟨g3,k,none⟩ (.int .u64 R)) g3 TS (sc F2)∧Blk (wr.setCell ⟨g3,k,none⟩ (.int .u64 R)) g2 TS (sc (fun _=>false))):=⟨by rw[←hs];exact HK.out.1.set k _,HK.out.2.turn HT.out HgL.out.2.2⟩
   have HB3:Hid (Below w.heap.size w (wr.setCell ⟨g3,k,none⟩ (.int .u64 R))):=HB.out.setCell HgL.out.2.1 _;have HF2:=zh hF2;have HL:=zh hl;clear HK HB hs hD hl H HT hF2;go_wp2_with fail;refine HL.out.mono ?_;rintro e w' ⟨rfl,rfl⟩;go_wp2
   go_roundw
   case rel=>exact⟨k+1,by go_num,by omega,by rw[HF2.out];exact HK3,HB3⟩
   case measure=>simp[intOf];omega
  ·obtain rfl:k=16:=by omega
   have HK2:=zh HK.out;rw[H.out] at HK2;clear HK
   go_wp2_with (first|(refine z0e rfl TS (.tmp 3) rfl g3 _ TS (by rfl) z0i HK2.out.1 ?_)|(refine z0j rfl TS (.tmp 2) (.tmp 18) rfl g2 _ _ TS (by rfl) (by rfl) z0i HK2.out.2 ?_;intro w5 hk5 ht5 _))
   refine bodyPost_ret (v:=.agg (sc (z04 x))) ?_ rfl ?_
   ·exact z1h z0i rfl _ _ g2 _ (by rfl) hk5
   ·exact⟨rfl,HB.out.trans (ht5.below HB.out.size (fun i hi=>by subst hi;exact HgL.out.1))⟩
end Go.Proofs.YtdnfhjfbanhhcaaGreatDoor
