import Derived.Deep.DeepCutAuto
import Derived.Test.YtbiokpmdghmgcaaGreatMemGr
namespace Go.Proofs.YtbiokpmdghmgcaaGreat
set_option maxHeartbeats 40000000
open Go.RowKit Go.Deep
def Ob.none:Ob:=⟨ByteArray.empty,ByteArray.empty,ByteArray.empty,[],false,[],0⟩
theorem kH.lO {w:World} {b1 b2 B:Nat} {o:Ob} (h:kH w b1 b2 o) (h1:B<b1) (h2:B<b2) (o':Nat) (vs:List Value):kH (aI w B o' 0 vs) b1 b2 o:=
 ⟨⟨by rw[bP];exact h.arg.lt1,by rw[bP];exact h.arg.lt2,h.arg.len1,h.arg.len2,fun i hi=>(bt B o' b1 i vs w 0 (Or.inl (by omega))).trans (h.arg.at1 i hi),fun i hi=>(bt B o' b2 i vs w 0 (Or.inl (by omega))).trans (h.arg.at2 i hi)⟩,h.z1,h.z2,h.sized⟩
def ObC (w:World) (b o:Nat) (r:Ob):Prop:=
 ∃ v1 v2,w.cell? ⟨b,o,none⟩=some (.string r.kind)∧w.cell? ⟨b,o+1,none⟩=some (.string r.name)∧w.cell? ⟨b,o+2,none⟩=some (.string r.team)∧w.cell? ⟨b,o+3,none⟩=some (v1)∧w.cell? ⟨b,o+4,none⟩=some (.bool r.ending)∧w.cell? ⟨b,o+5,none⟩=some (v2)∧w.cell? ⟨b,o+6,none⟩=some (.int .i64 r.version)∧wG w v1 v2 r
theorem ObC.later {w w':World} {b o:Nat} {r:Ob} (h:ObC w b o r) (hb:Bel w w') (aw:b<w.heap.size):ObC w' b o r:=by
 obtain⟨v1,v2,c0,c1,c2,c3,c4,c5,c6,hn⟩:=h;have q:∀ j,w'.cell? ⟨b,j,none⟩=w.cell? ⟨b,j,none⟩:=fun j=>hb.cell (p:=⟨b,j,none⟩) aw;exact⟨v1,v2,(q _).trans c0,(q _).trans c1,(q _).trans c2,(q _).trans c3,(q _).trans c4,(q _).trans c5,(q _).trans c6,hn.later hb⟩
def nR (w:World) (v:Value) (rs:List Ob):Prop:=
 (∃ a cap,v=.slice a 0 cap∧rs=[])∨∃ b off cap,v=.slice (some ⟨b,off,none⟩) rs.length cap∧b<w.heap.size∧rs.length≤maxLen∧∀ i,i<rs.length→ObC w b (off+i*7) (rs.getD i Ob.none)
theorem nR.later {w w':World} {v:Value} {rs:List Ob} (h:nR w v rs) (hb:Bel w w'):nR w' v rs:=by
 rcases h with h|⟨b,off,cap,rfl,h1,h2,h3⟩
 ·exact Or.inl h
 ·exact Or.inr ⟨b,off,cap,rfl,lo h1 hb.size,h2,fun i hi=>(h3 i hi).later hb h1⟩
def Ob.small (r:Ob):Prop:=r.values.length≤1048576∧r.holds.length≤1048576
def iU (w:World) (B o:Nat) (r:Ob):Prop:=
 ∃ b1 b2,(B<b1∧B<b2)∧w.cell? ⟨B,o,none⟩=some (.string r.kind)∧w.cell? ⟨B,o+1,none⟩=some (.string r.name)∧w.cell? ⟨B,o+2,none⟩=some (.string r.team)∧w.cell? ⟨B,o+3,none⟩=some (.slice (some ⟨b1,0,none⟩) r.values.length r.values.length)∧w.cell? ⟨B,o+4,none⟩=some (.bool r.ending)∧w.cell? ⟨B,o+5,none⟩=some (.slice (some ⟨b2,0,none⟩) r.holds.length r.holds.length)∧w.cell? ⟨B,o+6,none⟩=some (.int .i64 r.version)∧kH w b1 b2 r
theorem iU.later {w w':World} {b o:Nat} {r:Ob} (h:iU w b o r) (hb:Bel w w') (aw:b<w.heap.size):iU w' b o r:=by
 obtain⟨b1,b2,h0,c0,c1,c2,c3,c4,c5,c6,hn⟩:=h;have q:∀ j,w'.cell? ⟨b,j,none⟩=w.cell? ⟨b,j,none⟩:=fun j=>hb.cell (p:=⟨b,j,none⟩) aw;exact⟨b1,b2,h0,(q _).trans c0,(q _).trans c1,(q _).trans c2,(q _).trans c3,(q _).trans c4,(q _).trans c5,(q _).trans c6,hn.later hb⟩
structure fS (w:World) (B:Nat) (rs:List Ob):Prop where
 lt:B<w.heap.size
 len:rs.length≤1048576
 at_:∀ i,i<rs.length→iU w B (i*7) (rs.getD i Ob.none)
 own:ai w B 111 (rs.length*7)
theorem fS.later {w w':World} {B:Nat} {rs:List Ob} (h:fS w B rs) (hb:Bel w w'):fS w' B rs:=
 ⟨lo h.lt hb.size,h.len,fun i hi=>(h.at_ i hi).later hb h.lt,h.own.later hb⟩
theorem iU.aI {w:World} {B o:Nat} {r:Ob} (h:iU w B o r) (o':Nat) (vs:List Value) (ho:o+7≤o'):iU (aI w B o' 0 vs) B o r:=by
 obtain⟨b1,b2,h0,c0,c1,c2,c3,c4,c5,c6,hn⟩:=h;have c:∀ j,j<o'→(YtbiokpmdghmgcaaGreat.aI w B o' 0 vs).cell? ⟨B,j,none⟩=w.cell? ⟨B,j,none⟩:=fun j hj=>bt B o' B j vs w 0 (by omega);exact⟨b1,b2,h0,(c _ (by omega)).trans c0,(c _ (by omega)).trans c1,(c _ (by omega)).trans c2,(c _ (by omega)).trans c3,(c _ (by omega)).trans c4,(c _ (by omega)).trans c5,(c _ (by omega)).trans c6,hn.lO h0.1 h0.2 o' vs⟩
theorem iU.sc {w:World} {B o p:Nat} {r:Ob} (h:iU w B o r) (hp:p<B) (j:Nat) (v:Value):iU (w.setCell ⟨p,j,none⟩ v) B o r:=by
 obtain⟨b1,b2,h0,c0,c1,c2,c3,c4,c5,c6,hn⟩:=h;have c:∀ q,(w.setCell ⟨p,j,none⟩ v).cell? ⟨B,q,none⟩=w.cell? ⟨B,q,none⟩:=fun q=>aF _ _ _ _ _ _ (by omega);have h0:=(show p<b1∧p<b2 by omega)
 exact⟨b1,b2,by omega,(c _).trans c0,(c _).trans c1,(c _).trans c2,(c _).trans c3,(c _).trans c4,(c _).trans c5,(c _).trans c6,hn.lO h0.1 h0.2 j [v]⟩
theorem fS.sc {w:World} {B p:Nat} {rs:List Ob} (h:fS w B rs) (hp:p<B) (j:Nat) (v:Value):fS (w.setCell ⟨p,j,none⟩ v) B rs:=
 ⟨by rw[bc];exact h.lt,h.len,fun i hi=>(h.at_ i hi).sc hp j v,h.own.bh (by omega) _ _⟩
theorem uv {w:World} {B:Nat} {t:TypeId} {n:Nat} (hO:ai w B t n) (o:Nat) (ho:o+7≤n) (r:Ob) (b1 b2:Nat) (h0:B<b1∧B<b2) (hn:kH w b1 b2 r):
  iU (aI w B o 0 [.string r.kind,.string r.name,.string r.team,.slice (some ⟨b1,0,none⟩) r.values.length r.values.length,.bool r.ending,.slice (some ⟨b2,0,none⟩) r.holds.length r.holds.length,.int .i64 r.version]) B o r:=by
 have c:=fun i hi=>cx o [.string r.kind,.string r.name,.string r.team,.slice (some ⟨b1,0,none⟩) r.values.length r.values.length,.bool r.ending,.slice (some ⟨b2,0,none⟩) r.holds.length r.holds.length,.int .i64 r.version] w 0 hO (by simp;omega) i hi;exact⟨b1,b2,h0,c 0 (by simp),c 1 (by simp),c 2 (by simp),c 3 (by simp),c 4 (by simp),c 5 (by simp),c 6 (by simp),hn.lO h0.1 h0.2 o _⟩
theorem Tryz.B7:(Tryz.prog.info? 111).map (fun i=>(i.zero,i.size,i.bytes))=some (some (.agg #[.string ByteArray.empty,.string ByteArray.empty,.string ByteArray.empty,.slice none 0 0,.bool false,.slice none 0 0,.int .i64 0]),7,112):=by kernel_rfl
theorem vy (n:Nat) (h:n≤1048576):∃ cs:Array Value,cs.size=n*7∧∀ W:World,
  (Instr.makeSlice 42 (.int .i64 (n:Int)) (.int .i64 (n:Int))).run Tryz.prog W=.ok (.slice (some ⟨W.heap.size,0,none⟩) n n) (W.alloc (.cells cs 111)):=by
 obtain⟨i,hi,lx⟩:=Option.map_eq_some_iff.1 Tryz.B7;simp only[Prod.mk.injEq]at lx;obtain⟨hz,hs,hb⟩:=lx;refine⟨madeCells (Value.cells (.agg #[.string ByteArray.empty,.string ByteArray.empty,.string ByteArray.empty,.slice none 0 0,.bool false,.slice none 0 0,.int .i64 0])) (n*7),size_madeCells _ _,fun W=> ?_⟩;have hr:=run_make (P:=Tryz.prog) W 42 111 i _ Tryz.underlying42 hi hz .i64 .i64 n n (by omega) (Int.le_refl _) (by rw[hb];omega) (by omega);simp only[Int.toNat_natCast,hs]at hr;exact hr
theorem vV (b off cap:Nat) (rs:List Ob) (w:World) (hl:rs.length≤1048576) (dO:∀ r∈rs,r.small) (hb:b<w.heap.size)
  (hc:∀ i,i<rs.length→ObC w b (off+i*7) (rs.getD i Ob.none)):
  Calls Tryz.prog 32 #[.slice (some ⟨b,off,none⟩) rs.length cap] w fun e w'=>e=.returned (.slice (some ⟨w.heap.size,0,none⟩) rs.length rs.length)∧Bel w w'∧ai w' w.heap.size 111 (rs.length*7)∧
   ∀ i,i<rs.length→iU w' w.heap.size (i*7) (rs.getD i Ob.none):=by
 obtain⟨cs,bS,iI⟩:=vy rs.length hl;have HC:Hid (∀ i,i<rs.length→ObC w b (off+i*7) (rs.getD i Ob.none)∧(rs.getD i Ob.none).small):=by
  intro i hi;refine⟨hc i hi, ?_⟩;have e:rs.getD i Ob.none=rs[i]:=by simp[hi]
  rw[e];exact dO _ (List.getElem_mem hi)
 clear hc dO;go_enter Tryz.func32,Tryz.ntmps32
 go_wp2;go_loopw [4] (fun i wr=>∃ k:Nat,k≤rs.length∧i=.int .i64 k∧Bel w wr∧ai wr w.heap.size 111 (rs.length*7)∧∀ i,i<k→iU wr w.heap.size (i*7) (rs.getD i Ob.none)) (fun i _=>rs.length - (intOf i).toNat)
 case atStart=>exact⟨0,nz,rfl,ab br _,ai.alloc w cs 111 _ bS,fun i hi=>absurd hi (Nat.not_lt_zero i)⟩
 case round=>
  obtain⟨k,hk,rfl,hB,hO,av⟩:=hrel;have HA:=hid av;have HO:=hid hO;clear av iI bS hO;by_cases aw:k<rs.length
  ·have hf:=(HC.out k aw).1.later hB hb;obtain⟨r,hm⟩:∃ r,r=rs.getD k Ob.none:=⟨_,rfl⟩
   rw[← hm]at hf;obtain⟨v1,v2,c0,c1,c2,c3,c4,c5,c6,hn⟩:=hf;have HX:Hid ((wG wr v1 v2 r)∧r=rs.getD k Ob.none∧r.small):=⟨hn,hm,by rw[hm];exact(HC.out k aw).2⟩
   clear hm hn;go_wp2_with fail
   refine(G2 r v1 v2 wr HX.out.2.2.1 HX.out.2.2.2 HX.out.1.t1 HX.out.1.t2).mono ?_;rintro e w2 ⟨⟨b1,b2,rfl,Dl,_,_,hle,qc⟩,aA⟩;have bF:=aa hB aA;have eG:=HO.out.later aA;have HP:Hid (∀ v,v=[.string r.kind,.string r.name,.string r.team,.slice (some ⟨b1,0,none⟩) r.values.length r.values.length,.bool r.ending,.slice (some ⟨b2,0,none⟩) r.holds.length r.holds.length,.int .i64 r.version]→
     Bel w (aI w2 w.heap.size (k*7) 0 v)∧ai (aI w2 w.heap.size (k*7) 0 v) w.heap.size 111 (rs.length*7)∧∀ i,i<k+1→iU (aI w2 w.heap.size (k*7) 0 v) w.heap.size (i*7) (rs.getD i Ob.none)):=by
    intro v hv;subst hv;refine⟨aW (a:=w) _ nr _ _ _ bF,fJ _ _ _ _ eG,fun i hi=> ?_⟩;by_cases hik:i<k
    ·exact((HA.out i hik).later aA HO.out.lt).aI (k*7) _ (by omega)
    ·obtain rfl:i=k:=by omega
     rw[← HX.out.2.1];exact uv eG (i*7) (by omega) r b1 b2 ⟨lo HO.out.lt hle,Nat.lt_trans (lo HO.out.lt hle) qc⟩ ⟨Dl,HX.out.1.t1.sizes,HX.out.1.t2.sizes,HX.out.1.sized⟩
   clear c0 c1 c2 c3 c4 c5 c6 HX Dl hle qc;have hF:=eG.frozen;obtain⟨v0,o0⟩:=eG.cell (k*7) (by omega);obtain⟨v1,o1⟩:=eG.cell (k*7+1) (by omega);obtain⟨v2,o2⟩:=eG.cell (k*7+2) (by omega);obtain⟨v3,o3⟩:=eG.cell (k*7+3) (by omega);obtain⟨v4,o4⟩:=eG.cell (k*7+4) (by omega);obtain⟨v5,o5⟩:=eG.cell (k*7+5) (by omega);obtain⟨v6,o6⟩:=eG.cell (k*7+6) (by omega);clear eG bF aA;go_wp2;go_roundw
   case rel=>exact⟨k+1,by omega,by go_num,(HP.out _ rfl).1,(HP.out _ rfl).2.1,(HP.out _ rfl).2.2⟩
   case measure=>simp[intOf];omega
  ·obtain rfl:k=rs.length:=by omega
   go_wp2;go_ret;exact⟨rfl,hB,HO.out,HA.out⟩
theorem xI (a:Option Addr) (cap:Nat) (w:World):
  Calls Tryz.prog 32 #[.slice a 0 cap] w fun e w'=>e=.returned (.slice (some ⟨w.heap.size,0,none⟩) 0 0)∧∃ cs:Array Value,cs.size=0∧w'=w.alloc (.cells cs 111):=by
 obtain⟨cs,qO,iD⟩:=vy 0 (by omega);have iI:∀ W:World,(Instr.makeSlice 42 (.int .i64 0) (.int .i64 0)).run Tryz.prog W=.ok (.slice (some ⟨W.heap.size,0,none⟩) 0 0) (W.alloc (.cells cs 111)):=iD;clear iD;go_enter Tryz.func32,Tryz.ntmps32
 go_wp2;refine wp_loop_rounds 1 ?_;rw[rounds_succ];go_wp2;go_ret;exact⟨rfl,_,by omega,rfl⟩
theorem GM (v:Value) (rs:List Ob) (w:World) (hl:rs.length≤1048576) (dO:∀ r∈rs,r.small) (h:nR w v rs):
  Calls Tryz.prog 32 #[v] w fun e w'=>e=.returned (.slice (some ⟨w.heap.size,0,none⟩) rs.length rs.length)∧Bel w w'∧fS w' w.heap.size rs:=by
 rcases h with⟨a,cap,rfl,rfl⟩|⟨b,off,cap,rfl,hb,_,hc⟩
 ·refine(xI a cap w).mono ?_;rintro e w' ⟨rfl,cs,bS,rfl⟩;exact⟨rfl,ab br _,⟨by simp,by simp,fun i hi=>absurd hi (Nat.not_lt_zero i),ai.alloc w cs _ _ (by simpa using bS)⟩⟩
 ·refine(vV b off cap rs w hl dO hb hc).mono ?_;rintro e w' ⟨rfl,h1,h2,h3⟩;exact⟨rfl,h1,h2.lt,hl,h3,h2⟩
theorem Hc (B B':Nat) (rs:List Ob) (w:World) (h:fS w B rs) (h':fS w B' rs):
  Calls Tryz.prog 46 #[.slice (some ⟨B,0,none⟩) rs.length rs.length,.slice (some ⟨B',0,none⟩) rs.length rs.length] w fun e w'=>e=.returned (.bool true)∧Bel w w':=by
 have hl:=h.len;have HH:=hid (And.intro h h');clear h h';go_enter Tryz.func46,Tryz.ntmps46
 go_wp2;go_loopw [5] (fun i wr=>∃ k:Nat,k≤rs.length∧i=.int .i64 k∧Bel w wr) (fun i _=>rs.length - (intOf i).toNat)
 case atStart=>exact⟨0,nz,rfl,br⟩
 case round=>
  obtain⟨k,hk,rfl,hW⟩:=hrel;by_cases aw:k<rs.length
  ·have q:=(HH.out.1.later hW).at_ k aw;have q':=(HH.out.2.later hW).at_ k aw;obtain⟨r,hm⟩:∃ r,r=rs.getD k Ob.none:=⟨_,rfl⟩
   rw[← hm]at q q';obtain⟨b1,b2,_,c0,c1,c2,c3,c4,c5,c6,hn⟩:=q;obtain⟨b1',b2',_,d0,d1,d2,d3,d4,d5,d6,yh⟩:=q';have HX:=hid fun (W:World) (hW:Bel wr W)=>GZ r b1 b2 b1' b2' W (hn.later hW) (yh.later hW);clear hm hn yh;go_wp2_with fail
   go_region_with (go_at_call 101;refine(HX.out _ ?_).mono ?_;(repeat(first|exact br|refine Below.drew ?_));rintro e w2 ⟨rfl,aA⟩)
   all_goals
    go_wp2;go_roundw
    case rel=>
     refine⟨k+1,by omega,by go_num, ?_⟩;repeat(first|exact aa hW aA|exact aa hW.drew aA|exact aa hW.drew.drew aA|refine Below.drew ?_)
    case measure=>simp[intOf];omega
  ·go_wp2;go_ret;exact⟨rfl,hW⟩
theorem nQ {rs:List Ob} {k:Nat} (h:∀ r∈rs.take k,r.small) (hk:k<rs.length) (hs:(rs.getD k Ob.none).small):∀ r∈rs.take (k+1),r.small:=by
 have e:rs.getD k Ob.none=rs[k]:=by simp[hk]
 rw[e]at hs;intro r hr;rw[List.take_succ_eq_append_getElem hk,List.mem_append,List.mem_singleton]at hr;rcases hr with hr|rfl
 ·exact h r hr
 ·exact hs
theorem xb (b off cap:Nat) (rs:List Ob) (left:Int) (w:World) (h0:0≤left) (h1:left≤1048576) (hb:b<w.heap.size) (hl:rs.length≤maxLen)
  (hc:∀ i,i<rs.length→ObC w b (off+i*7) (rs.getD i Ob.none)):
  Calls Tryz.prog 20 #[.slice (some ⟨b,off,none⟩) rs.length cap,.int .i64 left] w fun e w'=>(∃ x:Int,e=.returned (.int .i64 x)∧szP ((rs.length:Int)≤left∧∀ r∈rs,r.small) left x)∧Bel w w':=by
 unfold maxLen at hl;have HC:=hid hc;obtain⟨P,hP⟩:∃ P:Prop,P=((rs.length:Int)≤left∧∀ r∈rs,r.small):=⟨_,rfl⟩
 have HP:=hid hP;rw[← hP];clear hc hP;by_cases hneg:left<(rs.length:Int)
 ·go_enter Tryz.func20,Tryz.ntmps20
  go_wp2;go_ret;exact⟨⟨_,rfl,by unfold szP;refine⟨by omega,by omega,fun h=>by omega⟩⟩,br⟩
 ·go_enter Tryz.func20,Tryz.ntmps20
  go_wp2;go_loopw [1,5] (fun l i wr=>∃ (k:Nat) (x:Int),k≤rs.length∧i=.int .i64 k∧l=.int .i64 x∧0≤x∧x≤left∧(∀ r∈rs.take k,r.small)∧Bel w wr) (fun _ i _=>rs.length - (intOf i).toNat)
  case atStart=>exact⟨0,_,nz,rfl,rfl,by omega,by omega,fun r hr=>by simp at hr,br⟩
  case round=>
   obtain⟨k,x,hk,rfl,rfl,x0,x1,dO,hB⟩:=hrel;have HS:=hid dO;clear dO;by_cases aw:k<rs.length
   ·have hf:=(HC.out k aw).later hB hb;obtain⟨r,hm⟩:∃ r,r=rs.getD k Ob.none:=⟨_,rfl⟩
    rw[← hm]at hf;obtain⟨v1,v2,c0,c1,c2,c3,c4,c5,c6,hn⟩:=hf;have HM:=hid (And.intro hm hn);clear hm hn;go_wp2_with fail
    refine(GQ r v1 v2 x wr x0 (by omega) HM.out.2).mono ?_;rintro e w2 ⟨⟨x',rfl,hx⟩,aA⟩;have HX:=hid hx;have q1:=hx.1;have q2:=hx.2.1;have bF:=aa hB aA;clear aA c0 c1 c2 c3 c4 c5 c6 hx;by_cases c2:x'<0
    ·go_wp2;go_ret;exact⟨⟨_,rfl,by unfold szP;exact⟨by omega,by omega,fun h=>by omega⟩⟩,bF⟩
    ·have HN:=hid (nQ HS.out aw (by rw[← HM.out.1];exact HX.out.2.2 (by omega)));go_wp2;go_roundw
     case rel=>exact⟨k+1,_,by omega,by go_num,rfl,by omega,by omega,HN.out,bF⟩
     case measure=>simp[intOf];omega
   ·have HQ:Hid P:=by
     show P;rw[HP.out];have:=HS.out;rw[List.take_of_length_le (by omega)]at this;exact⟨by omega,this⟩
    go_wp2;go_ret;exact⟨⟨_,rfl,by unfold szP;exact⟨by omega,by omega,fun _=>HQ.out⟩⟩,hB⟩
theorem wV (a:Option Addr) (cap:Nat) (left:Int) (w:World) (h0:0≤left) (h1:left≤1048576):
  Calls Tryz.prog 20 #[.slice a 0 cap,.int .i64 left] w fun e w'=>e=.returned (.int .i64 left)∧w=w':=by
 go_enter Tryz.func20,Tryz.ntmps20
 go_wp2;refine wp_loop_rounds 1 ?_;rw[rounds_succ];go_wp2;go_ret;exact⟨Pl.aS (by omega),rfl⟩
theorem GN (v:Value) (rs:List Ob) (left:Int) (w:World) (h0:0≤left) (h1:left≤1048576) (h:nR w v rs):
  Calls Tryz.prog 20 #[v,.int .i64 left] w fun e w'=>(∃ x:Int,e=.returned (.int .i64 x)∧szP ((rs.length:Int)≤left∧∀ r∈rs,r.small) left x)∧Bel w w':=by
 rcases h with⟨a,cap,rfl,rfl⟩|⟨b,off,cap,rfl,hb,hl,hc⟩
 ·refine(wV a cap left w h0 h1).mono ?_;rintro e w' ⟨rfl,rfl⟩;exact⟨⟨_,rfl,by unfold szP;exact⟨by omega,by omega,fun _=>⟨by simpa using h0,fun r hr=>by simp at hr⟩⟩⟩,br⟩
 ·exact xb b off cap rs left w h0 h1 hb hl hc
structure Ps where
 door:ByteArray
 team:ByteArray
 res:ByteArray
 amount:Int
 til:Int
def Ps.none:Ps:=⟨ByteArray.empty,ByteArray.empty,ByteArray.empty,0,0⟩
def Ps.sized (m:Ps):Prop:=m.door.size≤maxLen∧m.team.size≤maxLen∧m.res.size≤maxLen
structure ld (w:World) (b o:Nat) (m:Ps):Prop where
 c0:w.cell? ⟨b,o,none⟩=some (.string m.door)
 c1:w.cell? ⟨b,o+1,none⟩=some (.string m.team)
 c2:w.cell? ⟨b,o+2,none⟩=some (.string m.res)
 c3:w.cell? ⟨b,o+3,none⟩=some (.int .i64 m.amount)
 c4:w.cell? ⟨b,o+4,none⟩=some (.int .i64 m.til)
 sized:m.sized
theorem ld.later {w w':World} {b o:Nat} {m:Ps} (h:ld w b o m) (hb:Bel w w') (aw:b<w.heap.size):ld w' b o m:=by
 have c:∀ j,w'.cell? ⟨b,j,none⟩=w.cell? ⟨b,j,none⟩:=fun j=>hb.cell (p:=⟨b,j,none⟩) aw;exact⟨(c _).trans h.c0,(c _).trans h.c1,(c _).trans h.c2,(c _).trans h.c3,(c _).trans h.c4,h.sized⟩
def nI (w:World) (v:Value) (ms:List Ps):Prop:=
 (∃ a cap,v=.slice a 0 cap∧ms=[])∨∃ b off cap,v=.slice (some ⟨b,off,none⟩) ms.length cap∧b<w.heap.size∧ms.length≤maxLen∧∀ i,i<ms.length→ld w b (off+i*5) (ms.getD i Ps.none)
theorem nI.later {w w':World} {v:Value} {ms:List Ps} (h:nI w v ms) (hb:Bel w w'):nI w' v ms:=by
 rcases h with h|⟨b,off,cap,rfl,h1,h2,h3⟩
 ·exact Or.inl h
 ·exact Or.inr ⟨b,off,cap,rfl,lo h1 hb.size,h2,fun i hi=>(h3 i hi).later hb h1⟩
structure iL (w:World) (B:Nat) (ms:List Ps):Prop where
 lt:B<w.heap.size
 len:ms.length≤1048576
 at_:∀ i,i<ms.length→ld w B (i*5) (ms.getD i Ps.none)
 own:ai w B 129 (ms.length*5)
theorem iL.later {w w':World} {B:Nat} {ms:List Ps} (h:iL w B ms) (hb:Bel w w'):iL w' B ms:=
 ⟨lo h.lt hb.size,h.len,fun i hi=>(h.at_ i hi).later hb h.lt,h.own.later hb⟩
theorem iL.sc {w:World} {B p:Nat} {ms:List Ps} (h:iL w B ms) (hp:p<B) (j:Nat) (v:Value):iL (w.setCell ⟨p,j,none⟩ v) B ms:=by
 have c:∀ q,(w.setCell ⟨p,j,none⟩ v).cell? ⟨B,q,none⟩=w.cell? ⟨B,q,none⟩:=fun q=>aF _ _ _ _ _ _ (by omega);exact⟨by rw[bc];exact h.lt,h.len,fun i hi=>by have h:=h.at_ i hi;exact⟨(c _).trans h.c0,(c _).trans h.c1,(c _).trans h.c2,(c _).trans h.c3,(c _).trans h.c4,h.sized⟩,h.own.bh (by omega) _ _⟩
theorem ld.aI {w:World} {B o:Nat} {m:Ps} (h:ld w B o m) (o':Nat) (vs:List Value) (ho:o+5≤o'):ld (aI w B o' 0 vs) B o m:=by
 have c:∀ j,j<o'→(YtbiokpmdghmgcaaGreat.aI w B o' 0 vs).cell? ⟨B,j,none⟩=w.cell? ⟨B,j,none⟩:=fun j hj=>bt B o' B j vs w 0 (by omega);exact⟨(c _ (by omega)).trans h.c0,(c _ (by omega)).trans h.c1,(c _ (by omega)).trans h.c2,(c _ (by omega)).trans h.c3,(c _ (by omega)).trans h.c4,h.sized⟩
theorem ub {w:World} {B:Nat} {t:TypeId} {n:Nat} (hO:ai w B t n) (o:Nat) (ho:o+5≤n) (m:Ps) (hs:m.sized):
  ld (aI w B o 0 [.string m.door,.string m.team,.string m.res,.int .i64 m.amount,.int .i64 m.til]) B o m:=by
 have c:=fun i hi=>cx o [.string m.door,.string m.team,.string m.res,.int .i64 m.amount,.int .i64 m.til] w 0 hO (by simp;omega) i hi;exact⟨c 0 (by simp),c 1 (by simp),c 2 (by simp),c 3 (by simp),c 4 (by simp),hs⟩
theorem Tryz.BV:(Tryz.prog.info? 129).map (fun i=>(i.zero,i.size,i.bytes))=some (some (.agg #[.string ByteArray.empty,.string ByteArray.empty,.string ByteArray.empty,.int .i64 0,.int .i64 0]),5,64):=by kernel_rfl
theorem vr (n:Nat) (h:n≤1048576):∃ cs:Array Value,cs.size=n*5∧∀ W:World,
  (Instr.makeSlice 45 (.int .i64 (n:Int)) (.int .i64 (n:Int))).run Tryz.prog W=.ok (.slice (some ⟨W.heap.size,0,none⟩) n n) (W.alloc (.cells cs 129)):=by
 obtain⟨i,hi,lx⟩:=Option.map_eq_some_iff.1 Tryz.BV;simp only[Prod.mk.injEq]at lx;obtain⟨hz,hs,hb⟩:=lx;refine⟨madeCells (Value.agg #[.string ByteArray.empty,.string ByteArray.empty,.string ByteArray.empty,.int .i64 0,.int .i64 0]).cells (n*5),size_madeCells _ _,fun W=> ?_⟩;have hr:=run_make (P:=Tryz.prog) W 45 129 i _ Tryz.underlying45 hi hz .i64 .i64 n n (by omega) (Int.le_refl _) (by rw[hb];omega) (by omega);simp only[Int.toNat_natCast,hs]at hr;exact hr
theorem Kd (m:Ps) (w:World):
  Calls Tryz.prog 80 #[.agg #[.string m.door,.string m.team,.string m.res,.int .i64 m.amount,.int .i64 m.til]] w fun e w'=>e=.returned (.agg #[.string m.door,.string m.team,.string m.res,.int .i64 m.amount,.int .i64 m.til])∧Bel w w':=by
 go_enter Tryz.func80,Tryz.ntmps80
 go_wp2;refine bodyPost_ret (v:=.agg #[.string m.door,.string m.team,.string m.res,.int .i64 m.amount,.int .i64 m.til]) (by simp[results,Tryz.results80,go_sem]) rfl ⟨rfl, ?_⟩;repeat(first|exact br|refine ab ?_ _|refine Below.setCell ?_ (by simp) _)
theorem wA (b off cap:Nat) (ms:List Ps) (w:World) (hl:ms.length≤1048576) (hb:b<w.heap.size)
  (hc:∀ i,i<ms.length→ld w b (off+i*5) (ms.getD i Ps.none)):
  Calls Tryz.prog 35 #[.slice (some ⟨b,off,none⟩) ms.length cap] w fun e w'=>e=.returned (.slice (some ⟨w.heap.size,0,none⟩) ms.length ms.length)∧Bel w w'∧ai w' w.heap.size 129 (ms.length*5)∧
   ∀ i,i<ms.length→ld w' w.heap.size (i*5) (ms.getD i Ps.none):=by
 obtain⟨cs,bS,iI⟩:=vr ms.length hl;go_enter Tryz.func35,Tryz.ntmps35
 go_wp2;go_loopw [4] (fun i wr=>∃ k:Nat,k≤ms.length∧i=.int .i64 k∧Bel w wr∧ai wr w.heap.size 129 (ms.length*5)∧∀ i,i<k→ld wr w.heap.size (i*5) (ms.getD i Ps.none)) (fun i _=>ms.length - (intOf i).toNat)
 case atStart=>exact⟨0,nz,rfl,ab br _,ai.alloc w cs 129 _ bS,fun i hi=>absurd hi (Nat.not_lt_zero i)⟩
 case round=>
  obtain⟨k,hk,rfl,hB,hO,av⟩:=hrel;have HA:=hid av;have HO:=hid hO;clear av iI bS hO;by_cases aw:k<ms.length
  ·have hf:=(hc k aw).later hB hb;obtain⟨m,hm⟩:∃ m,m=ms.getD k Ps.none:=⟨_,rfl⟩
   rw[← hm]at hf;have HX:=hid (And.intro hf.sized hm);obtain⟨c0,c1,c2,c3,c4,_⟩:=hf;clear hm hc;go_wp2_with fail
   refine(Kd m wr).mono ?_;rintro e w2 ⟨rfl,aA⟩;have bF:=aa hB aA;have eG:=HO.out.later aA;have HP:Hid (∀ v,v=[.string m.door,.string m.team,.string m.res,.int .i64 m.amount,.int .i64 m.til]→
     Bel w (aI w2 w.heap.size (k*5) 0 v)∧ai (aI w2 w.heap.size (k*5) 0 v) w.heap.size 129 (ms.length*5)∧∀ i,i<k+1→ld (aI w2 w.heap.size (k*5) 0 v) w.heap.size (i*5) (ms.getD i Ps.none)):=by
    intro v hv;subst hv;refine⟨aW (a:=w) _ nr _ _ _ bF,fJ _ _ _ _ eG,fun i hi=> ?_⟩;by_cases hik:i<k
    ·exact((HA.out i hik).later aA HO.out.lt).aI (k*5) _ (by omega)
    ·obtain rfl:i=k:=by omega
     rw[← HX.out.2];exact ub eG (i*5) (by omega) m HX.out.1
   clear c0 c1 c2 c3 c4 HX;have hF:=eG.frozen;obtain⟨v0,o0⟩:=eG.cell (k*5) (by omega);obtain⟨v1,o1⟩:=eG.cell (k*5+1) (by omega);obtain⟨v2,o2⟩:=eG.cell (k*5+2) (by omega);obtain⟨v3,o3⟩:=eG.cell (k*5+3) (by omega);obtain⟨v4,o4⟩:=eG.cell (k*5+4) (by omega);clear eG bF aA;go_wp2;go_roundw
   case rel=>exact⟨k+1,by omega,by go_num,(HP.out _ rfl).1,(HP.out _ rfl).2.1,(HP.out _ rfl).2.2⟩
   case measure=>simp[intOf];omega
  ·obtain rfl:k=ms.length:=by omega
   go_wp2;go_ret;exact⟨rfl,hB,HO.out,HA.out⟩
theorem xy (a:Option Addr) (cap:Nat) (w:World):
  Calls Tryz.prog 35 #[.slice a 0 cap] w fun e w'=>e=.returned (.slice (some ⟨w.heap.size,0,none⟩) 0 0)∧∃ cs:Array Value,cs.size=0∧w'=w.alloc (.cells cs 129):=by
 obtain⟨cs,qO,iD⟩:=vr 0 (by omega);have iI:∀ W:World,(Instr.makeSlice 45 (.int .i64 0) (.int .i64 0)).run Tryz.prog W=.ok (.slice (some ⟨W.heap.size,0,none⟩) 0 0) (W.alloc (.cells cs 129)):=iD;clear iD;go_enter Tryz.func35,Tryz.ntmps35
 go_wp2;refine wp_loop_rounds 1 ?_;rw[rounds_succ];go_wp2;go_ret;exact⟨rfl,_,by omega,rfl⟩
theorem GJ (v:Value) (ms:List Ps) (w:World) (hl:ms.length≤1048576) (h:nI w v ms):
  Calls Tryz.prog 35 #[v] w fun e w'=>e=.returned (.slice (some ⟨w.heap.size,0,none⟩) ms.length ms.length)∧Bel w w'∧iL w' w.heap.size ms:=by
 rcases h with⟨a,cap,rfl,rfl⟩|⟨b,off,cap,rfl,hb,_,hc⟩
 ·refine(xy a cap w).mono ?_;rintro e w' ⟨rfl,cs,bS,rfl⟩;exact⟨rfl,ab br _,⟨by simp,by simp,fun i hi=>absurd hi (Nat.not_lt_zero i),ai.alloc w cs _ _ (by simpa using bS)⟩⟩
 ·refine(wA b off cap ms w hl hb hc).mono ?_;rintro e w' ⟨rfl,h1,h2,h3⟩;exact⟨rfl,h1,h2.lt,hl,h3,h2⟩
theorem J9 (m:Ps) (w:World):
  Calls Tryz.prog 104 #[.agg #[.string m.door,.string m.team,.string m.res,.int .i64 m.amount,.int .i64 m.til],.agg #[.string m.door,.string m.team,.string m.res,.int .i64 m.amount,.int .i64 m.til]] w fun e w'=>e=.returned (.bool true)∧Bel w w':=by
 go_enter Tryz.func104,Tryz.ntmps104
 go_wp2;go_ret;exact⟨rfl,ab (ab br _) _⟩
theorem GS (B B':Nat) (ms:List Ps) (w:World) (h:iL w B ms) (h':iL w B' ms):
  Calls Tryz.prog 49 #[.slice (some ⟨B,0,none⟩) ms.length ms.length,.slice (some ⟨B',0,none⟩) ms.length ms.length] w fun e w'=>e=.returned (.bool true)∧Bel w w':=by
 have hl:=h.len;have HH:=hid (And.intro h h');clear h h';go_enter Tryz.func49,Tryz.ntmps49
 go_wp2;go_loopw [5] (fun i wr=>∃ k:Nat,k≤ms.length∧i=.int .i64 k∧Bel w wr) (fun i _=>ms.length - (intOf i).toNat)
 case atStart=>exact⟨0,nz,rfl,br⟩
 case round=>
  obtain⟨k,hk,rfl,hW⟩:=hrel;by_cases aw:k<ms.length
  ·have q:=(HH.out.1.later hW).at_ k aw;have q':=(HH.out.2.later hW).at_ k aw;obtain⟨m,hm⟩:∃ m,m=ms.getD k Ps.none:=⟨_,rfl⟩
   rw[← hm]at q q';obtain⟨c0,c1,c2,c3,c4,_⟩:=q;obtain⟨d0,d1,d2,d3,d4,_⟩:=q';have HX:=hid fun (W:World) (_:Bel wr W)=>J9 m W;clear hm;go_wp2_with fail
   go_region_with (go_at_call 104;refine(HX.out _ ?_).mono ?_;(repeat(first|exact br|refine Below.drew ?_));rintro e w2 ⟨rfl,aA⟩)
   all_goals
    go_wp2;go_roundw
    case rel=>
     refine⟨k+1,by omega,by go_num, ?_⟩;repeat(first|exact aa hW aA|exact aa hW.drew aA|exact aa hW.drew.drew aA|refine Below.drew ?_)
    case measure=>simp[intOf];omega
  ·go_wp2;go_ret;exact⟨rfl,hW⟩
theorem Kj (m:Ps) (left:Int) (w:World) (h0:0≤left) (h1:left≤1048576) (hs:m.sized):
  Calls Tryz.prog 58 #[.agg #[.string m.door,.string m.team,.string m.res,.int .i64 m.amount,.int .i64 m.til],.int .i64 left] w fun e w'=>(∃ r:Int,e=.returned (.int .i64 r)∧ -1≤r∧r≤left)∧Bel w w':=by
 obtain⟨s0,s1,s2⟩:=hs;unfold maxLen at s0 s1 s2;by_cases c0:left<(m.door.size:Int)
 ·go_enter Tryz.func58,Tryz.ntmps58
  go_wp2;go_ret;exact⟨⟨_,rfl,by omega,by omega⟩,ab br _⟩
 by_cases c1:left - m.door.size<(m.team.size:Int)
 ·go_enter Tryz.func58,Tryz.ntmps58
  go_wp2;go_ret;exact⟨⟨_,rfl,by omega,by omega⟩,ab br _⟩
 by_cases c2:left - m.door.size - m.team.size<(m.res.size:Int)
 all_goals
  go_enter Tryz.func58,Tryz.ntmps58
  go_wp2;go_ret;exact⟨⟨_,rfl,by omega,by omega⟩,ab br _⟩
theorem wR (b off cap:Nat) (ms:List Ps) (left:Int) (w:World) (h0:0≤left) (h1:left≤1048576) (hb:b<w.heap.size) (hl:ms.length≤maxLen)
  (hc:∀ i,i<ms.length→ld w b (off+i*5) (ms.getD i Ps.none)):
  Calls Tryz.prog 23 #[.slice (some ⟨b,off,none⟩) ms.length cap,.int .i64 left] w fun e w'=>(∃ r:Int,e=.returned (.int .i64 r)∧szP ((ms.length:Int)≤left) left r)∧Bel w w':=by
 unfold maxLen at hl;by_cases hneg:left<(ms.length:Int)
 ·go_enter Tryz.func23,Tryz.ntmps23
  go_wp2;go_ret;exact⟨⟨_,rfl,by unfold szP;refine⟨by omega,by omega,by omega⟩⟩,br⟩
 ·go_enter Tryz.func23,Tryz.ntmps23
  go_wp2;go_loopw [1,5] (fun l i wr=>∃ (k:Nat) (r:Int),k≤ms.length∧i=.int .i64 k∧l=.int .i64 r∧0≤r∧r≤left∧Bel w wr) (fun _ i _=>ms.length - (intOf i).toNat)
  case atStart=>exact⟨0,_,nz,rfl,rfl,by omega,by omega,br⟩
  case round=>
   obtain⟨k,r,hk,rfl,rfl,r0,r1,hB⟩:=hrel;by_cases aw:k<ms.length
   ·have hf:=(hc k aw).later hB hb;obtain⟨m,hm⟩:∃ m,m=ms.getD k Ps.none:=⟨_,rfl⟩
    rw[← hm]at hf;have HX:Hid (Calls Tryz.prog 58 #[.agg #[.string m.door,.string m.team,.string m.res,.int .i64 m.amount,.int .i64 m.til],.int .i64 r] wr fun e w'=>(∃ r':Int,e=.returned (.int .i64 r')∧ -1≤r'∧r'≤r)∧Bel wr w'):=
     Kj m r wr r0 (by omega) hf.sized
    obtain⟨c0,c1,c2,c3,c4,_⟩:=hf;clear hm hc;go_wp2_with fail
    refine HX.out.mono ?_;rintro e w2 ⟨⟨r',rfl,q1,q2⟩,aA⟩;have bF:=aa hB aA;clear aA c0 c1 c2 c3 c4 HX;by_cases c2:r'<0
    ·go_wp2;go_ret;exact⟨⟨_,rfl,by unfold szP;refine⟨by omega,by omega,by omega⟩⟩,bF⟩
    ·go_wp2;go_roundw
     case rel=>exact⟨k+1,_,by omega,by go_num,rfl,by omega,by omega,bF⟩
     case measure=>simp[intOf];omega
   ·go_wp2;go_ret;exact⟨⟨_,rfl,by unfold szP;exact⟨by omega,by omega,fun _=>by omega⟩⟩,hB⟩
theorem xC (a:Option Addr) (cap:Nat) (left:Int) (w:World) (h0:0≤left) (h1:left≤1048576):
  Calls Tryz.prog 23 #[.slice a 0 cap,.int .i64 left] w fun e w'=>e=.returned (.int .i64 left)∧w=w':=by
 go_enter Tryz.func23,Tryz.ntmps23
 go_wp2;refine wp_loop_rounds 1 ?_;rw[rounds_succ];go_wp2;go_ret;exact⟨Pl.aS (by omega),rfl⟩
theorem Hg (v:Value) (ms:List Ps) (left:Int) (w:World) (h0:0≤left) (h1:left≤1048576) (h:nI w v ms):
  Calls Tryz.prog 23 #[v,.int .i64 left] w fun e w'=>(∃ r:Int,e=.returned (.int .i64 r)∧szP ((ms.length:Int)≤left) left r)∧Bel w w':=by
 rcases h with⟨a,cap,rfl,rfl⟩|⟨b,off,cap,rfl,hb,hl,hc⟩
 ·refine(xC a cap left w h0 h1).mono ?_;rintro e w' ⟨rfl,rfl⟩;exact⟨⟨_,rfl,by unfold szP;exact⟨by omega,by omega,fun _=>by simpa using h0⟩⟩,br⟩
 ·exact wR b off cap ms left w h0 h1 hb hl hc
structure Lg where
 team:ByteArray
 res:ByteArray
 most:Int
 free:Int
def Lg.none:Lg:=⟨ByteArray.empty,ByteArray.empty,0,0⟩
def Lg.sized (m:Lg):Prop:=m.team.size≤maxLen∧m.res.size≤maxLen
structure lf (w:World) (b o:Nat) (m:Lg):Prop where
 c0:w.cell? ⟨b,o,none⟩=some (.string m.team)
 c1:w.cell? ⟨b,o+1,none⟩=some (.string m.res)
 c2:w.cell? ⟨b,o+2,none⟩=some (.int .i64 m.most)
 c3:w.cell? ⟨b,o+3,none⟩=some (.int .i64 m.free)
 sized:m.sized
theorem lf.later {w w':World} {b o:Nat} {m:Lg} (h:lf w b o m) (hb:Bel w w') (aw:b<w.heap.size):lf w' b o m:=by
 have c:∀ j,w'.cell? ⟨b,j,none⟩=w.cell? ⟨b,j,none⟩:=fun j=>hb.cell (p:=⟨b,j,none⟩) aw;exact⟨(c _).trans h.c0,(c _).trans h.c1,(c _).trans h.c2,(c _).trans h.c3,h.sized⟩
def oi (w:World) (v:Value) (ms:List Lg):Prop:=
 (∃ a cap,v=.slice a 0 cap∧ms=[])∨∃ b off cap,v=.slice (some ⟨b,off,none⟩) ms.length cap∧b<w.heap.size∧ms.length≤maxLen∧∀ i,i<ms.length→lf w b (off+i*4) (ms.getD i Lg.none)
theorem oi.later {w w':World} {v:Value} {ms:List Lg} (h:oi w v ms) (hb:Bel w w'):oi w' v ms:=by
 rcases h with h|⟨b,off,cap,rfl,h1,h2,h3⟩
 ·exact Or.inl h
 ·exact Or.inr ⟨b,off,cap,rfl,lo h1 hb.size,h2,fun i hi=>(h3 i hi).later hb h1⟩
structure gG (w:World) (B:Nat) (ms:List Lg):Prop where
 lt:B<w.heap.size
 len:ms.length≤1048576
 at_:∀ i,i<ms.length→lf w B (i*4) (ms.getD i Lg.none)
 own:ai w B 131 (ms.length*4)
theorem gG.later {w w':World} {B:Nat} {ms:List Lg} (h:gG w B ms) (hb:Bel w w'):gG w' B ms:=
 ⟨lo h.lt hb.size,h.len,fun i hi=>(h.at_ i hi).later hb h.lt,h.own.later hb⟩
theorem gG.sc {w:World} {B p:Nat} {ms:List Lg} (h:gG w B ms) (hp:p<B) (j:Nat) (v:Value):gG (w.setCell ⟨p,j,none⟩ v) B ms:=by
 have c:∀ q,(w.setCell ⟨p,j,none⟩ v).cell? ⟨B,q,none⟩=w.cell? ⟨B,q,none⟩:=fun q=>aF _ _ _ _ _ _ (by omega);exact⟨by rw[bc];exact h.lt,h.len,fun i hi=>by have h:=h.at_ i hi;exact⟨(c _).trans h.c0,(c _).trans h.c1,(c _).trans h.c2,(c _).trans h.c3,h.sized⟩,h.own.bh (by omega) _ _⟩
theorem lf.aI {w:World} {B o:Nat} {m:Lg} (h:lf w B o m) (o':Nat) (vs:List Value) (ho:o+4≤o'):lf (aI w B o' 0 vs) B o m:=by
 have c:∀ j,j<o'→(YtbiokpmdghmgcaaGreat.aI w B o' 0 vs).cell? ⟨B,j,none⟩=w.cell? ⟨B,j,none⟩:=fun j hj=>bt B o' B j vs w 0 (by omega);exact⟨(c _ (by omega)).trans h.c0,(c _ (by omega)).trans h.c1,(c _ (by omega)).trans h.c2,(c _ (by omega)).trans h.c3,h.sized⟩
theorem tc {w:World} {B:Nat} {t:TypeId} {n:Nat} (hO:ai w B t n) (o:Nat) (ho:o+4≤n) (m:Lg) (hs:m.sized):
  lf (aI w B o 0 [.string m.team,.string m.res,.int .i64 m.most,.int .i64 m.free]) B o m:=by
 have c:=fun i hi=>cx o [.string m.team,.string m.res,.int .i64 m.most,.int .i64 m.free] w 0 hO (by simp;omega) i hi;exact⟨c 0 (by simp),c 1 (by simp),c 2 (by simp),c 3 (by simp),hs⟩
theorem Tryz.BR:(Tryz.prog.info? 131).map (fun i=>(i.zero,i.size,i.bytes))=some (some (.agg #[.string ByteArray.empty,.string ByteArray.empty,.int .i64 0,.int .i64 0]),4,48):=by kernel_rfl
theorem vD (n:Nat) (h:n≤1048576):∃ cs:Array Value,cs.size=n*4∧∀ W:World,
  (Instr.makeSlice 44 (.int .i64 (n:Int)) (.int .i64 (n:Int))).run Tryz.prog W=.ok (.slice (some ⟨W.heap.size,0,none⟩) n n) (W.alloc (.cells cs 131)):=by
 obtain⟨i,hi,lx⟩:=Option.map_eq_some_iff.1 Tryz.BR;simp only[Prod.mk.injEq]at lx;obtain⟨hz,hs,hb⟩:=lx;refine⟨madeCells (Value.agg #[.string ByteArray.empty,.string ByteArray.empty,.int .i64 0,.int .i64 0]).cells (n*4),size_madeCells _ _,fun W=> ?_⟩;have hr:=run_make (P:=Tryz.prog) W 44 131 i _ Tryz.underlying44 hi hz .i64 .i64 n n (by omega) (Int.le_refl _) (by rw[hb];omega) (by omega);simp only[Int.toNat_natCast,hs]at hr;exact hr
theorem Kc (m:Lg) (w:World):
  Calls Tryz.prog 79 #[.agg #[.string m.team,.string m.res,.int .i64 m.most,.int .i64 m.free]] w fun e w'=>e=.returned (.agg #[.string m.team,.string m.res,.int .i64 m.most,.int .i64 m.free])∧Bel w w':=by
 go_enter Tryz.func79,Tryz.ntmps79
 go_wp2;refine bodyPost_ret (v:=.agg #[.string m.team,.string m.res,.int .i64 m.most,.int .i64 m.free]) (by simp[results,Tryz.results79,go_sem]) rfl ⟨rfl, ?_⟩;repeat(first|exact br|refine ab ?_ _|refine Below.setCell ?_ (by simp) _)
theorem xu (b off cap:Nat) (ms:List Lg) (w:World) (hl:ms.length≤1048576) (hb:b<w.heap.size)
  (hc:∀ i,i<ms.length→lf w b (off+i*4) (ms.getD i Lg.none)):
  Calls Tryz.prog 34 #[.slice (some ⟨b,off,none⟩) ms.length cap] w fun e w'=>e=.returned (.slice (some ⟨w.heap.size,0,none⟩) ms.length ms.length)∧Bel w w'∧ai w' w.heap.size 131 (ms.length*4)∧
   ∀ i,i<ms.length→lf w' w.heap.size (i*4) (ms.getD i Lg.none):=by
 obtain⟨cs,bS,iI⟩:=vD ms.length hl;go_enter Tryz.func34,Tryz.ntmps34
 go_wp2;go_loopw [4] (fun i wr=>∃ k:Nat,k≤ms.length∧i=.int .i64 k∧Bel w wr∧ai wr w.heap.size 131 (ms.length*4)∧∀ i,i<k→lf wr w.heap.size (i*4) (ms.getD i Lg.none)) (fun i _=>ms.length - (intOf i).toNat)
 case atStart=>exact⟨0,nz,rfl,ab br _,ai.alloc w cs 131 _ bS,fun i hi=>absurd hi (Nat.not_lt_zero i)⟩
 case round=>
  obtain⟨k,hk,rfl,hB,hO,av⟩:=hrel;have HA:=hid av;have HO:=hid hO;clear av iI bS hO;by_cases aw:k<ms.length
  ·have hf:=(hc k aw).later hB hb;obtain⟨m,hm⟩:∃ m,m=ms.getD k Lg.none:=⟨_,rfl⟩
   rw[← hm]at hf;have HX:=hid (And.intro hf.sized hm);obtain⟨c0,c1,c2,c3,_⟩:=hf;clear hm hc;go_wp2_with fail
   refine(Kc m wr).mono ?_;rintro e w2 ⟨rfl,aA⟩;have bF:=aa hB aA;have eG:=HO.out.later aA;have HP:Hid (∀ v,v=[.string m.team,.string m.res,.int .i64 m.most,.int .i64 m.free]→
     Bel w (aI w2 w.heap.size (k*4) 0 v)∧ai (aI w2 w.heap.size (k*4) 0 v) w.heap.size 131 (ms.length*4)∧∀ i,i<k+1→lf (aI w2 w.heap.size (k*4) 0 v) w.heap.size (i*4) (ms.getD i Lg.none)):=by
    intro v hv;subst hv;refine⟨aW (a:=w) _ nr _ _ _ bF,fJ _ _ _ _ eG,fun i hi=> ?_⟩;by_cases hik:i<k
    ·exact((HA.out i hik).later aA HO.out.lt).aI (k*4) _ (by omega)
    ·obtain rfl:i=k:=by omega
     rw[← HX.out.2];exact tc eG (i*4) (by omega) m HX.out.1
   clear c0 c1 c2 c3 HX;have hF:=eG.frozen;obtain⟨v0,o0⟩:=eG.cell (k*4) (by omega);obtain⟨v1,o1⟩:=eG.cell (k*4+1) (by omega);obtain⟨v2,o2⟩:=eG.cell (k*4+2) (by omega);obtain⟨v3,o3⟩:=eG.cell (k*4+3) (by omega);clear eG bF aA;go_wp2;go_roundw
   case rel=>exact⟨k+1,by omega,by go_num,(HP.out _ rfl).1,(HP.out _ rfl).2.1,(HP.out _ rfl).2.2⟩
   case measure=>simp[intOf];omega
  ·obtain rfl:k=ms.length:=by omega
   go_wp2;go_ret;exact⟨rfl,hB,HO.out,HA.out⟩
theorem wF (a:Option Addr) (cap:Nat) (w:World):
  Calls Tryz.prog 34 #[.slice a 0 cap] w fun e w'=>e=.returned (.slice (some ⟨w.heap.size,0,none⟩) 0 0)∧∃ cs:Array Value,cs.size=0∧w'=w.alloc (.cells cs 131):=by
 obtain⟨cs,qO,iD⟩:=vD 0 (by omega);have iI:∀ W:World,(Instr.makeSlice 44 (.int .i64 0) (.int .i64 0)).run Tryz.prog W=.ok (.slice (some ⟨W.heap.size,0,none⟩) 0 0) (W.alloc (.cells cs 131)):=iD;clear iD;go_enter Tryz.func34,Tryz.ntmps34
 go_wp2;refine wp_loop_rounds 1 ?_;rw[rounds_succ];go_wp2;go_ret;exact⟨rfl,_,by omega,rfl⟩
theorem G8 (v:Value) (ms:List Lg) (w:World) (hl:ms.length≤1048576) (h:oi w v ms):
  Calls Tryz.prog 34 #[v] w fun e w'=>e=.returned (.slice (some ⟨w.heap.size,0,none⟩) ms.length ms.length)∧Bel w w'∧gG w' w.heap.size ms:=by
 rcases h with⟨a,cap,rfl,rfl⟩|⟨b,off,cap,rfl,hb,_,hc⟩
 ·refine(wF a cap w).mono ?_;rintro e w' ⟨rfl,cs,bS,rfl⟩;exact⟨rfl,ab br _,⟨by simp,by simp,fun i hi=>absurd hi (Nat.not_lt_zero i),ai.alloc w cs _ _ (by simpa using bS)⟩⟩
 ·refine(xu b off cap ms w hl hb hc).mono ?_;rintro e w' ⟨rfl,h1,h2,h3⟩;exact⟨rfl,h1,h2.lt,hl,h3,h2⟩
theorem Kh (m:Lg) (w:World):
  Calls Tryz.prog 103 #[.agg #[.string m.team,.string m.res,.int .i64 m.most,.int .i64 m.free],.agg #[.string m.team,.string m.res,.int .i64 m.most,.int .i64 m.free]] w fun e w'=>e=.returned (.bool true)∧Bel w w':=by
 go_enter Tryz.func103,Tryz.ntmps103
 go_wp2;go_ret;exact⟨rfl,ab (ab br _) _⟩
theorem GI (B B':Nat) (ms:List Lg) (w:World) (h:gG w B ms) (h':gG w B' ms):
  Calls Tryz.prog 48 #[.slice (some ⟨B,0,none⟩) ms.length ms.length,.slice (some ⟨B',0,none⟩) ms.length ms.length] w fun e w'=>e=.returned (.bool true)∧Bel w w':=by
 have hl:=h.len;have HH:=hid (And.intro h h');clear h h';go_enter Tryz.func48,Tryz.ntmps48
 go_wp2;go_loopw [5] (fun i wr=>∃ k:Nat,k≤ms.length∧i=.int .i64 k∧Bel w wr) (fun i _=>ms.length - (intOf i).toNat)
 case atStart=>exact⟨0,nz,rfl,br⟩
 case round=>
  obtain⟨k,hk,rfl,hW⟩:=hrel;by_cases aw:k<ms.length
  ·have q:=(HH.out.1.later hW).at_ k aw;have q':=(HH.out.2.later hW).at_ k aw;obtain⟨m,hm⟩:∃ m,m=ms.getD k Lg.none:=⟨_,rfl⟩
   rw[← hm]at q q';obtain⟨c0,c1,c2,c3,_⟩:=q;obtain⟨d0,d1,d2,d3,_⟩:=q';have HX:=hid fun (W:World) (_:Bel wr W)=>Kh m W;clear hm;go_wp2_with fail
   go_region_with (go_at_call 103;refine(HX.out _ ?_).mono ?_;(repeat(first|exact br|refine Below.drew ?_));rintro e w2 ⟨rfl,aA⟩)
   all_goals
    go_wp2;go_roundw
    case rel=>
     refine⟨k+1,by omega,by go_num, ?_⟩;repeat(first|exact aa hW aA|exact aa hW.drew aA|exact aa hW.drew.drew aA|refine Below.drew ?_)
    case measure=>simp[intOf];omega
  ·go_wp2;go_ret;exact⟨rfl,hW⟩
theorem Ke (m:Lg) (left:Int) (w:World) (h0:0≤left) (h1:left≤1048576) (hs:m.sized):
  Calls Tryz.prog 57 #[.agg #[.string m.team,.string m.res,.int .i64 m.most,.int .i64 m.free],.int .i64 left] w fun e w'=>(∃ r:Int,e=.returned (.int .i64 r)∧ -1≤r∧r≤left)∧Bel w w':=by
 obtain⟨s0,s1⟩:=hs;unfold maxLen at s0 s1;by_cases c0:left<(m.team.size:Int)
 ·go_enter Tryz.func57,Tryz.ntmps57
  go_wp2;go_ret;exact⟨⟨_,rfl,by omega,by omega⟩,ab br _⟩
 by_cases c1:left - m.team.size<(m.res.size:Int)
 all_goals
  go_enter Tryz.func57,Tryz.ntmps57
  go_wp2;go_ret;exact⟨⟨_,rfl,by omega,by omega⟩,ab br _⟩
theorem wK (b off cap:Nat) (ms:List Lg) (left:Int) (w:World) (h0:0≤left) (h1:left≤1048576) (hb:b<w.heap.size) (hl:ms.length≤maxLen)
  (hc:∀ i,i<ms.length→lf w b (off+i*4) (ms.getD i Lg.none)):
  Calls Tryz.prog 22 #[.slice (some ⟨b,off,none⟩) ms.length cap,.int .i64 left] w fun e w'=>(∃ r:Int,e=.returned (.int .i64 r)∧szP ((ms.length:Int)≤left) left r)∧Bel w w':=by
 unfold maxLen at hl;by_cases hneg:left<(ms.length:Int)
 ·go_enter Tryz.func22,Tryz.ntmps22
  go_wp2;go_ret;exact⟨⟨_,rfl,by unfold szP;refine⟨by omega,by omega,by omega⟩⟩,br⟩
 ·go_enter Tryz.func22,Tryz.ntmps22
  go_wp2;go_loopw [1,5] (fun l i wr=>∃ (k:Nat) (r:Int),k≤ms.length∧i=.int .i64 k∧l=.int .i64 r∧0≤r∧r≤left∧Bel w wr) (fun _ i _=>ms.length - (intOf i).toNat)
  case atStart=>exact⟨0,_,nz,rfl,rfl,by omega,by omega,br⟩
  case round=>
   obtain⟨k,r,hk,rfl,rfl,r0,r1,hB⟩:=hrel;by_cases aw:k<ms.length
   ·have hf:=(hc k aw).later hB hb;obtain⟨m,hm⟩:∃ m,m=ms.getD k Lg.none:=⟨_,rfl⟩
    rw[← hm]at hf;have HX:Hid (Calls Tryz.prog 57 #[.agg #[.string m.team,.string m.res,.int .i64 m.most,.int .i64 m.free],.int .i64 r] wr fun e w'=>(∃ r':Int,e=.returned (.int .i64 r')∧ -1≤r'∧r'≤r)∧Bel wr w'):=
     Ke m r wr r0 (by omega) hf.sized
    obtain⟨c0,c1,c2,c3,_⟩:=hf;clear hm hc;go_wp2_with fail
    refine HX.out.mono ?_;rintro e w2 ⟨⟨r',rfl,q1,q2⟩,aA⟩;have bF:=aa hB aA;clear aA c0 c1 c2 c3 HX;by_cases c2:r'<0
    ·go_wp2;go_ret;exact⟨⟨_,rfl,by unfold szP;refine⟨by omega,by omega,by omega⟩⟩,bF⟩
    ·go_wp2;go_roundw
     case rel=>exact⟨k+1,_,by omega,by go_num,rfl,by omega,by omega,bF⟩
     case measure=>simp[intOf];omega
   ·go_wp2;go_ret;exact⟨⟨_,rfl,by unfold szP;exact⟨by omega,by omega,fun _=>by omega⟩⟩,hB⟩
theorem xe (a:Option Addr) (cap:Nat) (left:Int) (w:World) (h0:0≤left) (h1:left≤1048576):
  Calls Tryz.prog 22 #[.slice a 0 cap,.int .i64 left] w fun e w'=>e=.returned (.int .i64 left)∧w=w':=by
 go_enter Tryz.func22,Tryz.ntmps22
 go_wp2;refine wp_loop_rounds 1 ?_;rw[rounds_succ];go_wp2;go_ret;exact⟨Pl.aS (by omega),rfl⟩
theorem G7 (v:Value) (ms:List Lg) (left:Int) (w:World) (h0:0≤left) (h1:left≤1048576) (h:oi w v ms):
  Calls Tryz.prog 22 #[v,.int .i64 left] w fun e w'=>(∃ r:Int,e=.returned (.int .i64 r)∧szP ((ms.length:Int)≤left) left r)∧Bel w w':=by
 rcases h with⟨a,cap,rfl,rfl⟩|⟨b,off,cap,rfl,hb,hl,hc⟩
 ·refine(xe a cap left w h0 h1).mono ?_;rintro e w' ⟨rfl,rfl⟩;exact⟨⟨_,rfl,by unfold szP;exact⟨by omega,by omega,fun _=>by simpa using h0⟩⟩,br⟩
 ·exact wK b off cap ms left w h0 h1 hb hl hc
structure Bk where
 now:Int
 tick:Int
 given:Int
 objects:List Ob
 grants:List Gr
 ledgers:List Lg
 purses:List Ps
structure s8 (w:World) (v0 v1 v2 v3:Value) (K:Bk):Prop where
 o:nR w v0 K.objects
 g:oc w v1 K.grants
 l:oi w v2 K.ledgers
 p:nI w v3 K.purses
structure gp (w:World) (b0 b1 b2 b3:Nat) (K:Bk):Prop where
 o:fS w b0 K.objects
 g:gO w b1 K.grants
 l:gG w b2 K.ledgers
 p:iL w b3 K.purses
def Bk.small (K:Bk):Prop:=(K.objects.length≤1048576∧∀ x∈K.objects,x.small)∧(K.grants.length≤1048576∧∀ x∈K.grants,x.small)∧K.ledgers.length≤1048576∧K.purses.length≤1048576
theorem s8.later {w w':World} {v0 v1 v2 v3:Value} {K:Bk} (h:s8 w v0 v1 v2 v3 K) (hb:Bel w w'):s8 w' v0 v1 v2 v3 K:=⟨h.o.later hb,h.g.later hb,h.l.later hb,h.p.later hb⟩
theorem gp.later {w w':World} {b0 b1 b2 b3:Nat} {K:Bk} (h:gp w b0 b1 b2 b3 K) (hb:Bel w w'):gp w' b0 b1 b2 b3 K:=⟨h.o.later hb,h.g.later hb,h.l.later hb,h.p.later hb⟩
theorem Ej (K:Bk) (v0 v1 v2 v3:Value) (left:Int) (w:World) (h0:0≤left) (h1:left≤1048576) (h:s8 w v0 v1 v2 v3 K):
  Calls Tryz.prog 6 #[.agg #[.int .i64 K.now,.int .i64 K.tick,.int .i64 K.given,v0,v1,v2,v3],.int .i64 left] w fun e w'=>(∃ r:Int,e=.returned (.int .i64 r)∧szP K.small left r)∧Bel w w':=by
 have HH:=hid h;clear h;obtain⟨wa,dX⟩:∃ wa,wa=w.alloc (.cells #[.int .i64 K.now,.int .i64 K.tick,.int .i64 K.given,v0,v1,v2,v3] 32):=⟨_,rfl⟩
 have ea:Hid (Bel w wa):=by show Below _ _ _;rw[dX];exact ab br _
 have iC:Hid (bm wa w.heap.size (.int .i64 K.now) (.int .i64 K.tick) (.int .i64 K.given) (v0) (v1) (v2) (v3)):=by show bm _ _ _ _ _ _ _ _ _;rw[dX];exact bm.bV w _ _ _ _ _ _ _ _ _ rfl
 go_enter Tryz.func6,Tryz.ntmps6
 go_upto_region 1 with fail
 rw[← dX];clear dX;obtain⟨yz,y0,y1,y2,y3,y4,y5,y6⟩:=iC.out;go_wp2_with fail
 refine(GN v0 K.objects left wa (by omega) (by omega) (HH.out.later ea.out).o).mono ?_;rintro e wb ⟨⟨r0,rfl,hr⟩,hb⟩;have q7:=hid hr;have q0: -1≤r0:=hr.1;have q0':r0≤left:=hr.2.1;have jf:=hid (aa ea.out hb);have kE:=hid (iC.out.later hb);clear hr hb yz y0 y1 y2 y3 y4 y5 y6 iC ea;by_cases c0:r0<0
 ·go_wp2;go_ret;exact⟨⟨_,rfl,by unfold szP;exact⟨by omega,by omega,by omega⟩⟩,jf.out⟩
 obtain⟨yz,y0,y1,y2,y3,y4,y5,y6⟩:=kE.out;go_wp2_with fail
 refine(GL v1 K.grants r0 wb (by omega) (by omega) (HH.out.later jf.out).g).mono ?_;rintro e wc ⟨⟨r1,rfl,hr⟩,hb⟩;have Bb:=hid hr;have q1: -1≤r1:=hr.1;have q1':r1≤r0:=hr.2.1;have jO:=hid (aa jf.out hb);have ly:=hid (kE.out.later hb);clear hr hb yz y0 y1 y2 y3 y4 y5 y6 kE jf;by_cases c1:r1<0
 ·go_wp2;go_ret;exact⟨⟨_,rfl,by unfold szP;exact⟨by omega,by omega,by omega⟩⟩,jO.out⟩
 obtain⟨yz,y0,y1,y2,y3,y4,y5,y6⟩:=ly.out;go_wp2_with fail
 refine(G7 v2 K.ledgers r1 wc (by omega) (by omega) (HH.out.later jO.out).l).mono ?_;rintro e wd ⟨⟨r2,rfl,hr⟩,hb⟩;have mU:=hid hr;have q2: -1≤r2:=hr.1;have q2':r2≤r1:=hr.2.1;have lY:=hid (aa jO.out hb);have py:=hid (ly.out.later hb);clear hr hb yz y0 y1 y2 y3 y4 y5 y6 ly jO;by_cases c2:r2<0
 ·go_wp2;go_ret;exact⟨⟨_,rfl,by unfold szP;exact⟨by omega,by omega,by omega⟩⟩,lY.out⟩
 obtain⟨yz,y0,y1,y2,y3,y4,y5,y6⟩:=py.out;go_wp2_with fail
 refine(Hg v3 K.purses r2 wd (by omega) (by omega) (HH.out.later lY.out).p).mono ?_;rintro e we ⟨⟨r3,rfl,hr⟩,hb⟩;have Gv:=hid hr;have q3: -1≤r3:=hr.1;have q3':r3≤r2:=hr.2.1;have yc:=hid (aa lY.out hb);have Ds:=hid (py.out.later hb);clear hr hb yz y0 y1 y2 y3 y4 y5 y6 py lY;by_cases c3:r3<0
 ·go_wp2;go_ret;exact⟨⟨_,rfl,by unfold szP;exact⟨by omega,by omega,by omega⟩⟩,yc.out⟩
 go_wp2;go_ret;refine⟨⟨_,rfl, ?_⟩,yc.out⟩;have k0:=q7.out.2.2 (by omega);have k1:=Bb.out.2.2 (by omega);have k2:=mU.out.2.2 (by omega);have k3:=Gv.out.2.2 (by omega);unfold szP;exact⟨by omega,by omega,fun _=>⟨⟨by omega,k0.2⟩,⟨by omega,k1.2⟩,by omega,by omega⟩⟩
theorem D8 (K:Bk) (v0 v1 v2 v3:Value) (w:World) (hs:K.small) (h:s8 w v0 v1 v2 v3 K):
  Calls Tryz.prog 9 #[.agg #[.int .i64 K.now,.int .i64 K.tick,.int .i64 K.given,v0,v1,v2,v3]] w fun e w'=>(∃ b0 b1 b2 b3,e=.returned (.agg #[.int .i64 K.now,.int .i64 K.tick,.int .i64 K.given,.slice (some ⟨b0,0,none⟩) K.objects.length K.objects.length,.slice (some ⟨b1,0,none⟩) K.grants.length K.grants.length,.slice (some ⟨b2,0,none⟩) K.ledgers.length K.ledgers.length,.slice (some ⟨b3,0,none⟩) K.purses.length K.purses.length])∧gp w' b0 b1 b2 b3 K∧w.heap.size≤b0∧w.heap.size≤b1∧w.heap.size≤b2∧w.heap.size≤b3)∧Bel w w':=by
 have HH:=hid (And.intro h hs);clear h hs;obtain⟨wa,dX⟩:∃ wa,wa=((w.alloc (.cells #[.int .i64 K.now,.int .i64 K.tick,.int .i64 K.given,v0,v1,v2,v3] 32)).alloc (.cells #[.int .i64 0,.int .i64 0,.int .i64 0,.slice none 0 0,.slice none 0 0,.slice none 0 0,.slice none 0 0] 47)).alloc (.cells #[.int .i64 K.now,.int .i64 K.tick,.int .i64 K.given,.slice none 0 0,.slice none 0 0,.slice none 0 0,.slice none 0 0] 47):=⟨_,rfl⟩
 have ea:Hid (Bel w wa):=by show Below _ _ _;rw[dX];exact ab (ab (ab br _) _) _
 have iC:Hid (bm wa w.heap.size (.int .i64 K.now) (.int .i64 K.tick) (.int .i64 K.given) (v0) (v1) (v2) (v3)):=by show bm _ _ _ _ _ _ _ _ _;rw[dX];exact((bm.bV w _ _ _ _ _ _ _ _ _ rfl).ek _).ek _
 have sI:Hid (ai wa (w.heap.size+2) 47 7):=by show ai _ _ _ _;rw[dX];exact ai.hU _ _ _ _ _ rfl (by simp)
 have JF:Hid (ai wa (w.heap.size+1) 47 7):=by show ai _ _ _ _;rw[dX];exact(ai.hU _ _ _ _ _ rfl (by simp)).ek _
 have A8:Hid (wa.cell? ⟨w.heap.size+2,0,none⟩=some (.int .i64 K.now)∧wa.cell? ⟨w.heap.size+2,1,none⟩=some (.int .i64 K.tick)∧wa.cell? ⟨w.heap.size+2,2,none⟩=some (.int .i64 K.given)):=by show _∧_∧_;rw[dX];exact⟨World.cell?_alloc_at _ _ _ _ (by simp),World.cell?_alloc_at _ _ _ _ (by simp),World.cell?_alloc_at _ _ _ _ (by simp)⟩
 have EU:Hid (w.heap.size+3≤wa.heap.size):=by show _≤_;rw[dX];simp
 go_enter Tryz.func9,Tryz.ntmps9
 go_upto_region 5 with fail
 rw[← dX];clear dX;obtain⟨yz,y0,y1,y2,y3,y4,y5,y6⟩:=iC.out;go_wp2_with fail
 refine(GM v0 K.objects wa HH.out.2.1.1 HH.out.2.1.2 (HH.out.1.later ea.out).o).mono ?_;rintro e wb ⟨rfl,hb,hi⟩;obtain⟨p0,hp⟩:∃ p0,p0=wa.heap.size:=⟨_,rfl⟩
 rw[← hp]at hi ⊢;have oQ:Hid (w.heap.size+3≤p0):=by show _≤_;rw[hp];exact EU.out
 have I1:=hid hi;have jf:=hid (aa ea.out hb);have kE:=hid (iC.out.later hb);have oN:=hid (sI.out.later hb);have Fp:=hid (JF.out.later hb);have uY:=hid (And.intro ((hb.cell (p:=⟨w.heap.size+2,0,none⟩) sI.out.lt).trans A8.out.1) (And.intro ((hb.cell (p:=⟨w.heap.size+2,1,none⟩) sI.out.lt).trans A8.out.2.1) ((hb.cell (p:=⟨w.heap.size+2,2,none⟩) sI.out.lt).trans A8.out.2.2)));have CN:=hid (Nat.le_trans EU.out hb.size);clear hi hb hp yz y0 y1 y2 y3 y4 y5 y6 iC ea sI JF A8 EU;have hF:=oN.out.frozen;have hz:=oN.out.lt;obtain⟨z,ez⟩:=oN.out.cell 3 (by omega);obtain⟨wc,hw⟩:∃ wc,wc=wb.setCell ⟨w.heap.size+2,3,none⟩ (.slice (some ⟨p0,0,none⟩) K.objects.length K.objects.length):=⟨_,rfl⟩
 have jO:Hid (Bel w wc):=by show Below _ _ _;rw[hw];exact jf.out.setCell (p:=⟨w.heap.size+2,3,none⟩) (by show w.heap.size≤w.heap.size+2;omega) _
 have ly:Hid (bm wc w.heap.size (.int .i64 K.now) (.int .i64 K.tick) (.int .i64 K.given) (v0) (v1) (v2) (v3)):=by
  show bm _ _ _ _ _ _ _ _ _;rw[hw];obtain⟨yz,y0,y1,y2,y3,y4,y5,y6⟩:=kE.out;exact⟨by rw[bc];exact yz,(aF _ _ _ _ _ _ (by omega)).trans y0,(aF _ _ _ _ _ _ (by omega)).trans y1,(aF _ _ _ _ _ _ (by omega)).trans y2,(aF _ _ _ _ _ _ (by omega)).trans y3,(aF _ _ _ _ _ _ (by omega)).trans y4,(aF _ _ _ _ _ _ (by omega)).trans y5,(aF _ _ _ _ _ _ (by omega)).trans y6⟩
 have qd:Hid (ai wc (w.heap.size+2) 47 7):=by show ai _ _ _ _;rw[hw];exact oN.out.setCell 3 _
 have Gd:Hid (ai wc (w.heap.size+1) 47 7):=by show ai _ _ _ _;rw[hw];exact Fp.out.bh (by omega) _ _
 have IX:Hid (wc.cell? ⟨w.heap.size+2,0,none⟩=some (.int .i64 K.now)∧wc.cell? ⟨w.heap.size+2,1,none⟩=some (.int .i64 K.tick)∧wc.cell? ⟨w.heap.size+2,2,none⟩=some (.int .i64 K.given)∧wc.cell? ⟨w.heap.size+2,3,none⟩=some (.slice (some ⟨p0,0,none⟩) K.objects.length K.objects.length)):=by
  show _∧_∧_∧_;rw[hw];exact⟨(aF _ _ _ _ _ _ (by omega)).trans uY.out.1,(aF _ _ _ _ _ _ (by omega)).trans uY.out.2.1,(aF _ _ _ _ _ _ (by omega)).trans uY.out.2.2,eJ oN.out 3 (by omega) _⟩
 have Ji:Hid (fS wc p0 K.objects):=by
  show fS _ _ _;rw[hw];exact I1.out.sc (by have:=oQ.out;omega) _ _
 have E2:Hid (w.heap.size+3≤wc.heap.size):=by show _≤_;rw[hw,bc];exact CN.out
 go_upto_region 6 with fail
 rw[← hw];clear hw hF hz ez jf kE oN Fp uY I1 CN;obtain⟨yz,y0,y1,y2,y3,y4,y5,y6⟩:=ly.out;go_wp2_with fail
 refine(He v1 K.grants wc HH.out.2.2.1.1 HH.out.2.2.1.2 (HH.out.1.later jO.out).g).mono ?_;rintro e wd ⟨rfl,hb,hi⟩;obtain⟨p1,hp⟩:∃ p1,p1=wc.heap.size:=⟨_,rfl⟩
 rw[← hp]at hi ⊢;have yi:Hid (w.heap.size+3≤p1):=by show _≤_;rw[hp];exact E2.out
 have AO:=hid (And.intro (Ji.out.later hb) hi);have lY:=hid (aa jO.out hb);have py:=hid (ly.out.later hb);have sV:=hid (qd.out.later hb);have uF:=hid (Gd.out.later hb);have Iu:=hid (And.intro ((hb.cell (p:=⟨w.heap.size+2,0,none⟩) qd.out.lt).trans IX.out.1) (And.intro ((hb.cell (p:=⟨w.heap.size+2,1,none⟩) qd.out.lt).trans IX.out.2.1) (And.intro ((hb.cell (p:=⟨w.heap.size+2,2,none⟩) qd.out.lt).trans IX.out.2.2.1) ((hb.cell (p:=⟨w.heap.size+2,3,none⟩) qd.out.lt).trans IX.out.2.2.2))));have IZ:=hid (Nat.le_trans E2.out hb.size);clear hi hb hp yz y0 y1 y2 y3 y4 y5 y6 ly jO qd Gd IX E2 Ji;have hF:=sV.out.frozen;have hz:=sV.out.lt;obtain⟨z,ez⟩:=sV.out.cell 4 (by omega);obtain⟨we,hw⟩:∃ we,we=wd.setCell ⟨w.heap.size+2,4,none⟩ (.slice (some ⟨p1,0,none⟩) K.grants.length K.grants.length):=⟨_,rfl⟩
 have yc:Hid (Bel w we):=by show Below _ _ _;rw[hw];exact lY.out.setCell (p:=⟨w.heap.size+2,4,none⟩) (by show w.heap.size≤w.heap.size+2;omega) _
 have Ds:Hid (bm we w.heap.size (.int .i64 K.now) (.int .i64 K.tick) (.int .i64 K.given) (v0) (v1) (v2) (v3)):=by
  show bm _ _ _ _ _ _ _ _ _;rw[hw];obtain⟨yz,y0,y1,y2,y3,y4,y5,y6⟩:=py.out;exact⟨by rw[bc];exact yz,(aF _ _ _ _ _ _ (by omega)).trans y0,(aF _ _ _ _ _ _ (by omega)).trans y1,(aF _ _ _ _ _ _ (by omega)).trans y2,(aF _ _ _ _ _ _ (by omega)).trans y3,(aF _ _ _ _ _ _ (by omega)).trans y4,(aF _ _ _ _ _ _ (by omega)).trans y5,(aF _ _ _ _ _ _ (by omega)).trans y6⟩
 have vI:Hid (ai we (w.heap.size+2) 47 7):=by show ai _ _ _ _;rw[hw];exact sV.out.setCell 4 _
 have JS:Hid (ai we (w.heap.size+1) 47 7):=by show ai _ _ _ _;rw[hw];exact uF.out.bh (by omega) _ _
 have GH:Hid (we.cell? ⟨w.heap.size+2,0,none⟩=some (.int .i64 K.now)∧we.cell? ⟨w.heap.size+2,1,none⟩=some (.int .i64 K.tick)∧we.cell? ⟨w.heap.size+2,2,none⟩=some (.int .i64 K.given)∧we.cell? ⟨w.heap.size+2,3,none⟩=some (.slice (some ⟨p0,0,none⟩) K.objects.length K.objects.length)∧we.cell? ⟨w.heap.size+2,4,none⟩=some (.slice (some ⟨p1,0,none⟩) K.grants.length K.grants.length)):=by
  show _∧_∧_∧_∧_;rw[hw];exact⟨(aF _ _ _ _ _ _ (by omega)).trans Iu.out.1,(aF _ _ _ _ _ _ (by omega)).trans Iu.out.2.1,(aF _ _ _ _ _ _ (by omega)).trans Iu.out.2.2.1,(aF _ _ _ _ _ _ (by omega)).trans Iu.out.2.2.2,eJ sV.out 4 (by omega) _⟩
 have Fk:Hid (fS we p0 K.objects∧gO we p1 K.grants):=by
  show _∧_;rw[hw];exact⟨AO.out.1.sc (by have:=oQ.out;omega) _ _,AO.out.2.sc (by have:=yi.out;omega) _ _⟩
 have Gh:Hid (w.heap.size+3≤we.heap.size):=by show _≤_;rw[hw,bc];exact IZ.out
 go_upto_region 7 with fail
 rw[← hw];clear hw hF hz ez lY py sV uF Iu AO IZ;obtain⟨yz,y0,y1,y2,y3,y4,y5,y6⟩:=Ds.out;go_wp2_with fail
 refine(G8 v2 K.ledgers we HH.out.2.2.2.1 (HH.out.1.later yc.out).l).mono ?_;rintro e wf ⟨rfl,hb,hi⟩;obtain⟨p2,hp⟩:∃ p2,p2=we.heap.size:=⟨_,rfl⟩
 rw[← hp]at hi ⊢;have uZ:Hid (w.heap.size+3≤p2):=by show _≤_;rw[hp];exact Gh.out
 have CK:=hid (And.intro (Fk.out.1.later hb) (And.intro (Fk.out.2.later hb) hi));have CO:=hid (aa yc.out hb);have Dq:=hid (Ds.out.later hb);have ym:=hid (vI.out.later hb);have Hv:=hid (JS.out.later hb);have CE:=hid (And.intro ((hb.cell (p:=⟨w.heap.size+2,0,none⟩) vI.out.lt).trans GH.out.1) (And.intro ((hb.cell (p:=⟨w.heap.size+2,1,none⟩) vI.out.lt).trans GH.out.2.1) (And.intro ((hb.cell (p:=⟨w.heap.size+2,2,none⟩) vI.out.lt).trans GH.out.2.2.1) (And.intro ((hb.cell (p:=⟨w.heap.size+2,3,none⟩) vI.out.lt).trans GH.out.2.2.2.1) ((hb.cell (p:=⟨w.heap.size+2,4,none⟩) vI.out.lt).trans GH.out.2.2.2.2)))));have HZf:=hid (Nat.le_trans Gh.out hb.size);clear hi hb hp yz y0 y1 y2 y3 y4 y5 y6 Ds yc vI JS GH Gh Fk;have hF:=ym.out.frozen;have hz:=ym.out.lt;obtain⟨z,ez⟩:=ym.out.cell 5 (by omega);obtain⟨wg,hw⟩:∃ wg,wg=wf.setCell ⟨w.heap.size+2,5,none⟩ (.slice (some ⟨p2,0,none⟩) K.ledgers.length K.ledgers.length):=⟨_,rfl⟩
 have Ip:Hid (Bel w wg):=by show Below _ _ _;rw[hw];exact CO.out.setCell (p:=⟨w.heap.size+2,5,none⟩) (by show w.heap.size≤w.heap.size+2;omega) _
 have LW:Hid (bm wg w.heap.size (.int .i64 K.now) (.int .i64 K.tick) (.int .i64 K.given) (v0) (v1) (v2) (v3)):=by
  show bm _ _ _ _ _ _ _ _ _;rw[hw];obtain⟨yz,y0,y1,y2,y3,y4,y5,y6⟩:=Dq.out;exact⟨by rw[bc];exact yz,(aF _ _ _ _ _ _ (by omega)).trans y0,(aF _ _ _ _ _ _ (by omega)).trans y1,(aF _ _ _ _ _ _ (by omega)).trans y2,(aF _ _ _ _ _ _ (by omega)).trans y3,(aF _ _ _ _ _ _ (by omega)).trans y4,(aF _ _ _ _ _ _ (by omega)).trans y5,(aF _ _ _ _ _ _ (by omega)).trans y6⟩
 have Du:Hid (ai wg (w.heap.size+2) 47 7):=by show ai _ _ _ _;rw[hw];exact ym.out.setCell 5 _
 have oT:Hid (ai wg (w.heap.size+1) 47 7):=by show ai _ _ _ _;rw[hw];exact Hv.out.bh (by omega) _ _
 have E3:Hid (wg.cell? ⟨w.heap.size+2,0,none⟩=some (.int .i64 K.now)∧wg.cell? ⟨w.heap.size+2,1,none⟩=some (.int .i64 K.tick)∧wg.cell? ⟨w.heap.size+2,2,none⟩=some (.int .i64 K.given)∧wg.cell? ⟨w.heap.size+2,3,none⟩=some (.slice (some ⟨p0,0,none⟩) K.objects.length K.objects.length)∧wg.cell? ⟨w.heap.size+2,4,none⟩=some (.slice (some ⟨p1,0,none⟩) K.grants.length K.grants.length)∧wg.cell? ⟨w.heap.size+2,5,none⟩=some (.slice (some ⟨p2,0,none⟩) K.ledgers.length K.ledgers.length)):=by
  show _∧_∧_∧_∧_∧_;rw[hw];exact⟨(aF _ _ _ _ _ _ (by omega)).trans CE.out.1,(aF _ _ _ _ _ _ (by omega)).trans CE.out.2.1,(aF _ _ _ _ _ _ (by omega)).trans CE.out.2.2.1,(aF _ _ _ _ _ _ (by omega)).trans CE.out.2.2.2.1,(aF _ _ _ _ _ _ (by omega)).trans CE.out.2.2.2.2,eJ ym.out 5 (by omega) _⟩
 have DC:Hid (fS wg p0 K.objects∧gO wg p1 K.grants∧gG wg p2 K.ledgers):=by
  show _∧_∧_;rw[hw];exact⟨CK.out.1.sc (by have:=oQ.out;omega) _ _,CK.out.2.1.sc (by have:=yi.out;omega) _ _,CK.out.2.2.sc (by have:=uZ.out;omega) _ _⟩
 have LC:Hid (w.heap.size+3≤wg.heap.size):=by show _≤_;rw[hw,bc];exact HZf.out
 go_upto_region 8 with fail
 rw[← hw];clear hw hF hz ez CO Dq ym Hv CE CK HZf;obtain⟨yz,y0,y1,y2,y3,y4,y5,y6⟩:=LW.out;go_wp2_with fail
 refine(GJ v3 K.purses wg HH.out.2.2.2.2 (HH.out.1.later Ip.out).p).mono ?_;rintro e wh ⟨rfl,hb,hi⟩;obtain⟨p3,hp⟩:∃ p3,p3=wg.heap.size:=⟨_,rfl⟩
 rw[← hp]at hi ⊢;have K5:Hid (w.heap.size+3≤p3):=by show _≤_;rw[hp];exact LC.out
 have Ie:=hid (And.intro (DC.out.1.later hb) (And.intro (DC.out.2.1.later hb) (And.intro (DC.out.2.2.later hb) hi)));have IS:=hid (aa Ip.out hb);have GF:=hid (LW.out.later hb);have Gx:=hid (Du.out.later hb);have HRh:=hid (oT.out.later hb);have FZ:=hid (And.intro ((hb.cell (p:=⟨w.heap.size+2,0,none⟩) Du.out.lt).trans E3.out.1) (And.intro ((hb.cell (p:=⟨w.heap.size+2,1,none⟩) Du.out.lt).trans E3.out.2.1) (And.intro ((hb.cell (p:=⟨w.heap.size+2,2,none⟩) Du.out.lt).trans E3.out.2.2.1) (And.intro ((hb.cell (p:=⟨w.heap.size+2,3,none⟩) Du.out.lt).trans E3.out.2.2.2.1) (And.intro ((hb.cell (p:=⟨w.heap.size+2,4,none⟩) Du.out.lt).trans E3.out.2.2.2.2.1) ((hb.cell (p:=⟨w.heap.size+2,5,none⟩) Du.out.lt).trans E3.out.2.2.2.2.2))))));have HZh:=hid (Nat.le_trans LC.out hb.size);clear hi hb hp yz y0 y1 y2 y3 y4 y5 y6 LW Ip Du oT E3 LC DC;have hF:=Gx.out.frozen;have hz:=Gx.out.lt;obtain⟨z,ez⟩:=Gx.out.cell 6 (by omega);obtain⟨wi,hw⟩:∃ wi,wi=wh.setCell ⟨w.heap.size+2,6,none⟩ (.slice (some ⟨p3,0,none⟩) K.purses.length K.purses.length):=⟨_,rfl⟩
 have Ho:Hid (Bel w wi):=by show Below _ _ _;rw[hw];exact IS.out.setCell (p:=⟨w.heap.size+2,6,none⟩) (by show w.heap.size≤w.heap.size+2;omega) _
 have Gf:Hid (bm wi w.heap.size (.int .i64 K.now) (.int .i64 K.tick) (.int .i64 K.given) (v0) (v1) (v2) (v3)):=by
  show bm _ _ _ _ _ _ _ _ _;rw[hw];obtain⟨yz,y0,y1,y2,y3,y4,y5,y6⟩:=GF.out;exact⟨by rw[bc];exact yz,(aF _ _ _ _ _ _ (by omega)).trans y0,(aF _ _ _ _ _ _ (by omega)).trans y1,(aF _ _ _ _ _ _ (by omega)).trans y2,(aF _ _ _ _ _ _ (by omega)).trans y3,(aF _ _ _ _ _ _ (by omega)).trans y4,(aF _ _ _ _ _ _ (by omega)).trans y5,(aF _ _ _ _ _ _ (by omega)).trans y6⟩
 have HOi:Hid (ai wi (w.heap.size+2) 47 7):=by show ai _ _ _ _;rw[hw];exact Gx.out.setCell 6 _
 have A7:Hid (ai wi (w.heap.size+1) 47 7):=by show ai _ _ _ _;rw[hw];exact HRh.out.bh (by omega) _ _
 have EP:Hid (wi.cell? ⟨w.heap.size+2,0,none⟩=some (.int .i64 K.now)∧wi.cell? ⟨w.heap.size+2,1,none⟩=some (.int .i64 K.tick)∧wi.cell? ⟨w.heap.size+2,2,none⟩=some (.int .i64 K.given)∧wi.cell? ⟨w.heap.size+2,3,none⟩=some (.slice (some ⟨p0,0,none⟩) K.objects.length K.objects.length)∧wi.cell? ⟨w.heap.size+2,4,none⟩=some (.slice (some ⟨p1,0,none⟩) K.grants.length K.grants.length)∧wi.cell? ⟨w.heap.size+2,5,none⟩=some (.slice (some ⟨p2,0,none⟩) K.ledgers.length K.ledgers.length)∧wi.cell? ⟨w.heap.size+2,6,none⟩=some (.slice (some ⟨p3,0,none⟩) K.purses.length K.purses.length)):=by
  show _∧_∧_∧_∧_∧_∧_;rw[hw];exact⟨(aF _ _ _ _ _ _ (by omega)).trans FZ.out.1,(aF _ _ _ _ _ _ (by omega)).trans FZ.out.2.1,(aF _ _ _ _ _ _ (by omega)).trans FZ.out.2.2.1,(aF _ _ _ _ _ _ (by omega)).trans FZ.out.2.2.2.1,(aF _ _ _ _ _ _ (by omega)).trans FZ.out.2.2.2.2.1,(aF _ _ _ _ _ _ (by omega)).trans FZ.out.2.2.2.2.2,eJ Gx.out 6 (by omega) _⟩
 have HIi:Hid (fS wi p0 K.objects∧gO wi p1 K.grants∧gG wi p2 K.ledgers∧iL wi p3 K.purses):=by
  show _∧_∧_∧_;rw[hw];exact⟨Ie.out.1.sc (by have:=oQ.out;omega) _ _,Ie.out.2.1.sc (by have:=yi.out;omega) _ _,Ie.out.2.2.1.sc (by have:=uZ.out;omega) _ _,Ie.out.2.2.2.sc (by have:=K5.out;omega) _ _⟩
 have HZi:Hid (w.heap.size+3≤wi.heap.size):=by show _≤_;rw[hw,bc];exact HZh.out
 go_upto_region 9 with fail
 rw[← hw];clear hw hF hz ez IS GF Gx HRh FZ Ie HZh;have d0:=EP.out.1;have d1:=EP.out.2.1;have d2:=EP.out.2.2.1;have d3:=EP.out.2.2.2.1;have d4:=EP.out.2.2.2.2.1;have d5:=EP.out.2.2.2.2.2.1;have d6:=EP.out.2.2.2.2.2.2;have dz:=HOi.out.lt;have hF:=A7.out.frozen;have hz:=A7.out.lt;obtain⟨z0,e0⟩:=A7.out.cell 0 (by omega);obtain⟨z1,e1⟩:=A7.out.cell 1 (by omega);obtain⟨z2,e2⟩:=A7.out.cell 2 (by omega);obtain⟨z3,e3⟩:=A7.out.cell 3 (by omega);obtain⟨z4,e4⟩:=A7.out.cell 4 (by omega);obtain⟨z5,e5⟩:=A7.out.cell 5 (by omega);obtain⟨z6,e6⟩:=A7.out.cell 6 (by omega);go_wp2;have p:=fun i hi=>cx 0 [.int .i64 K.now,.int .i64 K.tick,.int .i64 K.given,.slice (some ⟨p0,0,none⟩) K.objects.length K.objects.length,.slice (some ⟨p1,0,none⟩) K.grants.length K.grants.length,.slice (some ⟨p2,0,none⟩) K.ledgers.length K.ledgers.length,.slice (some ⟨p3,0,none⟩) K.purses.length K.purses.length] wi 0 A7.out (by simp) i hi;have t0:=p 0 (by simp);have t1:=p 1 (by simp);have t2:=p 2 (by simp);have t3:=p 3 (by simp);have t4:=p 4 (by simp);have t5:=p 5 (by simp);have t6:=p 6 (by simp);have qa:Hid (Bel w (aI wi (w.heap.size+1) 0 0 [.int .i64 K.now,.int .i64 K.tick,.int .i64 K.given,.slice (some ⟨p0,0,none⟩) K.objects.length K.objects.length,.slice (some ⟨p1,0,none⟩) K.grants.length K.grants.length,.slice (some ⟨p2,0,none⟩) K.ledgers.length K.ledgers.length,.slice (some ⟨p3,0,none⟩) K.purses.length K.purses.length])):=aW (a:=w) _ (by omega) _ _ _ Ho.out;have EY:∀ (W:World) (j:Nat) (v:Value),(fS W p0 K.objects∧gO W p1 K.grants∧gG W p2 K.ledgers∧iL W p3 K.purses)→(fS (W.setCell ⟨w.heap.size+1,j,none⟩ v) p0 K.objects∧gO (W.setCell ⟨w.heap.size+1,j,none⟩ v) p1 K.grants∧gG (W.setCell ⟨w.heap.size+1,j,none⟩ v) p2 K.ledgers∧iL (W.setCell ⟨w.heap.size+1,j,none⟩ v) p3 K.purses):=fun W j v hh=>⟨hh.1.sc (by have:=oQ.out;omega) _ _,hh.2.1.sc (by have:=yi.out;omega) _ _,hh.2.2.1.sc (by have:=uZ.out;omega) _ _,hh.2.2.2.sc (by have:=K5.out;omega) _ _⟩
 simp only[aI,Nat.add_zero,Nat.zero_add,Nat.reduceAdd,List.getElem?_cons_zero,List.getElem?_cons_succ]at t0 t1 t2 t3 t4 t5 t6;have HQ:=EY _ 6 (.slice (some ⟨p3,0,none⟩) K.purses.length K.purses.length) (EY _ 5 (.slice (some ⟨p2,0,none⟩) K.ledgers.length K.ledgers.length) (EY _ 4 (.slice (some ⟨p1,0,none⟩) K.grants.length K.grants.length) (EY _ 3 (.slice (some ⟨p0,0,none⟩) K.objects.length K.objects.length) (EY _ 2 (.int .i64 K.given) (EY _ 1 (.int .i64 K.tick) (EY _ 0 (.int .i64 K.now) HIi.out))))));refine bodyPost_ret (v:=.agg #[.int .i64 K.now,.int .i64 K.tick,.int .i64 K.given,.slice (some ⟨p0,0,none⟩) K.objects.length K.objects.length,.slice (some ⟨p1,0,none⟩) K.grants.length K.grants.length,.slice (some ⟨p2,0,none⟩) K.ledgers.length K.ledgers.length,.slice (some ⟨p3,0,none⟩) K.purses.length K.purses.length]) (by simp[results,Tryz.results9,go_sem,t0,t1,t2,t3,t4,t5,t6]) rfl ⟨⟨p0,p1,p2,p3,rfl,⟨HQ.1,HQ.2.1,HQ.2.2.1,HQ.2.2.2⟩,by have:=oQ.out;omega,by have:=yi.out;omega,by have:=uZ.out;omega,by have:=K5.out;omega⟩, ?_⟩;exact qa.out
theorem DY (K:Bk) (b0 b1 b2 b3 q0 q1 q2 q3:Nat) (w:World) (h:gp w b0 b1 b2 b3 K) (h':gp w q0 q1 q2 q3 K):
  Calls Tryz.prog 12 #[.agg #[.int .i64 K.now,.int .i64 K.tick,.int .i64 K.given,.slice (some ⟨b0,0,none⟩) K.objects.length K.objects.length,.slice (some ⟨b1,0,none⟩) K.grants.length K.grants.length,.slice (some ⟨b2,0,none⟩) K.ledgers.length K.ledgers.length,.slice (some ⟨b3,0,none⟩) K.purses.length K.purses.length],.agg #[.int .i64 K.now,.int .i64 K.tick,.int .i64 K.given,.slice (some ⟨q0,0,none⟩) K.objects.length K.objects.length,.slice (some ⟨q1,0,none⟩) K.grants.length K.grants.length,.slice (some ⟨q2,0,none⟩) K.ledgers.length K.ledgers.length,.slice (some ⟨q3,0,none⟩) K.purses.length K.purses.length]] w fun e w'=>e=.returned (.bool true)∧Bel w w':=by
 have HH:=hid (And.intro h h');clear h h';obtain⟨wa,dX⟩:∃ wa,wa=(w.alloc (.cells #[.int .i64 K.now,.int .i64 K.tick,.int .i64 K.given,.slice (some ⟨b0,0,none⟩) K.objects.length K.objects.length,.slice (some ⟨b1,0,none⟩) K.grants.length K.grants.length,.slice (some ⟨b2,0,none⟩) K.ledgers.length K.ledgers.length,.slice (some ⟨b3,0,none⟩) K.purses.length K.purses.length] 47)).alloc (.cells #[.int .i64 K.now,.int .i64 K.tick,.int .i64 K.given,.slice (some ⟨q0,0,none⟩) K.objects.length K.objects.length,.slice (some ⟨q1,0,none⟩) K.grants.length K.grants.length,.slice (some ⟨q2,0,none⟩) K.ledgers.length K.ledgers.length,.slice (some ⟨q3,0,none⟩) K.purses.length K.purses.length] 47):=⟨_,rfl⟩
 have ea:Hid (Bel w wa):=by show Below _ _ _;rw[dX];exact ab (ab br _) _
 have iC:Hid (bm wa w.heap.size (.int .i64 K.now) (.int .i64 K.tick) (.int .i64 K.given) (.slice (some ⟨b0,0,none⟩) K.objects.length K.objects.length) (.slice (some ⟨b1,0,none⟩) K.grants.length K.grants.length) (.slice (some ⟨b2,0,none⟩) K.ledgers.length K.ledgers.length) (.slice (some ⟨b3,0,none⟩) K.purses.length K.purses.length)∧bm wa (w.heap.size+1) (.int .i64 K.now) (.int .i64 K.tick) (.int .i64 K.given) (.slice (some ⟨q0,0,none⟩) K.objects.length K.objects.length) (.slice (some ⟨q1,0,none⟩) K.grants.length K.grants.length) (.slice (some ⟨q2,0,none⟩) K.ledgers.length K.ledgers.length) (.slice (some ⟨q3,0,none⟩) K.purses.length K.purses.length)):=by show _∧_;rw[dX];exact⟨(bm.bV w _ _ _ _ _ _ _ _ _ rfl).ek _,bm.bV _ _ _ _ _ _ _ _ _ _ (by simp)⟩
 go_enter Tryz.func12,Tryz.ntmps12
 go_upto_region 1 with fail
 rw[← dX];clear dX;obtain⟨yz,y0,y1,y2,y3,y4,y5,y6⟩:=iC.out.1;obtain⟨xz,x0,x1,x2,x3,x4,x5,x6⟩:=iC.out.2;go_wp2_with fail
 refine(Hc b0 q0 K.objects wa (HH.out.1.later ea.out).o (HH.out.2.later ea.out).o).mono ?_;rintro e wb ⟨rfl,hb⟩;have jf:=hid (aa ea.out hb);have kE:=hid (And.intro (iC.out.1.later hb) (iC.out.2.later hb));clear hb yz y0 y1 y2 y3 y4 y5 y6 xz x0 x1 x2 x3 x4 x5 x6 iC ea;obtain⟨yz,y0,y1,y2,y3,y4,y5,y6⟩:=kE.out.1;obtain⟨xz,x0,x1,x2,x3,x4,x5,x6⟩:=kE.out.2;go_wp2_with fail
 refine(G0 b1 q1 K.grants wb (HH.out.1.later jf.out).g (HH.out.2.later jf.out).g).mono ?_;rintro e wc ⟨rfl,hb⟩;have jO:=hid (aa jf.out hb);have ly:=hid (And.intro (kE.out.1.later hb) (kE.out.2.later hb));clear hb yz y0 y1 y2 y3 y4 y5 y6 xz x0 x1 x2 x3 x4 x5 x6 kE jf;obtain⟨yz,y0,y1,y2,y3,y4,y5,y6⟩:=ly.out.1;obtain⟨xz,x0,x1,x2,x3,x4,x5,x6⟩:=ly.out.2;go_wp2_with fail
 refine(GI b2 q2 K.ledgers wc (HH.out.1.later jO.out).l (HH.out.2.later jO.out).l).mono ?_;rintro e wd ⟨rfl,hb⟩;have lY:=hid (aa jO.out hb);have py:=hid (And.intro (ly.out.1.later hb) (ly.out.2.later hb));clear hb yz y0 y1 y2 y3 y4 y5 y6 xz x0 x1 x2 x3 x4 x5 x6 ly jO;obtain⟨yz,y0,y1,y2,y3,y4,y5,y6⟩:=py.out.1;obtain⟨xz,x0,x1,x2,x3,x4,x5,x6⟩:=py.out.2;go_wp2_with fail
 refine(GS b3 q3 K.purses wd (HH.out.1.later lY.out).p (HH.out.2.later lY.out).p).mono ?_;rintro e we ⟨rfl,hb⟩;have yc:=hid (aa lY.out hb);have Ds:=hid (And.intro (py.out.1.later hb) (py.out.2.later hb));clear hb yz y0 y1 y2 y3 y4 y5 y6 xz x0 x1 x2 x3 x4 x5 x6 py lY;go_wp2;go_ret;exact⟨rfl,yc.out⟩
end Go.Proofs.YtbiokpmdghmgcaaGreat
