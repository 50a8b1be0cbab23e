import Derived.Test.YtbiokpmdghmgcaaGreatPuts
import Derived.Test.YtbiokpmdghmgcaaGreatWalkKO
namespace Go.Proofs.YtbiokpmdghmgcaaGreat
set_option maxHeartbeats 40000000
open Go.RowKit Go.Deep
theorem Tryz.BW:(Tryz.prog.info? 122).map (fun i=>(i.zero,i.size,i.bytes))=some (some (.agg #[.string ByteArray.empty,.int .i64 0,.int .i64 0,.int .i64 0,.slice none 0 0,.string ByteArray.empty,.int .i64 0,.bool false,.bool false,.string ByteArray.empty,.string ByteArray.empty]),11,128):=by kernel_rfl
theorem Tryz.Bx:(Tryz.prog.info? 134).map (fun i=>(i.zero,i.size,i.bytes))=some (some (.agg #[.string ByteArray.empty,.slice none 0 0]),2,40):=by kernel_rfl
theorem pF (n:Nat) (h:n≤1048576):∃ cs:Array Value,cs.size=n*11∧∀ W:World,
  (Instr.makeSlice 118 (.int .i64 (n:Int)) (.int .i64 (n:Int))).run Tryz.prog W=.ok (.slice (some ⟨W.heap.size,0,none⟩) n n) (W.alloc (.cells cs 122)):=by
 obtain⟨i,hi,lx⟩:=Option.map_eq_some_iff.1 Tryz.BW;simp only[Prod.mk.injEq]at lx;obtain⟨hz,hs,hb⟩:=lx;refine⟨madeCells (Value.agg #[.string ByteArray.empty,.int .i64 0,.int .i64 0,.int .i64 0,.slice none 0 0,.string ByteArray.empty,.int .i64 0,.bool false,.bool false,.string ByteArray.empty,.string ByteArray.empty]).cells (n*11),size_madeCells _ _,fun W=> ?_⟩;have hr:=run_make (P:=Tryz.prog) W 118 122 i _ Tryz.underlying118 hi hz .i64 .i64 n n (by omega) (Int.le_refl _) (by rw[hb];omega) (by omega);simp only[Int.toNat_natCast,hs]at hr;exact hr
theorem pG (n:Nat) (h:n≤1048576):∃ cs:Array Value,cs.size=n*2∧∀ W:World,
  (Instr.makeSlice 36 (.int .i64 (n:Int)) (.int .i64 (n:Int))).run Tryz.prog W=.ok (.slice (some ⟨W.heap.size,0,none⟩) n n) (W.alloc (.cells cs 134)):=by
 obtain⟨i,hi,lx⟩:=Option.map_eq_some_iff.1 Tryz.Bx;simp only[Prod.mk.injEq]at lx;obtain⟨hz,hs,hb⟩:=lx;refine⟨madeCells (Value.agg #[.string ByteArray.empty,.slice none 0 0]).cells (n*2),size_madeCells _ _,fun W=> ?_⟩;have hr:=run_make (P:=Tryz.prog) W 36 134 i _ Tryz.underlying36 hi hz .i64 .i64 n n (by omega) (Int.le_refl _) (by rw[hb];omega) (by omega);simp only[Int.toNat_natCast,hs]at hr;exact hr
theorem GX (f:Fld) (vs:Value) (w:World) (hs:f.small) (h:bT w vs f.words):
  Calls Tryz.prog 169 #[.agg #[.string f.nm,.int .i64 f.kind,.int .i64 f.least,.int .i64 f.most,vs,.string f.to,.int .i64 f.role,.bool f.must,.bool f.fixed,.string f.de,.string f.we]] w fun e w'=>∃ b,e=.returned (.agg #[.string f.nm,.int .i64 f.kind,.int .i64 f.least,.int .i64 f.most,.slice (some ⟨b,0,none⟩) f.words.length f.words.length,.string f.to,.int .i64 f.role,.bool f.must,.bool f.fixed,.string f.de,.string f.we])∧Bel w w'∧w.heap.size≤b∧b<w'.heap.size∧ai w' b 9 f.words.length∧
   ∀ i,i<f.words.length→w'.cell? ⟨b,0+i,none⟩=some (.string (f.words.getD i ByteArray.empty)):=
 Ar f.nm f.kind f.least f.most vs f.to f.role f.must f.fixed f.de f.we w f.words hs h
theorem qx (b off cap:Nat) (fs:List Fld) (w:World) (hl:fs.length≤1048576) (dO:∀ f∈fs,f.small) (hb:b<w.heap.size)
  (hc:∀ i,i<fs.length→∃ vs,jL w b (off+i*11) (fs.getD i Fld.none) vs):
  Calls Tryz.prog 128 #[.slice (some ⟨b,off,none⟩) fs.length cap] w fun e w'=>e=.returned (.slice (some ⟨w.heap.size,0,none⟩) fs.length fs.length)∧Bel w w'∧ai w' w.heap.size 122 (fs.length*11)∧
   ∀ i,i<fs.length→bp w' w.heap.size (i*11) (fs.getD i Fld.none):=by
 obtain⟨cs,bS,iI⟩:=pF fs.length hl;go_enter Tryz.func128,Tryz.ntmps128
 go_wp2;go_loopw [4] (fun i wr=>∃ k:Nat,k≤fs.length∧i=.int .i64 k∧Bel w wr∧ai wr w.heap.size 122 (fs.length*11)∧∀ i,i<k→bp wr w.heap.size (i*11) (fs.getD i Fld.none)) (fun i _=>fs.length - (intOf i).toNat)
 case atStart=>exact⟨0,nz,rfl,ab br _,ai.alloc w cs 122 _ bS,fun i hi=>absurd hi (Nat.not_lt_zero i)⟩
 case round=>
  obtain⟨k,hk,rfl,hB,hO,av⟩:=hrel;have HA:=hid av;have HO:=hid hO;clear av iI bS hO;by_cases aw:k<fs.length
  ·obtain⟨vs,hf⟩:=hc k aw;have kJ:=hf.later hB hb;obtain⟨f,fG⟩:∃ f,f=fs.getD k Fld.none:=⟨_,rfl⟩
   rw[← fG]at kJ;have dV:f.small:=dO f (by rw[fG];simp[aw]);have HX:=hid (And.intro dV (And.intro kJ.texts kJ.sized));obtain⟨c0,c1,c2,c3,c4,c5,c6,c7,c8,c9,c10,_,_⟩:=kJ;have x9:=hid fG;clear fG hf hc dV dO;go_wp2_with fail
   refine(GX f vs wr HX.out.1 HX.out.2.1).mono ?_;rintro e w2 ⟨b2,rfl,aA,GC,sF,Jp,Hu⟩;have bF:=aa hB aA;have eG:=HO.out.later aA;have HP:Hid (∀ v,v=[.string f.nm,.int .i64 f.kind,.int .i64 f.least,.int .i64 f.most,.slice (some ⟨b2,0,none⟩) f.words.length f.words.length,.string f.to,.int .i64 f.role,.bool f.must,.bool f.fixed,.string f.de,.string f.we]→
     Bel w (aI w2 w.heap.size (k*11) 0 v)∧ai (aI w2 w.heap.size (k*11) 0 v) w.heap.size 122 (fs.length*11)∧∀ i,i<k+1→bp (aI w2 w.heap.size (k*11) 0 v) w.heap.size (i*11) (fs.getD i Fld.none)):=by
    intro v hv;subst hv;refine⟨aW (a:=w) _ nr _ _ _ bF,fJ _ _ _ _ eG,fun i hi=> ?_⟩;by_cases hik:i<k
    ·exact((HA.out i hik).later aA HO.out.lt).aI (k*11) _ (by omega)
    ·obtain rfl:i=k:=by omega
     rw[← x9.out];have:=HO.out.lt;exact Ca eG (i*11) (by omega) f b2 (by omega) Jp sF HX.out.2.2 HX.out.1 HX.out.2.1.sizes Hu
   clear Hu Jp c0 c1 c2 c3 c4 c5 c6 c7 c8 c9 c10 HX;have hF:=eG.frozen;obtain⟨v0,o0⟩:=eG.cell (k*11) (by omega);obtain⟨v1,o1⟩:=eG.cell (k*11+1) (by omega);obtain⟨v2,o2⟩:=eG.cell (k*11+2) (by omega);obtain⟨v3,o3⟩:=eG.cell (k*11+3) (by omega);obtain⟨v4,o4⟩:=eG.cell (k*11+4) (by omega);obtain⟨v5,o5⟩:=eG.cell (k*11+5) (by omega);obtain⟨v6,o6⟩:=eG.cell (k*11+6) (by omega);obtain⟨v7,o7⟩:=eG.cell (k*11+7) (by omega);obtain⟨v8,o8⟩:=eG.cell (k*11+8) (by omega);obtain⟨v9,o9⟩:=eG.cell (k*11+9) (by omega);obtain⟨v10,o10⟩:=eG.cell (k*11+10) (by omega);clear eG bF aA GC sF;go_wp2;go_roundw
   case rel=>exact⟨k+1,by omega,by go_num,(HP.out _ rfl).1,(HP.out _ rfl).2.1,(HP.out _ rfl).2.2⟩
   case measure=>simp[intOf];omega
  ·obtain rfl:k=fs.length:=by omega
   go_wp2;go_ret;exact⟨rfl,hB,HO.out,HA.out⟩
theorem qz (a:Option Addr) (cap:Nat) (w:World):
  Calls Tryz.prog 128 #[.slice a 0 cap] w fun e w'=>e=.returned (.slice (some ⟨w.heap.size,0,none⟩) 0 0)∧∃ cs:Array Value,cs.size=0∧w'=w.alloc (.cells cs 122):=by
 obtain⟨cs,qO,iD⟩:=pF 0 (by omega);have iI:∀ W:World,(Instr.makeSlice 118 (.int .i64 0) (.int .i64 0)).run Tryz.prog W=.ok (.slice (some ⟨W.heap.size,0,none⟩) 0 0) (W.alloc (.cells cs 122)):=iD;clear iD;go_enter Tryz.func128,Tryz.ntmps128
 go_wp2;refine wp_loop_rounds 1 ?_;rw[rounds_succ];go_wp2;go_ret;exact⟨rfl,_,by omega,rfl⟩
theorem zE (v:Value) (fs:List Fld) (w:World) (hl:fs.length≤1048576) (dO:∀ f∈fs,f.small) (h:i4 w v fs):
  Calls Tryz.prog 128 #[v] w fun e w'=>e=.returned (.slice (some ⟨w.heap.size,0,none⟩) fs.length fs.length)∧Bel w w'∧ai w' w.heap.size 122 (fs.length*11)∧
   ∀ i,i<fs.length→bp w' w.heap.size (i*11) (fs.getD i Fld.none):=by
 rcases h with⟨a,cap,rfl,rfl⟩|⟨b,off,cap,rfl,hb,_,hc⟩
 ·refine(qz a cap w).mono ?_;rintro e w' ⟨rfl,cs,bS,rfl⟩;exact⟨rfl,ab br _,ai.alloc w cs 122 _ (by simpa using bS),fun i hi=>absurd hi (Nat.not_lt_zero i)⟩
 ·exact qx b off cap fs w hl dO hb hc
theorem bc (w:World) (a:Addr) (v:Value):(w.setCell a v).heap.size=w.heap.size:=by simp[World.setCell]
theorem bp.sc {w:World} {B b o:Nat} {f:Fld} (h:bp w b o f) (fa:B<b) (o':Nat) (v:Value):bp (w.setCell ⟨B,o',none⟩ v) b o f:=
 bp.l9 h fa o' 0 [v]
theorem BB (s:Shp) (v:Value) (w:World) (hs:s.small) (h:i4 w v s.fields):
  Calls Tryz.prog 74 #[.agg #[.string s.kind,v]] w fun e w'=>∃ b,e=.returned (.agg #[.string s.kind,.slice (some ⟨b,0,none⟩) s.fields.length s.fields.length])∧Bel w w'∧(w.heap.size<b∧ai w' b 122 (s.fields.length*11))∧b<w'.heap.size∧
   ∀ i,i<s.fields.length→bp w' b (i*11) (s.fields.getD i Fld.none):=by
 have HX:Hid (∀ W,Bel w W→Calls Tryz.prog 128 #[v] W fun e w'=>e=.returned (.slice (some ⟨W.heap.size,0,none⟩) s.fields.length s.fields.length)∧Bel W w'∧ai w' W.heap.size 122 (s.fields.length*11)∧
   ∀ i,i<s.fields.length→bp w' W.heap.size (i*11) (s.fields.getD i Fld.none)):=fun W hW=>zE v s.fields W hs.1 hs.2 (h.later hW)
 clear h hs;go_enter Tryz.func74,Tryz.ntmps74
 go_wp2_with fail
 have hB:Bel w (((w.alloc (.cells #[.string s.kind,v] 86)).alloc (.cells #[.string ByteArray.empty,.slice none 0 0] 134)).alloc (.cells #[.string s.kind,.slice none 0 0] 134)):=ab (ab (ab br _) _) _;refine(HX.out _ hB).mono ?_;rintro e w2 ⟨rfl,aA,gR,KD⟩;have bF:=aa hB aA;have k0:∀ o,w2.cell? ⟨w.heap.size+1+1,o,none⟩=(((w.alloc (.cells #[.string s.kind,v] 86)).alloc (.cells #[.string ByteArray.empty,.slice none 0 0] 134)).alloc (.cells #[.string s.kind,.slice none 0 0] 134)).cell? ⟨w.heap.size+1+1,o,none⟩:=fun o=>aA.cell (p:=⟨_,o,none⟩) (by simp);have k1:∀ o,w2.cell? ⟨w.heap.size+1,o,none⟩=(((w.alloc (.cells #[.string s.kind,v] 86)).alloc (.cells #[.string ByteArray.empty,.slice none 0 0] 134)).alloc (.cells #[.string s.kind,.slice none 0 0] 134)).cell? ⟨w.heap.size+1,o,none⟩:=fun o=>aA.cell (p:=⟨_,o,none⟩) (by simp);have z0:∀ o,w2.frozen? ⟨w.heap.size+1+1,o,none⟩=(((w.alloc (.cells #[.string s.kind,v] 86)).alloc (.cells #[.string ByteArray.empty,.slice none 0 0] 134)).alloc (.cells #[.string s.kind,.slice none 0 0] 134)).frozen? ⟨w.heap.size+1+1,o,none⟩:=fun o=>aA.frozen (p:=⟨_,o,none⟩) (by simp);have z1:∀ o,w2.frozen? ⟨w.heap.size+1,o,none⟩=(((w.alloc (.cells #[.string s.kind,v] 86)).alloc (.cells #[.string ByteArray.empty,.slice none 0 0] 134)).alloc (.cells #[.string s.kind,.slice none 0 0] 134)).frozen? ⟨w.heap.size+1,o,none⟩:=fun o=>aA.frozen (p:=⟨_,o,none⟩) (by simp);have HF:Hid (∀ i,i<s.fields.length→bp w2 (w.heap.size+1+1+1) (i*11) (s.fields.getD i Fld.none)):=by
  have e:(((w.alloc (.cells #[.string s.kind,v] 86)).alloc (.cells #[.string ByteArray.empty,.slice none 0 0] 134)).alloc (.cells #[.string s.kind,.slice none 0 0] 134)).heap.size=w.heap.size+1+1+1:=by simp
  rw[e]at KD;exact KD
 have oN:Hid (ai w2 (w.heap.size+1+1+1) 122 (s.fields.length*11)):=by
  have e:(((w.alloc (.cells #[.string s.kind,v] 86)).alloc (.cells #[.string ByteArray.empty,.slice none 0 0] 134)).alloc (.cells #[.string s.kind,.slice none 0 0] 134)).heap.size=w.heap.size+1+1+1:=by simp
  rw[e]at gR;exact gR
 have vN:=oN.out.lt;clear KD gR aA hB HX;go_wp2;refine bodyPost_ret (v:=.agg #[.string s.kind,.slice (some ⟨w.heap.size+1+1+1,0,none⟩) s.fields.length s.fields.length]) (by simp[results,Tryz.results74,go_sem,k1]) rfl ⟨w.heap.size+1+1+1,rfl, ?_,⟨by omega,((oN.out.bh (by omega) _ _).bh (by omega) _ _).bh (by omega) _ _⟩, ?_,fun i hi=> ?_⟩
 ·exact((bF.setCell (p:=⟨w.heap.size+1+1,1,none⟩) (by show _≤w.heap.size+1+1;omega) _).setCell (p:=⟨w.heap.size+1,0,none⟩) (by show _≤w.heap.size+1;omega) _).setCell (p:=⟨w.heap.size+1,1,none⟩) (by show _≤w.heap.size+1;omega) _
 ·rw[bc,bc,bc];exact vN
 ·exact(((HF.out i hi).sc (by omega) _ _).sc (by omega) _ _).sc (by omega) _ _
end Go.Proofs.YtbiokpmdghmgcaaGreat
