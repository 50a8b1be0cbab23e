import Derived.Deep.RegionWith
import Derived.Test.YtbiokpmdghmgcaaGreatPuts
import Derived.Test.YtbiokpmdghmgcaaGreatWalkKO
namespace Go.Proofs.YtbiokpmdghmgcaaGreat
set_option maxHeartbeats 40000000
open Go.RowKit Go.Deep
theorem Tryz.Dt:(Tryz.prog.info? 122).map (fun i=>(i.zero,i.size,i.bytes))=some (some (.agg #[.string ByteArray.empty,.int .i64 0,.int .i64 0,.int .i64 0,.slice none 0 0,.string ByteArray.empty,.int .i64 0,.bool false,.bool false,.string ByteArray.empty,.string ByteArray.empty]),11,128):=by kernel_rfl
theorem Tryz.Dx:(Tryz.prog.info? 134).map (fun i=>(i.zero,i.size,i.bytes))=some (some (.agg #[.string ByteArray.empty,.slice none 0 0]),2,40):=by kernel_rfl
theorem qt (n:Nat) (h:n≤1048576):∃ cs:Array Value,cs.size=n*11∧∀ W:World,
  (Instr.makeSlice 118 (.int .i64 (n:Int)) (.int .i64 (n:Int))).run Tryz.prog W=.ok (.slice (some ⟨W.heap.size,0,none⟩) n n) (W.alloc (.cells cs 122)):=by
 obtain⟨i,hi,lP⟩:=Option.map_eq_some_iff.1 Tryz.Dt;simp only[Prod.mk.injEq]at lP;obtain⟨hz,hs,hb⟩:=lP;refine⟨madeCells (Value.agg #[.string ByteArray.empty,.int .i64 0,.int .i64 0,.int .i64 0,.slice none 0 0,.string ByteArray.empty,.int .i64 0,.bool false,.bool false,.string ByteArray.empty,.string ByteArray.empty]).cells (n*11),size_madeCells _ _,fun W=> ?_⟩;have hr:=run_make (P:=Tryz.prog) W 118 122 i _ Tryz.underlying118 hi hz .i64 .i64 n n (by omega) (Int.le_refl _) (by rw[hb];omega) (by omega);simp only[Int.toNat_natCast,hs]at hr;exact hr
theorem qd (n:Nat) (h:n≤1048576):∃ cs:Array Value,cs.size=n*2∧∀ W:World,
  (Instr.makeSlice 36 (.int .i64 (n:Int)) (.int .i64 (n:Int))).run Tryz.prog W=.ok (.slice (some ⟨W.heap.size,0,none⟩) n n) (W.alloc (.cells cs 134)):=by
 obtain⟨i,hi,lP⟩:=Option.map_eq_some_iff.1 Tryz.Dx;simp only[Prod.mk.injEq]at lP;obtain⟨hz,hs,hb⟩:=lP;refine⟨madeCells (Value.agg #[.string ByteArray.empty,.slice none 0 0]).cells (n*2),size_madeCells _ _,fun W=> ?_⟩;have hr:=run_make (P:=Tryz.prog) W 36 134 i _ Tryz.underlying36 hi hz .i64 .i64 n n (by omega) (Int.le_refl _) (by rw[hb];omega) (by omega);simp only[Int.toNat_natCast,hs]at hr;exact hr
theorem IE (f:Fld) (vs:Value) (w:World) (hs:f.small) (h:bU w vs f.words):
  Calls Tryz.prog 169 #[.agg #[.string f.nm,.int .i64 f.kind,.int .i64 f.least,.int .i64 f.most,vs,.string f.to,.int .i64 f.role,.bool f.must,.bool f.fixed,.string f.de,.string f.we]] w fun e w'=>∃ b,e=.returned (.agg #[.string f.nm,.int .i64 f.kind,.int .i64 f.least,.int .i64 f.most,.slice (some ⟨b,0,none⟩) f.words.length f.words.length,.string f.to,.int .i64 f.role,.bool f.must,.bool f.fixed,.string f.de,.string f.we])∧Bel w w'∧w.heap.size≤b∧b<w'.heap.size∧ai w' b 9 f.words.length∧
   ∀ i,i<f.words.length→w'.cell? ⟨b,0+i,none⟩=some (.string (f.words.getD i ByteArray.empty)):=
 zK f.nm f.kind f.least f.most vs f.to f.role f.must f.fixed f.de f.we w f.words hs h
theorem qY (b off cap:Nat) (fs:List Fld) (w:World) (hl:fs.length≤1048576) (dQ:∀ f∈fs,f.small) (hb:b<w.heap.size)
  (hc:∀ i,i<fs.length→∃ vs,j5 w b (off+i*11) (fs.getD i Fld.none) vs):
  Calls Tryz.prog 128 #[.slice (some ⟨b,off,none⟩) fs.length cap] w fun e w'=>e=.returned (.slice (some ⟨w.heap.size,0,none⟩) fs.length fs.length)∧Bel w w'∧ai w' w.heap.size 122 (fs.length*11)∧
   ∀ i,i<fs.length→bx w' w.heap.size (i*11) (fs.getD i Fld.none):=by
 obtain⟨cs,bP,iL⟩:=qt fs.length hl;go_enter Tryz.func128,Tryz.ntmps128
 go_wp2;go_loopw [4] (fun i wr=>∃ k:Nat,k≤fs.length∧i=.int .i64 k∧Bel w wr∧ai wr w.heap.size 122 (fs.length*11)∧∀ i,i<k→bx wr w.heap.size (i*11) (fs.getD i Fld.none)) (fun i _=>fs.length - (intOf i).toNat)
 case atStart=>exact⟨0,nz,rfl,ab br _,ai.alloc w cs 122 _ bP,fun i hi=>absurd hi (Nat.not_lt_zero i)⟩
 case round=>
  obtain⟨k,hk,rfl,hB,hO,aw⟩:=hrel;have HA:=hid aw;have HO:=hid hO;clear aw iL bP hO;by_cases av:k<fs.length
  ·obtain⟨vs,hf⟩:=hc k av;have kY:=hf.later hB hb;obtain⟨f,fH⟩:∃ f,f=fs.getD k Fld.none:=⟨_,rfl⟩
   rw[← fH]at kY;have ea:f.small:=dQ f (by rw[fH];simp[av]);have HX:=hid (And.intro ea (And.intro kY.texts kY.sized));obtain⟨c0,c1,c2,c3,c4,c5,c6,c7,c8,c9,c10,_,_⟩:=kY;have zc:=hid fH;clear fH hf hc ea dQ;go_wp2_with fail
   refine(IE f vs wr HX.out.1 HX.out.2.1).mono ?_;rintro e w2 ⟨b2,rfl,aA,Ii,tt,Jo,Ja⟩;have bE:=aa hB aA;have eK:=HO.out.later aA;have HP:Hid (∀ v,v=[.string f.nm,.int .i64 f.kind,.int .i64 f.least,.int .i64 f.most,.slice (some ⟨b2,0,none⟩) f.words.length f.words.length,.string f.to,.int .i64 f.role,.bool f.must,.bool f.fixed,.string f.de,.string f.we]→
     Bel w (aI w2 w.heap.size (k*11) 0 v)∧ai (aI w2 w.heap.size (k*11) 0 v) w.heap.size 122 (fs.length*11)∧∀ i,i<k+1→bx (aI w2 w.heap.size (k*11) 0 v) w.heap.size (i*11) (fs.getD i Fld.none)):=by
    intro v hv;subst hv;refine⟨aY (a:=w) _ nr _ _ _ bE,fM _ _ _ _ eK,fun i hi=> ?_⟩;by_cases hik:i<k
    ·exact((HA.out i hik).later aA HO.out.lt).aI (k*11) _ (by omega)
    ·obtain rfl:i=k:=by omega
     rw[← zc.out];have:=HO.out.lt;exact CC eK (i*11) (by omega) f b2 (by omega) Jo tt HX.out.2.2 HX.out.1 HX.out.2.1.sizes Ja
   clear Ja Jo c0 c1 c2 c3 c4 c5 c6 c7 c8 c9 c10 HX;have ij:=eK.frozen;obtain⟨v0,o0⟩:=eK.cell (k*11) (by omega);obtain⟨v1,o1⟩:=eK.cell (k*11+1) (by omega);obtain⟨v2,o2⟩:=eK.cell (k*11+2) (by omega);obtain⟨v3,o3⟩:=eK.cell (k*11+3) (by omega);obtain⟨v4,o4⟩:=eK.cell (k*11+4) (by omega);obtain⟨v5,o5⟩:=eK.cell (k*11+5) (by omega);obtain⟨v6,o6⟩:=eK.cell (k*11+6) (by omega);obtain⟨v7,o7⟩:=eK.cell (k*11+7) (by omega);obtain⟨v8,o8⟩:=eK.cell (k*11+8) (by omega);obtain⟨v9,o9⟩:=eK.cell (k*11+9) (by omega);obtain⟨v10,o10⟩:=eK.cell (k*11+10) (by omega);clear eK bE aA Ii tt;go_wp2;go_roundw
   case rel=>exact⟨k+1,by omega,by go_num,(HP.out _ rfl).1,(HP.out _ rfl).2.1,(HP.out _ rfl).2.2⟩
   case measure=>simp[intOf];omega
  ·obtain rfl:k=fs.length:=by omega
   go_wp2;go_ret;exact⟨rfl,hB,HO.out,HA.out⟩
theorem qX (a:Option Addr) (cap:Nat) (w:World):
  Calls Tryz.prog 128 #[.slice a 0 cap] w fun e w'=>e=.returned (.slice (some ⟨w.heap.size,0,none⟩) 0 0)∧∃ cs:Array Value,cs.size=0∧w'=w.alloc (.cells cs 122):=by
 obtain⟨cs,rB,iJ⟩:=qt 0 (by omega);have iL:∀ W:World,(Instr.makeSlice 118 (.int .i64 0) (.int .i64 0)).run Tryz.prog W=.ok (.slice (some ⟨W.heap.size,0,none⟩) 0 0) (W.alloc (.cells cs 122)):=iJ;clear iJ;go_enter Tryz.func128,Tryz.ntmps128
 go_wp2;refine wp_loop_rounds 1 ?_;rw[rounds_succ];go_wp2;go_ret;exact⟨rfl,_,by omega,rfl⟩
theorem Az (v:Value) (fs:List Fld) (w:World) (hl:fs.length≤1048576) (dQ:∀ f∈fs,f.small) (h:jq w v fs):
  Calls Tryz.prog 128 #[v] w fun e w'=>e=.returned (.slice (some ⟨w.heap.size,0,none⟩) fs.length fs.length)∧Bel w w'∧ai w' w.heap.size 122 (fs.length*11)∧
   ∀ i,i<fs.length→bx w' w.heap.size (i*11) (fs.getD i Fld.none):=by
 rcases h with⟨a,cap,rfl,rfl⟩|⟨b,off,cap,rfl,hb,_,hc⟩
 ·refine(qX a cap w).mono ?_;rintro e w' ⟨rfl,cs,bP,rfl⟩;exact⟨rfl,ab br _,ai.alloc w cs 122 _ (by simpa using bP),fun i hi=>absurd hi (Nat.not_lt_zero i)⟩
 ·exact qY b off cap fs w hl dQ hb hc
theorem bg (w:World) (a:Addr) (v:Value):(w.setCell a v).heap.size=w.heap.size:=by simp[World.setCell]
theorem bx.sc {w:World} {B b o:Nat} {f:Fld} (h:bx w b o f) (fe:B<b) (o':Nat) (v:Value):bx (w.setCell ⟨B,o',none⟩ v) b o f:=
 bx.mL h fe o' 0 [v]
theorem C9 (s:Shp) (v:Value) (w:World) (hs:s.small) (h:jq w v s.fields):
  Calls Tryz.prog 74 #[.agg #[.string s.kind,v]] w fun e w'=>∃ b,e=.returned (.agg #[.string s.kind,.slice (some ⟨b,0,none⟩) s.fields.length s.fields.length])∧Bel w w'∧(w.heap.size<b∧ai w' b 122 (s.fields.length*11))∧b<w'.heap.size∧
   ∀ i,i<s.fields.length→bx w' b (i*11) (s.fields.getD i Fld.none):=by
 have HX:Hid (∀ W,Bel w W→Calls Tryz.prog 128 #[v] W fun e w'=>e=.returned (.slice (some ⟨W.heap.size,0,none⟩) s.fields.length s.fields.length)∧Bel W w'∧ai w' W.heap.size 122 (s.fields.length*11)∧
   ∀ i,i<s.fields.length→bx w' W.heap.size (i*11) (s.fields.getD i Fld.none)):=fun W hW=>Az v s.fields W hs.1 hs.2 (h.later hW)
 clear h hs;go_enter Tryz.func74,Tryz.ntmps74
 go_wp2_with fail
 have hB:Bel w (((w.alloc (.cells #[.string s.kind,v] 86)).alloc (.cells #[.string ByteArray.empty,.slice none 0 0] 134)).alloc (.cells #[.string s.kind,.slice none 0 0] 134)):=ab (ab (ab br _) _) _;refine(HX.out _ hB).mono ?_;rintro e w2 ⟨rfl,aA,gX,LK⟩;have bE:=aa hB aA;have k0:∀ o,w2.cell? ⟨w.heap.size+1+1,o,none⟩=(((w.alloc (.cells #[.string s.kind,v] 86)).alloc (.cells #[.string ByteArray.empty,.slice none 0 0] 134)).alloc (.cells #[.string s.kind,.slice none 0 0] 134)).cell? ⟨w.heap.size+1+1,o,none⟩:=fun o=>aA.cell (p:=⟨_,o,none⟩) (by simp);have k1:∀ o,w2.cell? ⟨w.heap.size+1,o,none⟩=(((w.alloc (.cells #[.string s.kind,v] 86)).alloc (.cells #[.string ByteArray.empty,.slice none 0 0] 134)).alloc (.cells #[.string s.kind,.slice none 0 0] 134)).cell? ⟨w.heap.size+1,o,none⟩:=fun o=>aA.cell (p:=⟨_,o,none⟩) (by simp);have z0:∀ o,w2.frozen? ⟨w.heap.size+1+1,o,none⟩=(((w.alloc (.cells #[.string s.kind,v] 86)).alloc (.cells #[.string ByteArray.empty,.slice none 0 0] 134)).alloc (.cells #[.string s.kind,.slice none 0 0] 134)).frozen? ⟨w.heap.size+1+1,o,none⟩:=fun o=>aA.frozen (p:=⟨_,o,none⟩) (by simp);have z1:∀ o,w2.frozen? ⟨w.heap.size+1,o,none⟩=(((w.alloc (.cells #[.string s.kind,v] 86)).alloc (.cells #[.string ByteArray.empty,.slice none 0 0] 134)).alloc (.cells #[.string s.kind,.slice none 0 0] 134)).frozen? ⟨w.heap.size+1,o,none⟩:=fun o=>aA.frozen (p:=⟨_,o,none⟩) (by simp);have HF:Hid (∀ i,i<s.fields.length→bx w2 (w.heap.size+1+1+1) (i*11) (s.fields.getD i Fld.none)):=by
  have e:(((w.alloc (.cells #[.string s.kind,v] 86)).alloc (.cells #[.string ByteArray.empty,.slice none 0 0] 134)).alloc (.cells #[.string s.kind,.slice none 0 0] 134)).heap.size=w.heap.size+1+1+1:=by simp
  rw[e]at LK;exact LK
 have pB:Hid (ai w2 (w.heap.size+1+1+1) 122 (s.fields.length*11)):=by
  have e:(((w.alloc (.cells #[.string s.kind,v] 86)).alloc (.cells #[.string ByteArray.empty,.slice none 0 0] 134)).alloc (.cells #[.string s.kind,.slice none 0 0] 134)).heap.size=w.heap.size+1+1+1:=by simp
  rw[e]at gX;exact gX
 have xd:=pB.out.lt;clear LK gX aA hB HX;go_wp2;refine bodyPost_ret (v:=.agg #[.string s.kind,.slice (some ⟨w.heap.size+1+1+1,0,none⟩) s.fields.length s.fields.length]) (by simp[results,Tryz.results74,go_sem,k1]) rfl ⟨w.heap.size+1+1+1,rfl, ?_,⟨by omega,((pB.out.bk (by omega) _ _).bk (by omega) _ _).bk (by omega) _ _⟩, ?_,fun i hi=> ?_⟩
 ·exact((bE.setCell (p:=⟨w.heap.size+1+1,1,none⟩) (by show _≤w.heap.size+1+1;omega) _).setCell (p:=⟨w.heap.size+1,0,none⟩) (by show _≤w.heap.size+1;omega) _).setCell (p:=⟨w.heap.size+1,1,none⟩) (by show _≤w.heap.size+1;omega) _
 ·rw[bg,bg,bg];exact xd
 ·exact(((HF.out i hi).sc (by omega) _ _).sc (by omega) _ _).sc (by omega) _ _
theorem qU (b off cap:Nat) (ss:List Shp) (w:World) (hl:ss.length≤1048576) (dQ:∀ s∈ss,s.small) (hb:b<w.heap.size)
  (hc:∀ i,i<ss.length→∃ x,nM w b (off+i*2) (ss.getD i Shp.none) x):
  Calls Tryz.prog 29 #[.slice (some ⟨b,off,none⟩) ss.length cap] w fun e w'=>e=.returned (.slice (some ⟨w.heap.size,0,none⟩) ss.length ss.length)∧Bel w w'∧ai w' w.heap.size 134 (ss.length*2)∧
   ∀ i,i<ss.length→fo w' w.heap.size (i*2) (ss.getD i Shp.none):=by
 obtain⟨cs,bP,iL⟩:=qd ss.length hl;go_enter Tryz.func29,Tryz.ntmps29
 go_wp2;go_loopw [4] (fun i wr=>∃ k:Nat,k≤ss.length∧i=.int .i64 k∧Bel w wr∧ai wr w.heap.size 134 (ss.length*2)∧∀ i,i<k→fo wr w.heap.size (i*2) (ss.getD i Shp.none)) (fun i _=>ss.length - (intOf i).toNat)
 case atStart=>exact⟨0,nz,rfl,ab br _,ai.alloc w cs 134 _ bP,fun i hi=>absurd hi (Nat.not_lt_zero i)⟩
 case round=>
  obtain⟨k,hk,rfl,hB,hO,aw⟩:=hrel;have HA:=hid aw;have HO:=hid hO;clear aw iL bP hO;by_cases av:k<ss.length
  ·obtain⟨vs,hf⟩:=hc k av;have kY:=hf.later hB hb;obtain⟨s,j6⟩:∃ s,s=ss.getD k Shp.none:=⟨_,rfl⟩
   rw[← j6]at kY;have hs:s.small:=dQ s (by rw[j6];simp[av]);have HX:=hid (And.intro hs (And.intro kY.fields kY.sized));obtain⟨c0,c1,_,_⟩:=kY;have zc:=hid j6;clear j6 hf hc hs dQ;go_wp2_with fail
   refine(C9 s vs wr HX.out.1 HX.out.2.1).mono ?_;rintro e w2 ⟨b2,rfl,aA,Ii,tt,Ja⟩;have bE:=aa hB aA;have eK:=HO.out.later aA;have HP:Hid (∀ v,v=[.string s.kind,.slice (some ⟨b2,0,none⟩) s.fields.length s.fields.length]→
     Bel w (aI w2 w.heap.size (k*2) 0 v)∧ai (aI w2 w.heap.size (k*2) 0 v) w.heap.size 134 (ss.length*2)∧∀ i,i<k+1→fo (aI w2 w.heap.size (k*2) 0 v) w.heap.size (i*2) (ss.getD i Shp.none)):=by
    intro v hv;subst hv;refine⟨aY (a:=w) _ nr _ _ _ bE,fM _ _ _ _ eK,fun i hi=> ?_⟩;by_cases hik:i<k
    ·exact((HA.out i hik).later aA HO.out.lt).aI (k*2) _ (by omega)
    ·obtain rfl:i=k:=by omega
     rw[← zc.out];have:=HO.out.lt;exact sX eK (i*2) (by omega) s b2 (by omega) Ii.2 tt HX.out.2.2 HX.out.1.1 Ja
   clear Ja c0 c1 HX;have ij:=eK.frozen;obtain⟨v0,o0⟩:=eK.cell (k*2) (by omega);obtain⟨v1,o1⟩:=eK.cell (k*2+1) (by omega);clear eK bE aA Ii tt;go_wp2;go_roundw
   case rel=>exact⟨k+1,by omega,by go_num,(HP.out _ rfl).1,(HP.out _ rfl).2.1,(HP.out _ rfl).2.2⟩
   case measure=>simp[intOf];omega
  ·obtain rfl:k=ss.length:=by omega
   go_wp2;go_ret;exact⟨rfl,hB,HO.out,HA.out⟩
theorem qP (a:Option Addr) (cap:Nat) (w:World):
  Calls Tryz.prog 29 #[.slice a 0 cap] w fun e w'=>e=.returned (.slice (some ⟨w.heap.size,0,none⟩) 0 0)∧∃ cs:Array Value,cs.size=0∧w'=w.alloc (.cells cs 134):=by
 obtain⟨cs,rB,iJ⟩:=qd 0 (by omega);have iL:∀ W:World,(Instr.makeSlice 36 (.int .i64 0) (.int .i64 0)).run Tryz.prog W=.ok (.slice (some ⟨W.heap.size,0,none⟩) 0 0) (W.alloc (.cells cs 134)):=iJ;clear iJ;go_enter Tryz.func29,Tryz.ntmps29
 go_wp2;refine wp_loop_rounds 1 ?_;rw[rounds_succ];go_wp2;go_ret;exact⟨rfl,_,by omega,rfl⟩
theorem Aj (v:Value) (ss:List Shp) (w:World) (hl:ss.length≤1048576) (dQ:∀ s∈ss,s.small) (h:ke w v ss):
  Calls Tryz.prog 29 #[v] w fun e w'=>e=.returned (.slice (some ⟨w.heap.size,0,none⟩) ss.length ss.length)∧Bel w w'∧ai w' w.heap.size 134 (ss.length*2)∧
   ∀ i,i<ss.length→fo w' w.heap.size (i*2) (ss.getD i Shp.none):=by
 rcases h with⟨a,cap,rfl,rfl⟩|⟨b,off,cap,rfl,hb,_,hc⟩
 ·refine(qP a cap w).mono ?_;rintro e w' ⟨rfl,cs,bP,rfl⟩;exact⟨rfl,ab br _,ai.alloc w cs 134 _ (by simpa using bP),fun i hi=>absurd hi (Nat.not_lt_zero i)⟩
 ·exact qU b off cap ss w hl dQ hb hc
theorem kp {w:World} {b n c:Nat} {ss:List ByteArray} (h:bU w (.slice (some ⟨b,0,none⟩) n c) ss):∀ i,i<ss.length→w.cell? ⟨b,0+i,none⟩=some (.string (ss.getD i ByteArray.empty)):=by
 rcases h with⟨a,cap,_,rfl⟩|⟨b',off,cap,he,h1,h2,h3,h4⟩
 ·intro i hi;exact absurd hi (Nat.not_lt_zero i)
 ·injection he with e1 e2 e3
  injection e1 with e1
  injection e1 with e1 e4 _
  subst e1 e4;exact h4
theorem IG (f:Fld) (b b' B B' o o':Nat) (w:World) (hs:f.small) (hb:b<w.heap.size) (wZ:b'<w.heap.size)
  (h:j5 w B o f (.slice (some ⟨b,0,none⟩) f.words.length f.words.length)) (h':j5 w B' o' f (.slice (some ⟨b',0,none⟩) f.words.length f.words.length)):
  Calls Tryz.prog 191 #[.agg #[.string f.nm,.int .i64 f.kind,.int .i64 f.least,.int .i64 f.most,.slice (some ⟨b,0,none⟩) f.words.length f.words.length,.string f.to,.int .i64 f.role,.bool f.must,.bool f.fixed,.string f.de,.string f.we],.agg #[.string f.nm,.int .i64 f.kind,.int .i64 f.least,.int .i64 f.most,(.slice (some ⟨b',0,none⟩) f.words.length f.words.length),.string f.to,.int .i64 f.role,.bool f.must,.bool f.fixed,.string f.de,.string f.we]] w fun e w'=>e=.returned (.bool true)∧Bel w w':=
 CR f.nm f.kind f.least f.most b b' f.to f.role f.must f.fixed f.de f.we f.words w hb wZ hs (kp h.texts) (kp h'.texts)
theorem eqFields (B B':Nat) (fs:List Fld) (w:World) (hl:fs.length≤1048576) (dQ:∀ f∈fs,f.small) (hB:B<w.heap.size) (hB':B'<w.heap.size)
  (h:∀ i,i<fs.length→bx w B (i*11) (fs.getD i Fld.none)) (h':∀ i,i<fs.length→bx w B' (i*11) (fs.getD i Fld.none)):
  Calls Tryz.prog 151 #[.slice (some ⟨B,0,none⟩) fs.length fs.length,.slice (some ⟨B',0,none⟩) fs.length fs.length] w fun e w'=>e=.returned (.bool true)∧Bel w w':=by
 go_enter Tryz.func151,Tryz.ntmps151
 go_wp2;go_loopw [5] (fun i wr=>∃ k:Nat,k≤fs.length∧i=.int .i64 k∧Bel w wr) (fun i _=>fs.length - (intOf i).toNat)
 case atStart=>exact⟨0,nz,rfl,br⟩
 case round=>
  obtain⟨k,hk,rfl,hW⟩:=hrel;by_cases av:k<fs.length
  ·obtain⟨b,_,hb,hf⟩:=(h k av).later hW hB;obtain⟨b',_,wZ,kY⟩:=(h' k av).later hW hB';obtain⟨f,fH⟩:∃ f,f=fs.getD k Fld.none:=⟨_,rfl⟩
   rw[← fH]at hf kY;have hs:f.small:=dQ f (by rw[fH];simp[av]);have HX:Hid (∀ W,Bel wr W→Calls Tryz.prog 191 #[.agg #[.string f.nm,.int .i64 f.kind,.int .i64 f.least,.int .i64 f.most,.slice (some ⟨b,0,none⟩) f.words.length f.words.length,.string f.to,.int .i64 f.role,.bool f.must,.bool f.fixed,.string f.de,.string f.we],.agg #[.string f.nm,.int .i64 f.kind,.int .i64 f.least,.int .i64 f.most,(.slice (some ⟨b',0,none⟩) f.words.length f.words.length),.string f.to,.int .i64 f.role,.bool f.must,.bool f.fixed,.string f.de,.string f.we]] W fun e w'=>e=.returned (.bool true)∧Bel W w'):=by
    intro W h1;exact IG f b b' B B' (k*11) (k*11) W hs (lo hb h1.size) (lo wZ h1.size) (hf.later h1 (lo hB hW.size)) (kY.later h1 (lo hB' hW.size))
   obtain⟨c0,c1,c2,c3,c4,c5,c6,c7,c8,c9,c10,_,_⟩:=hf;obtain⟨d0,d1,d2,d3,d4,d5,d6,d7,d8,d9,d10,_,_⟩:=kY;clear h h' fH hs dQ hb wZ;go_wp2_with fail
   go_region_with (go_at_call 191;refine(HX.out _ ?_).mono ?_;(repeat(first|exact br|refine Below.drew ?_));rintro e w2 ⟨rfl,aA⟩)
   all_goals
    go_wp2;go_roundw
    case rel=>
     refine⟨k+1,by omega,by go_num, ?_⟩;repeat(first|exact aa hW aA|exact aa hW.drew aA|exact aa hW.drew.drew aA|refine Below.drew ?_)
    case measure=>simp[intOf];omega
  ·go_wp2;go_ret;exact⟨rfl,hW⟩
theorem CS (s:Shp) (b b':Nat) (w:World) (hs:s.small) (hB:b<w.heap.size) (hB':b'<w.heap.size)
  (h:∀ i,i<s.fields.length→bx w b (i*11) (s.fields.getD i Fld.none)) (h':∀ i,i<s.fields.length→bx w b' (i*11) (s.fields.getD i Fld.none)):
  Calls Tryz.prog 98 #[.agg #[.string s.kind,.slice (some ⟨b,0,none⟩) s.fields.length s.fields.length],.agg #[.string s.kind,.slice (some ⟨b',0,none⟩) s.fields.length s.fields.length]] w fun e w'=>e=.returned (.bool true)∧Bel w w':=by
 have HX:Hid (∀ W,Bel w W→Calls Tryz.prog 151 #[.slice (some ⟨b,0,none⟩) s.fields.length s.fields.length,.slice (some ⟨b',0,none⟩) s.fields.length s.fields.length] W fun e w'=>e=.returned (.bool true)∧Bel W w'):=by
  intro W h1;exact eqFields b b' s.fields W hs.1 hs.2 (lo hB h1.size) (lo hB' h1.size) (fun i hi=>(h i hi).later h1 hB) (fun i hi=>(h' i hi).later h1 hB')
 clear h h' hs hB hB';go_enter Tryz.func98,Tryz.ntmps98
 go_wp2_with fail
 refine(HX.out _ ?_).mono ?_
 ·exact ab (ab br _) _
 rintro e w2 ⟨rfl,aA⟩;have bE:=aa (ab (ab br _) _) aA;go_wp2;go_ret;exact⟨rfl,bE⟩
theorem Ay (B B':Nat) (ss:List Shp) (w:World) (hl:ss.length≤1048576) (dQ:∀ s∈ss,s.small) (hB:B<w.heap.size) (hB':B'<w.heap.size)
  (h:∀ i,i<ss.length→fo w B (i*2) (ss.getD i Shp.none)) (h':∀ i,i<ss.length→fo w B' (i*2) (ss.getD i Shp.none)):
  Calls Tryz.prog 43 #[.slice (some ⟨B,0,none⟩) ss.length ss.length,.slice (some ⟨B',0,none⟩) ss.length ss.length] w fun e w'=>e=.returned (.bool true)∧Bel w w':=by
 go_enter Tryz.func43,Tryz.ntmps43
 go_wp2;go_loopw [5] (fun i wr=>∃ k:Nat,k≤ss.length∧i=.int .i64 k∧Bel w wr) (fun i _=>ss.length - (intOf i).toNat)
 case atStart=>exact⟨0,nz,rfl,br⟩
 case round=>
  obtain⟨k,hk,rfl,hW⟩:=hrel;by_cases av:k<ss.length
  ·have q:=(h k av).later hW hB;have q':=(h' k av).later hW hB';obtain⟨s,j6⟩:∃ s,s=ss.getD k Shp.none:=⟨_,rfl⟩
   rw[← j6]at q q';have hs:s.small:=dQ s (by rw[j6];simp[av]);obtain⟨b,_,hb,_,_,c0,c1,hf⟩:=q;obtain⟨b',_,wZ,_,_,d0,d1,kY⟩:=q';have HX:Hid (∀ W,Bel wr W→Calls Tryz.prog 98 #[.agg #[.string s.kind,.slice (some ⟨b,0,none⟩) s.fields.length s.fields.length],.agg #[.string s.kind,.slice (some ⟨b',0,none⟩) s.fields.length s.fields.length]] W fun e w'=>e=.returned (.bool true)∧Bel W w'):=by
    intro W h1;exact CS s b b' W hs (lo hb h1.size) (lo wZ h1.size) (fun i hi=>(hf i hi).later h1 hb) (fun i hi=>(kY i hi).later h1 wZ)
   clear h h' j6 hs dQ hb wZ hf kY;go_wp2_with fail
   go_region_with (go_at_call 98;refine(HX.out _ ?_).mono ?_;(repeat(first|exact br|refine Below.drew ?_));rintro e w2 ⟨rfl,aA⟩)
   all_goals
    go_wp2;go_roundw
    case rel=>
     refine⟨k+1,by omega,by go_num, ?_⟩;repeat(first|exact aa hW aA|exact aa hW.drew aA|exact aa hW.drew.drew aA|refine Below.drew ?_)
    case measure=>simp[intOf];omega
  ·go_wp2;go_ret;exact⟨rfl,hW⟩
end Go.Proofs.YtbiokpmdghmgcaaGreat
