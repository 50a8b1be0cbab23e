import Derived.Deep.RegionWith
import Derived.Test.YtbiokpmdghmgcaaGreatWalkN
namespace Go.Proofs.YtbiokpmdghmgcaaGreat
set_option maxHeartbeats 40000000
open Go.RowKit Go.Deep
theorem qy (b off cap:Nat) (ss:List Shp) (w:World) (hl:ss.length≤1048576) (dO:∀ s∈ss,s.small) (hb:b<w.heap.size)
  (hc:∀ i,i<ss.length→∃ x,n8 w b (off+i*2) (ss.getD i Shp.none) x):
  Calls Tryz.prog 29 #[.slice (some ⟨b,off,none⟩) ss.length cap] w fun e w'=>e=.returned (.slice (some ⟨w.heap.size,0,none⟩) ss.length ss.length)∧Bel w w'∧ai w' w.heap.size 134 (ss.length*2)∧
   ∀ i,i<ss.length→fi w' w.heap.size (i*2) (ss.getD i Shp.none):=by
 obtain⟨cs,bS,iI⟩:=pG ss.length hl;go_enter Tryz.func29,Tryz.ntmps29
 go_wp2;go_loopw [4] (fun i wr=>∃ k:Nat,k≤ss.length∧i=.int .i64 k∧Bel w wr∧ai wr w.heap.size 134 (ss.length*2)∧∀ i,i<k→fi wr w.heap.size (i*2) (ss.getD i Shp.none)) (fun i _=>ss.length - (intOf i).toNat)
 case atStart=>exact⟨0,nz,rfl,ab br _,ai.alloc w cs 134 _ bS,fun i hi=>absurd hi (Nat.not_lt_zero i)⟩
 case round=>
  obtain⟨k,hk,rfl,hB,hO,av⟩:=hrel;have HA:=hid av;have HO:=hid hO;clear av iI bS hO;by_cases aw:k<ss.length
  ·obtain⟨vs,hf⟩:=hc k aw;have kJ:=hf.later hB hb;obtain⟨s,jN⟩:∃ s,s=ss.getD k Shp.none:=⟨_,rfl⟩
   rw[← jN]at kJ;have hs:s.small:=dO s (by rw[jN];simp[aw]);have HX:=hid (And.intro hs (And.intro kJ.fields kJ.sized));obtain⟨c0,c1,_,_⟩:=kJ;have x9:=hid jN;clear jN hf hc hs dO;go_wp2_with fail
   refine(BB s vs wr HX.out.1 HX.out.2.1).mono ?_;rintro e w2 ⟨b2,rfl,aA,GC,sF,Hu⟩;have bF:=aa hB aA;have eG:=HO.out.later aA;have HP:Hid (∀ v,v=[.string s.kind,.slice (some ⟨b2,0,none⟩) s.fields.length s.fields.length]→
     Bel w (aI w2 w.heap.size (k*2) 0 v)∧ai (aI w2 w.heap.size (k*2) 0 v) w.heap.size 134 (ss.length*2)∧∀ i,i<k+1→fi (aI w2 w.heap.size (k*2) 0 v) w.heap.size (i*2) (ss.getD i Shp.none)):=by
    intro v hv;subst hv;refine⟨aW (a:=w) _ nr _ _ _ bF,fJ _ _ _ _ eG,fun i hi=> ?_⟩;by_cases hik:i<k
    ·exact((HA.out i hik).later aA HO.out.lt).aI (k*2) _ (by omega)
    ·obtain rfl:i=k:=by omega
     rw[← x9.out];have:=HO.out.lt;exact sE eG (i*2) (by omega) s b2 (by omega) GC.2 sF HX.out.2.2 HX.out.1.1 Hu
   clear Hu c0 c1 HX;have hF:=eG.frozen;obtain⟨v0,o0⟩:=eG.cell (k*2) (by omega);obtain⟨v1,o1⟩:=eG.cell (k*2+1) (by omega);clear eG bF aA GC sF;go_wp2;go_roundw
   case rel=>exact⟨k+1,by omega,by go_num,(HP.out _ rfl).1,(HP.out _ rfl).2.1,(HP.out _ rfl).2.2⟩
   case measure=>simp[intOf];omega
  ·obtain rfl:k=ss.length:=by omega
   go_wp2;go_ret;exact⟨rfl,hB,HO.out,HA.out⟩
theorem qD (a:Option Addr) (cap:Nat) (w:World):
  Calls Tryz.prog 29 #[.slice a 0 cap] w fun e w'=>e=.returned (.slice (some ⟨w.heap.size,0,none⟩) 0 0)∧∃ cs:Array Value,cs.size=0∧w'=w.alloc (.cells cs 134):=by
 obtain⟨cs,qO,iD⟩:=pG 0 (by omega);have iI:∀ W:World,(Instr.makeSlice 36 (.int .i64 0) (.int .i64 0)).run Tryz.prog W=.ok (.slice (some ⟨W.heap.size,0,none⟩) 0 0) (W.alloc (.cells cs 134)):=iD;clear iD;go_enter Tryz.func29,Tryz.ntmps29
 go_wp2;refine wp_loop_rounds 1 ?_;rw[rounds_succ];go_wp2;go_ret;exact⟨rfl,_,by omega,rfl⟩
theorem zk (v:Value) (ss:List Shp) (w:World) (hl:ss.length≤1048576) (dO:∀ s∈ss,s.small) (h:j9 w v ss):
  Calls Tryz.prog 29 #[v] w fun e w'=>e=.returned (.slice (some ⟨w.heap.size,0,none⟩) ss.length ss.length)∧Bel w w'∧ai w' w.heap.size 134 (ss.length*2)∧
   ∀ i,i<ss.length→fi w' w.heap.size (i*2) (ss.getD i Shp.none):=by
 rcases h with⟨a,cap,rfl,rfl⟩|⟨b,off,cap,rfl,hb,_,hc⟩
 ·refine(qD a cap w).mono ?_;rintro e w' ⟨rfl,cs,bS,rfl⟩;exact⟨rfl,ab br _,ai.alloc w cs 134 _ (by simpa using bS),fun i hi=>absurd hi (Nat.not_lt_zero i)⟩
 ·exact qy b off cap ss w hl dO hb hc
theorem jW {w:World} {b n c:Nat} {ss:List ByteArray} (h:bT w (.slice (some ⟨b,0,none⟩) n c) ss):∀ i,i<ss.length→w.cell? ⟨b,0+i,none⟩=some (.string (ss.getD i ByteArray.empty)):=by
 rcases h with⟨a,cap,_,rfl⟩|⟨b',off,cap,he,h1,h2,h3,h4⟩
 ·intro i hi;exact absurd hi (Nat.not_lt_zero i)
 ·injection he with e1 e2 e3
  injection e1 with e1
  injection e1 with e1 e4 _
  subst e1 e4;exact h4
theorem GK (f:Fld) (b b' B B' o o':Nat) (w:World) (hs:f.small) (hb:b<w.heap.size) (vM:b'<w.heap.size)
  (h:jL w B o f (.slice (some ⟨b,0,none⟩) f.words.length f.words.length)) (h':jL w B' o' f (.slice (some ⟨b',0,none⟩) f.words.length f.words.length)):
  Calls Tryz.prog 191 #[.agg #[.string f.nm,.int .i64 f.kind,.int .i64 f.least,.int .i64 f.most,.slice (some ⟨b,0,none⟩) f.words.length f.words.length,.string f.to,.int .i64 f.role,.bool f.must,.bool f.fixed,.string f.de,.string f.we],.agg #[.string f.nm,.int .i64 f.kind,.int .i64 f.least,.int .i64 f.most,(.slice (some ⟨b',0,none⟩) f.words.length f.words.length),.string f.to,.int .i64 f.role,.bool f.must,.bool f.fixed,.string f.de,.string f.we]] w fun e w'=>e=.returned (.bool true)∧Bel w w':=
 Cr f.nm f.kind f.least f.most b b' f.to f.role f.must f.fixed f.de f.we f.words w hb vM hs (jW h.texts) (jW h'.texts)
theorem eqFields (B B':Nat) (fs:List Fld) (w:World) (hl:fs.length≤1048576) (dO:∀ f∈fs,f.small) (hB:B<w.heap.size) (hB':B'<w.heap.size)
  (h:∀ i,i<fs.length→bp w B (i*11) (fs.getD i Fld.none)) (h':∀ i,i<fs.length→bp w B' (i*11) (fs.getD i Fld.none)):
  Calls Tryz.prog 151 #[.slice (some ⟨B,0,none⟩) fs.length fs.length,.slice (some ⟨B',0,none⟩) fs.length fs.length] w fun e w'=>e=.returned (.bool true)∧Bel w w':=by
 go_enter Tryz.func151,Tryz.ntmps151
 go_wp2;go_loopw [5] (fun i wr=>∃ k:Nat,k≤fs.length∧i=.int .i64 k∧Bel w wr) (fun i _=>fs.length - (intOf i).toNat)
 case atStart=>exact⟨0,nz,rfl,br⟩
 case round=>
  obtain⟨k,hk,rfl,hW⟩:=hrel;by_cases aw:k<fs.length
  ·obtain⟨b,_,hb,hf⟩:=(h k aw).later hW hB;obtain⟨b',_,vM,kJ⟩:=(h' k aw).later hW hB';obtain⟨f,fG⟩:∃ f,f=fs.getD k Fld.none:=⟨_,rfl⟩
   rw[← fG]at hf kJ;have hs:f.small:=dO f (by rw[fG];simp[aw]);have HX:Hid (∀ W,Bel wr W→Calls Tryz.prog 191 #[.agg #[.string f.nm,.int .i64 f.kind,.int .i64 f.least,.int .i64 f.most,.slice (some ⟨b,0,none⟩) f.words.length f.words.length,.string f.to,.int .i64 f.role,.bool f.must,.bool f.fixed,.string f.de,.string f.we],.agg #[.string f.nm,.int .i64 f.kind,.int .i64 f.least,.int .i64 f.most,(.slice (some ⟨b',0,none⟩) f.words.length f.words.length),.string f.to,.int .i64 f.role,.bool f.must,.bool f.fixed,.string f.de,.string f.we]] W fun e w'=>e=.returned (.bool true)∧Bel W w'):=by
    intro W h1;exact GK f b b' B B' (k*11) (k*11) W hs (lo hb h1.size) (lo vM h1.size) (hf.later h1 (lo hB hW.size)) (kJ.later h1 (lo hB' hW.size))
   obtain⟨c0,c1,c2,c3,c4,c5,c6,c7,c8,c9,c10,_,_⟩:=hf;obtain⟨d0,d1,d2,d3,d4,d5,d6,d7,d8,d9,d10,_,_⟩:=kJ;clear h h' fG hs dO hb vM;go_wp2_with fail
   go_region_with (go_at_call 191;refine(HX.out _ ?_).mono ?_;(repeat(first|exact br|refine Below.drew ?_));rintro e w2 ⟨rfl,aA⟩)
   all_goals
    go_wp2;go_roundw
    case rel=>
     refine⟨k+1,by omega,by go_num, ?_⟩;repeat(first|exact aa hW aA|exact aa hW.drew aA|exact aa hW.drew.drew aA|refine Below.drew ?_)
    case measure=>simp[intOf];omega
  ·go_wp2;go_ret;exact⟨rfl,hW⟩
theorem Ch (s:Shp) (b b':Nat) (w:World) (hs:s.small) (hB:b<w.heap.size) (hB':b'<w.heap.size)
  (h:∀ i,i<s.fields.length→bp w b (i*11) (s.fields.getD i Fld.none)) (h':∀ i,i<s.fields.length→bp w b' (i*11) (s.fields.getD i Fld.none)):
  Calls Tryz.prog 98 #[.agg #[.string s.kind,.slice (some ⟨b,0,none⟩) s.fields.length s.fields.length],.agg #[.string s.kind,.slice (some ⟨b',0,none⟩) s.fields.length s.fields.length]] w fun e w'=>e=.returned (.bool true)∧Bel w w':=by
 have HX:Hid (∀ W,Bel w W→Calls Tryz.prog 151 #[.slice (some ⟨b,0,none⟩) s.fields.length s.fields.length,.slice (some ⟨b',0,none⟩) s.fields.length s.fields.length] W fun e w'=>e=.returned (.bool true)∧Bel W w'):=by
  intro W h1;exact eqFields b b' s.fields W hs.1 hs.2 (lo hB h1.size) (lo hB' h1.size) (fun i hi=>(h i hi).later h1 hB) (fun i hi=>(h' i hi).later h1 hB')
 clear h h' hs hB hB';go_enter Tryz.func98,Tryz.ntmps98
 go_wp2_with fail
 refine(HX.out _ ?_).mono ?_
 ·exact ab (ab br _) _
 rintro e w2 ⟨rfl,aA⟩;have bF:=aa (ab (ab br _) _) aA;go_wp2;go_ret;exact⟨rfl,bF⟩
theorem yH (B B':Nat) (ss:List Shp) (w:World) (hl:ss.length≤1048576) (dO:∀ s∈ss,s.small) (hB:B<w.heap.size) (hB':B'<w.heap.size)
  (h:∀ i,i<ss.length→fi w B (i*2) (ss.getD i Shp.none)) (h':∀ i,i<ss.length→fi w B' (i*2) (ss.getD i Shp.none)):
  Calls Tryz.prog 43 #[.slice (some ⟨B,0,none⟩) ss.length ss.length,.slice (some ⟨B',0,none⟩) ss.length ss.length] w fun e w'=>e=.returned (.bool true)∧Bel w w':=by
 go_enter Tryz.func43,Tryz.ntmps43
 go_wp2;go_loopw [5] (fun i wr=>∃ k:Nat,k≤ss.length∧i=.int .i64 k∧Bel w wr) (fun i _=>ss.length - (intOf i).toNat)
 case atStart=>exact⟨0,nz,rfl,br⟩
 case round=>
  obtain⟨k,hk,rfl,hW⟩:=hrel;by_cases aw:k<ss.length
  ·have q:=(h k aw).later hW hB;have q':=(h' k aw).later hW hB';obtain⟨s,jN⟩:∃ s,s=ss.getD k Shp.none:=⟨_,rfl⟩
   rw[← jN]at q q';have hs:s.small:=dO s (by rw[jN];simp[aw]);obtain⟨b,_,hb,_,_,c0,c1,hf⟩:=q;obtain⟨b',_,vM,_,_,d0,d1,kJ⟩:=q';have HX:Hid (∀ W,Bel wr W→Calls Tryz.prog 98 #[.agg #[.string s.kind,.slice (some ⟨b,0,none⟩) s.fields.length s.fields.length],.agg #[.string s.kind,.slice (some ⟨b',0,none⟩) s.fields.length s.fields.length]] W fun e w'=>e=.returned (.bool true)∧Bel W w'):=by
    intro W h1;exact Ch s b b' W hs (lo hb h1.size) (lo vM h1.size) (fun i hi=>(hf i hi).later h1 hb) (fun i hi=>(kJ i hi).later h1 vM)
   clear h h' jN hs dO hb vM hf kJ;go_wp2_with fail
   go_region_with (go_at_call 98;refine(HX.out _ ?_).mono ?_;(repeat(first|exact br|refine Below.drew ?_));rintro e w2 ⟨rfl,aA⟩)
   all_goals
    go_wp2;go_roundw
    case rel=>
     refine⟨k+1,by omega,by go_num, ?_⟩;repeat(first|exact aa hW aA|exact aa hW.drew aA|exact aa hW.drew.drew aA|refine Below.drew ?_)
    case measure=>simp[intOf];omega
  ·go_wp2;go_ret;exact⟨rfl,hW⟩
end Go.Proofs.YtbiokpmdghmgcaaGreat
