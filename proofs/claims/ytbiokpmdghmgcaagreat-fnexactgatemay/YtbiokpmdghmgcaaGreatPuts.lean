import Derived.Test.YtbiokpmdghmgcaaGreatMem
import Derived.Test.YtbiokpmdghmgcaaGreatOwn
namespace Go.Proofs.YtbiokpmdghmgcaaGreat
open Go.RowKit Go.Deep
def aI (w:World) (B o j:Nat):List Value→World
 |[]=>w
 |v::vs=>aI (w.setCell ⟨B,o+j,none⟩ v) B o (j+1) vs
theorem bQ (B o:Nat):∀ (vs:List Value) (w:World) (j:Nat),(aI w B o j vs).heap.size=w.heap.size
 |[],_,_=>rfl
 |v::vs,w,j=>by rw[aI,bQ B o vs];simp[World.setCell]
theorem fM {B:Nat} {t:TypeId} {m:Nat} (o:Nat):∀ (vs:List Value) (w:World) (j:Nat),ai w B t m→ai (aI w B o j vs) B t m
 |[],_,_,h=>h
 |v::vs,_,_,h=>fM o vs _ _ (h.setCell _ v)
theorem aY {a:World} {B:Nat} (o:Nat) (hB:a.heap.size≤B):∀ (vs:List Value) (w:World) (j:Nat),Bel a w→Bel a (aI w B o j vs)
 |[],_,_,h=>h
 |v::vs,_,_,h=>aY o hB vs _ _ (h.setCell (p:=⟨B,_,none⟩) hB v)
theorem bt (B o b' o':Nat):∀ (vs:List Value) (w:World) (j:Nat),(b'≠B∨o'<o+j∨o+j+vs.length≤o')→(aI w B o j vs).cell? ⟨b',o',none⟩=w.cell? ⟨b',o',none⟩
 |[],_,_,_=>rfl
 |v::vs,w,j,h=>by
  rw[List.length_cons]at h;rw[aI,bt B o b' o' vs _ (j+1) (by omega)];exact aF _ _ _ _ _ _ (by omega)
theorem cB {B:Nat} {t:TypeId} {m:Nat} (o:Nat):∀ (vs:List Value) (w:World) (j:Nat),ai w B t m→o+j+vs.length≤m→∀ i,i<vs.length→(aI w B o j vs).cell? ⟨B,o+(j+i),none⟩=vs[i]?
 |[],_,_,_,_,i,hi=>absurd hi (Nat.not_lt_zero i)
 |v::vs,w,j,h,hm,i,hi=>by
  rw[List.length_cons]at hm hi;cases i with
  |zero=>
   rw[aI,bt B o B (o+(j+0)) vs _ (j+1) (by omega)];exact eL h (o+j) (by omega) v
  |succ i=>
   have:=cB o vs _ (j+1) (h.setCell (o+j) v) (by omega) i (by omega);rw[aI,show o+(j+(i+1))=o+(j+1+i) by omega,this];simp
theorem lg {w:World} {b n c:Nat} {ss:List ByteArray} {B:Nat} (h:bU w (.slice (some ⟨b,0,none⟩) n c) ss) (fe:b≠B) (o j:Nat) (vs:List Value):
  bU (aI w B o j vs) (.slice (some ⟨b,0,none⟩) n c) ss:=by
 rcases h with h|⟨b',off,cap,he,h1,h2,h3,h4⟩
 ·exact Or.inl h
 ·injection he with e1 e2 e3
  injection e1 with e1
  injection e1 with e1 e4 _
  subst e1 e4;refine Or.inr ⟨b,0,cap,by rw[e2,e3],by rw[bQ];exact h1,h2,h3,fun i hi=> ?_⟩;rw[bt B o b (0+i) vs w j (Or.inl fe)];exact h4 i hi
def bx (w:World) (B o:Nat) (f:Fld):Prop:=∃ b,(B<b∧ai w b 9 f.words.length)∧b<w.heap.size∧j5 w B o f (.slice (some ⟨b,0,none⟩) f.words.length f.words.length)
theorem bS {b B:Nat} {t:TypeId} {m:Nat} (o:Nat) (fe:b≠B):∀ (vs:List Value) (w:World) (j:Nat),ai w b t m→ai (aI w B o j vs) b t m
 |[],_,_,h=>h
 |v::vs,_,_,h=>bS o fe vs _ _ (h.bk fe _ v)
theorem bx.later {w w':World} {B o:Nat} {f:Fld} (h:bx w B o f) (hb:Bel w w') (av:B<w.heap.size):bx w' B o f:=by
 obtain⟨b,h1,hl,h2⟩:=h;exact⟨b,⟨h1.1,h1.2.later hb⟩,lo hl hb.size,h2.later hb av⟩
theorem bx.aI {w:World} {B o:Nat} {f:Fld} (h:bx w B o f) (o':Nat) (vs:List Value) (ho:o+11≤o'):bx (aI w B o' 0 vs) B o f:=by
 obtain⟨b,h1,hl,h2⟩:=h;have c:∀ j,j<o'→(YtbiokpmdghmgcaaGreat.aI w B o' 0 vs).cell? ⟨B,j,none⟩=w.cell? ⟨B,j,none⟩:=fun j hj=>bt B o' B j vs w 0 (by omega);have g1:=h1.1;exact⟨b,⟨h1.1,bS o' (by omega) vs w 0 h1.2⟩,by rw[bQ];exact hl,(c _ (by omega)).trans h2.c0,(c _ (by omega)).trans h2.c1,(c _ (by omega)).trans h2.c2,(c _ (by omega)).trans h2.c3,(c _ (by omega)).trans h2.c4,(c _ (by omega)).trans h2.c5,(c _ (by omega)).trans h2.c6,(c _ (by omega)).trans h2.c7,(c _ (by omega)).trans h2.c8,(c _ (by omega)).trans h2.c9,(c _ (by omega)).trans h2.c10,lg h2.texts (by omega) o' 0 vs,h2.sized⟩
theorem CC {w:World} {B:Nat} {t:TypeId} {m:Nat} (hO:ai w B t m) (o:Nat) (ho:o+11≤m) (f:Fld) (b:Nat) (hb:B<b) (how:ai w b 9 f.words.length) (av:b<w.heap.size) (eU:f.sized) (dQ:f.small)
  (hw:∀ i,i<f.words.length→(f.words.getD i ByteArray.empty).size≤maxLen)
  (hc:∀ i,i<f.words.length→w.cell? ⟨b,0+i,none⟩=some (.string (f.words.getD i ByteArray.empty))):
  bx (aI w B o 0 [.string f.nm,.int .i64 f.kind,.int .i64 f.least,.int .i64 f.most,.slice (some ⟨b,0,none⟩) f.words.length f.words.length,.string f.to,.int .i64 f.role,.bool f.must,.bool f.fixed,.string f.de,.string f.we]) B o f:=by
 have c:=fun i hi=>cB o [.string f.nm,.int .i64 f.kind,.int .i64 f.least,.int .i64 f.most,.slice (some ⟨b,0,none⟩) f.words.length f.words.length,.string f.to,.int .i64 f.role,.bool f.must,.bool f.fixed,.string f.de,.string f.we] w 0 hO (by simp;omega) i hi;have ht:bU w (.slice (some ⟨b,0,none⟩) f.words.length f.words.length) f.words:=Or.inr ⟨b,0,_,rfl,av,hw,by have:f.words.length≤1048576:=dQ;unfold maxLen;omega,hc⟩;exact⟨b,⟨hb,bS o (by omega) _ w 0 how⟩,by rw[bQ];exact av,c 0 (by simp),c 1 (by simp),c 2 (by simp),c 3 (by simp),c 4 (by simp),c 5 (by simp),c 6 (by simp),c 7 (by simp),c 8 (by simp),c 9 (by simp),c 10 (by simp),lg ht (by omega) o 0 _,eU⟩
theorem bU.sizes {w:World} {vs:Value} {ss:List ByteArray} (h:bU w vs ss):∀ i,i<ss.length→(ss.getD i ByteArray.empty).size≤maxLen:=by
 rcases h with⟨a,cap,_,rfl⟩|⟨b,off,cap,_,_,h2,_,_⟩
 ·intro i hi;exact absurd hi (Nat.not_lt_zero i)
 ·exact h2
def fo (w:World) (B o:Nat) (s:Shp):Prop:=
 ∃ b,(B<b∧ai w b 122 (s.fields.length*11))∧b<w.heap.size∧s.fields.length≤1048576∧s.kind.size≤maxLen∧w.cell? ⟨B,o,none⟩=some (.string s.kind)∧w.cell? ⟨B,o+1,none⟩=some (.slice (some ⟨b,0,none⟩) s.fields.length s.fields.length)∧
  ∀ i,i<s.fields.length→bx w b (i*11) (s.fields.getD i Fld.none)
theorem fo.later {w w':World} {B o:Nat} {s:Shp} (h:fo w B o s) (hb:Bel w w') (av:B<w.heap.size):fo w' B o s:=by
 obtain⟨b,h1,h2,h3,h4,h5,h6,h7⟩:=h;exact⟨b,⟨h1.1,h1.2.later hb⟩,lo h2 hb.size,h3,h4,(hb.cell (p:=⟨B,_,none⟩) av).trans h5,(hb.cell (p:=⟨B,_,none⟩) av).trans h6,fun i hi=>(h7 i hi).later hb h2⟩
theorem bx.mL {w:World} {B b o:Nat} {f:Fld} (h:bx w b o f) (fe:B<b) (o' j:Nat) (vs:List Value):bx (YtbiokpmdghmgcaaGreat.aI w B o' j vs) b o f:=by
 obtain⟨b',h1,hl',h2⟩:=h;have c:∀ q,(YtbiokpmdghmgcaaGreat.aI w B o' j vs).cell? ⟨b,q,none⟩=w.cell? ⟨b,q,none⟩:=fun q=>bt B o' b q vs w j (by omega);have g1:=h1.1;exact⟨b',⟨h1.1,bS o' (by omega) vs w j h1.2⟩,by rw[bQ];exact hl',(c _).trans h2.c0,(c _).trans h2.c1,(c _).trans h2.c2,(c _).trans h2.c3,(c _).trans h2.c4,(c _).trans h2.c5,(c _).trans h2.c6,(c _).trans h2.c7,(c _).trans h2.c8,(c _).trans h2.c9,(c _).trans h2.c10,lg h2.texts (by omega) o' j vs,h2.sized⟩
theorem fo.aI {w:World} {B o:Nat} {s:Shp} (h:fo w B o s) (o':Nat) (vs:List Value) (ho:o+2≤o'):fo (aI w B o' 0 vs) B o s:=by
 obtain⟨b,h1,h2,h3,h4,h5,h6,h7⟩:=h;have c:∀ j,j<o'→(YtbiokpmdghmgcaaGreat.aI w B o' 0 vs).cell? ⟨B,j,none⟩=w.cell? ⟨B,j,none⟩:=fun j hj=>bt B o' B j vs w 0 (by omega);have g1:=h1.1;exact⟨b,⟨h1.1,bS o' (by omega) vs w 0 h1.2⟩,by rw[bQ];exact h2,h3,h4,(c _ (by omega)).trans h5,(c _ (by omega)).trans h6,fun i hi=>(h7 i hi).mL h1.1 o' 0 vs⟩
theorem sX {w:World} {B:Nat} {t:TypeId} {m:Nat} (hO:ai w B t m) (o:Nat) (ho:o+2≤m) (s:Shp) (b:Nat) (hb:B<b) (how:ai w b 122 (s.fields.length*11)) (av:b<w.heap.size) (hk:s.kind.size≤maxLen) (dQ:s.fields.length≤1048576)
  (hf:∀ i,i<s.fields.length→bx w b (i*11) (s.fields.getD i Fld.none)):
  fo (aI w B o 0 [.string s.kind,.slice (some ⟨b,0,none⟩) s.fields.length s.fields.length]) B o s:=by
 have c:=fun i hi=>cB o [.string s.kind,.slice (some ⟨b,0,none⟩) s.fields.length s.fields.length] w 0 hO (by simp;omega) i hi;exact⟨b,⟨hb,bS o (by omega) _ w 0 how⟩,by rw[bQ];exact av,dQ,hk,c 0 (by simp),c 1 (by simp),fun i hi=>(hf i hi).mL hb o 0 _⟩
end Go.Proofs.YtbiokpmdghmgcaaGreat
