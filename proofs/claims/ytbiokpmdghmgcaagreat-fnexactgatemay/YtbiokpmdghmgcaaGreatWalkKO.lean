import Derived.Test.YtbiokpmdghmgcaaGreatWalkK
import Derived.Test.YtbiokpmdghmgcaaGreatOwn
namespace Go.Proofs.YtbiokpmdghmgcaaGreat
set_option maxHeartbeats 40000000
open Go.RowKit Go.Deep
theorem zK (nm:ByteArray) (kind least most:Int) (vs:Value) (to:ByteArray) (role:Int) (must fixed:Bool) (de we:ByteArray) (w:World) (ss:List ByteArray) (hl:ss.length≤1048576) (h:bU w vs ss):
  Calls Tryz.prog 169 #[.agg #[.string nm,.int .i64 kind,.int .i64 least,.int .i64 most,vs,.string to,.int .i64 role,.bool must,.bool fixed,.string de,.string we]] w fun e w'=>∃ b,e=.returned (.agg #[.string nm,.int .i64 kind,.int .i64 least,.int .i64 most,.slice (some ⟨b,0,none⟩) ss.length ss.length,.string to,.int .i64 role,.bool must,.bool fixed,.string de,.string we])∧Bel w w'∧w.heap.size≤b∧b<w'.heap.size∧ai w' b 9 ss.length∧
   ∀ i,i<ss.length→w'.cell? ⟨b,0+i,none⟩=some (.string (ss.getD i ByteArray.empty)):=by
 have HX:Hid (∀ W,Bel w W→Calls Tryz.prog 129 #[vs] W fun e w'=>∃ cs:Array Value,e=.returned (.slice (some ⟨W.heap.size,0,none⟩) ss.length ss.length)∧w'=W.alloc (.cells cs 9)∧cs.size=ss.length∧
   ∀ j,j<ss.length→cs[j]? =some (.string (ss.getD j ByteArray.empty))):=fun W hW=>ku vs ss W hl (h.later hW)
 clear h hl;go_enter Tryz.func169,Tryz.ntmps169
 go_wp2_with fail
 refine(HX.out _ (by repeat(first|exact br|refine ab ?_ _))).mono ?_;rintro e w1 ⟨cs,rfl,rfl,eU,bP⟩;have HC:=hid (And.intro eU bP);clear eU bP HX;go_wp2;refine bodyPost_ret (v:=.agg #[.string nm,.int .i64 kind,.int .i64 least,.int .i64 most,.slice (some ⟨w.heap.size+1+1+1,0,none⟩) ss.length ss.length,.string to,.int .i64 role,.bool must,.bool fixed,.string de,.string we]) (by simp[results,Tryz.results169,go_sem]) rfl ⟨w.heap.size+1+1+1,rfl, ?_,by omega,by simp, ?_,fun i hi=> ?_⟩
 ·repeat(first|exact br|refine ab ?_ _)
 ·have hO:=ai.alloc (((w.alloc (.cells #[.string nm,.int .i64 kind,.int .i64 least,.int .i64 most,vs,.string to,.int .i64 role,.bool must,.bool fixed,.string de,.string we] 222)).alloc (.cells #[.string nm,.int .i64 kind,.int .i64 least,.int .i64 most,.slice (some ⟨w.heap.size+1+1+1,0,none⟩) ss.length ss.length,.string to,.int .i64 role,.bool must,.bool fixed,.string de,.string we] 122)).alloc (.cells #[.string nm,.int .i64 kind,.int .i64 least,.int .i64 most,.slice (some ⟨w.heap.size+1+1+1,0,none⟩) ss.length ss.length,.string to,.int .i64 role,.bool must,.bool fixed,.string de,.string we] 122)) cs 9 ss.length HC.out.1;have e:(((w.alloc (.cells #[.string nm,.int .i64 kind,.int .i64 least,.int .i64 most,vs,.string to,.int .i64 role,.bool must,.bool fixed,.string de,.string we] 222)).alloc (.cells #[.string nm,.int .i64 kind,.int .i64 least,.int .i64 most,.slice (some ⟨w.heap.size+1+1+1,0,none⟩) ss.length ss.length,.string to,.int .i64 role,.bool must,.bool fixed,.string de,.string we] 122)).alloc (.cells #[.string nm,.int .i64 kind,.int .i64 least,.int .i64 most,.slice (some ⟨w.heap.size+1+1+1,0,none⟩) ss.length ss.length,.string to,.int .i64 role,.bool must,.bool fixed,.string de,.string we] 122)).heap.size=w.heap.size+1+1+1:=by simp
  rw[e]at hO;exact hO
 ·rw[World.cell?_alloc_at cs 9 _ _ (by simp),Nat.zero_add];exact HC.out.2 i hi
end Go.Proofs.YtbiokpmdghmgcaaGreat
