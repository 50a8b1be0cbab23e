import Derived.Deep.QuietTactic
import Derived.Test.YtbiokpmdghmgcaaGreatInv
import Derived.Test.YtbiokpmdghmgcaaGreatWalkDB
import Derived.Test.YtbiokpmdghmgcaaGreatWalkAK
namespace Go.Proofs.YtbiokpmdghmgcaaGreat
open Go.RowKit Go.Deep
def ck (a0:Act) (bX cY dc da cW cV cG cO cT cS cQ cH cB cP cU cX cZ:Value):Act:=(((((((((((((((((a0.put (some 38) bX).put (some 39) cY).put (some 40) dc).put (some 41) da).put (some 42) cW).put (some 43) cV).put (some 44) cG).put (some 45) cO).put (some 46) cT).put (some 47) cS).put (some 48) cQ).put (some 49) cH).put (some 50) cB).put (some 51) cP).put (some 52) cU).put (some 53) cX).put (some 54) cZ)
theorem Cq (a0:Act):a0=ck a0 (a0.eval (.tmp 38)) (a0.eval (.tmp 39)) (a0.eval (.tmp 40)) (a0.eval (.tmp 41)) (a0.eval (.tmp 42)) (a0.eval (.tmp 43)) (a0.eval (.tmp 44)) (a0.eval (.tmp 45)) (a0.eval (.tmp 46)) (a0.eval (.tmp 47)) (a0.eval (.tmp 48)) (a0.eval (.tmp 49)) (a0.eval (.tmp 50)) (a0.eval (.tmp 51)) (a0.eval (.tmp 52)) (a0.eval (.tmp 53)) (a0.eval (.tmp 54)):=by
 unfold ck;rw[dd _ 38,dd _ 39,dd _ 40,dd _ 41,dd _ 42,dd _ 43,dd _ 44,dd _ 45,dd _ 46,dd _ 47,dd _ 48,dd _ 49,dd _ 50,dd _ 51,dd _ 52,dd _ 53,dd _ 54]
section
variable (a0:Act) (bX cY dc da cW cV cG cO cT cS cQ cH cB cP cU cX cZ v:Value)
theorem Ao:(ck a0 bX cY dc da cW cV cG cO cT cS cQ cH cB cP cU cX cZ).put (some 38) v=ck a0 v cY dc da cW cV cG cO cT cS cQ cH cB cP cU cX cZ:=by unfold ck;rw[ak _ 54 38 _ _ (by decide),ak _ 53 38 _ _ (by decide),ak _ 52 38 _ _ (by decide),ak _ 51 38 _ _ (by decide),ak _ 50 38 _ _ (by decide),ak _ 49 38 _ _ (by decide),ak _ 48 38 _ _ (by decide),ak _ 47 38 _ _ (by decide),ak _ 46 38 _ _ (by decide),ak _ 45 38 _ _ (by decide),ak _ 44 38 _ _ (by decide),ak _ 43 38 _ _ (by decide),ak _ 42 38 _ _ (by decide),ak _ 41 38 _ _ (by decide),ak _ 40 38 _ _ (by decide),ak _ 39 38 _ _ (by decide),ee _ 38]
theorem Cs (h:54<a0.tmps.size):(ck a0 bX cY dc da cW cV cG cO cT cS cQ cH cB cP cU cX cZ).eval (.tmp 38)=bX:=by unfold ck;rw[ah _ 54 38 _ (by decide),ah _ 53 38 _ (by decide),ah _ 52 38 _ (by decide),ah _ 51 38 _ (by decide),ah _ 50 38 _ (by decide),ah _ 49 38 _ (by decide),ah _ 48 38 _ (by decide),ah _ 47 38 _ (by decide),ah _ 46 38 _ (by decide),ah _ 45 38 _ (by decide),ah _ 44 38 _ (by decide),ah _ 43 38 _ (by decide),ah _ 42 38 _ (by decide),ah _ 41 38 _ (by decide),ah _ 40 38 _ (by decide),ah _ 39 38 _ (by decide),b8 _ 38 _ (by first|omega|(simp only[bR];omega))]
theorem yK:(ck a0 bX cY dc da cW cV cG cO cT cS cQ cH cB cP cU cX cZ).put (some 39) v=ck a0 bX v dc da cW cV cG cO cT cS cQ cH cB cP cU cX cZ:=by unfold ck;rw[ak _ 54 39 _ _ (by decide),ak _ 53 39 _ _ (by decide),ak _ 52 39 _ _ (by decide),ak _ 51 39 _ _ (by decide),ak _ 50 39 _ _ (by decide),ak _ 49 39 _ _ (by decide),ak _ 48 39 _ _ (by decide),ak _ 47 39 _ _ (by decide),ak _ 46 39 _ _ (by decide),ak _ 45 39 _ _ (by decide),ak _ 44 39 _ _ (by decide),ak _ 43 39 _ _ (by decide),ak _ 42 39 _ _ (by decide),ak _ 41 39 _ _ (by decide),ak _ 40 39 _ _ (by decide),ee _ 39]
theorem BH (h:54<a0.tmps.size):(ck a0 bX cY dc da cW cV cG cO cT cS cQ cH cB cP cU cX cZ).eval (.tmp 39)=cY:=by unfold ck;rw[ah _ 54 39 _ (by decide),ah _ 53 39 _ (by decide),ah _ 52 39 _ (by decide),ah _ 51 39 _ (by decide),ah _ 50 39 _ (by decide),ah _ 49 39 _ (by decide),ah _ 48 39 _ (by decide),ah _ 47 39 _ (by decide),ah _ 46 39 _ (by decide),ah _ 45 39 _ (by decide),ah _ 44 39 _ (by decide),ah _ 43 39 _ (by decide),ah _ 42 39 _ (by decide),ah _ 41 39 _ (by decide),ah _ 40 39 _ (by decide),b8 _ 39 _ (by first|omega|(simp only[bR];omega))]
theorem zF:(ck a0 bX cY dc da cW cV cG cO cT cS cQ cH cB cP cU cX cZ).put (some 40) v=ck a0 bX cY v da cW cV cG cO cT cS cQ cH cB cP cU cX cZ:=by unfold ck;rw[ak _ 54 40 _ _ (by decide),ak _ 53 40 _ _ (by decide),ak _ 52 40 _ _ (by decide),ak _ 51 40 _ _ (by decide),ak _ 50 40 _ _ (by decide),ak _ 49 40 _ _ (by decide),ak _ 48 40 _ _ (by decide),ak _ 47 40 _ _ (by decide),ak _ 46 40 _ _ (by decide),ak _ 45 40 _ _ (by decide),ak _ 44 40 _ _ (by decide),ak _ 43 40 _ _ (by decide),ak _ 42 40 _ _ (by decide),ak _ 41 40 _ _ (by decide),ee _ 40]
theorem Cd (h:54<a0.tmps.size):(ck a0 bX cY dc da cW cV cG cO cT cS cQ cH cB cP cU cX cZ).eval (.tmp 40)=dc:=by unfold ck;rw[ah _ 54 40 _ (by decide),ah _ 53 40 _ (by decide),ah _ 52 40 _ (by decide),ah _ 51 40 _ (by decide),ah _ 50 40 _ (by decide),ah _ 49 40 _ (by decide),ah _ 48 40 _ (by decide),ah _ 47 40 _ (by decide),ah _ 46 40 _ (by decide),ah _ 45 40 _ (by decide),ah _ 44 40 _ (by decide),ah _ 43 40 _ (by decide),ah _ 42 40 _ (by decide),ah _ 41 40 _ (by decide),b8 _ 40 _ (by first|omega|(simp only[bR];omega))]
theorem yq:(ck a0 bX cY dc da cW cV cG cO cT cS cQ cH cB cP cU cX cZ).put (some 41) v=ck a0 bX cY dc v cW cV cG cO cT cS cQ cH cB cP cU cX cZ:=by unfold ck;rw[ak _ 54 41 _ _ (by decide),ak _ 53 41 _ _ (by decide),ak _ 52 41 _ _ (by decide),ak _ 51 41 _ _ (by decide),ak _ 50 41 _ _ (by decide),ak _ 49 41 _ _ (by decide),ak _ 48 41 _ _ (by decide),ak _ 47 41 _ _ (by decide),ak _ 46 41 _ _ (by decide),ak _ 45 41 _ _ (by decide),ak _ 44 41 _ _ (by decide),ak _ 43 41 _ _ (by decide),ak _ 42 41 _ _ (by decide),ee _ 41]
theorem Cn (h:54<a0.tmps.size):(ck a0 bX cY dc da cW cV cG cO cT cS cQ cH cB cP cU cX cZ).eval (.tmp 41)=da:=by unfold ck;rw[ah _ 54 41 _ (by decide),ah _ 53 41 _ (by decide),ah _ 52 41 _ (by decide),ah _ 51 41 _ (by decide),ah _ 50 41 _ (by decide),ah _ 49 41 _ (by decide),ah _ 48 41 _ (by decide),ah _ 47 41 _ (by decide),ah _ 46 41 _ (by decide),ah _ 45 41 _ (by decide),ah _ 44 41 _ (by decide),ah _ 43 41 _ (by decide),ah _ 42 41 _ (by decide),b8 _ 41 _ (by first|omega|(simp only[bR];omega))]
theorem zY:(ck a0 bX cY dc da cW cV cG cO cT cS cQ cH cB cP cU cX cZ).put (some 42) v=ck a0 bX cY dc da v cV cG cO cT cS cQ cH cB cP cU cX cZ:=by unfold ck;rw[ak _ 54 42 _ _ (by decide),ak _ 53 42 _ _ (by decide),ak _ 52 42 _ _ (by decide),ak _ 51 42 _ _ (by decide),ak _ 50 42 _ _ (by decide),ak _ 49 42 _ _ (by decide),ak _ 48 42 _ _ (by decide),ak _ 47 42 _ _ (by decide),ak _ 46 42 _ _ (by decide),ak _ 45 42 _ _ (by decide),ak _ 44 42 _ _ (by decide),ak _ 43 42 _ _ (by decide),ee _ 42]
theorem BX (h:54<a0.tmps.size):(ck a0 bX cY dc da cW cV cG cO cT cS cQ cH cB cP cU cX cZ).eval (.tmp 42)=cW:=by unfold ck;rw[ah _ 54 42 _ (by decide),ah _ 53 42 _ (by decide),ah _ 52 42 _ (by decide),ah _ 51 42 _ (by decide),ah _ 50 42 _ (by decide),ah _ 49 42 _ (by decide),ah _ 48 42 _ (by decide),ah _ 47 42 _ (by decide),ah _ 46 42 _ (by decide),ah _ 45 42 _ (by decide),ah _ 44 42 _ (by decide),ah _ 43 42 _ (by decide),b8 _ 42 _ (by first|omega|(simp only[bR];omega))]
theorem zc:(ck a0 bX cY dc da cW cV cG cO cT cS cQ cH cB cP cU cX cZ).put (some 43) v=ck a0 bX cY dc da cW v cG cO cT cS cQ cH cB cP cU cX cZ:=by unfold ck;rw[ak _ 54 43 _ _ (by decide),ak _ 53 43 _ _ (by decide),ak _ 52 43 _ _ (by decide),ak _ 51 43 _ _ (by decide),ak _ 50 43 _ _ (by decide),ak _ 49 43 _ _ (by decide),ak _ 48 43 _ _ (by decide),ak _ 47 43 _ _ (by decide),ak _ 46 43 _ _ (by decide),ak _ 45 43 _ _ (by decide),ak _ 44 43 _ _ (by decide),ee _ 43]
theorem BG (h:54<a0.tmps.size):(ck a0 bX cY dc da cW cV cG cO cT cS cQ cH cB cP cU cX cZ).eval (.tmp 43)=cV:=by unfold ck;rw[ah _ 54 43 _ (by decide),ah _ 53 43 _ (by decide),ah _ 52 43 _ (by decide),ah _ 51 43 _ (by decide),ah _ 50 43 _ (by decide),ah _ 49 43 _ (by decide),ah _ 48 43 _ (by decide),ah _ 47 43 _ (by decide),ah _ 46 43 _ (by decide),ah _ 45 43 _ (by decide),ah _ 44 43 _ (by decide),b8 _ 43 _ (by first|omega|(simp only[bR];omega))]
theorem yU:(ck a0 bX cY dc da cW cV cG cO cT cS cQ cH cB cP cU cX cZ).put (some 44) v=ck a0 bX cY dc da cW cV v cO cT cS cQ cH cB cP cU cX cZ:=by unfold ck;rw[ak _ 54 44 _ _ (by decide),ak _ 53 44 _ _ (by decide),ak _ 52 44 _ _ (by decide),ak _ 51 44 _ _ (by decide),ak _ 50 44 _ _ (by decide),ak _ 49 44 _ _ (by decide),ak _ 48 44 _ _ (by decide),ak _ 47 44 _ _ (by decide),ak _ 46 44 _ _ (by decide),ak _ 45 44 _ _ (by decide),ee _ 44]
theorem BI (h:54<a0.tmps.size):(ck a0 bX cY dc da cW cV cG cO cT cS cQ cH cB cP cU cX cZ).eval (.tmp 44)=cG:=by unfold ck;rw[ah _ 54 44 _ (by decide),ah _ 53 44 _ (by decide),ah _ 52 44 _ (by decide),ah _ 51 44 _ (by decide),ah _ 50 44 _ (by decide),ah _ 49 44 _ (by decide),ah _ 48 44 _ (by decide),ah _ 47 44 _ (by decide),ah _ 46 44 _ (by decide),ah _ 45 44 _ (by decide),b8 _ 44 _ (by first|omega|(simp only[bR];omega))]
theorem zS:(ck a0 bX cY dc da cW cV cG cO cT cS cQ cH cB cP cU cX cZ).put (some 45) v=ck a0 bX cY dc da cW cV cG v cT cS cQ cH cB cP cU cX cZ:=by unfold ck;rw[ak _ 54 45 _ _ (by decide),ak _ 53 45 _ _ (by decide),ak _ 52 45 _ _ (by decide),ak _ 51 45 _ _ (by decide),ak _ 50 45 _ _ (by decide),ak _ 49 45 _ _ (by decide),ak _ 48 45 _ _ (by decide),ak _ 47 45 _ _ (by decide),ak _ 46 45 _ _ (by decide),ee _ 45]
theorem B4 (h:54<a0.tmps.size):(ck a0 bX cY dc da cW cV cG cO cT cS cQ cH cB cP cU cX cZ).eval (.tmp 45)=cO:=by unfold ck;rw[ah _ 54 45 _ (by decide),ah _ 53 45 _ (by decide),ah _ 52 45 _ (by decide),ah _ 51 45 _ (by decide),ah _ 50 45 _ (by decide),ah _ 49 45 _ (by decide),ah _ 48 45 _ (by decide),ah _ 47 45 _ (by decide),ah _ 46 45 _ (by decide),b8 _ 45 _ (by first|omega|(simp only[bR];omega))]
theorem At:(ck a0 bX cY dc da cW cV cG cO cT cS cQ cH cB cP cU cX cZ).put (some 46) v=ck a0 bX cY dc da cW cV cG cO v cS cQ cH cB cP cU cX cZ:=by unfold ck;rw[ak _ 54 46 _ _ (by decide),ak _ 53 46 _ _ (by decide),ak _ 52 46 _ _ (by decide),ak _ 51 46 _ _ (by decide),ak _ 50 46 _ _ (by decide),ak _ 49 46 _ _ (by decide),ak _ 48 46 _ _ (by decide),ak _ 47 46 _ _ (by decide),ee _ 46]
theorem Cw (h:54<a0.tmps.size):(ck a0 bX cY dc da cW cV cG cO cT cS cQ cH cB cP cU cX cZ).eval (.tmp 46)=cT:=by unfold ck;rw[ah _ 54 46 _ (by decide),ah _ 53 46 _ (by decide),ah _ 52 46 _ (by decide),ah _ 51 46 _ (by decide),ah _ 50 46 _ (by decide),ah _ 49 46 _ (by decide),ah _ 48 46 _ (by decide),ah _ 47 46 _ (by decide),b8 _ 46 _ (by first|omega|(simp only[bR];omega))]
theorem As:(ck a0 bX cY dc da cW cV cG cO cT cS cQ cH cB cP cU cX cZ).put (some 47) v=ck a0 bX cY dc da cW cV cG cO cT v cQ cH cB cP cU cX cZ:=by unfold ck;rw[ak _ 54 47 _ _ (by decide),ak _ 53 47 _ _ (by decide),ak _ 52 47 _ _ (by decide),ak _ 51 47 _ _ (by decide),ak _ 50 47 _ _ (by decide),ak _ 49 47 _ _ (by decide),ak _ 48 47 _ _ (by decide),ee _ 47]
theorem BO (h:54<a0.tmps.size):(ck a0 bX cY dc da cW cV cG cO cT cS cQ cH cB cP cU cX cZ).eval (.tmp 47)=cS:=by unfold ck;rw[ah _ 54 47 _ (by decide),ah _ 53 47 _ (by decide),ah _ 52 47 _ (by decide),ah _ 51 47 _ (by decide),ah _ 50 47 _ (by decide),ah _ 49 47 _ (by decide),ah _ 48 47 _ (by decide),b8 _ 47 _ (by first|omega|(simp only[bR];omega))]
theorem ze:(ck a0 bX cY dc da cW cV cG cO cT cS cQ cH cB cP cU cX cZ).put (some 48) v=ck a0 bX cY dc da cW cV cG cO cT cS v cH cB cP cU cX cZ:=by unfold ck;rw[ak _ 54 48 _ _ (by decide),ak _ 53 48 _ _ (by decide),ak _ 52 48 _ _ (by decide),ak _ 51 48 _ _ (by decide),ak _ 50 48 _ _ (by decide),ak _ 49 48 _ _ (by decide),ee _ 48]
theorem B9 (h:54<a0.tmps.size):(ck a0 bX cY dc da cW cV cG cO cT cS cQ cH cB cP cU cX cZ).eval (.tmp 48)=cQ:=by unfold ck;rw[ah _ 54 48 _ (by decide),ah _ 53 48 _ (by decide),ah _ 52 48 _ (by decide),ah _ 51 48 _ (by decide),ah _ 50 48 _ (by decide),ah _ 49 48 _ (by decide),b8 _ 48 _ (by first|omega|(simp only[bR];omega))]
theorem yY:(ck a0 bX cY dc da cW cV cG cO cT cS cQ cH cB cP cU cX cZ).put (some 49) v=ck a0 bX cY dc da cW cV cG cO cT cS cQ v cB cP cU cX cZ:=by unfold ck;rw[ak _ 54 49 _ _ (by decide),ak _ 53 49 _ _ (by decide),ak _ 52 49 _ _ (by decide),ak _ 51 49 _ _ (by decide),ak _ 50 49 _ _ (by decide),ee _ 49]
theorem Bz (h:54<a0.tmps.size):(ck a0 bX cY dc da cW cV cG cO cT cS cQ cH cB cP cU cX cZ).eval (.tmp 49)=cH:=by unfold ck;rw[ah _ 54 49 _ (by decide),ah _ 53 49 _ (by decide),ah _ 52 49 _ (by decide),ah _ 51 49 _ (by decide),ah _ 50 49 _ (by decide),b8 _ 49 _ (by first|omega|(simp only[bR];omega))]
theorem yQ:(ck a0 bX cY dc da cW cV cG cO cT cS cQ cH cB cP cU cX cZ).put (some 50) v=ck a0 bX cY dc da cW cV cG cO cT cS cQ cH v cP cU cX cZ:=by unfold ck;rw[ak _ 54 50 _ _ (by decide),ak _ 53 50 _ _ (by decide),ak _ 52 50 _ _ (by decide),ak _ 51 50 _ _ (by decide),ee _ 50]
theorem Ct (h:54<a0.tmps.size):(ck a0 bX cY dc da cW cV cG cO cT cS cQ cH cB cP cU cX cZ).eval (.tmp 50)=cB:=by unfold ck;rw[ah _ 54 50 _ (by decide),ah _ 53 50 _ (by decide),ah _ 52 50 _ (by decide),ah _ 51 50 _ (by decide),b8 _ 50 _ (by first|omega|(simp only[bR];omega))]
theorem Ab:(ck a0 bX cY dc da cW cV cG cO cT cS cQ cH cB cP cU cX cZ).put (some 51) v=ck a0 bX cY dc da cW cV cG cO cT cS cQ cH cB v cU cX cZ:=by unfold ck;rw[ak _ 54 51 _ _ (by decide),ak _ 53 51 _ _ (by decide),ak _ 52 51 _ _ (by decide),ee _ 51]
theorem BN (h:54<a0.tmps.size):(ck a0 bX cY dc da cW cV cG cO cT cS cQ cH cB cP cU cX cZ).eval (.tmp 51)=cP:=by unfold ck;rw[ah _ 54 51 _ (by decide),ah _ 53 51 _ (by decide),ah _ 52 51 _ (by decide),b8 _ 51 _ (by first|omega|(simp only[bR];omega))]
theorem Av:(ck a0 bX cY dc da cW cV cG cO cT cS cQ cH cB cP cU cX cZ).put (some 52) v=ck a0 bX cY dc da cW cV cG cO cT cS cQ cH cB cP v cX cZ:=by unfold ck;rw[ak _ 54 52 _ _ (by decide),ak _ 53 52 _ _ (by decide),ee _ 52]
theorem Cb (h:54<a0.tmps.size):(ck a0 bX cY dc da cW cV cG cO cT cS cQ cH cB cP cU cX cZ).eval (.tmp 52)=cU:=by unfold ck;rw[ah _ 54 52 _ (by decide),ah _ 53 52 _ (by decide),b8 _ 52 _ (by first|omega|(simp only[bR];omega))]
theorem Ah:(ck a0 bX cY dc da cW cV cG cO cT cS cQ cH cB cP cU cX cZ).put (some 53) v=ck a0 bX cY dc da cW cV cG cO cT cS cQ cH cB cP cU v cZ:=by unfold ck;rw[ak _ 54 53 _ _ (by decide),ee _ 53]
theorem BD (h:54<a0.tmps.size):(ck a0 bX cY dc da cW cV cG cO cT cS cQ cH cB cP cU cX cZ).eval (.tmp 53)=cX:=by unfold ck;rw[ah _ 54 53 _ (by decide),b8 _ 53 _ (by first|omega|(simp only[bR];omega))]
theorem yO:(ck a0 bX cY dc da cW cV cG cO cT cS cQ cH cB cP cU cX cZ).put (some 54) v=ck a0 bX cY dc da cW cV cG cO cT cS cQ cH cB cP cU cX v:=by unfold ck;rw[ee _ 54]
theorem BJ (h:54<a0.tmps.size):(ck a0 bX cY dc da cW cV cG cO cT cS cQ cH cB cP cU cX cZ).eval (.tmp 54)=cZ:=by unfold ck;rw[b8 _ 54 _ (by first|omega|(simp only[bR];omega))]
theorem zJ (h:54<a0.tmps.size):(ck a0 bX cY dc da cW cV cG cO cT cS cQ cH cB cP cU cX cZ).tmps[38]?.getD undef=bX:=by have:=Cs a0 bX cY dc da cW cV cG cO cT cS cQ cH cB cP cU cX cZ h;simpa [Act.eval]using this
theorem yJ (h:54<a0.tmps.size):(ck a0 bX cY dc da cW cV cG cO cT cS cQ cH cB cP cU cX cZ).tmps[39]?.getD undef=cY:=by have:=BH a0 bX cY dc da cW cV cG cO cT cS cQ cH cB cP cU cX cZ h;simpa [Act.eval]using this
theorem yA (h:54<a0.tmps.size):(ck a0 bX cY dc da cW cV cG cO cT cS cQ cH cB cP cU cX cZ).tmps[40]?.getD undef=dc:=by have:=Cd a0 bX cY dc da cW cV cG cO cT cS cQ cH cB cP cU cX cZ h;simpa [Act.eval]using this
theorem yS (h:54<a0.tmps.size):(ck a0 bX cY dc da cW cV cG cO cT cS cQ cH cB cP cU cX cZ).tmps[41]?.getD undef=da:=by have:=Cn a0 bX cY dc da cW cV cG cO cT cS cQ cH cB cP cU cX cZ h;simpa [Act.eval]using this
theorem zP (h:54<a0.tmps.size):(ck a0 bX cY dc da cW cV cG cO cT cS cQ cH cB cP cU cX cZ).tmps[42]?.getD undef=cW:=by have:=BX a0 bX cY dc da cW cV cG cO cT cS cQ cH cB cP cU cX cZ h;simpa [Act.eval]using this
theorem zI (h:54<a0.tmps.size):(ck a0 bX cY dc da cW cV cG cO cT cS cQ cH cB cP cU cX cZ).tmps[43]?.getD undef=cV:=by have:=BG a0 bX cY dc da cW cV cG cO cT cS cQ cH cB cP cU cX cZ h;simpa [Act.eval]using this
theorem zZ (h:54<a0.tmps.size):(ck a0 bX cY dc da cW cV cG cO cT cS cQ cH cB cP cU cX cZ).tmps[44]?.getD undef=cG:=by have:=BI a0 bX cY dc da cW cV cG cO cT cS cQ cH cB cP cU cX cZ h;simpa [Act.eval]using this
theorem zl (h:54<a0.tmps.size):(ck a0 bX cY dc da cW cV cG cO cT cS cQ cH cB cP cU cX cZ).tmps[45]?.getD undef=cO:=by have:=B4 a0 bX cY dc da cW cV cG cO cT cS cQ cH cB cP cU cX cZ h;simpa [Act.eval]using this
theorem zh (h:54<a0.tmps.size):(ck a0 bX cY dc da cW cV cG cO cT cS cQ cH cB cP cU cX cZ).tmps[46]?.getD undef=cT:=by have:=Cw a0 bX cY dc da cW cV cG cO cT cS cQ cH cB cP cU cX cZ h;simpa [Act.eval]using this
theorem Ap (h:54<a0.tmps.size):(ck a0 bX cY dc da cW cV cG cO cT cS cQ cH cB cP cU cX cZ).tmps[47]?.getD undef=cS:=by have:=BO a0 bX cY dc da cW cV cG cO cT cS cQ cH cB cP cU cX cZ h;simpa [Act.eval]using this
theorem zq (h:54<a0.tmps.size):(ck a0 bX cY dc da cW cV cG cO cT cS cQ cH cB cP cU cX cZ).tmps[48]?.getD undef=cQ:=by have:=B9 a0 bX cY dc da cW cV cG cO cT cS cQ cH cB cP cU cX cZ h;simpa [Act.eval]using this
theorem zL (h:54<a0.tmps.size):(ck a0 bX cY dc da cW cV cG cO cT cS cQ cH cB cP cU cX cZ).tmps[49]?.getD undef=cH:=by have:=Bz a0 bX cY dc da cW cV cG cO cT cS cQ cH cB cP cU cX cZ h;simpa [Act.eval]using this
theorem Au (h:54<a0.tmps.size):(ck a0 bX cY dc da cW cV cG cO cT cS cQ cH cB cP cU cX cZ).tmps[50]?.getD undef=cB:=by have:=Ct a0 bX cY dc da cW cV cG cO cT cS cQ cH cB cP cU cX cZ h;simpa [Act.eval]using this
theorem zm (h:54<a0.tmps.size):(ck a0 bX cY dc da cW cV cG cO cT cS cQ cH cB cP cU cX cZ).tmps[51]?.getD undef=cP:=by have:=BN a0 bX cY dc da cW cV cG cO cT cS cQ cH cB cP cU cX cZ h;simpa [Act.eval]using this
theorem zu (h:54<a0.tmps.size):(ck a0 bX cY dc da cW cV cG cO cT cS cQ cH cB cP cU cX cZ).tmps[52]?.getD undef=cU:=by have:=Cb a0 bX cY dc da cW cV cG cO cT cS cQ cH cB cP cU cX cZ h;simpa [Act.eval]using this
theorem yV (h:54<a0.tmps.size):(ck a0 bX cY dc da cW cV cG cO cT cS cQ cH cB cP cU cX cZ).tmps[53]?.getD undef=cX:=by have:=BD a0 bX cY dc da cW cV cG cO cT cS cQ cH cB cP cU cX cZ h;simpa [Act.eval]using this
theorem yF (h:54<a0.tmps.size):(ck a0 bX cY dc da cW cV cG cO cT cS cQ cH cB cP cU cX cZ).tmps[54]?.getD undef=cZ:=by have:=BJ a0 bX cY dc da cW cV cG cO cT cS cQ cH cB cP cU cX cZ h;simpa [Act.eval]using this
theorem DT:(ck a0 bX cY dc da cW cV cG cO cT cS cQ cH cB cP cU cX cZ).eval (.tmp 1)=a0.eval (.tmp 1):=by unfold ck;rw[ah _ 54 1 _ (by decide),ah _ 53 1 _ (by decide),ah _ 52 1 _ (by decide),ah _ 51 1 _ (by decide),ah _ 50 1 _ (by decide),ah _ 49 1 _ (by decide),ah _ 48 1 _ (by decide),ah _ 47 1 _ (by decide),ah _ 46 1 _ (by decide),ah _ 45 1 _ (by decide),ah _ 44 1 _ (by decide),ah _ 43 1 _ (by decide),ah _ 42 1 _ (by decide),ah _ 41 1 _ (by decide),ah _ 40 1 _ (by decide),ah _ 39 1 _ (by decide),ah _ 38 1 _ (by decide)]
theorem Cv (u:Value) (h:a0.eval (.tmp 1)=u):(ck a0 bX cY dc da cW cV cG cO cT cS cQ cH cB cP cU cX cZ).tmps[1]?.getD undef=u:=by have:=(DT a0 bX cY dc da cW cV cG cO cT cS cQ cH cB cP cU cX cZ).trans h;simpa [Act.eval]using this
theorem Ep:(ck a0 bX cY dc da cW cV cG cO cT cS cQ cH cB cP cU cX cZ).eval (.tmp 7)=a0.eval (.tmp 7):=by unfold ck;rw[ah _ 54 7 _ (by decide),ah _ 53 7 _ (by decide),ah _ 52 7 _ (by decide),ah _ 51 7 _ (by decide),ah _ 50 7 _ (by decide),ah _ 49 7 _ (by decide),ah _ 48 7 _ (by decide),ah _ 47 7 _ (by decide),ah _ 46 7 _ (by decide),ah _ 45 7 _ (by decide),ah _ 44 7 _ (by decide),ah _ 43 7 _ (by decide),ah _ 42 7 _ (by decide),ah _ 41 7 _ (by decide),ah _ 40 7 _ (by decide),ah _ 39 7 _ (by decide),ah _ 38 7 _ (by decide)]
theorem vp (u:Value) (h:a0.eval (.tmp 7)=u):(ck a0 bX cY dc da cW cV cG cO cT cS cQ cH cB cP cU cX cZ).tmps[7]?.getD undef=u:=by have:=(Ep a0 bX cY dc da cW cV cG cO cT cS cQ cH cB cP cU cX cZ).trans h;simpa [Act.eval]using this
theorem Eu:(ck a0 bX cY dc da cW cV cG cO cT cS cQ cH cB cP cU cX cZ).eval (.tmp 8)=a0.eval (.tmp 8):=by unfold ck;rw[ah _ 54 8 _ (by decide),ah _ 53 8 _ (by decide),ah _ 52 8 _ (by decide),ah _ 51 8 _ (by decide),ah _ 50 8 _ (by decide),ah _ 49 8 _ (by decide),ah _ 48 8 _ (by decide),ah _ 47 8 _ (by decide),ah _ 46 8 _ (by decide),ah _ 45 8 _ (by decide),ah _ 44 8 _ (by decide),ah _ 43 8 _ (by decide),ah _ 42 8 _ (by decide),ah _ 41 8 _ (by decide),ah _ 40 8 _ (by decide),ah _ 39 8 _ (by decide),ah _ 38 8 _ (by decide)]
theorem vA (u:Value) (h:a0.eval (.tmp 8)=u):(ck a0 bX cY dc da cW cV cG cO cT cS cQ cH cB cP cU cX cZ).tmps[8]?.getD undef=u:=by have:=(Eu a0 bX cY dc da cW cV cG cO cT cS cQ cH cB cP cU cX cZ).trans h;simpa [Act.eval]using this
theorem B8:(ck a0 bX cY dc da cW cV cG cO cT cS cQ cH cB cP cU cX cZ).eval (.tmp 10)=a0.eval (.tmp 10):=by unfold ck;rw[ah _ 54 10 _ (by decide),ah _ 53 10 _ (by decide),ah _ 52 10 _ (by decide),ah _ 51 10 _ (by decide),ah _ 50 10 _ (by decide),ah _ 49 10 _ (by decide),ah _ 48 10 _ (by decide),ah _ 47 10 _ (by decide),ah _ 46 10 _ (by decide),ah _ 45 10 _ (by decide),ah _ 44 10 _ (by decide),ah _ 43 10 _ (by decide),ah _ 42 10 _ (by decide),ah _ 41 10 _ (by decide),ah _ 40 10 _ (by decide),ah _ 39 10 _ (by decide),ah _ 38 10 _ (by decide)]
theorem r9 (u:Value) (h:a0.eval (.tmp 10)=u):(ck a0 bX cY dc da cW cV cG cO cT cS cQ cH cB cP cU cX cZ).tmps[10]?.getD undef=u:=by have:=(B8 a0 bX cY dc da cW cV cG cO cT cS cQ cH cB cP cU cX cZ).trans h;simpa [Act.eval]using this
theorem Cp:(ck a0 bX cY dc da cW cV cG cO cT cS cQ cH cB cP cU cX cZ).eval (.tmp 11)=a0.eval (.tmp 11):=by unfold ck;rw[ah _ 54 11 _ (by decide),ah _ 53 11 _ (by decide),ah _ 52 11 _ (by decide),ah _ 51 11 _ (by decide),ah _ 50 11 _ (by decide),ah _ 49 11 _ (by decide),ah _ 48 11 _ (by decide),ah _ 47 11 _ (by decide),ah _ 46 11 _ (by decide),ah _ 45 11 _ (by decide),ah _ 44 11 _ (by decide),ah _ 43 11 _ (by decide),ah _ 42 11 _ (by decide),ah _ 41 11 _ (by decide),ah _ 40 11 _ (by decide),ah _ 39 11 _ (by decide),ah _ 38 11 _ (by decide)]
theorem r7 (u:Value) (h:a0.eval (.tmp 11)=u):(ck a0 bX cY dc da cW cV cG cO cT cS cQ cH cB cP cU cX cZ).tmps[11]?.getD undef=u:=by have:=(Cp a0 bX cY dc da cW cV cG cO cT cS cQ cH cB cP cU cX cZ).trans h;simpa [Act.eval]using this
end
end Go.Proofs.YtbiokpmdghmgcaaGreat
namespace Go.Proofs.YtbiokpmdghmgcaaGreat
set_option maxRecDepth 8000
set_option maxHeartbeats 40000000
open Go.RowKit Go.Deep
def jY (fs:List Fld) (K:ByteArray) (p:Nat) (vs:List ByteArray) (m:Mnd):Bool:=bk K m&&fH p vs (dY fs m)
def bO (fs:List Fld) (K:ByteArray) (p:Nat) (vs:List ByteArray):List Mnd→Option ByteArray
 |[]=>none
 |m::ms=>if jY fs K p vs m then some (jd (dY fs m) vs) else bO fs K p vs ms
theorem nD (fs:List Fld) (K:ByteArray) (p:Nat) (vs:List ByteArray):∀ ms:List Mnd,bO fs K p vs ms=if dq (bx fs ms K) p vs<(bx fs ms K).length then some (jd ((bx fs ms K).getD (dq (bx fs ms K) p vs) Mng.none) vs) else none
 |[]=>by simp[bO,bx,dq]
 |m::ms=>by
  have ih:=nD fs K p vs ms;unfold bO jY;cases hk:bk K m
  ·have e:bx fs (m::ms) K=bx fs ms K:=by simp[bx,hk]
   rw[e];simpa using ih
  ·have e:bx fs (m::ms) K=dY fs m::bx fs ms K:=by simp[bx,hk]
   rw[e];cases hd:fH p vs (dY fs m)
   ·have e2:dq (dY fs m::bx fs ms K) p vs=dq (bx fs ms K) p vs+1:=by unfold dq;rw[List.findIdx_cons,hd];rfl
    rw[e2];simp only[Bool.true_and,Bool.false_eq_true,if_false,List.length_cons,Nat.add_lt_add_iff_right,List.getD_cons_succ];exact ih
   ·have e2:dq (dY fs m::bx fs ms K) p vs=0:=by unfold dq;rw[List.findIdx_cons,hd];rfl
    rw[e2];simp
theorem lU {fs:List Fld} {K:ByteArray} {p:Nat} {vs:List ByteArray} {ms:List Mnd} {i:Nat} (hi:i<ms.length):bO fs K p vs (ms.drop i)=if jY fs K p vs (ms.getD i Mnd.none) then some (jd (dY fs (ms.getD i Mnd.none)) vs) else bO fs K p vs (ms.drop (i+1)):=by
 have e:ms.getD i Mnd.none=ms[i]:=by simp[hi]
 rw[List.drop_eq_getElem_cons hi,e];rfl
theorem sy (fs:List Fld) (K:ByteArray) (ms:List Mnd) (vs:List ByteArray) (p:Nat) (hp:p<vs.length):dg (bx fs ms K) vs p=vs.set p ((bO fs K p vs ms).getD (vs.getD p ByteArray.empty)):=by
 rw[nD];unfold dg;split
 ·rfl
 ·simp only[Option.getD_none];apply List.ext_getElem
  ·simp
  ·intro i h1 h2;by_cases hip:p=i
   ·subst hip;simp[hp]
   ·simp[hip]
theorem yC {ss:List Shp} {fs:List Fld} (h:aG ss fs=true) {p:Nat} (hp:p<fs.length) {k:ByteArray} (hk:nameAt fs k<fs.length):decide (nameAt fs k=p)=(k.toList==(cC fs p).toList):=by
 cases hb:(k.toList==(cC fs p).toList)
 ·rw[decide_eq_false];intro e;have:=List.findIdx_getElem (xs:=fs) (p:=fun f:Fld=>f.nm.toList==k.toList) (w:=hk);have e2:fs.getD p Fld.none=fs[p]:=by simp[hp]
  have e3:cC fs p=(fs[nameAt fs k]).nm:=by unfold cC;rw[e2];simp only[e]
  rw[e3]at hb;have h4:((fs[nameAt fs k]).nm.toList==k.toList)=true:=this;rw[beq_iff_eq]at h4;rw[h4]at hb;simp at hb
 ·rw[decide_eq_true];rw[beq_iff_eq]at hb;rw[mq hb];exact fP h hp
theorem Cy {ss:List Shp} {fs:List Fld} (h:aG ss fs=true) {p:Nat} (hp:p<fs.length) {K:ByteArray} {vs:List ByteArray} {m:Mnd} (hf:bk K m=true→found fs m):
  jY fs K p vs m=((m.kind.toList==K.toList)&&(m.field.toList==(cC fs p).toList)&&(Pl.aE m.whn||((vs.getD (nameAt fs m.whn) ByteArray.empty).toList==m.is_.toList))&&(Pl.aE m.frm|| !(vs.getD (nameAt fs m.frm) ByteArray.empty).toList.isEmpty)):=by
 unfold jY fH;cases hk:bk K m
 ·unfold bk at hk;rw[hk];rfl
 ·have hf:=hf hk;unfold bk at hk;rw[hk];show (true&&(decide (nameAt fs m.field=p)&&(dU fs m).all (jP vs)))=_;rw[yC h hp hf.1];unfold dU;cases hw:Pl.aE m.whn<;>cases hr:Pl.aE m.frm<;>simp[jP,Bool.and_assoc]
theorem ik (B:Nat) (fs:List Fld) (k:ByteArray) (w:World) (h:bW w B fs) (hk:nameAt fs k<fs.length):
  Calls Tryz.prog 163 #[.slice (some ⟨B,0,none⟩) fs.length fs.length,.string k] w fun e w'=>e=.returned (.int .i64 (nameAt fs k:Nat))∧w'=w:=by
 refine(qE B fs k w h).mono ?_;rintro e w' ⟨rfl,rfl⟩;rw[if_pos hk];exact⟨rfl,rfl⟩
theorem yP (ss:List Shp) (fb mb g cap p:Nat) (fs:List Fld) (ms:List Mnd) (vs:List ByteArray) (kd nm tm:ByteArray) (en:Bool) (v2:Value) (ver:Int) (w:World) (dP:bW w fb fs) (hm:dy w mb ms) (hv:VAt w g vs) (qj:aG ss fs=true) (uS:vs.length=fs.length) (hp:p<fs.length)
  (hf:∀ m∈ms,bk kd m=true→found fs m) (ho:∀ m∈ms,bk kd m=true→aL fs m=true):
  Calls Tryz.prog 168 #[.slice (some ⟨fb,0,none⟩) fs.length fs.length,.slice (some ⟨mb,0,none⟩) ms.length ms.length,.agg #[.string kd,.string nm,.string tm,.slice (some ⟨g,0,none⟩) vs.length cap,.bool en,v2,.int .i64 ver],.string (cC fs p)] w fun e w'=>e=.returned (.string ((bO fs kd p vs ms).getD (vs.getD p ByteArray.empty)))∧Bel w w':=by
 have HA:Hid (bW w fb fs∧dy w mb ms∧VAt w g vs):=⟨dP,hm,hv⟩
 have HP:Hid (aG ss fs=true∧vs.length=fs.length∧(∀ m∈ms,bk kd m=true→found fs m)∧(∀ m∈ms,bk kd m=true→aL fs m=true)):=⟨qj,uS,hf,ho⟩
 have Gg:=hm.len;have hlf:=dP.len;have hpv:p<vs.length:=by omega
 have hlv:=hv.len;have KR:Hid (nameAt fs (cC fs p)=p):=fP qj hp;clear dP hm hv qj uS hf ho;obtain⟨fd,KV⟩:∃ fd,fd=cC fs p:=⟨_,rfl⟩
 have AN:=hid KV;rw[← KV]at KR ⊢;clear KV;obtain⟨w1,dW⟩:∃ w1,w1=w.alloc (.cells #[.string kd,.string nm,.string tm,.slice (some ⟨g,0,none⟩) vs.length cap,.bool en,v2,.int .i64 ver] 111):=⟨_,rfl⟩
 have cN:Hid (Bel w w1):=by show Below _ _ _;rw[dW];exact ab br _
 have dD:Hid (w.heap.size<w1.heap.size∧w1.cell? ⟨w.heap.size,0,none⟩=some (.string kd)∧w1.cell? ⟨w.heap.size,3,none⟩=some (.slice (some ⟨g,0,none⟩) vs.length cap)):=by
  refine⟨?_, ?_, ?_⟩<;>rw[dW]<;>simp
 go_enter Tryz.func168,Tryz.ntmps168
 go_upto_region 1 with fail
 rw[← dW];clear dW;go_wp2;go_loopw [9,10,11] (fun s9 xX s11 wr=>∃ q:Nat,q≤ms.length∧s9=.int .i64 q∧bO fs kd p vs ms=bO fs kd p vs (ms.drop q)∧Bel w1 wr) (fun s9 _ _ _=>ms.length - (intOf s9).toNat)
 case atStart=>exact⟨0,nz,rfl,rfl,br⟩
 case round=>
  obtain⟨q,hq,rfl,hdv,hW⟩:=hrel;have LO:=hid hdv;have HW:=hid hW;have fu:=hid (aa cN.out hW);have xz:=lo dD.out.1 hW.size;have x0:=(hW.cell (p:=⟨w.heap.size,0,none⟩) dD.out.1).trans dD.out.2.1;have x3:=(hW.cell (p:=⟨w.heap.size,3,none⟩) dD.out.1).trans dD.out.2.2;clear hdv hW;by_cases aw:q<ms.length
  ·have hmq:=(HA.out.2.1.later fu.out).at_ q aw;have hmz:=(HA.out.2.1.later fu.out).lt;obtain⟨m,gT⟩:∃ m,m=ms.getD q Mnd.none:=⟨_,rfl⟩
   rw[← gT]at hmq;obtain⟨c0,c1,c2,c3,c4,c5,_⟩:=hmq;have xS:m∈ms:=by rw[gT];simp[aw]
   have AJ:Hid (jY fs kd p vs m=((m.kind.toList==kd.toList)&&(m.field.toList==fd.toList)&&(Pl.aE m.whn||((vs.getD (nameAt fs m.whn) ByteArray.empty).toList==m.is_.toList))&&(Pl.aE m.frm|| !(vs.getD (nameAt fs m.frm) ByteArray.empty).toList.isEmpty))):=by rw[AN.out];exact Cy HP.out.1 hp (HP.out.2.2.1 m xS)
   have Hn:Hid (jY fs kd p vs m=false→bO fs kd p vs ms=bO fs kd p vs (ms.drop (q+1))):=by
    intro hf;rw[LO.out,lU aw,← gT,hf];rfl
   have JD:Hid (jY fs kd p vs m=true→bO fs kd p vs ms=some (jd (dY fs m) vs)):=by
    intro hf;rw[LO.out,lU aw,← gT,hf];rfl
   have HFM:Hid (bk kd m=true→found fs m∧aL fs m=true):=fun hk=>⟨HP.out.2.2.1 m xS hk,HP.out.2.2.2 m xS hk⟩
   clear gT xS;obtain⟨w2,i3⟩:∃ w2,w2=wr.alloc (.cells #[.string m.kind,.string m.field,.string m.whn,.string m.is_,.string m.put,.string m.frm] 136):=⟨_,rfl⟩
   have iB:Hid (Bel wr w2):=by show Below _ _ _;rw[i3];exact ab br _
   have my:Hid (wr.heap.size<w2.heap.size∧∀ j,w2.cell? ⟨wr.heap.size,j,none⟩=(#[.string m.kind,.string m.field,.string m.whn,.string m.is_,.string m.put,.string m.frm]:Array Value)[j]?):=by
    refine⟨by rw[i3];simp,fun j=>by rw[i3];exact World.cell?_alloc_at _ _ _ _ rfl⟩
   go_upto_region 5 with fail
   rw[← i3];clear i3 c0 c1 c2 c3 c4 c5 hmz;have mz:=my.out.1;have d0:=my.out.2 0;have d1:=my.out.2 1;have d2:=my.out.2 2;have d3:=my.out.2 3;have d4:=my.out.2 4;have d5:=my.out.2 5;have y0:=(iB.out.cell (p:=⟨w.heap.size,0,none⟩) xz).trans x0;have y3:=(iB.out.cell (p:=⟨w.heap.size,3,none⟩) xz).trans x3;have yz:=lo xz iB.out.size;have jU:=hid (aa fu.out iB.out);have Fc:=hid (And.intro (HA.out.2.2.later jU.out) (HA.out.1.later jU.out));have gz:=Fc.out.1.lt;clear x0 x3 xz;cases h1:(m.kind.toList==kd.toList)
   ·have HN:=hid (Hn.out (by rw[AJ.out,h1];rfl));have Gp:(m.kind.toList !=kd.toList)=true:=by simp[bne,h1]
    go_quiet (fail)
    go_wp2;go_roundw
    case rel=>exact⟨q+1,by omega,by go_num,HN.out,aa HW.out (by repeat(first|exact iB.out|refine al ?_ _))⟩
    case measure=>simp[intOf];omega
   obtain⟨IP,Hp⟩:=HFM.out h1;have AD:=hid (And.intro IP Hp);clear IP Hp;cases h2:(m.field.toList==fd.toList)
   ·have HN:=hid (Hn.out (by rw[AJ.out,h1,h2];rfl));go_quiet (fail)
    go_wp2;go_roundw
    case rel=>exact⟨q+1,by omega,by go_num,HN.out,aa HW.out (by repeat(first|exact iB.out|refine al ?_ _))⟩
    case measure=>simp[intOf];omega
   cases h3:m.whn.toList.isEmpty
   case true=>
    have DK:Pl.aE m.whn=true:=h3;go_cut [50] (fun cB wx=>cB=.bool false∧Bel w2 wx)
    case first=>
     go_quiet (fail)
     go_wp2_with fail
     go_meet
     exact⟨rfl,by repeat(first|exact br|refine al ?_ _)⟩
    case rest=>
    obtain⟨rfl,aQ⟩:=hcut;rename World=>w3;have e1z:=lo mz aQ.size;have e4:=(aQ.cell (p:=⟨wr.heap.size,4,none⟩) mz).trans d4;have e5:=(aQ.cell (p:=⟨wr.heap.size,5,none⟩) mz).trans d5;have f3:=(aQ.cell (p:=⟨w.heap.size,3,none⟩) yz).trans y3;have fz:=lo yz aQ.size;have Fh:=hid (And.intro (Fc.out.1.later aQ) (Fc.out.2.later aQ));have xP:=hid (aa iB.out aQ);have gq:=hid (aa jU.out aQ);clear aQ d0 d1 d2 d3 d4 d5 y0 y3 mz yz gz;cases h5:m.frm.toList.isEmpty
    case true=>
     have uK:Pl.aE m.frm=true:=h5;have HT:Hid (bO fs kd p vs ms=some m.put):=by
      show bO _ _ _ _ _=_;rw[JD.out (by rw[AJ.out,h1,h2,uK,DK];simp)];have hb:=AD.out.2;unfold aL at hb;simp only[Bool.and_eq_true]at hb;have qW:=hb.1.1.1.2;unfold mf at qW;rw[uK]at qW;have xY:Pl.aE m.put=false:=by cases hh:Pl.aE m.put;rfl;rw[hh]at qW;simp at qW
      have uM:m.put.toList.isEmpty=false:=xY;unfold jd dY;simp only[uM,Bool.false_eq_true,if_false]
     go_wp2;go_ret;exact⟨by rw[HT.out];rfl,gq.out⟩
    have uK:Pl.aE m.frm=false:=h5;have xN:=AD.out.1.2.2 uK;have Dk:Hid (∀ k,Calls Tryz.prog 163 #[.slice (some ⟨fb,0,none⟩) fs.length fs.length,.string m.frm] (w3.drewN k) fun e w'=>e=.returned (.int .i64 (nameAt fs m.frm:Nat))∧w'=w3.drewN k):=fun k=>ik fb fs m.frm _ (Fh.out.2.later (al br k)) xN;have FV:Hid (w3.cell? ⟨g,nameAt fs m.frm,none⟩=some (.string (vs.getD (nameAt fs m.frm) ByteArray.empty))):=Fh.out.1.at_ _ (by rw[HP.out.2.1];exact xN);have qV:Hid (jY fs kd p vs m= !(vs.getD (nameAt fs m.frm) ByteArray.empty).toList.isEmpty):=by show jY _ _ _ _ _=_;rw[AJ.out,h1,h2,uK,DK];simp
    have Br:Hid (jY fs kd p vs m=true→bO fs kd p vs ms=some (vs.getD (nameAt fs m.frm) ByteArray.empty)):=by
     intro hd;rw[JD.out hd];have hb:=AD.out.2;unfold aL at hb;simp only[Bool.and_eq_true]at hb;have qW:=hb.1.1.1.2;unfold mf at qW;rw[uK]at qW;have xY:Pl.aE m.put=true:=by cases hh:Pl.aE m.put;rw[hh]at qW;simp at qW;rfl
     have uM:m.put.toList.isEmpty=true:=xY;unfold jd dY;simp only[uM,if_true,uK,Bool.false_eq_true,if_false]
    have Km:nameAt fs m.frm<vs.length:=by rw[HP.out.2.1];exact xN
    have gz3:=Fh.out.1.lt;obtain⟨nf,AF⟩:∃ nf,nf=nameAt fs m.frm:=⟨_,rfl⟩
    rw[← AF]at Dk FV qV Br Km;obtain⟨u,hu⟩:∃ u,u=vs.getD nf ByteArray.empty:=⟨_,rfl⟩
    rw[← hu]at FV qV Br;have yf:=FV.out;clear AF hu xN;go_upto_region 8 with fail
    go_cut [11] (fun s11 wx=>s11=.string u∧Bel w3 wx)
    case first=>
     go_quiet ((go_at_call 163;exact Calls.quiet_of_same (Dk.out _)))
     go_wp2_with fail
     go_meet
     exact⟨rfl,by repeat(first|exact br|refine al ?_ _)⟩
    case rest=>
    obtain⟨rfl,cq⟩:=hcut;rename World=>w4;have aY:=hid (aa gq.out cq);have AS:=hid (aa xP.out cq);clear cq e1z e4 e5 f3 fz yf gz3;cases h6:u.toList.isEmpty
    ·have HT:=hid (Br.out (by rw[qV.out,h6];rfl));go_wp2;go_ret;exact⟨by rw[HT.out];rfl,aY.out⟩
    ·have HN:=hid (Hn.out (by rw[qV.out,h6];rfl));go_wp2;go_roundw
     case rel=>exact⟨q+1,by omega,by go_num,HN.out,aa HW.out AS.out⟩
     case measure=>simp[intOf];omega
   have DK:Pl.aE m.whn=false:=h3;have JG:=AD.out.1.2.1 DK;have KG:Hid (∀ k,Calls Tryz.prog 163 #[.slice (some ⟨fb,0,none⟩) fs.length fs.length,.string m.whn] (w2.drewN k) fun e w'=>e=.returned (.int .i64 (nameAt fs m.whn:Nat))∧w'=w2.drewN k):=fun k=>ik fb fs m.whn _ (Fc.out.2.later (al br k)) JG;have LU:Hid (w2.cell? ⟨g,nameAt fs m.whn,none⟩=some (.string (vs.getD (nameAt fs m.whn) ByteArray.empty))):=Fc.out.1.at_ _ (by rw[HP.out.2.1];exact JG);have LM:nameAt fs m.whn<vs.length:=by rw[HP.out.2.1];exact JG
   obtain⟨nw,I5⟩:∃ nw,nw=nameAt fs m.whn:=⟨_,rfl⟩
   rw[← I5]at KG LU LM AJ;obtain⟨uw,huw⟩:∃ uw,uw=vs.getD nw ByteArray.empty:=⟨_,rfl⟩
   rw[← huw]at LU AJ;have hcw:=LU.out;clear I5 huw JG;cases h4:(uw.toList==m.is_.toList)
   ·have HN:=hid (Hn.out (by rw[AJ.out,h1,h2,DK,h4];rfl));go_cut [50] (fun cB wx=>cB=.bool true∧Bel w2 wx)
    case first=>
     go_quiet ((go_at_call 163;exact Calls.quiet_of_same (KG.out _)))
     go_wp2_with fail
     go_meet
     exact⟨rfl,by repeat(first|exact br|refine al ?_ _)⟩
    case rest=>
    obtain⟨rfl,aQ⟩:=hcut;rename World=>w3;have xP:=hid (aa iB.out aQ);clear aQ d0 d1 d2 d3 d4 d5 y0 y3 mz yz gz hcw;go_wp2;go_roundw
    case rel=>exact⟨q+1,by omega,by go_num,HN.out,aa HW.out xP.out⟩
    case measure=>simp[intOf];omega
   go_cut [50] (fun cB wx=>cB=.bool false∧Bel w2 wx)
   case first=>
    go_quiet ((go_at_call 163;exact Calls.quiet_of_same (KG.out _)))
    go_wp2_with fail
    go_meet
    exact⟨rfl,by repeat(first|exact br|refine al ?_ _)⟩
   case rest=>
   obtain⟨rfl,aQ⟩:=hcut;rename World=>w3;have e1z:=lo mz aQ.size;have e4:=(aQ.cell (p:=⟨wr.heap.size,4,none⟩) mz).trans d4;have e5:=(aQ.cell (p:=⟨wr.heap.size,5,none⟩) mz).trans d5;have f3:=(aQ.cell (p:=⟨w.heap.size,3,none⟩) yz).trans y3;have fz:=lo yz aQ.size;have Fh:=hid (And.intro (Fc.out.1.later aQ) (Fc.out.2.later aQ));have xP:=hid (aa iB.out aQ);have gq:=hid (aa jU.out aQ);clear aQ d0 d1 d2 d3 d4 d5 y0 y3 mz yz gz;cases h5:m.frm.toList.isEmpty
   case true=>
    have uK:Pl.aE m.frm=true:=h5;have HT:Hid (bO fs kd p vs ms=some m.put):=by
     show bO _ _ _ _ _=_;rw[JD.out (by rw[AJ.out,h1,h2,uK,DK,h4];simp)];have hb:=AD.out.2;unfold aL at hb;simp only[Bool.and_eq_true]at hb;have qW:=hb.1.1.1.2;unfold mf at qW;rw[uK]at qW;have xY:Pl.aE m.put=false:=by cases hh:Pl.aE m.put;rfl;rw[hh]at qW;simp at qW
     have uM:m.put.toList.isEmpty=false:=xY;unfold jd dY;simp only[uM,Bool.false_eq_true,if_false]
    go_wp2;go_ret;exact⟨by rw[HT.out];rfl,gq.out⟩
   have uK:Pl.aE m.frm=false:=h5;have xN:=AD.out.1.2.2 uK;have Dk:Hid (∀ k,Calls Tryz.prog 163 #[.slice (some ⟨fb,0,none⟩) fs.length fs.length,.string m.frm] (w3.drewN k) fun e w'=>e=.returned (.int .i64 (nameAt fs m.frm:Nat))∧w'=w3.drewN k):=fun k=>ik fb fs m.frm _ (Fh.out.2.later (al br k)) xN;have FV:Hid (w3.cell? ⟨g,nameAt fs m.frm,none⟩=some (.string (vs.getD (nameAt fs m.frm) ByteArray.empty))):=Fh.out.1.at_ _ (by rw[HP.out.2.1];exact xN);have qV:Hid (jY fs kd p vs m= !(vs.getD (nameAt fs m.frm) ByteArray.empty).toList.isEmpty):=by show jY _ _ _ _ _=_;rw[AJ.out,h1,h2,uK,DK,h4];simp
   have Br:Hid (jY fs kd p vs m=true→bO fs kd p vs ms=some (vs.getD (nameAt fs m.frm) ByteArray.empty)):=by
    intro hd;rw[JD.out hd];have hb:=AD.out.2;unfold aL at hb;simp only[Bool.and_eq_true]at hb;have qW:=hb.1.1.1.2;unfold mf at qW;rw[uK]at qW;have xY:Pl.aE m.put=true:=by cases hh:Pl.aE m.put;rw[hh]at qW;simp at qW;rfl
    have uM:m.put.toList.isEmpty=true:=xY;unfold jd dY;simp only[uM,if_true,uK,Bool.false_eq_true,if_false]
   have Km:nameAt fs m.frm<vs.length:=by rw[HP.out.2.1];exact xN
   have gz3:=Fh.out.1.lt;obtain⟨nf,AF⟩:∃ nf,nf=nameAt fs m.frm:=⟨_,rfl⟩
   rw[← AF]at Dk FV qV Br Km;obtain⟨u,hu⟩:∃ u,u=vs.getD nf ByteArray.empty:=⟨_,rfl⟩
   rw[← hu]at FV qV Br;have yf:=FV.out;clear AF hu xN;go_upto_region 8 with fail
   go_cut [11] (fun s11 wx=>s11=.string u∧Bel w3 wx)
   case first=>
    go_quiet ((go_at_call 163;exact Calls.quiet_of_same (Dk.out _)))
    go_wp2_with fail
    go_meet
    exact⟨rfl,by repeat(first|exact br|refine al ?_ _)⟩
   case rest=>
   obtain⟨rfl,cq⟩:=hcut;rename World=>w4;have aY:=hid (aa gq.out cq);have AS:=hid (aa xP.out cq);clear cq e1z e4 e5 f3 fz yf gz3;cases h6:u.toList.isEmpty
   ·have HT:=hid (Br.out (by rw[qV.out,h6];rfl));go_wp2;go_ret;exact⟨by rw[HT.out];rfl,aY.out⟩
   ·have HN:=hid (Hn.out (by rw[qV.out,h6];rfl));go_wp2;go_roundw
    case rel=>exact⟨q+1,by omega,by go_num,HN.out,aa HW.out AS.out⟩
    case measure=>simp[intOf];omega
  ·have HT:Hid (bO fs kd p vs ms=none):=by show bO _ _ _ _ _=_;rw[LO.out,List.drop_eq_nil_of_le (by omega)];rfl
   have Kt:=hid (And.intro (HA.out.2.2.later fu.out) (HA.out.1.later fu.out));have HLP:Hid (∀ k,Calls Tryz.prog 163 #[.slice (some ⟨fb,0,none⟩) fs.length fs.length,.string fd] (wr.drewN k) fun e w'=>e=.returned (.int .i64 (p:Nat))∧w'=wr.drewN k):=by
    intro k;have:=ik fb fs fd _ (Kt.out.2.later (al br k)) (by rw[KR.out];exact hp);rw[KR.out]at this;exact this
   have mx:=Kt.out.1.at_ p hpv;have gzr:=Kt.out.1.lt;obtain⟨u,hu⟩:∃ u,u=vs.getD p ByteArray.empty:=⟨_,rfl⟩
   rw[← hu]at mx;have HU:=hid hu;clear hu;go_wp2_with fail
   go_quiet ((go_at_call 163;exact Calls.quiet_of_same (HLP.out _)))
   go_wp2;go_ret;exact⟨by rw[HT.out,HU.out];rfl,by repeat(first|exact fu.out|refine al ?_ _)⟩
set_option maxRecDepth 8000
set_option maxHeartbeats 40000000
open Go.RowKit Go.Deep
theorem DU (ss:List Shp) (s:Shp) (fb mb:Nat) (ms:List Mnd) (w:World) (h:bW w fb s.fields) (hm:dy w mb ms) (qj:aG ss s.fields=true) (hf:∀ m∈ms,bk s.kind m=true→found s.fields m):
  Calls Tryz.prog 117 #[.agg #[.string s.kind,.slice (some ⟨fb,0,none⟩) s.fields.length s.fields.length],.slice (some ⟨mb,0,none⟩) ms.length ms.length] w fun e w'=>
   (∃ g c,e=.returned (.slice (some ⟨g,0,none⟩) (cn (rdM s.fields ms s.kind) s.fields.length s.fields.length).length c)∧w.heap.size≤g∧fe w' (.slice (some ⟨g,0,none⟩) (cn (rdM s.fields ms s.kind) s.fields.length s.fields.length).length c) ((cn (rdM s.fields ms s.kind) s.fields.length s.fields.length).map (cC s.fields)))∧Bel w w':=by
 have hl:=hm.len;have E6:=jF qj;have HA:=hid (And.intro h (And.intro hm (And.intro qj hf)));obtain⟨i0,hi,mV,jq,gR⟩:=info_parts Tryz.rO;clear h hm qj hf;obtain⟨rd,Bm⟩:∃ rd,rd=rdM s.fields ms s.kind:=⟨_,rfl⟩
 obtain⟨fs,dV⟩:∃ fs,fs=s.fields:=⟨_,rfl⟩
 have Bn:=hid Bm;rw[← Bm,← dV];rw[← dV]at E6 HA Bn;clear Bm dV;obtain⟨n,hn⟩:∃ n,n=fs.length:=⟨_,rfl⟩
 rw[← hn];rw[← hn]at E6;have FJ:=hid hn;clear hn;obtain⟨wb,nc⟩:∃ wb,wb=w.alloc (.cells #[.string s.kind,.slice (some ⟨fb,0,none⟩) n n] 134):=⟨_,rfl⟩
 have fT:Hid (Bel w wb):=by show Below _ _ _;rw[nc];exact ab br _
 have HK:Hid (wb.heap.size=w.heap.size+1∧wb.cell? ⟨w.heap.size,0,none⟩=some (.string s.kind)∧wb.cell? ⟨w.heap.size,1,none⟩=some (.slice (some ⟨fb,0,none⟩) n n)):=by show _∧_∧_;rw[nc];exact⟨by simp,by simp,by simp⟩
 go_enter Tryz.func117,Tryz.ntmps117
 go_upto_region 1 with fail
 rw[← nc];clear nc;go_wp2;go_loopw [5,6] (fun v i wr=>∃ (j:Nat) (a:Option Addr) (c:Nat),j≤n∧i=.int .i64 j∧v=.slice a (cn rd n j).length c∧dj wr wb.heap.size v ((cn rd n j).map (cC fs))∧Bel wb wr) (fun _ i _=>n - (intOf i).toNat)
 case atStart=>exact⟨0,some ⟨wb.heap.size,0,none⟩,0,nz,rfl,rfl,dj.start wb _ nr,ab br _⟩
 case round=>
  obtain⟨j,a,c,hj,rfl,rfl,hO,hW⟩:=hrel;obtain⟨row,jR⟩:∃ row,row=cn rd n j:=⟨_,rfl⟩
  rw[← jR]at hO ⊢;have HO:=hid hO;have HW:=hid hW;have oZ:=hid jR;have ye:Hid (row.length≤j):=by show row.length≤j;rw[jR];exact jH rd n j
  have sN:w.heap.size<wr.heap.size:=by have:=hW.size;have:=HK.out.1;omega
  have k0:wr.cell? ⟨w.heap.size,0,none⟩=some (.string s.kind):=(hW.cell (p:=⟨w.heap.size,0,none⟩) (by have:=HK.out.1;show w.heap.size<_;omega)).trans HK.out.2.1;have k1:wr.cell? ⟨w.heap.size,1,none⟩=some (.slice (some ⟨fb,0,none⟩) n n):=(hW.cell (p:=⟨w.heap.size,1,none⟩) (by have:=HK.out.1;show w.heap.size<_;omega)).trans HK.out.2.2;clear hO hW jR;by_cases aw:j<n
  ·go_wp2;clear k0 k1 sN;go_loopw [5,7] (fun v i wq=>v=.slice a row.length c∧∃ q:Nat,q≤n∧i=.int .i64 q∧q≤ia rd n row∧Bel wr wq) (fun _ i _=>n - (intOf i).toNat)
   case atStart=>exact⟨rfl,0,nz,rfl,nz,br⟩
   case round=>
    obtain⟨rfl,q,hq,rfl,iH,Fx⟩:=hrel;rename World=>wq;have HN:=hid iH;have kl:=hid Fx;have sK:=hid (aa HW.out Fx);have sN:w.heap.size<wq.heap.size:=by have:=sK.out.size;have:=HK.out.1;omega
    have k0:wq.cell? ⟨w.heap.size,0,none⟩=some (.string s.kind):=(sK.out.cell (p:=⟨w.heap.size,0,none⟩) (by have:=HK.out.1;show w.heap.size<_;omega)).trans HK.out.2.1;have k1:wq.cell? ⟨w.heap.size,1,none⟩=some (.slice (some ⟨fb,0,none⟩) n n):=(sK.out.cell (p:=⟨w.heap.size,1,none⟩) (by have:=HK.out.1;show w.heap.size<_;omega)).trans HK.out.2.2;clear iH Fx;by_cases hqn:q<n
    ·obtain⟨f,fG⟩:∃ f,f=fs.getD q Fld.none:=⟨_,rfl⟩
     obtain⟨b,_,dP⟩:=(HA.out.1.later (aa fT.out sK.out)).arg (by rw[← FJ.out];exact hqn) fG;have c0:=dP.c0;have I4:=(HA.out.1.later (aa fT.out sK.out)).lt;have oT:Hid ((!Pl.has (row.map (cC fs)) f.nm&&iv ms s.kind f.nm (row.map (cC fs)))=i7 rd row q):=by
      have:=sj HA.out.2.2.1 ms s.kind HA.out.2.2.2 (row:=row) (fun p hp=>by rw[oZ.out]at hp;rw[← FJ.out];exact kx rd n j p hp) (i:=q) (by rw[← FJ.out];exact hqn);unfold cC at this;rw[← fG]at this;have e:=Bn.out;rw[e];exact this
     have II:Hid (i7 rd row q=false→q+1≤ia rd n row):=fun e=>gV _ _ q (by simpa using hqn) HN.out (by simpa [hqn]using e);have KP:Hid (i7 rd row q=true→ia rd n row=q):=fun e=>iY _ _ q (by simpa using hqn) HN.out (by simpa [hqn]using e);have A8:Hid (∀ W,Bel wq W→Calls Tryz.prog 164 #[.slice a row.length c,.string f.nm] W fun e w'=>e=.returned (.bool (Pl.has (row.map (cC fs)) f.nm))∧W=w'):=fun W lX=>D9 _ _ f.nm W ((HO.out.later (aa kl.out lX)).at_ (by rw[List.length_map];have:=ye.out;omega));have uY:Hid (Calls Tryz.prog 165 #[.slice (some ⟨mb,0,none⟩) ms.length ms.length,.string s.kind,.string f.nm,.slice a row.length c] wq fun e w'=>e=.returned (.bool (iv ms s.kind f.nm (row.map (cC fs))))∧Bel wq w'):=vF mb ms s.kind f.nm a _ c _ wq (HA.out.2.1.later (aa fT.out sK.out)) ((HO.out.later kl.out).at_ (by rw[List.length_map];have:=ye.out;omega));have KL:Hid (f.nm=cC fs q):=by show f.nm=cC fs q;rw[fG];rfl
     obtain⟨ha,Jd⟩:∃ ha,ha=Pl.has (row.map (cC fs)) f.nm:=⟨_,rfl⟩
     obtain⟨rn,IK⟩:∃ rn,rn=iv ms s.kind f.nm (row.map (cC fs)):=⟨_,rfl⟩
     rw[← Jd]at oT A8;rw[← IK]at oT uY;clear dP fG Jd IK;go_wp2_with fail
     refine(A8.out _ br).mono ?_;rintro e w' ⟨rfl,rfl⟩;cases ha
     ·go_wp2_with fail
      refine uY.out.mono ?_;rintro e w3 ⟨rfl,aQ⟩;have gq:=hid (aa kl.out aQ);clear aQ k0 k1 c0 I4 sN;cases rn
      ·have HM:=II.out (by rw[← oT.out];rfl);have AB:=hid HM;clear HM;go_wp2;go_roundw
       case rel=>exact⟨rfl,q+1,by omega,by go_num,AB.out,gq.out⟩
       case measure=>simp[intOf];omega
      ·have pb:Hid (cn rd n (j+1)=row++[q]):=by
        have e:=KP.out (by rw[← oT.out];rfl);have:=ml rd n j (by rw[← oZ.out,e];exact hqn);rw[← oZ.out,e]at this;exact this
       have EV:=ye.out;have eQ:=(aa HW.out gq.out).size;go_wp2_with (at_builtin;refine wpList_append_own _ rfl _ _ 94 rfl wb.heap.size 9 i0 (.string ByteArray.empty) 1 16 Tryz.underlying94 hi mV jq gR rfl (by decide) (.slice a row.length c) row.length ((row.map (cC fs)).map Value.string) rfl ?c0 ⟨w3.heap.size,0,none⟩ 1 1 [.string f.nm] rfl ?c1 ?c2 ?c3 ?c4 ?c5 ?c6 ?_)
       case c0=>
        have:=HO.out.2;rw[List.length_map]at this;exact cL this (aa gq.out (ab br _))
       case c1=>rfl
       case c2=>intro k u hk;cases k with|zero=>(simp at hk;subst hk;simp[Addr.add])|succ k=>simp at hk
       case c3=>intro u hu;simp at hu;subst hu;rfl
       case c4=>unfold maxLen;omega
       case c5=>omega
       case c6=>simp;omega
       intro v' w4 cE cK _;obtain⟨a4,d4,LD⟩:=ep cE;subst LD;have Ik:Hid (dj w4 wb.heap.size (.slice a4 (row.length+1) d4) ((row++[q]).map (cC fs))):=by
        refine dj.of ?_ (by simp);rw[List.length_map,List.length_append,List.map_append,List.map_append,List.map_map];rw[KL.out]at cE;exact cE
       have aY:Hid (Bel wb w4):=by
        have hb:=ab (aa HW.out gq.out) (.cells #[.string f.nm] 9);exact Below.grown hb cK hb.size (fun k hk=>(World.ownsRow.lt (HO.out.later gq.out).2 k hk).1)
       clear cE cK;go_wp2;go_roundw
       case rel=>first|exact⟨j+1,a4,d4,by omega,by go_num,by rw[pb.out,List.length_append];rfl,by rw[pb.out];exact Ik.out,aY.out⟩|((repeat apply Exists.intro);exact⟨⟨j+1,a4,d4,by omega,by go_num,by rw[pb.out,List.length_append];rfl,by rw[pb.out];exact Ik.out,aY.out⟩,rfl⟩)
       case measure=>simp[intOf];omega
     ·have AB:=hid (II.out (by rw[← oT.out];rfl));go_wp2;go_roundw
      case rel=>exact⟨rfl,q+1,by omega,by go_num,AB.out,kl.out⟩
      case measure=>simp[intOf];omega
    ·have pb:Hid (cn rd n (j+1)=row):=by
      show cn rd n (j+1)=row;rw[cn,← oZ.out,if_neg (by have:=HN.out;omega)]
     go_wp2;go_roundw
     case rel=>first|exact⟨j+1,a,c,by omega,by go_num,by rw[pb.out],by rw[pb.out];exact HO.out.later kl.out,sK.out⟩|((repeat apply Exists.intro);exact⟨⟨j+1,a,c,by omega,by go_num,by rw[pb.out],by rw[pb.out];exact HO.out.later kl.out,sK.out⟩,rfl⟩)
     case measure=>simp[intOf];omega
  ·obtain rfl:j=n:=by omega
   go_wp2;go_ret;rw[← oZ.out];obtain⟨⟨g,c',e⟩,ho⟩:=HO.out;injection e with e1 e2 e3
   subst e1 e3;exact⟨⟨g,c,rfl,Nat.le_trans fT.out.size (World.ownsRow.lt ho g rfl).1,HO.out.at_ (by rw[List.length_map];have:=ye.out;omega)⟩,aa fT.out HW.out⟩
set_option maxRecDepth 8000
set_option maxHeartbeats 40000000
open Go.RowKit Go.Deep
theorem fe.sc {w:World} {v:Value} {l:List ByteArray} (h:fe w v l) {gz:Nat} {lo:Nat} (qc:∀ g c,v=.slice (some ⟨g,0,none⟩) l.length c→lo≤g) (hg:gz<lo) (p:Nat) (x:Value):fe (w.setCell ⟨gz,p,none⟩ x) v l:=by
 obtain⟨g,c,rfl,h1,h2,h3⟩:=h;have:=qc g c rfl;exact⟨g,c,rfl,by rw[bc];exact h1,h2,fun i hi=>(aF _ _ _ _ _ _ (Or.inl (by omega))).trans (h3 i hi)⟩
theorem lI (fs:List Fld) {K K':ByteArray} (h:K.toList=K'.toList) {p:Nat} {vs:List ByteArray}:∀ ms:List Mnd,bO fs K p vs ms=bO fs K' p vs ms
 |[]=>rfl
 |m::ms=>by
  have ih:=lI fs h (p:=p) (vs:=vs) ms;have hm:jY fs K p vs m=jY fs K' p vs m:=by unfold jY bk;rw[h]
  unfold bO;rw[hm,ih]
theorem vZ (B mb:Nat) (ss:List Shp) (ms:List Mnd) (o:Ob) (b1:Option Addr) (c1:Nat) (b2:Option Addr) (c2:Nat) (w:World) (h:bd w B ss) (hm:dy w mb ms) (gJ:aO ss ms=true) (ho:ObG w b1 c1 b2 c2 o):
  Calls Tryz.prog 122 #[.slice (some ⟨B,0,none⟩) ss.length ss.length,.slice (some ⟨mb,0,none⟩) ms.length ms.length,.agg #[.string o.kind,.string o.name,.string o.team,.slice b1 o.values.length c1,.bool o.ending,.slice b2 o.holds.length c2,.int .i64 o.version]] w fun e w'=>(∃ a1 n1 d1 a2 n2 d2 mid,e=.returned (.agg #[.string o.kind,.string o.name,.string o.team,.slice a1 n1 d1,.bool o.ending,.slice a2 n2 d2,.int .i64 o.version])∧CT w' w.heap.size mid (.slice a1 n1 d1) (bl ss ms o.kind o.values)∧CT w' mid w'.heap.size (.slice a2 n2 d2) o.holds∧w.heap.size≤mid∧mid≤w'.heap.size)∧Bel w w':=by
 have HA:=hid (And.intro h (And.intro hm ho));have uN:=hid gJ;have hl:=h.len;have Gg:=hm.len;have s6:=ho.len1;clear h hm ho gJ;obtain⟨w0,gi⟩:∃ w0,w0=(w.alloc (.cells #[.string o.kind,.string o.name,.string o.team,.slice b1 o.values.length c1,.bool o.ending,.slice b2 o.holds.length c2,.int .i64 o.version] 111)).alloc (.cells #[.string ⟨#[]⟩,.string ⟨#[]⟩,.string ⟨#[]⟩,.slice none 0 0,.bool false,.slice none 0 0,.int .i64 0] 111):=⟨_,rfl⟩
 have fT:Hid (Bel w w0):=by show Below _ _ _;rw[gi];exact ab (ab br _) _
 have q7:Hid (ai w0 (w.heap.size+1) 111 7):=by show ai _ _ _ _;rw[gi];exact ai.gI _ _ _ _ _ rfl (by simp)
 have qi:Hid (w0.heap.size=w.heap.size+2):=by show _=_;rw[gi];simp
 have uP:Hid (∀ W,Bel w0 W→w.heap.size<W.heap.size∧∀ j,W.cell? ⟨w.heap.size,j,none⟩=(#[.string o.kind,.string o.name,.string o.team,.slice b1 o.values.length c1,.bool o.ending,.slice b2 o.holds.length c2,.int .i64 o.version]:Array Value)[j]?):=by
  intro W hW;have q:w.heap.size<w0.heap.size:=by have:=qi.out;omega
  refine⟨lo q hW.size,fun j=>(hW.cell (p:=⟨w.heap.size,j,none⟩) q).trans ?_⟩;rw[gi];exact(World.cell?_alloc_past _ _ _ (by simp)).trans (World.cell?_alloc_at _ _ _ _ rfl)
 obtain⟨xz,xs⟩:=uP.out w0 br;have x0:w0.cell? ⟨w.heap.size,0,none⟩=some (.string o.kind):=xs 0;have x1:w0.cell? ⟨w.heap.size,1,none⟩=some (.string o.name):=xs 1;have x2:w0.cell? ⟨w.heap.size,2,none⟩=some (.string o.team):=xs 2;have x3:w0.cell? ⟨w.heap.size,3,none⟩=some (.slice b1 o.values.length c1):=xs 3;have x4:w0.cell? ⟨w.heap.size,4,none⟩=some (.bool o.ending):=xs 4;have x5:w0.cell? ⟨w.heap.size,5,none⟩=some (.slice b2 o.holds.length c2):=xs 5;have x6:w0.cell? ⟨w.heap.size,6,none⟩=some (.int .i64 o.version):=xs 6;clear xs;go_enter Tryz.func122,Tryz.ntmps122
 go_upto_region 1 with fail
 rw[← gi];clear gi;go_wp2_with fail
 refine(zH o b1 c1 b2 c2 w0 (HA.out.2.2.later fT.out)).mono ?_;rintro e w1 ⟨⟨a1,n1,d1,a2,n2,d2,mid,rfl,eH,fw,gk,gQ⟩,bj⟩;rw[qi.out]at eH gk;have sN:w.heap.size+2≤w1.heap.size:=by have:=bj.size;rw[qi.out]at this;exact this
 have cN:=hid (aa fT.out bj);obtain⟨w2,i3⟩:∃ w2,w2=w1.alloc (.cells #[.string o.kind,.string o.name,.string o.team,.slice a1 n1 d1,.bool o.ending,.slice a2 n2 d2,.int .i64 o.version] 111):=⟨_,rfl⟩
 obtain⟨X,hX⟩:∃ X,X=w1.heap.size:=⟨_,rfl⟩
 have aA:Bel w1 w2:=by rw[i3];exact ab br _
 have uD:Hid (fU w w2 X mid o o.values (.slice a1 n1 d1) (.slice a2 n2 d2)):=by
  show fU _ _ _ _ _ _ _ _;rw[hX];have q:∀ j,w2.cell? ⟨w1.heap.size,j,none⟩=(#[.string o.kind,.string o.name,.string o.team,.slice a1 n1 d1,.bool o.ending,.slice a2 n2 d2,.int .i64 o.version]:Array Value)[j]? :=fun j=>by rw[i3];exact World.cell?_alloc_at _ _ _ _ rfl
  exact⟨aa cN.out aA,(q7.out.later bj).later aA,by rw[i3];simp,q 0,q 1,q 2,q 3,q 4,q 5,q 6,eH.later aA,fw.later aA,gk,gQ⟩
 have iB:=hid (aa bj aA);go_upto_region 2 with fail
 rw[← i3,← hX];clear i3 hX bj aA eH fw gk gQ sN x0 x1 x2 x3 x4 x5 x6 xz;obtain⟨xz,xs⟩:=uP.out w2 iB.out;have x0:w2.cell? ⟨w.heap.size,0,none⟩=some (.string o.kind):=xs 0;have x1:w2.cell? ⟨w.heap.size,1,none⟩=some (.string o.name):=xs 1;have x2:w2.cell? ⟨w.heap.size,2,none⟩=some (.string o.team):=xs 2;have x3:w2.cell? ⟨w.heap.size,3,none⟩=some (.slice b1 o.values.length c1):=xs 3;have x4:w2.cell? ⟨w.heap.size,4,none⟩=some (.bool o.ending):=xs 4;have x5:w2.cell? ⟨w.heap.size,5,none⟩=some (.slice b2 o.holds.length c2):=xs 5;have x6:w2.cell? ⟨w.heap.size,6,none⟩=some (.int .i64 o.version):=xs 6;clear xs;go_wp2_with fail
 refine(jg w B ss o b1 c1 b2 c2 w2 HA.out.1 uD.out.bel).mono ?_;rintro e w3 ⟨a,n,c,rfl,kD,aQ⟩;obtain⟨R,hR⟩:∃ R,R=aP ss o:=⟨_,rfl⟩
 rw[← hR]at kD ⊢;have mW:=hid kD;have fA:=hid hR;have mZ:=hid (uD.out.later aQ);have AS:=hid (aa iB.out aQ);clear hR kD aQ x0 x1 x2 x3 x4 x5 x6 xz uD iB;obtain⟨xz,xs⟩:=uP.out w3 AS.out;have x0:w3.cell? ⟨w.heap.size,0,none⟩=some (.string o.kind):=xs 0;clear xs;obtain⟨_,_,z1,X0,X1,X2,X3,X4,X5,X6,_,_,_,_⟩:=mZ.out;cases R
 ·have HF:Hid (bl ss ms o.kind o.values=o.values):=by
   show bl _ _ _ _=_;unfold bl;rw[if_neg];intro hh;have:=fA.out;unfold aP at this;rw[hh.1,decide_eq_true hh.2]at this;cases this
  have hR:=mZ.out.own;have hF:=hR.frozen;have z2:=hR.lt;obtain⟨y0,ke⟩:=hR.cell 0 (by omega);obtain⟨y1,kg⟩:=hR.cell 1 (by omega);obtain⟨y2,kk⟩:=hR.cell 2 (by omega);obtain⟨y3,kf⟩:=hR.cell 3 (by omega);obtain⟨y4,sO⟩:=hR.cell 4 (by omega);obtain⟨y5,sJ⟩:=hR.cell 5 (by omega);obtain⟨y6,sM⟩:=hR.cell 6 (by omega);clear hR;go_wp2;obtain⟨r,_,t1,t2,t3,t4,t5⟩:=mZ.out.out [.string o.kind,.string o.name,.string o.team,.slice a1 n1 d1,.bool o.ending,.slice a2 n2 d2,.int .i64 o.version] rfl;have r0:(((((((w3.setCell ⟨w.heap.size+1,0,none⟩ (.string o.kind)).setCell ⟨w.heap.size+1,1,none⟩ (.string o.name)).setCell ⟨w.heap.size+1,2,none⟩ (.string o.team)).setCell ⟨w.heap.size+1,3,none⟩ (.slice a1 n1 d1)).setCell ⟨w.heap.size+1,4,none⟩ (.bool o.ending)).setCell ⟨w.heap.size+1,5,none⟩ (.slice a2 n2 d2)).setCell ⟨w.heap.size+1,6,none⟩ (.int .i64 o.version)).cell? ⟨w.heap.size+1,0,none⟩=some (.string o.kind):=r 0 (by omega);have r1:(((((((w3.setCell ⟨w.heap.size+1,0,none⟩ (.string o.kind)).setCell ⟨w.heap.size+1,1,none⟩ (.string o.name)).setCell ⟨w.heap.size+1,2,none⟩ (.string o.team)).setCell ⟨w.heap.size+1,3,none⟩ (.slice a1 n1 d1)).setCell ⟨w.heap.size+1,4,none⟩ (.bool o.ending)).setCell ⟨w.heap.size+1,5,none⟩ (.slice a2 n2 d2)).setCell ⟨w.heap.size+1,6,none⟩ (.int .i64 o.version)).cell? ⟨w.heap.size+1,1,none⟩=some (.string o.name):=r 1 (by omega);have r2:(((((((w3.setCell ⟨w.heap.size+1,0,none⟩ (.string o.kind)).setCell ⟨w.heap.size+1,1,none⟩ (.string o.name)).setCell ⟨w.heap.size+1,2,none⟩ (.string o.team)).setCell ⟨w.heap.size+1,3,none⟩ (.slice a1 n1 d1)).setCell ⟨w.heap.size+1,4,none⟩ (.bool o.ending)).setCell ⟨w.heap.size+1,5,none⟩ (.slice a2 n2 d2)).setCell ⟨w.heap.size+1,6,none⟩ (.int .i64 o.version)).cell? ⟨w.heap.size+1,2,none⟩=some (.string o.team):=r 2 (by omega);have r3:(((((((w3.setCell ⟨w.heap.size+1,0,none⟩ (.string o.kind)).setCell ⟨w.heap.size+1,1,none⟩ (.string o.name)).setCell ⟨w.heap.size+1,2,none⟩ (.string o.team)).setCell ⟨w.heap.size+1,3,none⟩ (.slice a1 n1 d1)).setCell ⟨w.heap.size+1,4,none⟩ (.bool o.ending)).setCell ⟨w.heap.size+1,5,none⟩ (.slice a2 n2 d2)).setCell ⟨w.heap.size+1,6,none⟩ (.int .i64 o.version)).cell? ⟨w.heap.size+1,3,none⟩=some (.slice a1 n1 d1):=r 3 (by omega);have r4:(((((((w3.setCell ⟨w.heap.size+1,0,none⟩ (.string o.kind)).setCell ⟨w.heap.size+1,1,none⟩ (.string o.name)).setCell ⟨w.heap.size+1,2,none⟩ (.string o.team)).setCell ⟨w.heap.size+1,3,none⟩ (.slice a1 n1 d1)).setCell ⟨w.heap.size+1,4,none⟩ (.bool o.ending)).setCell ⟨w.heap.size+1,5,none⟩ (.slice a2 n2 d2)).setCell ⟨w.heap.size+1,6,none⟩ (.int .i64 o.version)).cell? ⟨w.heap.size+1,4,none⟩=some (.bool o.ending):=r 4 (by omega);have r5:(((((((w3.setCell ⟨w.heap.size+1,0,none⟩ (.string o.kind)).setCell ⟨w.heap.size+1,1,none⟩ (.string o.name)).setCell ⟨w.heap.size+1,2,none⟩ (.string o.team)).setCell ⟨w.heap.size+1,3,none⟩ (.slice a1 n1 d1)).setCell ⟨w.heap.size+1,4,none⟩ (.bool o.ending)).setCell ⟨w.heap.size+1,5,none⟩ (.slice a2 n2 d2)).setCell ⟨w.heap.size+1,6,none⟩ (.int .i64 o.version)).cell? ⟨w.heap.size+1,5,none⟩=some (.slice a2 n2 d2):=r 5 (by omega);have r6:(((((((w3.setCell ⟨w.heap.size+1,0,none⟩ (.string o.kind)).setCell ⟨w.heap.size+1,1,none⟩ (.string o.name)).setCell ⟨w.heap.size+1,2,none⟩ (.string o.team)).setCell ⟨w.heap.size+1,3,none⟩ (.slice a1 n1 d1)).setCell ⟨w.heap.size+1,4,none⟩ (.bool o.ending)).setCell ⟨w.heap.size+1,5,none⟩ (.slice a2 n2 d2)).setCell ⟨w.heap.size+1,6,none⟩ (.int .i64 o.version)).cell? ⟨w.heap.size+1,6,none⟩=some (.int .i64 o.version):=r 6 (by omega);refine bodyPost_ret (v:=.agg #[.string o.kind,.string o.name,.string o.team,.slice a1 n1 d1,.bool o.ending,.slice a2 n2 d2,.int .i64 o.version]) (by simp only[results,Tryz.results122];simp[go_sem,r0,r1,r2,r3,r4,r5,r6]) rfl ⟨⟨_,_,_,_,_,_,mid,rfl, ?_,t2,t3,t4⟩,t5⟩;rw[HF.out];exact t1
 obtain⟨b,hv,gK,hf⟩:=mW.out rfl;obtain⟨s,hs⟩:∃ s,s=ss.getD (aB ss o.kind) Shp.none:=⟨_,rfl⟩
 rw[← hs]at hv hf;injection hv with oS qY qS
 subst oS qY qS;have DB:=fA.out.symm;unfold aP at DB;rw[← hs]at DB;simp only[Bool.and_eq_true,decide_eq_true_eq]at DB;obtain⟨F3,heq⟩:=DB;have u5:aB ss o.kind<ss.length:=by simpa [aJ]using F3
 have lu:=uN.out;unfold aO at lu;simp only[Bool.and_eq_true]at lu;obtain⟨⟨⟨yl,xT⟩,AX⟩,Gi⟩:=lu;have qZ:Hid (bW w b s.fields):=by
  have dO:=HA.out.1.small s (by rw[hs];simp[u5]);exact⟨gK,dO.1,dO.2,hf⟩
 have AN:Hid (∀ m∈ms,bk s.kind m=true→found s.fields m):=by rw[hs];exact lD yl AX u5
 have Ku:Hid (∀ m∈ms,bk s.kind m=true→aL s.fields m=true):=by rw[hs];exact n6 yl AX u5
 have AD:Hid (aG ss s.fields=true):=by rw[hs];exact iQ yl u5
 have jr:ms.length≤12:=of_decide_eq_true xT;have HS:=hid (And.intro hs F3);have oU:Hid (s.kind.toList=o.kind.toList):=by
  have e:ss.getD (aB ss o.kind) Shp.none=ss[aB ss o.kind]:=by simp[u5]
  have:=List.findIdx_getElem (xs:=ss) (p:=fun x:Shp=>x.kind.toList==o.kind.toList) (w:=u5);rw[hs,e];exact beq_iff_eq.1 this
 obtain⟨b',_,Ir,_,_,q0,q1,kJ⟩:=HA.out.1.at_ (aB ss o.kind) u5;rw[← hs]at q0 q1 kJ;have HFJ:Hid (bW w b' s.fields):=⟨Ir,qZ.out.len,qZ.out.small,kJ⟩
 have uE:Hid (Calls Tryz.prog 124 #[.slice (some ⟨B,0,none⟩) ss.length ss.length,.string o.kind] w3 fun e w'=>e=.returned (.int .i64 (aB ss o.kind:Nat))∧w3=w'):=by
  have:=fQ B ss o.kind w3 (HA.out.1.later mZ.out.bel);rw[if_pos u5]at this;exact this
 obtain⟨ki,CI⟩:∃ ki,ki=aB ss o.kind:=⟨_,rfl⟩
 have q0':w3.cell? ⟨B,ki*2,none⟩=some (.string s.kind):=by rw[CI];exact(mZ.out.bel.cell (p:=⟨B,_,none⟩) HA.out.1.lt).trans q0
 have q1':w3.cell? ⟨B,ki*2+1,none⟩=some (.slice (some ⟨b',0,none⟩) s.fields.length s.fields.length):=by rw[CI];exact(mZ.out.bel.cell (p:=⟨B,_,none⟩) HA.out.1.lt).trans q1
 have hBz:=lo HA.out.1.lt mZ.out.bel.size;rw[← CI]at uE u5;have iZ:=qZ.out.len;have yb:=hid heq;have HLO:=hid mZ.out.lt;clear gK hf hs F3 CI yl xT AX Gi mW q0 q1 kJ Ir heq;obtain⟨L,Dt⟩:∃ L,L=bx s.fields ms s.kind:=⟨_,rfl⟩
 obtain⟨row,jR⟩:∃ row,row=cn (rdM s.fields ms s.kind) s.fields.length s.fields.length:=⟨_,rfl⟩
 have HF:Hid (bl ss ms o.kind o.values=eY L o.values row):=by
  show bl _ _ _ _=_;unfold bl mv rowAt mv;rw[← HS.out.1,if_pos ⟨HS.out.2,yb.out⟩,jR,Dt];rfl
 have AY:=hid Dt;have Gs:=hid jR;have Jh:Hid (Calls Tryz.prog 117 #[.agg #[.string s.kind,.slice (some ⟨b',0,none⟩) s.fields.length s.fields.length],.slice (some ⟨mb,0,none⟩) ms.length ms.length] w3 fun e w'=>(∃ g c,e=.returned (.slice (some ⟨g,0,none⟩) row.length c)∧w3.heap.size≤g∧fe w' (.slice (some ⟨g,0,none⟩) row.length c) (row.map (cC s.fields)))∧Bel w3 w'):=by
  rw[jR];exact DU ss s b' mb ms w3 (HFJ.out.later mZ.out.bel) (HA.out.2.1.later mZ.out.bel) AD.out AN.out
 clear Dt jR;go_wp2_with fail
 refine uE.out.mono ?_;rintro e w3' ⟨rfl,rfl⟩;go_wp2_with fail
 refine Jh.out.mono ?_;rintro e w5 ⟨⟨gr,cr,rfl,DA,hna⟩,gv⟩;have KM:=hid (And.intro (mZ.out.later gv) hna);have HGL:=hid (lo HLO.out DA);have Im:Hid (row.length≤1048576∧∀ i,i<row.length→row.getD i 0<s.fields.length):=by
  refine⟨?_,fun i hi=> ?_⟩
  ·have:=jH (rdM s.fields ms s.kind) s.fields.length s.fields.length;rw[← Gs.out]at this;omega
  ·have e:row.getD i 0=row[i]:=by simp[hi]
   have:=kx (rdM s.fields ms s.kind) s.fields.length s.fields.length row[i] (by rw[← Gs.out];exact List.getElem_mem hi);rw[e];exact this
 have EV:=Im.out.1;clear gv hna DA q0' q1' hBz x0 xz z1 X0 X1 X2 X3 X4 X5 X6 mZ AS Jh uE;go_wp2;go_loopw [11] (fun s11 wr=>∃ q:Nat,q≤row.length∧s11=.int .i64 q∧fU w wr X mid o (eY L o.values (row.take q)) (.slice a1 n1 d1) (.slice a2 n2 d2)∧fe wr (.slice (some ⟨gr,0,none⟩) row.length cr) (row.map (cC s.fields))) (fun s11 _=>row.length - (intOf s11).toNat)
 case atStart=>exact⟨0,nz,rfl,KM.out⟩
 case round=>
  obtain⟨q,hq,rfl,hI,Lb⟩:=hrel;obtain⟨vs,mP⟩:∃ vs,vs=eY L o.values (row.take q):=⟨_,rfl⟩
  have FK:=hid mP;rw[← mP]at hI;clear mP;have HI:=hid hI;have HNA:=hid Lb;have uS:vs.length=o.values.length:=by rw[FK.out];exact jx _ _ _
  have Dz:Hid (vs.length=s.fields.length):=by show _=_;rw[uS,yb.out]
  obtain⟨_,_,z1,X0,X1,X2,X3,X4,X5,X6,FM,_,gk,gQ⟩:=hI;by_cases aw:q<row.length
  ·obtain⟨p,hp⟩:∃ p,p=row.getD q 0:=⟨_,rfl⟩
   have Az:p<s.fields.length:=by rw[hp];exact Im.out.2 q aw
   have eI:p<vs.length:=by rw[Dz.out];exact Az
   have gS:Hid (eY L o.values (row.take (q+1))=dg L vs p):=by show eY _ _ _=_;rw[mB L o.values row q aw,← FK.out,hp]
   obtain⟨gr',cr',e0,JP,_,FE⟩:=Lb;injection e0 with e1 e2' e3
   clear e2';injection e1 with e1
   injection e1 with e1
   subst e1 e3;have i0:=FE q (by rw[List.length_map];exact aw);have en0:(row.map (cC s.fields)).getD q ByteArray.empty=cC s.fields p:=by rw[hp];simp[aw]
   rw[en0]at i0;rcases FM with⟨_,e2⟩|⟨g,cap,e1,Lo,vJ,FF,Ig,GA⟩
   ·rw[e2]at eI;exact absurd eI (Nat.not_lt_zero p)
   injection e1 with e1 e3 e4
   subst e1 e3 e4;have Jz:Hid (VAt wr g vs):=⟨FF.lt,by rw[Dz.out];exact iZ,GA⟩
   have HG:=hid (And.intro FF (And.intro Ig vJ));have AJ:=hid gQ;have Dk:Hid (∀ W,Bel wr W→Calls Tryz.prog 163 #[.slice (some ⟨b,0,none⟩) s.fields.length s.fields.length,.string (cC s.fields p)] W fun e w'=>e=.returned (.int .i64 (p:Nat))∧w'=W):=by
    intro W hW;have e:=fP AD.out Az;have:=ik b s.fields (cC s.fields p) W ((qZ.out.later HI.out.bel).later hW) (by unfold cC;rw[e];exact Az);have e':nameAt s.fields (cC s.fields p)=p:=e;rw[e']at this;exact this
   have LG:Hid (∀ W,Bel wr W→Calls Tryz.prog 168 #[.slice (some ⟨b,0,none⟩) s.fields.length s.fields.length,.slice (some ⟨mb,0,none⟩) ms.length ms.length,.agg #[.string o.kind,.string o.name,.string o.team,.slice (some ⟨g,0,none⟩) vs.length d1,.bool o.ending,.slice a2 n2 d2,.int .i64 o.version],.string (cC s.fields p)] W fun e w'=>e=.returned (.string ((bO s.fields o.kind p vs ms).getD (vs.getD p ByteArray.empty)))∧Bel W w'):=by
    intro W hW;have hK:∀ m,bk o.kind m=true→bk s.kind m=true:=fun m hh=>by unfold bk at hh ⊢;rw[oU.out];exact hh
    exact yP ss b mb g d1 p s.fields ms vs o.kind o.name o.team o.ending _ o.version W ((qZ.out.later HI.out.bel).later hW) ((HA.out.2.1.later HI.out.bel).later hW) (Jz.out.later hW) AD.out Dz.out Az (fun m hm hk=>AN.out m hm (hK m hk)) (fun m hm hk=>Ku.out m hm (hK m hk))
   obtain⟨zz,lx⟩:∃ zz,zz=(bO s.fields o.kind p vs ms).getD (vs.getD p ByteArray.empty):=⟨_,rfl⟩
   have HN:Hid (dg L vs p=vs.set p zz):=by
    show dg _ _ _=_;rw[AY.out,sy s.fields s.kind ms vs p eI,lx,lI s.fields oU.out]
   rw[← lx]at LG;obtain⟨np,hnp⟩:∃ np,np=cC s.fields p:=⟨_,rfl⟩
   rw[← hnp]at Dk LG i0;clear lx hnp FE hp Lo vJ FF Ig GA uS gk gQ en0;have iG:Hid (∀ W,Bel wr W→(X<W.heap.size∧W.cell? ⟨X,0,none⟩=some (.string o.kind)∧W.cell? ⟨X,1,none⟩=some (.string o.name)∧W.cell? ⟨X,2,none⟩=some (.string o.team)∧W.cell? ⟨X,3,none⟩=some (.slice (some ⟨g,0,none⟩) vs.length d1)∧W.cell? ⟨X,4,none⟩=some (.bool o.ending)∧W.cell? ⟨X,5,none⟩=some (.slice a2 n2 d2)∧W.cell? ⟨X,6,none⟩=some (.int .i64 o.version))∧(W.frozen? ⟨g,p,none⟩=false∧g<W.heap.size∧∃ u,W.cell? ⟨g,p,none⟩=some u)∧gr<W.heap.size∧W.cell? ⟨gr,q,none⟩=some (.string np)):=by
    intro W hW;have q1:=HI.out.later hW;have q2:=HG.out.1.later hW;have q3:=HG.out.2.1;exact⟨⟨q1.lt,q1.x0,q1.x1,q1.x2,q1.x3,q1.x4,q1.x5,q1.x6⟩,⟨q2.frozen p,q2.lt,q2.cell p (by omega)⟩,lo JP hW.size,(hW.cell (p:=⟨gr,q,none⟩) JP).trans i0⟩
   have J2:Hid (∀ W,Bel wr W→fU w (W.setCell ⟨g,p,none⟩ (.string zz)) X mid o (eY L o.values (row.take (q+1))) (.slice (some ⟨g,0,none⟩) vs.length d1) (.slice a2 n2 d2)∧fe (W.setCell ⟨g,p,none⟩ (.string zz)) (.slice (some ⟨gr,0,none⟩) row.length cr) (row.map (cC s.fields))):=by
    intro W hW;refine⟨?_,(HNA.out.later hW).sc (lo:=X) (fun g' c' e=>by injection e with e1;injection e1 with e1;injection e1 with e1;have:=HGL.out;omega) (by have:=HG.out.2.2;have:=AJ.out;omega) _ _⟩;rw[gS.out,HN.out];exact(HI.out.later hW).CC p eI zz
   obtain⟨_,⟨hF,xQ,u,hu⟩,_,_⟩:=iG.out wr br;have hq1:q<row.length:=aw;have hqi:((q:Int)<(row.length:Int)):=by omega
   have hpi:((p:Int)<(vs.length:Int)):=by omega
   have HPQ:=hid (And.intro hq1 eI);go_upto_region 9 with fail
   refine wp_region_any (by kernel_rfl) ?_;refine wS (R:=fun a=>wpAny _ _ _ _ _ _ a _) _ ?_;intro a0 Fg;have kj:54<a0.tmps.size:=by rw[Fg];simp
   have f1:a0.eval (.tmp 1)=.slice (some ⟨mb,0,none⟩) ms.length ms.length:=by rw[Fg];rfl
   have f7:a0.eval (.tmp 7)=.pointer (some ⟨X,0,none⟩):=by rw[Fg];rfl
   have f8:a0.eval (.tmp 8)=.slice (some ⟨b,0,none⟩) s.fields.length s.fields.length:=by rw[Fg];rfl
   have f10:a0.eval (.tmp 10)=.slice (some ⟨gr,0,none⟩) row.length cr:=by rw[Fg];rfl
   have f11:a0.eval (.tmp 11)=.int .i64 (q:Nat):=by rw[Fg];rfl
   refine ma (fun l a W=>∃ bX cY dc da cW cV cG cO cT cS cQ cH cB cP cU cX cZ:Value,a=ck a0 bX cY dc da cW cV cG cO cT cS cQ cH cB cP cU cX cZ∧(l.getD 0 false=true→bX=.pointer (some ⟨X,3,none⟩))∧(l.getD 1 false=true→cY=.slice (some ⟨g,0,none⟩) vs.length d1)∧(l.getD 2 false=true→dc=.slice (some ⟨b,0,none⟩) s.fields.length s.fields.length)∧(l.getD 3 false=true→da=.slice (some ⟨gr,0,none⟩) row.length cr)∧(l.getD 4 false=true→cW=.int .i64 (q:Nat))∧(l.getD 5 false=true→cV=.pointer (some ⟨gr,q,none⟩))∧(l.getD 6 false=true→cG=.string np)∧(l.getD 7 false=true→cO=.int .i64 (p:Nat))∧(l.getD 8 false=true→cT=.slice (some ⟨b,0,none⟩) s.fields.length s.fields.length)∧(l.getD 9 false=true→cS=.slice (some ⟨mb,0,none⟩) ms.length ms.length)∧(l.getD 10 false=true→cQ=.agg #[.string o.kind,.string o.name,.string o.team,.slice (some ⟨g,0,none⟩) vs.length d1,.bool o.ending,.slice a2 n2 d2,.int .i64 o.version])∧(l.getD 11 false=true→cH=.slice (some ⟨gr,0,none⟩) row.length cr)∧(l.getD 12 false=true→cB=.int .i64 (q:Nat))∧(l.getD 13 false=true→cP=.pointer (some ⟨gr,q,none⟩))∧(l.getD 14 false=true→cU=.string np)∧(l.getD 15 false=true→cX=.string zz)∧(l.getD 16 false=true→cZ=.pointer (some ⟨g,p,none⟩))∧l.size=18∧((l.getD 17 false=false∧Bel wr W)∨(l.getD 17 false=true∧∃ W0,Bel wr W0∧W=W0.setCell ⟨g,p,none⟩ (.string zz)))) ?_ ?_ _ _ _ _ ?_ ?_ ?_
   ·rintro l a W i ⟨bX,cY,dc,da,cW,cV,cG,cO,cT,cS,cQ,cH,cB,cP,cU,cX,cZ,rfl,h0,h1,h2,h3,h4,h5,h6,h7,h8,h9,qh,qb,jr,qf,qm,ql,lr,po,hw⟩ hC hi;obtain⟨hun,o',ho,av⟩:=mem_ready.1 hi;have aw:i<18:=(Array.getElem?_eq_some_iff.1 ho).1;rcases hw with⟨jo,hB⟩|⟨L17,_⟩
    rotate_left
    ·exfalso;have L15:l.getD 15 false=true:=hC 17 _ ⟨15,.data⟩ rfl (by simp) rfl L17;have L16:l.getD 16 false=true:=hC 17 _ ⟨16,.data⟩ rfl (by simp) rfl L17;have L7:l.getD 7 false=true:=hC 16 _ ⟨7,.data⟩ rfl (by simp) rfl L16;have L1:l.getD 1 false=true:=hC 16 _ ⟨1,.data⟩ rfl (by simp) rfl L16;have L0:l.getD 0 false=true:=hC 1 _ ⟨0,.data⟩ rfl (by simp) rfl L1;have L2:l.getD 2 false=true:=hC 7 _ ⟨2,.data⟩ rfl (by simp) rfl L7;have L6:l.getD 6 false=true:=hC 7 _ ⟨6,.data⟩ rfl (by simp) rfl L7;have L5:l.getD 5 false=true:=hC 6 _ ⟨5,.data⟩ rfl (by simp) rfl L6;have L3:l.getD 3 false=true:=hC 5 _ ⟨3,.data⟩ rfl (by simp) rfl L5;have L4:l.getD 4 false=true:=hC 5 _ ⟨4,.data⟩ rfl (by simp) rfl L5;have L8:l.getD 8 false=true:=hC 15 _ ⟨8,.data⟩ rfl (by simp) rfl L15;have L9:l.getD 9 false=true:=hC 15 _ ⟨9,.data⟩ rfl (by simp) rfl L15;have L10:l.getD 10 false=true:=hC 15 _ ⟨10,.data⟩ rfl (by simp) rfl L15;have L14:l.getD 14 false=true:=hC 15 _ ⟨14,.data⟩ rfl (by simp) rfl L15;have L13:l.getD 13 false=true:=hC 14 _ ⟨13,.data⟩ rfl (by simp) rfl L14;have L11:l.getD 11 false=true:=hC 13 _ ⟨11,.data⟩ rfl (by simp) rfl L13;have L12:l.getD 12 false=true:=hC 13 _ ⟨12,.data⟩ rfl (by simp) rfl L13;have hf:=ku hun;have va:i=0∨i=1∨i=2∨i=3∨i=4∨i=5∨i=6∨i=7∨i=8∨i=9∨i=10∨i=11∨i=12∨i=13∨i=14∨i=15∨i=16∨i=17:=by omega
     rcases va with rfl|rfl|rfl|rfl|rfl|rfl|rfl|rfl|rfl|rfl|rfl|rfl|rfl|rfl|rfl|rfl|rfl|rfl
     ·rw[L0]at hf;cases hf
     ·rw[L1]at hf;cases hf
     ·rw[L2]at hf;cases hf
     ·rw[L3]at hf;cases hf
     ·rw[L4]at hf;cases hf
     ·rw[L5]at hf;cases hf
     ·rw[L6]at hf;cases hf
     ·rw[L7]at hf;cases hf
     ·rw[L8]at hf;cases hf
     ·rw[L9]at hf;cases hf
     ·rw[L10]at hf;cases hf
     ·rw[L11]at hf;cases hf
     ·rw[L12]at hf;cases hf
     ·rw[L13]at hf;cases hf
     ·rw[L14]at hf;cases hf
     ·rw[L15]at hf;cases hf
     ·rw[L16]at hf;cases hf
     ·rw[L17]at hf;cases hf
    obtain⟨⟨z9,X90,X91,X92,X93,X94,X95,X96⟩,⟨Ix,KH,u9,hu9⟩,hgr9,i9⟩:=iG.out W hB;have va:i=0∨i=1∨i=2∨i=3∨i=4∨i=5∨i=6∨i=7∨i=8∨i=9∨i=10∨i=11∨i=12∨i=13∨i=14∨i=15∨i=16∨i=17:=by omega
    rcases va with rfl|rfl|rfl|rfl|rfl|rfl|rfl|rfl|rfl|rfl|rfl|rfl|rfl|rfl|rfl|rfl|rfl|rfl
    ·have kh:=ho;simp at ho;subst ho;refine bI (v:=.pointer (some ⟨X,3,none⟩)) (w':=W) kh rfl ?_ ?_
     ·simp[execOp,go_sem,vp _ _ _ _ _ _ _ _ _ _ _ _ _ _ _ _ _ _ _ f7]
     ·show ∃ bX,_;rw[Ao];exact⟨_,_,_,_,_,_,_,_,_,_,_,_,_,_,_,_,_,rfl,fun _=>rfl,fun h=>h1 ((ag h).resolve_left (by decide)),fun h=>h2 ((ag h).resolve_left (by decide)),fun h=>h3 ((ag h).resolve_left (by decide)),fun h=>h4 ((ag h).resolve_left (by decide)),fun h=>h5 ((ag h).resolve_left (by decide)),fun h=>h6 ((ag h).resolve_left (by decide)),fun h=>h7 ((ag h).resolve_left (by decide)),fun h=>h8 ((ag h).resolve_left (by decide)),fun h=>h9 ((ag h).resolve_left (by decide)),fun h=>qh ((ag h).resolve_left (by decide)),fun h=>qb ((ag h).resolve_left (by decide)),fun h=>jr ((ag h).resolve_left (by decide)),fun h=>qf ((ag h).resolve_left (by decide)),fun h=>qm ((ag h).resolve_left (by decide)),fun h=>ql ((ag h).resolve_left (by decide)),fun h=>lr ((ag h).resolve_left (by decide)),(by simpa using po),Or.inl ⟨by rw[getD_set_ne _ (show (0:Nat)≠17 by decide)];exact jo,hB⟩⟩
    ·have kh:=ho;simp at ho;subst ho;have e0:=(h0 (av ⟨0,.data⟩ (by simp) rfl)).symm;subst e0;refine bI (v:=.slice (some ⟨g,0,none⟩) vs.length d1) (w':=W) kh rfl ?_ ?_
     ·simp[execOp,go_sem,zJ _ _ _ _ _ _ _ _ _ _ _ _ _ _ _ _ _ _ kj,X93]
     ·show ∃ bX,_;rw[yK];exact⟨_,_,_,_,_,_,_,_,_,_,_,_,_,_,_,_,_,rfl,fun h=>h0 ((ag h).resolve_left (by decide)),fun _=>rfl,fun h=>h2 ((ag h).resolve_left (by decide)),fun h=>h3 ((ag h).resolve_left (by decide)),fun h=>h4 ((ag h).resolve_left (by decide)),fun h=>h5 ((ag h).resolve_left (by decide)),fun h=>h6 ((ag h).resolve_left (by decide)),fun h=>h7 ((ag h).resolve_left (by decide)),fun h=>h8 ((ag h).resolve_left (by decide)),fun h=>h9 ((ag h).resolve_left (by decide)),fun h=>qh ((ag h).resolve_left (by decide)),fun h=>qb ((ag h).resolve_left (by decide)),fun h=>jr ((ag h).resolve_left (by decide)),fun h=>qf ((ag h).resolve_left (by decide)),fun h=>qm ((ag h).resolve_left (by decide)),fun h=>ql ((ag h).resolve_left (by decide)),fun h=>lr ((ag h).resolve_left (by decide)),(by simpa using po),Or.inl ⟨by rw[getD_set_ne _ (show (1:Nat)≠17 by decide)];exact jo,hB⟩⟩
    ·have kh:=ho;simp at ho;subst ho;refine bI (v:=.slice (some ⟨b,0,none⟩) s.fields.length s.fields.length) (w':=W) kh rfl ?_ ?_
     ·simp[execOp,go_sem,vA _ _ _ _ _ _ _ _ _ _ _ _ _ _ _ _ _ _ _ f8]
     ·show ∃ bX,_;rw[zF];exact⟨_,_,_,_,_,_,_,_,_,_,_,_,_,_,_,_,_,rfl,fun h=>h0 ((ag h).resolve_left (by decide)),fun h=>h1 ((ag h).resolve_left (by decide)),fun _=>rfl,fun h=>h3 ((ag h).resolve_left (by decide)),fun h=>h4 ((ag h).resolve_left (by decide)),fun h=>h5 ((ag h).resolve_left (by decide)),fun h=>h6 ((ag h).resolve_left (by decide)),fun h=>h7 ((ag h).resolve_left (by decide)),fun h=>h8 ((ag h).resolve_left (by decide)),fun h=>h9 ((ag h).resolve_left (by decide)),fun h=>qh ((ag h).resolve_left (by decide)),fun h=>qb ((ag h).resolve_left (by decide)),fun h=>jr ((ag h).resolve_left (by decide)),fun h=>qf ((ag h).resolve_left (by decide)),fun h=>qm ((ag h).resolve_left (by decide)),fun h=>ql ((ag h).resolve_left (by decide)),fun h=>lr ((ag h).resolve_left (by decide)),(by simpa using po),Or.inl ⟨by rw[getD_set_ne _ (show (2:Nat)≠17 by decide)];exact jo,hB⟩⟩
    ·have kh:=ho;simp at ho;subst ho;refine bI (v:=.slice (some ⟨gr,0,none⟩) row.length cr) (w':=W) kh rfl ?_ ?_
     ·simp[execOp,go_sem,r9 _ _ _ _ _ _ _ _ _ _ _ _ _ _ _ _ _ _ _ f10]
     ·show ∃ bX,_;rw[yq];exact⟨_,_,_,_,_,_,_,_,_,_,_,_,_,_,_,_,_,rfl,fun h=>h0 ((ag h).resolve_left (by decide)),fun h=>h1 ((ag h).resolve_left (by decide)),fun h=>h2 ((ag h).resolve_left (by decide)),fun _=>rfl,fun h=>h4 ((ag h).resolve_left (by decide)),fun h=>h5 ((ag h).resolve_left (by decide)),fun h=>h6 ((ag h).resolve_left (by decide)),fun h=>h7 ((ag h).resolve_left (by decide)),fun h=>h8 ((ag h).resolve_left (by decide)),fun h=>h9 ((ag h).resolve_left (by decide)),fun h=>qh ((ag h).resolve_left (by decide)),fun h=>qb ((ag h).resolve_left (by decide)),fun h=>jr ((ag h).resolve_left (by decide)),fun h=>qf ((ag h).resolve_left (by decide)),fun h=>qm ((ag h).resolve_left (by decide)),fun h=>ql ((ag h).resolve_left (by decide)),fun h=>lr ((ag h).resolve_left (by decide)),(by simpa using po),Or.inl ⟨by rw[getD_set_ne _ (show (3:Nat)≠17 by decide)];exact jo,hB⟩⟩
    ·have kh:=ho;simp at ho;subst ho;refine bI (v:=.int .i64 (q:Nat)) (w':=W) kh rfl ?_ ?_
     ·simp[execOp,go_sem,r7 _ _ _ _ _ _ _ _ _ _ _ _ _ _ _ _ _ _ _ f11]
     ·show ∃ bX,_;rw[zY];exact⟨_,_,_,_,_,_,_,_,_,_,_,_,_,_,_,_,_,rfl,fun h=>h0 ((ag h).resolve_left (by decide)),fun h=>h1 ((ag h).resolve_left (by decide)),fun h=>h2 ((ag h).resolve_left (by decide)),fun h=>h3 ((ag h).resolve_left (by decide)),fun _=>rfl,fun h=>h5 ((ag h).resolve_left (by decide)),fun h=>h6 ((ag h).resolve_left (by decide)),fun h=>h7 ((ag h).resolve_left (by decide)),fun h=>h8 ((ag h).resolve_left (by decide)),fun h=>h9 ((ag h).resolve_left (by decide)),fun h=>qh ((ag h).resolve_left (by decide)),fun h=>qb ((ag h).resolve_left (by decide)),fun h=>jr ((ag h).resolve_left (by decide)),fun h=>qf ((ag h).resolve_left (by decide)),fun h=>qm ((ag h).resolve_left (by decide)),fun h=>ql ((ag h).resolve_left (by decide)),fun h=>lr ((ag h).resolve_left (by decide)),(by simpa using po),Or.inl ⟨by rw[getD_set_ne _ (show (4:Nat)≠17 by decide)];exact jo,hB⟩⟩
    ·have kh:=ho;simp at ho;subst ho;have e3:=(h3 (av ⟨3,.data⟩ (by simp) rfl)).symm;subst e3;have e4:=(h4 (av ⟨4,.data⟩ (by simp) rfl)).symm;subst e4;refine bI (v:=.pointer (some ⟨gr,q,none⟩)) (w':=W) kh rfl ?_ ?_
     ·simp[execOp,go_sem,yS _ _ _ _ _ _ _ _ _ _ _ _ _ _ _ _ _ _ kj,zP _ _ _ _ _ _ _ _ _ _ _ _ _ _ _ _ _ _ kj,hqi]
     ·show ∃ bX,_;rw[zc];exact⟨_,_,_,_,_,_,_,_,_,_,_,_,_,_,_,_,_,rfl,fun h=>h0 ((ag h).resolve_left (by decide)),fun h=>h1 ((ag h).resolve_left (by decide)),fun h=>h2 ((ag h).resolve_left (by decide)),fun h=>h3 ((ag h).resolve_left (by decide)),fun h=>h4 ((ag h).resolve_left (by decide)),fun _=>rfl,fun h=>h6 ((ag h).resolve_left (by decide)),fun h=>h7 ((ag h).resolve_left (by decide)),fun h=>h8 ((ag h).resolve_left (by decide)),fun h=>h9 ((ag h).resolve_left (by decide)),fun h=>qh ((ag h).resolve_left (by decide)),fun h=>qb ((ag h).resolve_left (by decide)),fun h=>jr ((ag h).resolve_left (by decide)),fun h=>qf ((ag h).resolve_left (by decide)),fun h=>qm ((ag h).resolve_left (by decide)),fun h=>ql ((ag h).resolve_left (by decide)),fun h=>lr ((ag h).resolve_left (by decide)),(by simpa using po),Or.inl ⟨by rw[getD_set_ne _ (show (5:Nat)≠17 by decide)];exact jo,hB⟩⟩
    ·have kh:=ho;simp at ho;subst ho;have e5:=(h5 (av ⟨5,.data⟩ (by simp) rfl)).symm;subst e5;refine bI (v:=.string np) (w':=W) kh rfl ?_ ?_
     ·simp[execOp,go_sem,zI _ _ _ _ _ _ _ _ _ _ _ _ _ _ _ _ _ _ kj,i9]
     ·show ∃ bX,_;rw[yU];exact⟨_,_,_,_,_,_,_,_,_,_,_,_,_,_,_,_,_,rfl,fun h=>h0 ((ag h).resolve_left (by decide)),fun h=>h1 ((ag h).resolve_left (by decide)),fun h=>h2 ((ag h).resolve_left (by decide)),fun h=>h3 ((ag h).resolve_left (by decide)),fun h=>h4 ((ag h).resolve_left (by decide)),fun h=>h5 ((ag h).resolve_left (by decide)),fun _=>rfl,fun h=>h7 ((ag h).resolve_left (by decide)),fun h=>h8 ((ag h).resolve_left (by decide)),fun h=>h9 ((ag h).resolve_left (by decide)),fun h=>qh ((ag h).resolve_left (by decide)),fun h=>qb ((ag h).resolve_left (by decide)),fun h=>jr ((ag h).resolve_left (by decide)),fun h=>qf ((ag h).resolve_left (by decide)),fun h=>qm ((ag h).resolve_left (by decide)),fun h=>ql ((ag h).resolve_left (by decide)),fun h=>lr ((ag h).resolve_left (by decide)),(by simpa using po),Or.inl ⟨by rw[getD_set_ne _ (show (6:Nat)≠17 by decide)];exact jo,hB⟩⟩
    ·have kh:=ho;simp at ho;subst ho;have e2:=(h2 (av ⟨2,.data⟩ (by simp) rfl)).symm;subst e2;have e6:=(h6 (av ⟨6,.data⟩ (by simp) rfl)).symm;subst e6;refine jI (f:=163) (args:=#[.slice (some ⟨b,0,none⟩) s.fields.length s.fields.length,.string np]) kh rfl ?_ ?_
     ·simp[go_sem,yA _ _ _ _ _ _ _ _ _ _ _ _ _ _ _ _ _ _ kj,zZ _ _ _ _ _ _ _ _ _ _ _ _ _ _ _ _ _ _ kj]
     ·refine(Dk.out W hB).mono ?_;rintro e W2 ⟨rfl,rfl⟩;refine⟨_,rfl, ?_⟩;show ∃ bX,_;rw[zS];exact⟨_,_,_,_,_,_,_,_,_,_,_,_,_,_,_,_,_,rfl,fun h=>h0 ((ag h).resolve_left (by decide)),fun h=>h1 ((ag h).resolve_left (by decide)),fun h=>h2 ((ag h).resolve_left (by decide)),fun h=>h3 ((ag h).resolve_left (by decide)),fun h=>h4 ((ag h).resolve_left (by decide)),fun h=>h5 ((ag h).resolve_left (by decide)),fun h=>h6 ((ag h).resolve_left (by decide)),fun _=>rfl,fun h=>h8 ((ag h).resolve_left (by decide)),fun h=>h9 ((ag h).resolve_left (by decide)),fun h=>qh ((ag h).resolve_left (by decide)),fun h=>qb ((ag h).resolve_left (by decide)),fun h=>jr ((ag h).resolve_left (by decide)),fun h=>qf ((ag h).resolve_left (by decide)),fun h=>qm ((ag h).resolve_left (by decide)),fun h=>ql ((ag h).resolve_left (by decide)),fun h=>lr ((ag h).resolve_left (by decide)),(by simpa using po),Or.inl ⟨by rw[getD_set_ne _ (show (7:Nat)≠17 by decide)];exact jo,hB⟩⟩
    ·have kh:=ho;simp at ho;subst ho;refine bI (v:=.slice (some ⟨b,0,none⟩) s.fields.length s.fields.length) (w':=W) kh rfl ?_ ?_
     ·simp[execOp,go_sem,vA _ _ _ _ _ _ _ _ _ _ _ _ _ _ _ _ _ _ _ f8]
     ·show ∃ bX,_;rw[At];exact⟨_,_,_,_,_,_,_,_,_,_,_,_,_,_,_,_,_,rfl,fun h=>h0 ((ag h).resolve_left (by decide)),fun h=>h1 ((ag h).resolve_left (by decide)),fun h=>h2 ((ag h).resolve_left (by decide)),fun h=>h3 ((ag h).resolve_left (by decide)),fun h=>h4 ((ag h).resolve_left (by decide)),fun h=>h5 ((ag h).resolve_left (by decide)),fun h=>h6 ((ag h).resolve_left (by decide)),fun h=>h7 ((ag h).resolve_left (by decide)),fun _=>rfl,fun h=>h9 ((ag h).resolve_left (by decide)),fun h=>qh ((ag h).resolve_left (by decide)),fun h=>qb ((ag h).resolve_left (by decide)),fun h=>jr ((ag h).resolve_left (by decide)),fun h=>qf ((ag h).resolve_left (by decide)),fun h=>qm ((ag h).resolve_left (by decide)),fun h=>ql ((ag h).resolve_left (by decide)),fun h=>lr ((ag h).resolve_left (by decide)),(by simpa using po),Or.inl ⟨by rw[getD_set_ne _ (show (8:Nat)≠17 by decide)];exact jo,hB⟩⟩
    ·have kh:=ho;simp at ho;subst ho;refine bI (v:=.slice (some ⟨mb,0,none⟩) ms.length ms.length) (w':=W) kh rfl ?_ ?_
     ·simp[execOp,go_sem,Cv _ _ _ _ _ _ _ _ _ _ _ _ _ _ _ _ _ _ _ f1]
     ·show ∃ bX,_;rw[As];exact⟨_,_,_,_,_,_,_,_,_,_,_,_,_,_,_,_,_,rfl,fun h=>h0 ((ag h).resolve_left (by decide)),fun h=>h1 ((ag h).resolve_left (by decide)),fun h=>h2 ((ag h).resolve_left (by decide)),fun h=>h3 ((ag h).resolve_left (by decide)),fun h=>h4 ((ag h).resolve_left (by decide)),fun h=>h5 ((ag h).resolve_left (by decide)),fun h=>h6 ((ag h).resolve_left (by decide)),fun h=>h7 ((ag h).resolve_left (by decide)),fun h=>h8 ((ag h).resolve_left (by decide)),fun _=>rfl,fun h=>qh ((ag h).resolve_left (by decide)),fun h=>qb ((ag h).resolve_left (by decide)),fun h=>jr ((ag h).resolve_left (by decide)),fun h=>qf ((ag h).resolve_left (by decide)),fun h=>qm ((ag h).resolve_left (by decide)),fun h=>ql ((ag h).resolve_left (by decide)),fun h=>lr ((ag h).resolve_left (by decide)),(by simpa using po),Or.inl ⟨by rw[getD_set_ne _ (show (9:Nat)≠17 by decide)];exact jo,hB⟩⟩
    ·have kh:=ho;simp at ho;subst ho;refine bI (v:=.agg #[.string o.kind,.string o.name,.string o.team,.slice (some ⟨g,0,none⟩) vs.length d1,.bool o.ending,.slice a2 n2 d2,.int .i64 o.version]) (w':=W) kh rfl ?_ ?_
     ·simp[execOp,go_sem,vp _ _ _ _ _ _ _ _ _ _ _ _ _ _ _ _ _ _ _ f7,X90,X91,X92,X93,X94,X95,X96]
     ·show ∃ bX,_;rw[ze];exact⟨_,_,_,_,_,_,_,_,_,_,_,_,_,_,_,_,_,rfl,fun h=>h0 ((ag h).resolve_left (by decide)),fun h=>h1 ((ag h).resolve_left (by decide)),fun h=>h2 ((ag h).resolve_left (by decide)),fun h=>h3 ((ag h).resolve_left (by decide)),fun h=>h4 ((ag h).resolve_left (by decide)),fun h=>h5 ((ag h).resolve_left (by decide)),fun h=>h6 ((ag h).resolve_left (by decide)),fun h=>h7 ((ag h).resolve_left (by decide)),fun h=>h8 ((ag h).resolve_left (by decide)),fun h=>h9 ((ag h).resolve_left (by decide)),fun _=>rfl,fun h=>qb ((ag h).resolve_left (by decide)),fun h=>jr ((ag h).resolve_left (by decide)),fun h=>qf ((ag h).resolve_left (by decide)),fun h=>qm ((ag h).resolve_left (by decide)),fun h=>ql ((ag h).resolve_left (by decide)),fun h=>lr ((ag h).resolve_left (by decide)),(by simpa using po),Or.inl ⟨by rw[getD_set_ne _ (show (10:Nat)≠17 by decide)];exact jo,hB⟩⟩
    ·have kh:=ho;simp at ho;subst ho;refine bI (v:=.slice (some ⟨gr,0,none⟩) row.length cr) (w':=W) kh rfl ?_ ?_
     ·simp[execOp,go_sem,r9 _ _ _ _ _ _ _ _ _ _ _ _ _ _ _ _ _ _ _ f10]
     ·show ∃ bX,_;rw[yY];exact⟨_,_,_,_,_,_,_,_,_,_,_,_,_,_,_,_,_,rfl,fun h=>h0 ((ag h).resolve_left (by decide)),fun h=>h1 ((ag h).resolve_left (by decide)),fun h=>h2 ((ag h).resolve_left (by decide)),fun h=>h3 ((ag h).resolve_left (by decide)),fun h=>h4 ((ag h).resolve_left (by decide)),fun h=>h5 ((ag h).resolve_left (by decide)),fun h=>h6 ((ag h).resolve_left (by decide)),fun h=>h7 ((ag h).resolve_left (by decide)),fun h=>h8 ((ag h).resolve_left (by decide)),fun h=>h9 ((ag h).resolve_left (by decide)),fun h=>qh ((ag h).resolve_left (by decide)),fun _=>rfl,fun h=>jr ((ag h).resolve_left (by decide)),fun h=>qf ((ag h).resolve_left (by decide)),fun h=>qm ((ag h).resolve_left (by decide)),fun h=>ql ((ag h).resolve_left (by decide)),fun h=>lr ((ag h).resolve_left (by decide)),(by simpa using po),Or.inl ⟨by rw[getD_set_ne _ (show (11:Nat)≠17 by decide)];exact jo,hB⟩⟩
    ·have kh:=ho;simp at ho;subst ho;refine bI (v:=.int .i64 (q:Nat)) (w':=W) kh rfl ?_ ?_
     ·simp[execOp,go_sem,r7 _ _ _ _ _ _ _ _ _ _ _ _ _ _ _ _ _ _ _ f11]
     ·show ∃ bX,_;rw[yQ];exact⟨_,_,_,_,_,_,_,_,_,_,_,_,_,_,_,_,_,rfl,fun h=>h0 ((ag h).resolve_left (by decide)),fun h=>h1 ((ag h).resolve_left (by decide)),fun h=>h2 ((ag h).resolve_left (by decide)),fun h=>h3 ((ag h).resolve_left (by decide)),fun h=>h4 ((ag h).resolve_left (by decide)),fun h=>h5 ((ag h).resolve_left (by decide)),fun h=>h6 ((ag h).resolve_left (by decide)),fun h=>h7 ((ag h).resolve_left (by decide)),fun h=>h8 ((ag h).resolve_left (by decide)),fun h=>h9 ((ag h).resolve_left (by decide)),fun h=>qh ((ag h).resolve_left (by decide)),fun h=>qb ((ag h).resolve_left (by decide)),fun _=>rfl,fun h=>qf ((ag h).resolve_left (by decide)),fun h=>qm ((ag h).resolve_left (by decide)),fun h=>ql ((ag h).resolve_left (by decide)),fun h=>lr ((ag h).resolve_left (by decide)),(by simpa using po),Or.inl ⟨by rw[getD_set_ne _ (show (12:Nat)≠17 by decide)];exact jo,hB⟩⟩
    ·have kh:=ho;simp at ho;subst ho;have e11:=(qb (av ⟨11,.data⟩ (by simp) rfl)).symm;subst e11;have e12:=(jr (av ⟨12,.data⟩ (by simp) rfl)).symm;subst e12;refine bI (v:=.pointer (some ⟨gr,q,none⟩)) (w':=W) kh rfl ?_ ?_
     ·simp[execOp,go_sem,zL _ _ _ _ _ _ _ _ _ _ _ _ _ _ _ _ _ _ kj,Au _ _ _ _ _ _ _ _ _ _ _ _ _ _ _ _ _ _ kj,hqi]
     ·show ∃ bX,_;rw[Ab];exact⟨_,_,_,_,_,_,_,_,_,_,_,_,_,_,_,_,_,rfl,fun h=>h0 ((ag h).resolve_left (by decide)),fun h=>h1 ((ag h).resolve_left (by decide)),fun h=>h2 ((ag h).resolve_left (by decide)),fun h=>h3 ((ag h).resolve_left (by decide)),fun h=>h4 ((ag h).resolve_left (by decide)),fun h=>h5 ((ag h).resolve_left (by decide)),fun h=>h6 ((ag h).resolve_left (by decide)),fun h=>h7 ((ag h).resolve_left (by decide)),fun h=>h8 ((ag h).resolve_left (by decide)),fun h=>h9 ((ag h).resolve_left (by decide)),fun h=>qh ((ag h).resolve_left (by decide)),fun h=>qb ((ag h).resolve_left (by decide)),fun h=>jr ((ag h).resolve_left (by decide)),fun _=>rfl,fun h=>qm ((ag h).resolve_left (by decide)),fun h=>ql ((ag h).resolve_left (by decide)),fun h=>lr ((ag h).resolve_left (by decide)),(by simpa using po),Or.inl ⟨by rw[getD_set_ne _ (show (13:Nat)≠17 by decide)];exact jo,hB⟩⟩
    ·have kh:=ho;simp at ho;subst ho;have e13:=(qf (av ⟨13,.data⟩ (by simp) rfl)).symm;subst e13;refine bI (v:=.string np) (w':=W) kh rfl ?_ ?_
     ·simp[execOp,go_sem,zm _ _ _ _ _ _ _ _ _ _ _ _ _ _ _ _ _ _ kj,i9]
     ·show ∃ bX,_;rw[Av];exact⟨_,_,_,_,_,_,_,_,_,_,_,_,_,_,_,_,_,rfl,fun h=>h0 ((ag h).resolve_left (by decide)),fun h=>h1 ((ag h).resolve_left (by decide)),fun h=>h2 ((ag h).resolve_left (by decide)),fun h=>h3 ((ag h).resolve_left (by decide)),fun h=>h4 ((ag h).resolve_left (by decide)),fun h=>h5 ((ag h).resolve_left (by decide)),fun h=>h6 ((ag h).resolve_left (by decide)),fun h=>h7 ((ag h).resolve_left (by decide)),fun h=>h8 ((ag h).resolve_left (by decide)),fun h=>h9 ((ag h).resolve_left (by decide)),fun h=>qh ((ag h).resolve_left (by decide)),fun h=>qb ((ag h).resolve_left (by decide)),fun h=>jr ((ag h).resolve_left (by decide)),fun h=>qf ((ag h).resolve_left (by decide)),fun _=>rfl,fun h=>ql ((ag h).resolve_left (by decide)),fun h=>lr ((ag h).resolve_left (by decide)),(by simpa using po),Or.inl ⟨by rw[getD_set_ne _ (show (14:Nat)≠17 by decide)];exact jo,hB⟩⟩
    ·have kh:=ho;simp at ho;subst ho;have e8:=(h8 (av ⟨8,.data⟩ (by simp) rfl)).symm;subst e8;have e9:=(h9 (av ⟨9,.data⟩ (by simp) rfl)).symm;subst e9;have e10:=(qh (av ⟨10,.data⟩ (by simp) rfl)).symm;subst e10;have e14:=(qm (av ⟨14,.data⟩ (by simp) rfl)).symm;subst e14;refine jI (f:=168) (args:=#[.slice (some ⟨b,0,none⟩) s.fields.length s.fields.length,.slice (some ⟨mb,0,none⟩) ms.length ms.length,.agg #[.string o.kind,.string o.name,.string o.team,.slice (some ⟨g,0,none⟩) vs.length d1,.bool o.ending,.slice a2 n2 d2,.int .i64 o.version],.string np]) kh rfl ?_ ?_
     ·simp[go_sem,zh _ _ _ _ _ _ _ _ _ _ _ _ _ _ _ _ _ _ kj,Ap _ _ _ _ _ _ _ _ _ _ _ _ _ _ _ _ _ _ kj,zq _ _ _ _ _ _ _ _ _ _ _ _ _ _ _ _ _ _ kj,zu _ _ _ _ _ _ _ _ _ _ _ _ _ _ _ _ _ _ kj]
     ·refine(LG.out W hB).mono ?_;rintro e W2 ⟨rfl,aA⟩;refine⟨_,rfl, ?_⟩;show ∃ bX,_;rw[Ah];exact⟨_,_,_,_,_,_,_,_,_,_,_,_,_,_,_,_,_,rfl,fun h=>h0 ((ag h).resolve_left (by decide)),fun h=>h1 ((ag h).resolve_left (by decide)),fun h=>h2 ((ag h).resolve_left (by decide)),fun h=>h3 ((ag h).resolve_left (by decide)),fun h=>h4 ((ag h).resolve_left (by decide)),fun h=>h5 ((ag h).resolve_left (by decide)),fun h=>h6 ((ag h).resolve_left (by decide)),fun h=>h7 ((ag h).resolve_left (by decide)),fun h=>h8 ((ag h).resolve_left (by decide)),fun h=>h9 ((ag h).resolve_left (by decide)),fun h=>qh ((ag h).resolve_left (by decide)),fun h=>qb ((ag h).resolve_left (by decide)),fun h=>jr ((ag h).resolve_left (by decide)),fun h=>qf ((ag h).resolve_left (by decide)),fun h=>qm ((ag h).resolve_left (by decide)),fun _=>rfl,fun h=>lr ((ag h).resolve_left (by decide)),(by simpa using po),Or.inl ⟨by rw[getD_set_ne _ (show (15:Nat)≠17 by decide)];exact jo,aa hB aA⟩⟩
    ·have kh:=ho;simp at ho;subst ho;have e1:=(h1 (av ⟨1,.data⟩ (by simp) rfl)).symm;subst e1;have e7:=(h7 (av ⟨7,.data⟩ (by simp) rfl)).symm;subst e7;refine bI (v:=.pointer (some ⟨g,p,none⟩)) (w':=W) kh rfl ?_ ?_
     ·simp[execOp,go_sem,yJ _ _ _ _ _ _ _ _ _ _ _ _ _ _ _ _ _ _ kj,zl _ _ _ _ _ _ _ _ _ _ _ _ _ _ _ _ _ _ kj,hpi]
     ·show ∃ bX,_;rw[yO];exact⟨_,_,_,_,_,_,_,_,_,_,_,_,_,_,_,_,_,rfl,fun h=>h0 ((ag h).resolve_left (by decide)),fun h=>h1 ((ag h).resolve_left (by decide)),fun h=>h2 ((ag h).resolve_left (by decide)),fun h=>h3 ((ag h).resolve_left (by decide)),fun h=>h4 ((ag h).resolve_left (by decide)),fun h=>h5 ((ag h).resolve_left (by decide)),fun h=>h6 ((ag h).resolve_left (by decide)),fun h=>h7 ((ag h).resolve_left (by decide)),fun h=>h8 ((ag h).resolve_left (by decide)),fun h=>h9 ((ag h).resolve_left (by decide)),fun h=>qh ((ag h).resolve_left (by decide)),fun h=>qb ((ag h).resolve_left (by decide)),fun h=>jr ((ag h).resolve_left (by decide)),fun h=>qf ((ag h).resolve_left (by decide)),fun h=>qm ((ag h).resolve_left (by decide)),fun h=>ql ((ag h).resolve_left (by decide)),fun _=>rfl,(by simpa using po),Or.inl ⟨by rw[getD_set_ne _ (show (16:Nat)≠17 by decide)];exact jo,hB⟩⟩
    ·have kh:=ho;simp at ho;subst ho;have e16:=(lr (av ⟨16,.data⟩ (by simp) rfl)).symm;subst e16;have e15:=(ql (av ⟨15,.data⟩ (by simp) rfl)).symm;subst e15;refine p8 (w':=W.setCell ⟨g,p,none⟩ (.string zz)) kh rfl ?_ ?_
     ·simp[execOp,go_sem,yF _ _ _ _ _ _ _ _ _ _ _ _ _ _ _ _ _ _ kj,yV _ _ _ _ _ _ _ _ _ _ _ _ _ _ _ _ _ _ kj,Ix,hu9]
     ·show ∃ bX,_;rw[za];exact⟨_,_,_,_,_,_,_,_,_,_,_,_,_,_,_,_,_,rfl,fun h=>h0 ((ag h).resolve_left (by decide)),fun h=>h1 ((ag h).resolve_left (by decide)),fun h=>h2 ((ag h).resolve_left (by decide)),fun h=>h3 ((ag h).resolve_left (by decide)),fun h=>h4 ((ag h).resolve_left (by decide)),fun h=>h5 ((ag h).resolve_left (by decide)),fun h=>h6 ((ag h).resolve_left (by decide)),fun h=>h7 ((ag h).resolve_left (by decide)),fun h=>h8 ((ag h).resolve_left (by decide)),fun h=>h9 ((ag h).resolve_left (by decide)),fun h=>qh ((ag h).resolve_left (by decide)),fun h=>qb ((ag h).resolve_left (by decide)),fun h=>jr ((ag h).resolve_left (by decide)),fun h=>qf ((ag h).resolve_left (by decide)),fun h=>qm ((ag h).resolve_left (by decide)),fun h=>ql ((ag h).resolve_left (by decide)),fun h=>lr ((ag h).resolve_left (by decide)),(by simpa using po),Or.inr ⟨jl hun,W,hB,rfl⟩⟩
   ·rintro l a W ⟨bX,cY,dc,da,cW,cV,cG,cO,cT,cS,cQ,cH,cB,cP,cU,cX,cZ,rfl,h0,h1,h2,h3,h4,h5,h6,h7,h8,h9,qh,qb,jr,qf,qm,ql,lr,po,hw⟩ hr;have L:=uo hr (by kernel_rfl) po;have e0:=(h0 (L 0 (by decide))).symm;subst e0;have e1:=(h1 (L 1 (by decide))).symm;subst e1;have e2:=(h2 (L 2 (by decide))).symm;subst e2;have e3:=(h3 (L 3 (by decide))).symm;subst e3;have e4:=(h4 (L 4 (by decide))).symm;subst e4;have e5:=(h5 (L 5 (by decide))).symm;subst e5;have e6:=(h6 (L 6 (by decide))).symm;subst e6;have e7:=(h7 (L 7 (by decide))).symm;subst e7;have e8:=(h8 (L 8 (by decide))).symm;subst e8;have e9:=(h9 (L 9 (by decide))).symm;subst e9;have e10:=(qh (L 10 (by decide))).symm;subst e10;have e11:=(qb (L 11 (by decide))).symm;subst e11;have e12:=(jr (L 12 (by decide))).symm;subst e12;have e13:=(qf (L 13 (by decide))).symm;subst e13;have e14:=(qm (L 14 (by decide))).symm;subst e14;have e15:=(ql (L 15 (by decide))).symm;subst e15;have e16:=(lr (L 16 (by decide))).symm;subst e16;rcases hw with⟨jo,_⟩|⟨_,W0,hB,rfl⟩
    ·rw[L 17 (by decide)]at jo;cases jo
    ·subst Fg;simp[ck,Act.put];clear hr L po;go_wp2;go_roundw
     case rel=>exact⟨q+1,by have:=HPQ.out.1;omega,by go_num,J2.out _ hB⟩
     case measure=>have:=HPQ.out.1;simp[intOf];omega
   ·refine⟨_,_,_,_,_,_,_,_,_,_,_,_,_,_,_,_,_,Cq a0, ?_⟩;exact⟨fun h=>absurd h Bool.false_ne_true,fun h=>absurd h Bool.false_ne_true,fun h=>absurd h Bool.false_ne_true,fun h=>absurd h Bool.false_ne_true,fun h=>absurd h Bool.false_ne_true,fun h=>absurd h Bool.false_ne_true,fun h=>absurd h Bool.false_ne_true,fun h=>absurd h Bool.false_ne_true,fun h=>absurd h Bool.false_ne_true,fun h=>absurd h Bool.false_ne_true,fun h=>absurd h Bool.false_ne_true,fun h=>absurd h Bool.false_ne_true,fun h=>absurd h Bool.false_ne_true,fun h=>absurd h Bool.false_ne_true,fun h=>absurd h Bool.false_ne_true,fun h=>absurd h Bool.false_ne_true,fun h=>absurd h Bool.false_ne_true,rfl,Or.inl ⟨rfl,by repeat(first|exact br|refine Below.drew ?_)⟩⟩
   ·exact fq.none _ (ji 18)
   ·exact Nat.le_of_eq (by kernel_rfl)
  ·obtain rfl:q=row.length:=by omega
   have FR:Hid (bl ss ms o.kind o.values=vs):=by show bl _ _ _ _=_;rw[HF.out,FK.out,List.take_length]
   clear Lb FM uS gk gQ;have hR:=HI.out.own;have hF:=hR.frozen;have z2:=hR.lt;obtain⟨y0,ke⟩:=hR.cell 0 (by omega);obtain⟨y1,kg⟩:=hR.cell 1 (by omega);obtain⟨y2,kk⟩:=hR.cell 2 (by omega);obtain⟨y3,kf⟩:=hR.cell 3 (by omega);obtain⟨y4,sO⟩:=hR.cell 4 (by omega);obtain⟨y5,sJ⟩:=hR.cell 5 (by omega);obtain⟨y6,sM⟩:=hR.cell 6 (by omega);clear hR;go_wp2;obtain⟨r,_,t1,t2,t3,t4,t5⟩:=HI.out.out [.string o.kind,.string o.name,.string o.team,.slice a1 n1 d1,.bool o.ending,.slice a2 n2 d2,.int .i64 o.version] rfl;have r0:(((((((wr.setCell ⟨w.heap.size+1,0,none⟩ (.string o.kind)).setCell ⟨w.heap.size+1,1,none⟩ (.string o.name)).setCell ⟨w.heap.size+1,2,none⟩ (.string o.team)).setCell ⟨w.heap.size+1,3,none⟩ (.slice a1 n1 d1)).setCell ⟨w.heap.size+1,4,none⟩ (.bool o.ending)).setCell ⟨w.heap.size+1,5,none⟩ (.slice a2 n2 d2)).setCell ⟨w.heap.size+1,6,none⟩ (.int .i64 o.version)).cell? ⟨w.heap.size+1,0,none⟩=some (.string o.kind):=r 0 (by omega);have r1:(((((((wr.setCell ⟨w.heap.size+1,0,none⟩ (.string o.kind)).setCell ⟨w.heap.size+1,1,none⟩ (.string o.name)).setCell ⟨w.heap.size+1,2,none⟩ (.string o.team)).setCell ⟨w.heap.size+1,3,none⟩ (.slice a1 n1 d1)).setCell ⟨w.heap.size+1,4,none⟩ (.bool o.ending)).setCell ⟨w.heap.size+1,5,none⟩ (.slice a2 n2 d2)).setCell ⟨w.heap.size+1,6,none⟩ (.int .i64 o.version)).cell? ⟨w.heap.size+1,1,none⟩=some (.string o.name):=r 1 (by omega);have r2:(((((((wr.setCell ⟨w.heap.size+1,0,none⟩ (.string o.kind)).setCell ⟨w.heap.size+1,1,none⟩ (.string o.name)).setCell ⟨w.heap.size+1,2,none⟩ (.string o.team)).setCell ⟨w.heap.size+1,3,none⟩ (.slice a1 n1 d1)).setCell ⟨w.heap.size+1,4,none⟩ (.bool o.ending)).setCell ⟨w.heap.size+1,5,none⟩ (.slice a2 n2 d2)).setCell ⟨w.heap.size+1,6,none⟩ (.int .i64 o.version)).cell? ⟨w.heap.size+1,2,none⟩=some (.string o.team):=r 2 (by omega);have r3:(((((((wr.setCell ⟨w.heap.size+1,0,none⟩ (.string o.kind)).setCell ⟨w.heap.size+1,1,none⟩ (.string o.name)).setCell ⟨w.heap.size+1,2,none⟩ (.string o.team)).setCell ⟨w.heap.size+1,3,none⟩ (.slice a1 n1 d1)).setCell ⟨w.heap.size+1,4,none⟩ (.bool o.ending)).setCell ⟨w.heap.size+1,5,none⟩ (.slice a2 n2 d2)).setCell ⟨w.heap.size+1,6,none⟩ (.int .i64 o.version)).cell? ⟨w.heap.size+1,3,none⟩=some (.slice a1 n1 d1):=r 3 (by omega);have r4:(((((((wr.setCell ⟨w.heap.size+1,0,none⟩ (.string o.kind)).setCell ⟨w.heap.size+1,1,none⟩ (.string o.name)).setCell ⟨w.heap.size+1,2,none⟩ (.string o.team)).setCell ⟨w.heap.size+1,3,none⟩ (.slice a1 n1 d1)).setCell ⟨w.heap.size+1,4,none⟩ (.bool o.ending)).setCell ⟨w.heap.size+1,5,none⟩ (.slice a2 n2 d2)).setCell ⟨w.heap.size+1,6,none⟩ (.int .i64 o.version)).cell? ⟨w.heap.size+1,4,none⟩=some (.bool o.ending):=r 4 (by omega);have r5:(((((((wr.setCell ⟨w.heap.size+1,0,none⟩ (.string o.kind)).setCell ⟨w.heap.size+1,1,none⟩ (.string o.name)).setCell ⟨w.heap.size+1,2,none⟩ (.string o.team)).setCell ⟨w.heap.size+1,3,none⟩ (.slice a1 n1 d1)).setCell ⟨w.heap.size+1,4,none⟩ (.bool o.ending)).setCell ⟨w.heap.size+1,5,none⟩ (.slice a2 n2 d2)).setCell ⟨w.heap.size+1,6,none⟩ (.int .i64 o.version)).cell? ⟨w.heap.size+1,5,none⟩=some (.slice a2 n2 d2):=r 5 (by omega);have r6:(((((((wr.setCell ⟨w.heap.size+1,0,none⟩ (.string o.kind)).setCell ⟨w.heap.size+1,1,none⟩ (.string o.name)).setCell ⟨w.heap.size+1,2,none⟩ (.string o.team)).setCell ⟨w.heap.size+1,3,none⟩ (.slice a1 n1 d1)).setCell ⟨w.heap.size+1,4,none⟩ (.bool o.ending)).setCell ⟨w.heap.size+1,5,none⟩ (.slice a2 n2 d2)).setCell ⟨w.heap.size+1,6,none⟩ (.int .i64 o.version)).cell? ⟨w.heap.size+1,6,none⟩=some (.int .i64 o.version):=r 6 (by omega);refine bodyPost_ret (v:=.agg #[.string o.kind,.string o.name,.string o.team,.slice a1 n1 d1,.bool o.ending,.slice a2 n2 d2,.int .i64 o.version]) (by simp only[results,Tryz.results122];simp[go_sem,r0,r1,r2,r3,r4,r5,r6]) rfl ⟨⟨_,_,_,_,_,_,mid,rfl, ?_,t2,t3,t4⟩,t5⟩;rw[FR.out];exact t1
end Go.Proofs.YtbiokpmdghmgcaaGreat
