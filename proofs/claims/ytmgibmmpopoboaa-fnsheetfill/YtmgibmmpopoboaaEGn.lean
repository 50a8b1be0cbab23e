import Derived.Test.YtmgibmmpopoboaaESd
import Derived.Test.YtmgibmmpopoboaaEPg
namespace Go.Proofs.Ytmgibmmpopoboaa
open Go.RowKit Go.Deep
theorem Ae:∀ ws:List ByteArray,ws.length+wtL (txD ws)=Pl.wtx ws
 |[]=>by simp[txD,wtL,Pl.wtx]
 |x::ws=>by
  have:=Ae ws;unfold Pl.wtx txD at this ⊢;rw[List.map_cons,wtL,List.map_cons,List.sum_cons,List.length_cons];omega
theorem IT (x:Pl.Ln):wtL (lnD x)=Pl.wln x:=by
 unfold lnD Pl.wln;rw[wtL,wtL,wtL];have:=Ae x.ws;omega
theorem qu:∀ l:List Pl.Ln,l.length+wtL (l.flatMap lnD)=(l.map fun x=>Pl.wln x+1).sum
 |[]=>by simp[wtL]
 |x::l=>by
  have:=qu l;rw[List.flatMap_cons,jx,IT,List.map_cons,List.sum_cons,List.length_cons];omega
theorem II (b:Pl.Bl):wtL (blD b)=Pl.wbl b:=by
 unfold blD aU Pl.wbl;rw[wtL,wtL,wtL,wtL];have:=qu b.lines;omega
theorem Ax:∀ s:List Pl.Bl,s.length+wtL (s.flatMap blD)=Pl.wsh s
 |[]=>by simp[wtL,Pl.wsh]
 |x::l=>by
  have:=Ax l;unfold Pl.wsh at this ⊢;rw[List.flatMap_cons,jx,II,List.map_cons,List.sum_cons,List.length_cons];omega
theorem gU (s:List Pl.Bl):wtL [aW s]=Pl.wsh s:=by
 unfold aW;rw[wtL,wtL];have:=Ax s;omega
theorem Cl (ws:List ByteArray):ws.length≤Pl.wtx ws:=by have:=Ae ws;omega
theorem iP (s:List Pl.Bl) (h:Pl.wsh s≤1048576):∀ b∈s,b.lines.length≤4194304∧∀ x∈b.lines,x.ws.length≤4194304:=fun b hb=>by
 have h1:=Pl.eX (fun b=>Pl.wbl b+1) s b hb;have h2:Pl.wbl b=b.kind.size+b.name.size+(b.lines.map fun x=>Pl.wln x+1).sum:=rfl;have h3:=qu b.lines;have h4:Pl.wsh s=(s.map fun b=>Pl.wbl b+1).sum:=rfl;refine⟨by omega,fun x hx=> ?_⟩;have h5:=Pl.eX (fun x=>Pl.wln x+1) b.lines x hx;have h6:Pl.wln x=x.key.size+Pl.wtx x.ws:=rfl;have h7:=Cl x.ws;omega
theorem j5 (kind:ByteArray):∀ x∈Pl.aj kind,x.dflt.length≤4194304:=by
 unfold Pl.aj;split
 ·decide
 ·split
  ·decide
  ·split<;>decide
end Go.Proofs.Ytmgibmmpopoboaa
