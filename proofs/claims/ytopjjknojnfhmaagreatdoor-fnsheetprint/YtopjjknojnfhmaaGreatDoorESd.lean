import Derived.Test.YtopjjknojnfhmaaGreatDoorECs
import Derived.Test.YtopjjknojnfhmaaGreatDoorEPs
import Derived.Test.YtopjjknojnfhmaaGreatDoorETx
namespace Go.Proofs.YtopjjknojnfhmaaGreatDoor
open Go.RowKit Go.Deep
abbrev aA:List Sh:=[.s,.row 9 [.s]]
abbrev ak:List Sh:=[.s,.s,.row 46 aA]
abbrev eU:List Sh:=[.row 41 ak]
theorem sX {ds:List Dt} (h:Typ aA ds):∃ a0 n1 e1,ds=[.s a0,.row n1 e1]∧Typ (bf n1 [.s]) e1:=by
 obtain⟨a0,x0,rfl,h1⟩:=h.c_s;obtain⟨n1,e1,x1,rfl,t1,h2⟩:=h1.c_r;obtain rfl:=h2.c_n;exact⟨a0,n1,e1,rfl,t1⟩
theorem fR {w:World} {tt:Bool} {F:List Nat} {a0:ByteArray} {n1:Nat} {e1:List Dt} {cs:List Value} (h:Rep w tt aA F [.s a0,.row n1 e1] cs):∃ F1 v1,F=F1++[]∧cs=[.string a0,v1]∧Rep w tt [.row 9 [.s]] F1 [.row n1 e1] [v1]:=by
 obtain⟨x0,rfl,h1⟩:=h.c_s;obtain⟨F1,G1,v1,x1,rfl,rfl,t1,h2⟩:=h1.c_r;obtain⟨rfl,rfl⟩:=h2.c_n;exact⟨F1,v1,rfl,rfl,t1⟩
theorem sB {w:World} {a0:ByteArray} {n1:Nat} {e1:List Dt} {cs:List Value} (h:Raw w aA [.s a0,.row n1 e1] cs):∃ v1,cs=[.string a0,v1]∧Raw w [.row 9 [.s]] [.row n1 e1] [v1]:=by
 obtain⟨x0,rfl,h1⟩:=h.c_s;obtain⟨v1,x1,rfl,t1,h2⟩:=h1.c_r;obtain rfl:=h2.c_n;exact⟨v1,rfl,t1⟩
theorem eF {w:World} {tt:Bool} (a0:ByteArray) {F1:List Nat} {n1:Nat} {e1:List Dt} {v1:Value} (h1:Rep w tt [.row 9 [.s]] F1 [.row n1 e1] [v1]):Rep w tt aA (F1++[]) [.s a0,.row n1 e1] [.string a0,v1]:=
 (.s a0 (h1.app .nil))
theorem qH {ds:List Dt} (h:Typ ak ds):∃ a0 a1 n2 e2,ds=[.s a0,.s a1,.row n2 e2]∧Typ (bf n2 aA) e2:=by
 obtain⟨a0,x0,rfl,h1⟩:=h.c_s;obtain⟨a1,x1,rfl,h2⟩:=h1.c_s;obtain⟨n2,e2,x2,rfl,t2,h3⟩:=h2.c_r;obtain rfl:=h3.c_n;exact⟨a0,a1,n2,e2,rfl,t2⟩
theorem ku {w:World} {tt:Bool} {F:List Nat} {a0:ByteArray} {a1:ByteArray} {n2:Nat} {e2:List Dt} {cs:List Value} (h:Rep w tt ak F [.s a0,.s a1,.row n2 e2] cs):∃ F2 v2,F=F2++[]∧cs=[.string a0,.string a1,v2]∧Rep w tt [.row 46 aA] F2 [.row n2 e2] [v2]:=by
 obtain⟨x0,rfl,h1⟩:=h.c_s;obtain⟨x1,rfl,h2⟩:=h1.c_s;obtain⟨F2,G2,v2,x2,rfl,rfl,t2,h3⟩:=h2.c_r;obtain⟨rfl,rfl⟩:=h3.c_n;exact⟨F2,v2,rfl,rfl,t2⟩
theorem kv {w:World} {a0:ByteArray} {a1:ByteArray} {n2:Nat} {e2:List Dt} {cs:List Value} (h:Raw w ak [.s a0,.s a1,.row n2 e2] cs):∃ v2,cs=[.string a0,.string a1,v2]∧Raw w [.row 46 aA] [.row n2 e2] [v2]:=by
 obtain⟨x0,rfl,h1⟩:=h.c_s;obtain⟨x1,rfl,h2⟩:=h1.c_s;obtain⟨v2,x2,rfl,t2,h3⟩:=h2.c_r;obtain rfl:=h3.c_n;exact⟨v2,rfl,t2⟩
theorem bG {w:World} {tt:Bool} (a0:ByteArray) (a1:ByteArray) {F2:List Nat} {n2:Nat} {e2:List Dt} {v2:Value} (h2:Rep w tt [.row 46 aA] F2 [.row n2 e2] [v2]):Rep w tt ak (F2++[]) [.s a0,.s a1,.row n2 e2] [.string a0,.string a1,v2]:=
 (.s a0 (.s a1 (h2.app .nil)))
theorem mj {w:World} (a0:ByteArray) (a1:ByteArray) {n2:Nat} {e2:List Dt} {v2:Value} (h2:Raw w [.row 46 aA] [.row n2 e2] [v2]):Raw w ak [.s a0,.s a1,.row n2 e2] [.string a0,.string a1,v2]:=
 (.s a0 (.s a1 (h2.app .nil)))
theorem DX {ds:List Dt} (h:Typ eU ds):∃ n0 e0,ds=[.row n0 e0]∧Typ (bf n0 ak) e0:=by
 obtain⟨n0,e0,x0,rfl,t0,h1⟩:=h.c_r;obtain rfl:=h1.c_n;exact⟨n0,e0,rfl,t0⟩
theorem jC {w:World} {tt:Bool} {F:List Nat} {n0:Nat} {e0:List Dt} {cs:List Value} (h:Rep w tt eU F [.row n0 e0] cs):∃ F0 v0,F=F0++[]∧cs=[v0]∧Rep w tt [.row 41 ak] F0 [.row n0 e0] [v0]:=by
 obtain⟨F0,G0,v0,x0,rfl,rfl,t0,h1⟩:=h.c_r;obtain⟨rfl,rfl⟩:=h1.c_n;exact⟨F0,v0,rfl,rfl,t0⟩
theorem nj {w:World} {tt:Bool} {F0:List Nat} {n0:Nat} {e0:List Dt} {v0:Value} (h0:Rep w tt [.row 41 ak] F0 [.row n0 e0] [v0]):Rep w tt eU (F0++[]) [.row n0 e0] [v0]:=
 (h0.app .nil)
def lnD (x:Pl.Ln):List Dt:=[.s x.key,.row x.ws.length (txD x.ws)]
def bT (l:List Pl.Ln):Dt:=.row l.length (l.flatMap lnD)
def blD (b:Pl.Bl):List Dt:=[.s b.kind,.s b.name,bT b.lines]
def bD (s:List Pl.Bl):Dt:=.row s.length (s.flatMap blD)
theorem oq (x:Pl.Ln):(lnD x).length=2:=rfl
theorem lE (x:Pl.Bl):(blD x).length=3:=rfl
abbrev bB:List Sh:=[.row 9 [.s]]
abbrev bF:List Sh:=[.row 46 aA]
abbrev bu:List Sh:=[.row 41 ak]
theorem dS {W:World} {ws:List ByteArray} {v:Value} (h:Raw W bB [.row ws.length (txD ws)] [v]):(ws.length=0∧∃ a c,v=.slice a 0 c)∨∃ p o c,v=.slice (some ⟨p,o,none⟩) ws.length c∧p<W.heap.size∧ws.length≤maxLen∧∀ k,k<ws.length→W.cell? ⟨p,o+k,none⟩=some (.string (ws.getD k Pl.aJ)):=by
 rcases h.slice with⟨e0,_,a,c,e⟩|⟨p,o,c,hv,hp,fK,vs,hr,hR⟩
 ·exact Or.inl ⟨e0,a,c,e⟩
 ·refine Or.inr ⟨p,o,c,hv,hp,fK.1,fun k hk=> ?_⟩;obtain⟨ve,hE,hg⟩:=hR.el hk hr;have e:el ([Sh.s]:List Sh).length k (txD ws)=[.s (ws.getD k Pl.aJ)]:=gO Pl.aJ Dt.s ws k hk;rw[e]at hE;obtain rfl:=zj hE;have:=aE hg 0 _ rfl;simpa using this
theorem cE {W:World} {l:List Pl.Ln} {v:Value} (h:Raw W bF [bT l] [v]):(l.length=0∧∃ a c,v=.slice a 0 c)∨∃ p o c,v=.slice (some ⟨p,o,none⟩) l.length c∧p<W.heap.size∧l.length≤maxLen∧∀ k,k<l.length→∃ a c',W.rangeAt p (o+k*2) [.string (l.getD k Pl.aK).key,.slice a (l.getD k Pl.aK).ws.length c']∧Raw W bB [.row (l.getD k Pl.aK).ws.length (txD (l.getD k Pl.aK).ws)] [.slice a (l.getD k Pl.aK).ws.length c']:=by
 rcases h.slice with⟨e0,_,a,c,e⟩|⟨p,o,c,hv,hp,fK,vs,hr,hR⟩
 ·exact Or.inl ⟨e0,a,c,e⟩
 ·refine Or.inr ⟨p,o,c,hv,hp,fK.1,fun k hk=> ?_⟩;obtain⟨ve,hE,hg⟩:=hR.el hk hr;have e:el aA.length k (l.flatMap lnD)=lnD (l.getD k Pl.aK):=j8 Pl.aK lnD 2 oq l k hk;rw[e]at hE;obtain⟨v1,hc,r1⟩:=sB hE;subst hc;obtain⟨a1,c1,h1⟩:=r1.bm;subst h1;exact⟨a1,c1,hg,r1⟩
theorem db {W:World} {s:List Pl.Bl} {v:Value} (h:Raw W bu [bD s] [v]):(s.length=0∧∃ a c,v=.slice a 0 c)∨∃ p o c,v=.slice (some ⟨p,o,none⟩) s.length c∧p<W.heap.size∧s.length≤maxLen∧∀ k,k<s.length→∃ a c',W.rangeAt p (o+k*3) [.string (s.getD k Pl.aN).kind,.string (s.getD k Pl.aN).name,.slice a (s.getD k Pl.aN).lines.length c']∧Raw W bF [bT (s.getD k Pl.aN).lines] [.slice a (s.getD k Pl.aN).lines.length c']:=by
 rcases h.slice with⟨e0,_,a,c,e⟩|⟨p,o,c,hv,hp,fK,vs,hr,hR⟩
 ·exact Or.inl ⟨e0,a,c,e⟩
 ·refine Or.inr ⟨p,o,c,hv,hp,fK.1,fun k hk=> ?_⟩;obtain⟨ve,hE,hg⟩:=hR.el hk hr;have e:el ak.length k (s.flatMap blD)=blD (s.getD k Pl.aN):=j8 Pl.aN blD 3 lE s k hk;rw[e]at hE;obtain⟨v1,hc,r1⟩:=kv hE;subst hc;obtain⟨a1,c1,h1⟩:=r1.bm;subst h1;exact⟨a1,c1,hg,r1⟩
end Go.Proofs.YtopjjknojnfhmaaGreatDoor
