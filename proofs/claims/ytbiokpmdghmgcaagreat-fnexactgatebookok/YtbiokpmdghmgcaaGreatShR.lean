import Derived.Test.YtbiokpmdghmgcaaGreatRel
import Derived.Test.YtbiokpmdghmgcaaGreatWalkDR
namespace Go.Proofs.YtbiokpmdghmgcaaGreat
open Go.RowKit Go.Deep
theorem kZ (a b c d e f g:Value) (W:World):(Instr.field 111 (.agg #[a,b,c,d,e,f,g]) 3).run Tryz.prog W=.ok d W:=by kernel_rfl
def VSh (p E:Nat) (s m ob vl:Value) (sv:List ByteArray) (sm:Bool):Nat→Value→World→Prop
 |0,v,_=>v=.pointer (some ⟨p,0,none⟩)
 |1,v,_=>v=s
 |2,v,_=>v=.pointer (some ⟨p,1,none⟩)
 |3,v,_=>v=m
 |4,v,_=>v=ob
 |5,v,W=>∃ v0 v1 v2 g1 n1 f1 v4 v5 v6,v=.agg #[v0,v1,v2,.slice g1 n1 f1,v4,v5,v6]∧(n1=sv.length∧TxG W g1 f1 sv)
 |6,v,W=>∃ g1 n1 f1,v=.slice g1 n1 f1∧(n1=sv.length∧TxG W g1 f1 sv)
 |7,v,_=>v=.pointer (some ⟨E,3,none⟩)
 |8,v,_=>v=vl
 |9,v,_=>v=.bool sm
 |10,v,_=>v=.bool (!sm)
 |_,_,_=>True
theorem oG (p E:Nat) (s m ob vl:Value) (sv:List ByteArray) (sm:Bool):∀ j u W W',Bel W W'→VSh p E s m ob vl sv sm j u W→VSh p E s m ob vl sv sm j u W':=by
 intro j u W W' hb h;match j,h with
 |0,h=>exact h
 |1,h=>exact h
 |2,h=>exact h
 |3,h=>exact h
 |4,h=>exact h
 |5,⟨v0,v1,v2,g1,n1,f1,v4,v5,v6,e,hn,hg⟩=>exact⟨v0,v1,v2,g1,n1,f1,v4,v5,v6,e,hn,hg.later hb⟩
 |6,⟨g1,n1,f1,e,hn,hg⟩=>exact⟨g1,n1,f1,e,hn,hg.later hb⟩
 |7,h=>exact h
 |8,h=>exact h
 |9,h=>exact h
 |10,h=>exact h
 |_+11,_=>trivial
end Go.Proofs.YtbiokpmdghmgcaaGreat
