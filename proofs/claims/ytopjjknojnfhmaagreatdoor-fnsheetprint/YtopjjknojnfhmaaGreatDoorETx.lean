import Derived.Test.YtopjjknojnfhmaaGreatDoorEBy
namespace Go.Proofs.YtopjjknojnfhmaaGreatDoor
open Go.RowKit Go.Deep
theorem Tryz.gS:Tryz.prog.underlying 44=some (.slice 9):=by kernel_rfl
theorem Tryz.bA:(Tryz.prog.info? 9).map (fun i=>(i.zero,i.size,i.bytes))=some (some (.string {data:=#[]}),1,16):=by kernel_rfl
def txV (l:List ByteArray):List Value:=l.map .string
def txD (l:List ByteArray):List Dt:=l.map .s
def TxR (W:World) (lo:Nat) (v:Value) (l:List ByteArray):Prop:=W.ownsRow lo 9 1 v l.length (txV l)
theorem TxR.later {W W':World} {lo:Nat} {v:Value} {l:List ByteArray} (h:TxR W lo v l) (hb:Bel W W'):TxR W' lo v l:=eA h hb
theorem TxR.nil (W:World) (lo:Nat):TxR W lo (.slice none 0 0) []:=World.ownsRow_nil ..
theorem TxR.shape {W:World} {lo:Nat} {v:Value} {l:List ByteArray} (h:TxR W lo v l):∃ a c,v=.slice a l.length c:=by
 rcases h.2 with⟨e,h0⟩|⟨g,cap,_,e,_⟩
 ·exact⟨none,0,by rw[e,h0]⟩
 ·exact⟨_,_,e⟩
theorem TxR.below {W w':World} {a:World} {lo:Nat} {v:Value} {l:List ByteArray} (h:TxR W lo v l) (hb:Bel a W) (hg:W.grownBy w' v.ownBlock) (bR:a.heap.size≤lo):Bel a w':=
 Below.grown hb hg hb.size fun q hq=>by have:=(World.ownsRow.lt h q hq).1;omega
theorem sy (a b:List ByteArray):txV (a++b)=txV a++txV b:=List.map_append
theorem sZ (a:List ByteArray):(txV a).length=a.length:=List.length_map ..
theorem IN (W:World) (tt:Bool):∀ l:List ByteArray,Rep W tt (bf l.length [.s]) [] (txD l) (txV l)
 |[]=> .nil
 |x::l=>by rw[List.length_cons,bW];exact .s x (IN W tt l)
theorem TxR.gr {W:World} {lo:Nat} {v:Value} {l:List ByteArray} (h:TxR W lo v l):Gr W lo 9 [.s] v l.length [] (txD l) (txV l):=⟨h,IN W false l,List.nodup_nil,by simp⟩
theorem TxR.done {W:World} {lo:Nat} {v:Value} {l:List ByteArray} (h:TxR W lo v l):∃ F,Rep W false [.row 9 [.s]] F [.row l.length (txD l)] [v]∧F.Nodup∧∀ b∈F,lo≤b:=h.gr.done
theorem Gl {w:World} {ops:Array Oper} {rest:List Oper} {o:Oper} {a:Act} {Q:Exit→Act→World→Prop} (nN:o.guard=none) (s x:Operand)
  (ho:o.op=.call {callee:=.builtin .append,args:=#[s,x],argTypes:=#[44,44]}) (lo:Nat) (v:Value) (l:List ByteArray) (hs:a.eval s=v) (ff:TxR w lo v l)
  (B m c:Nat) (news:List ByteArray) (hx:a.eval x=.slice (some ⟨B,0,none⟩) m c) (hl:news.length=m) (hnews:∀ j u,(txV news)[j]? =some u→w.cell? ((⟨B,0,none⟩:Addr).add j)=some u)
  (hm:0<m) (h63:l.length+m≤1073741824) (bR:lo≤w.heap.size)
  (h:∀ g cap w',TxR w' lo (.slice (some ⟨g,0,none⟩) (l.length+m) cap) (l++news)→w.grownBy w' v.ownBlock→wpList Tryz.prog ops Q rest (a.put o.dst (.slice (some ⟨g,0,none⟩) (l.length+m) cap)) w'):wpList Tryz.prog ops Q (o::rest) a w:=by
 obtain⟨i0,hi,ga,dJ,gH⟩:=ji Tryz.bA;refine wpList_append_lies w nN s x 44 ho lo 9 i0 _ 1 16 Tryz.gS hi ga dJ gH rfl (by omega) v l.length (txV l) hs ff ⟨B,0,none⟩ m c (txV news) hx (by rw[sZ,hl,Nat.mul_one]) hnews
  (fun u hu=>by obtain⟨b,_,rfl⟩:=List.mem_map.1 hu;rfl) hm (by unfold maxLen;omega) (by omega) bR _ rfl fun g cap w' q1 q2 _ _=>h g cap w' ?_ q2
 unfold TxR;rw[sy,List.length_append,hl];exact q1
theorem xP {w:World} {lo:Nat} {v:Value} {l:List ByteArray} (ff:TxR w lo v l) (ty:TypeId)
  (B m c:Nat) (news:List ByteArray) (hl:news.length=m) (hnews:∀ j u,(txV news)[j]? =some u→w.cell? ((⟨B,0,none⟩:Addr).add j)=some u)
  (hm:0<m) (h63:l.length+m≤1073741824) (bR:lo≤w.heap.size):
  ∃ g cap w',(Builtin.append_ #[44,44] ty #[v,.slice (some ⟨B,0,none⟩) m c]).run Tryz.prog w=.ok (.slice (some ⟨g,0,none⟩) (l.length+m) cap) w'∧
   TxR w' lo (.slice (some ⟨g,0,none⟩) (l.length+m) cap) (l++news)∧w.grownBy w' v.ownBlock:=by
 obtain⟨i0,hi,ga,dJ,gH⟩:=ji Tryz.bA;obtain⟨g,cap,w',h1,h2,h3,_⟩:=run_append_lies (P:=Tryz.prog) w 44 ty lo 9 i0 _ 1 16 Tryz.gS hi ga dJ gH rfl (by omega) v l.length (txV l) ff ⟨B,0,none⟩ m c (txV news) (by rw[sZ,hl,Nat.mul_one]) hnews
  (fun u hu=>by obtain⟨b,_,rfl⟩:=List.mem_map.1 hu;rfl) hm (by unfold maxLen;omega) (by omega) bR _ rfl
 refine⟨g,cap,w',h1, ?_,h3⟩;unfold TxR;rw[sy,List.length_append,hl];exact h2
theorem al.grow {W W':World} {row:Option Nat} {p:Nat} {u:TypeId} {cs:List Value} (h:al W p u cs) (hg:W.grownBy W' row) (hn:row≠some p):al W' p u cs:=by
 have hb:W'.heap[p]? =W.heap[p]? :=hg.block p h.own.lt (fun e=>hn e.symm);obtain⟨qO,h1,h2⟩:=h.own;exact⟨⟨qO,hb.trans h1,h2⟩,cO h.at_ fun j _=>World.cell?_of_block (a:=⟨p,0+j,none⟩) hb⟩
theorem dE {S:Nat→Prop} {W W':World} {lo e size n:Nat} {v:Value} {xs:List Value} (h:W.ownsRow lo e size v n xs) (hm:Marks S W W') (hS:∀ b,lo≤b→¬ S b):W'.ownsRow lo e size v n xs:=by
 refine⟨h.1,h.2.imp id ?_⟩;rintro⟨g,cap,cur,h1,h2,h3,h4⟩;exact⟨g,cap,cur,h1,h2,(hm.block g (Array.getElem?_eq_some_iff.1 h3).1 (hS g h2)).trans h3,h4⟩
theorem vK {W:World} {lo e size n p o:Nat} {v:Value} {xs:List Value} (h:W.ownsRow lo e size v n xs) (hp:p<lo) (cs:List Value):(W.setCells p o cs).ownsRow lo e size v n xs:=
 dE h (aM (S:=fun b=>b=p) rfl cs o W) fun b hb e=>by omega
theorem uV {α β:Type} (f:α→β):∀ l:List α,l.map f=l.flatMap fun x=> [f x]
 |[]=>rfl
 |x::l=>by rw[List.map_cons,List.flatMap_cons,uV f l];rfl
theorem gO {α:Type} (d:α) (f:α→Dt) (l:List α) (k:Nat) (h:k<l.length):el 1 k (l.map f)=[f (l.getD k d)]:=by
 have e:l.map f=l.flatMap fun x=> [f x]:=uV f l;rw[e];exact j8 d (fun x=> [f x]) 1 (fun _=>rfl) l k h
theorem IQ:∀ (n:Nat) (es:List Dt),Typ (bf n [.s]) es→∃ ws:List ByteArray,es=txD ws∧ws.length=n
 |0,es,h=>by rw[eK]at h;exact⟨[],h.c_n,rfl⟩
 |n+1,es,h=>by
  rw[bW]at h;obtain⟨x,r,rfl,h2⟩:=Typ.c_s h;obtain⟨ws,rfl,hl⟩:=IQ n r h2;exact⟨x::ws,rfl,by rw[List.length_cons,hl]⟩
end Go.Proofs.YtopjjknojnfhmaaGreatDoor
