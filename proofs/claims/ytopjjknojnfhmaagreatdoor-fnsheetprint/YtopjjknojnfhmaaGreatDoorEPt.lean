import Derived.Test.YtopjjknojnfhmaaGreatDoorEPp
namespace Go.Proofs.YtopjjknojnfhmaaGreatDoor.Pl
def putAt {α:Type} (p:α→Bool) (l:List α) (x:α):List α:=l.takeWhile p++x::l.dropWhile p
def ck (kind:ByteArray) (l:List Ln) (x:Ln):List Ln:=putAt (fun y=>aL kind y x) l x
def dO (l:List Bl) (x:Bl):List Bl:=putAt (fun y=>ahead y x) l x
theorem IY {α:Type} (d:α) (p:α→Bool):∀ (l:List α) (k:Nat),k≤l.length→(∀ j,j<k→p (l.getD j d)=true)→(k=l.length∨p (l.getD k d)=false)→l.takeWhile p=l.take k∧l.dropWhile p=l.drop k
 |[],k,hk,_,_=>by simp
 |y::l,0,_,_,h=>by
  have:p y=false:=by
   rcases h with h|h
   ·simp at h
   ·simpa using h
  simp[this]
 |y::l,k+1,hk,ha,h=>by
  have hy:p y=true:=by simpa using ha 0 (by omega)
  obtain⟨h1,h2⟩:=IY d p l k (by simpa using hk) (fun j hj=>by simpa using ha (j+1) (by omega)) (by simpa using h);simp[hy,h1,h2]
theorem vz {α:Type} (d:α) (p:α→Bool) (l:List α) (x:α) (k:Nat) (hk:k≤l.length) (ha:∀ j,j<k→p (l.getD j d)=true) (h:k=l.length∨p (l.getD k d)=false):putAt p l x=l.take k++x::l.drop k:=by
 obtain⟨h1,h2⟩:=IY d p l k hk ha h;rw[putAt,h1,h2]
end Go.Proofs.YtopjjknojnfhmaaGreatDoor.Pl
