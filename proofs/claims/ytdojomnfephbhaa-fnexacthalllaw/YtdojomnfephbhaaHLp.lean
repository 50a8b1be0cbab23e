/-
  The law of a house: plain.
-/
import Derived.Test.YtdojomnfephbhaaHPa
import Derived.Test.YtdojomnfephbhaaUC
namespace Go.Proofs.Ytdojomnfephbhaa
open Go.RowKit Go.Deep


/-- A field of a shape. -/
def fldV (nm : ByteArray) (kind least most : Int) (to_ : ByteArray) (role : Int) (must : Bool) (df wg : ByteArray) : List Value := [.string nm, .int .i64 kind, .int .i64 least, .int .i64 most, .slice none 0 0, .string to_, .int .i64 role, .bool must, .bool false, .string df, .string wg]
def fldD (nm : ByteArray) (kind least most : Int) (to_ : ByteArray) (role : Int) (must : Bool) (df wg : ByteArray) : List Dt := [.s nm, .i kind, .i least, .i most, .row 0 [], .s to_, .i role, .b must, .b false, .s df, .s wg]
theorem fldR (W : World) (nm : ByteArray) (kind least most : Int) (to_ : ByteArray) (role : Int) (must : Bool) (df wg : ByteArray) : Rep W false shGateField [] (fldD nm kind least most to_ role must df wg) (fldV nm kind least most to_ role must df wg) :=
  .s _ (.i _ (.i _ (.i _ (.emp _ _ _ rfl (.s _ (.i _ (.b _ (.b _ (.s _ (.s _ .nil))))))))))
def flds : List Value := fldV ⟨#[105, 109, 97, 103, 101]⟩ 1 1 1000 ⟨#[]⟩ 0 true ⟨#[]⟩ ⟨#[]⟩ ++ (fldV ⟨#[109, 111, 115, 116]⟩ 1 0 10 ⟨#[]⟩ 0 true ⟨#[]⟩ ⟨#[99, 111, 112, 105, 101, 115]⟩ ++ (fldV ⟨#[100, 111, 119, 110]⟩ 1 0 10 ⟨#[]⟩ 0 false ⟨#[48]⟩ ⟨#[]⟩ ++ (fldV ⟨#[111, 118, 101, 114]⟩ 1 1 10 ⟨#[]⟩ 0 false ⟨#[49]⟩ ⟨#[99, 111, 112, 105, 101, 115]⟩ ++ (fldV ⟨#[112, 101, 114]⟩ 1 1 1000000 ⟨#[]⟩ 0 false ⟨#[]⟩ ⟨#[]⟩ ++ (fldV ⟨#[111, 102]⟩ 4 0 0 ⟨#[115, 101, 114, 118, 105, 99, 101]⟩ 3 false ⟨#[]⟩ ⟨#[]⟩ ++ [])))))
def fldsD : List Dt := fldD ⟨#[105, 109, 97, 103, 101]⟩ 1 1 1000 ⟨#[]⟩ 0 true ⟨#[]⟩ ⟨#[]⟩ ++ (fldD ⟨#[109, 111, 115, 116]⟩ 1 0 10 ⟨#[]⟩ 0 true ⟨#[]⟩ ⟨#[99, 111, 112, 105, 101, 115]⟩ ++ (fldD ⟨#[100, 111, 119, 110]⟩ 1 0 10 ⟨#[]⟩ 0 false ⟨#[48]⟩ ⟨#[]⟩ ++ (fldD ⟨#[111, 118, 101, 114]⟩ 1 1 10 ⟨#[]⟩ 0 false ⟨#[49]⟩ ⟨#[99, 111, 112, 105, 101, 115]⟩ ++ (fldD ⟨#[112, 101, 114]⟩ 1 1 1000000 ⟨#[]⟩ 0 false ⟨#[]⟩ ⟨#[]⟩ ++ (fldD ⟨#[111, 102]⟩ 4 0 0 ⟨#[115, 101, 114, 118, 105, 99, 101]⟩ 3 false ⟨#[]⟩ ⟨#[]⟩ ++ [])))))
theorem flds_len : flds.length = 66 := rfl
theorem fldsR (W : World) : Rep W false (reps 6 shGateField) [] fldsD flds := by
  show Rep W false (shGateField ++ (shGateField ++ (shGateField ++ (shGateField ++ (shGateField ++ (shGateField ++ [])))))) ([] ++ ([] ++ ([] ++ ([] ++ ([] ++ ([] ++ [])))))) fldsD flds
  exact (fldR W _ _ _ _ _ _ _ _ _).app ((fldR W _ _ _ _ _ _ _ _ _).app ((fldR W _ _ _ _ _ _ _ _ _).app ((fldR W _ _ _ _ _ _ _ _ _).app ((fldR W _ _ _ _ _ _ _ _ _).app ((fldR W _ _ _ _ _ _ _ _ _).app .nil)))))
def mndV : List Value := [.string ⟨#[115, 101, 114, 118, 105, 99, 101]⟩, .string ⟨#[100, 111, 119, 110]⟩, .string ⟨#[109, 111, 115, 116]⟩, .string ⟨#[49]⟩, .string ⟨#[48]⟩, .string ⟨#[]⟩]
def mndD : List Dt := [.s ⟨#[115, 101, 114, 118, 105, 99, 101]⟩, .s ⟨#[100, 111, 119, 110]⟩, .s ⟨#[109, 111, 115, 116]⟩, .s ⟨#[49]⟩, .s ⟨#[48]⟩, .s ⟨#[]⟩]
theorem mndR (W : World) (tt : Bool) : Rep W tt shGateMend [] mndD mndV := .s _ (.s _ (.s _ (.s _ (.s _ (.s _ .nil)))))
def shpD : List Dt := [.s ⟨#[115, 101, 114, 118, 105, 99, 101]⟩, .row 6 fldsD]
/-- The law of a house. -/
def lawD (K : Hs) : List Dt := [.row 1 shpD, .row 1 mndD, .row K.tms.length (K.tms.flatMap eTm)]
theorem own_row1 {W : World} {p : Nat} {t : TypeId} {sh : List Sh} {G : List Nat} {es : List Dt} {vs : List Value} (n : Nat) (ho : OwnBlk W p t (n * sh.length)) (hn : n ≤ maxLen) (hr : W.rangeAt p 0 vs) (he : Rep W false (reps n sh) G es vs) : Rep W false [.row t sh] (p :: (G ++ [])) [.row n es] [.slice (some ⟨p, 0, none⟩) n n] :=
  .row t sh p 0 n n t (n * sh.length) vs es G ho (by omega) (by simp) ⟨hn, Nat.le_refl _⟩ hr he .nil
theorem fldsRow {W : World} {p : Nat} (h : WBox W p 47 flds) : Rep W false [.row 47 shGateField] [p] [.row 6 fldsD] [.slice (some ⟨p, 0, none⟩) 6 6] :=
  own_row1 6 h.own (by unfold maxLen; omega) h.at_ (fldsR W)
theorem shpR {W : World} {p : Nat} (h : WBox W p 47 flds) : Rep W false shGateShape [p] shpD [.string ⟨#[115, 101, 114, 118, 105, 99, 101]⟩, .slice (some ⟨p, 0, none⟩) 6 6] :=
  .s _ (fldsRow h)
theorem cnt_law (K : Hs) (hw : wtL (eHs K) ≤ 1048576) : cntT (lawD K) ≤ 1000000000 := by
  have h1 : cntL (K.tms.flatMap eTm) = K.tms.length * 2 := by
    induction K.tms with
    | nil => simp [cntL]
    | cons x xs ih => rw [List.flatMap_cons, cntL_app, ih]; simp [eTm, cntL]; omega
  simp only [eHs, wtL] at hw
  have h2 : cntL shpD = 61 := by simp [shpD, fldsD, fldD, cntL]
  have h3 : cntL mndD = 6 := by simp [mndD, cntL]
  simp only [lawD, cntT, h1, h2, h3]
  omega
theorem cnt_house {K : Hs} (t : Typ shHallHouse (eHs K)) (hw : wtL (eHs K) ≤ 1048576) : cntT (eHs K) ≤ 1000000000 := by
  have h1 := cntT_le (eHs K)
  have h2 := cnt_wt t shB_hs
  have h3 : shHallHouse.length = 2 := rfl
  omega
theorem Try.cinfoGateTeam : (Try.prog.info? 85).map (fun i => (i.zero, i.size, i.bytes)) = some (some (.agg #[.string ByteArray.empty, .string ByteArray.empty]), 2, 32) := by kernel_rfl
theorem Try.cunderGateTeam : Try.prog.underlying 29 = some (.slice 85) := by kernel_rfl
theorem Try.cinfoGateField : (Try.prog.info? 47).map (fun i => (i.zero, i.size)) = some (some (.agg #[.string ByteArray.empty, .int .i64 0, .int .i64 0, .int .i64 0, .slice none 0 0, .string ByteArray.empty, .int .i64 0, .bool false, .bool false, .string ByteArray.empty, .string ByteArray.empty]), 11) := by kernel_rfl
theorem Try.cunderGateField : Try.prog.underlying 49 = some (.slice 47) := by kernel_rfl
end Go.Proofs.Ytdojomnfephbhaa
