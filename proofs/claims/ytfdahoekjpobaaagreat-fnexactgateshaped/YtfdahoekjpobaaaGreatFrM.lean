/-
  The law's two great regions: their frames, and what is kept in them.
-/
import Derived.Test.YtfdahoekjpobaaaGreatLawJ
import Derived.Test.YtfdahoekjpobaaaGreatWalkDS
import Derived.Test.YtfdahoekjpobaaaGreatFr
namespace Go.Proofs.YtfdahoekjpobaaaGreat
open Go.RowKit Go.Deep

/-- A frame whose slots of one region are what is named. -/
def cm (a0 : Act) (s32 s33 s34 s35 s36 s37 s38 s8 : Value) : Act := ((((((((a0.put (some 32) s32).put (some 33) s33).put (some 34) s34).put (some 35) s35).put (some 36) s36).put (some 37) s37).put (some 38) s38).put (some 8) s8)

theorem cm_self (a0 : Act) : a0 = cm a0 (a0.eval (.tmp 32)) (a0.eval (.tmp 33)) (a0.eval (.tmp 34)) (a0.eval (.tmp 35)) (a0.eval (.tmp 36)) (a0.eval (.tmp 37)) (a0.eval (.tmp 38)) (a0.eval (.tmp 8)) := by
  unfold cm
  rw [put_self _ 32, put_self _ 33, put_self _ 34, put_self _ 35, put_self _ 36, put_self _ 37, put_self _ 38, put_self _ 8]

section
variable (a0 : Act) (s32 s33 s34 s35 s36 s37 s38 s8 v : Value)
theorem cm_put32 : (cm a0 s32 s33 s34 s35 s36 s37 s38 s8).put (some 32) v = cm a0 v s33 s34 s35 s36 s37 s38 s8 := by unfold cm; rw [put_swap _ 8 32 _ _ (by decide), put_swap _ 38 32 _ _ (by decide), put_swap _ 37 32 _ _ (by decide), put_swap _ 36 32 _ _ (by decide), put_swap _ 35 32 _ _ (by decide), put_swap _ 34 32 _ _ (by decide), put_swap _ 33 32 _ _ (by decide), put_put _ 32]
theorem cm_at32 (h : 38 < a0.tmps.size) : (cm a0 s32 s33 s34 s35 s36 s37 s38 s8).eval (.tmp 32) = s32 := by unfold cm; rw [put_else _ 8 32 _ (by decide), put_else _ 38 32 _ (by decide), put_else _ 37 32 _ (by decide), put_else _ 36 32 _ (by decide), put_else _ 35 32 _ (by decide), put_else _ 34 32 _ (by decide), put_else _ 33 32 _ (by decide), put_same _ 32 _ (by first | omega | (simp only [put_size]; omega))]
theorem cm_get32 (h : 38 < a0.tmps.size) : (cm a0 s32 s33 s34 s35 s36 s37 s38 s8).tmps[32]?.getD undef = s32 := by have := cm_at32 a0 s32 s33 s34 s35 s36 s37 s38 s8 h; simpa [Act.eval] using this
theorem cm_put33 : (cm a0 s32 s33 s34 s35 s36 s37 s38 s8).put (some 33) v = cm a0 s32 v s34 s35 s36 s37 s38 s8 := by unfold cm; rw [put_swap _ 8 33 _ _ (by decide), put_swap _ 38 33 _ _ (by decide), put_swap _ 37 33 _ _ (by decide), put_swap _ 36 33 _ _ (by decide), put_swap _ 35 33 _ _ (by decide), put_swap _ 34 33 _ _ (by decide), put_put _ 33]
theorem cm_at33 (h : 38 < a0.tmps.size) : (cm a0 s32 s33 s34 s35 s36 s37 s38 s8).eval (.tmp 33) = s33 := by unfold cm; rw [put_else _ 8 33 _ (by decide), put_else _ 38 33 _ (by decide), put_else _ 37 33 _ (by decide), put_else _ 36 33 _ (by decide), put_else _ 35 33 _ (by decide), put_else _ 34 33 _ (by decide), put_same _ 33 _ (by first | omega | (simp only [put_size]; omega))]
theorem cm_get33 (h : 38 < a0.tmps.size) : (cm a0 s32 s33 s34 s35 s36 s37 s38 s8).tmps[33]?.getD undef = s33 := by have := cm_at33 a0 s32 s33 s34 s35 s36 s37 s38 s8 h; simpa [Act.eval] using this
theorem cm_put34 : (cm a0 s32 s33 s34 s35 s36 s37 s38 s8).put (some 34) v = cm a0 s32 s33 v s35 s36 s37 s38 s8 := by unfold cm; rw [put_swap _ 8 34 _ _ (by decide), put_swap _ 38 34 _ _ (by decide), put_swap _ 37 34 _ _ (by decide), put_swap _ 36 34 _ _ (by decide), put_swap _ 35 34 _ _ (by decide), put_put _ 34]
theorem cm_at34 (h : 38 < a0.tmps.size) : (cm a0 s32 s33 s34 s35 s36 s37 s38 s8).eval (.tmp 34) = s34 := by unfold cm; rw [put_else _ 8 34 _ (by decide), put_else _ 38 34 _ (by decide), put_else _ 37 34 _ (by decide), put_else _ 36 34 _ (by decide), put_else _ 35 34 _ (by decide), put_same _ 34 _ (by first | omega | (simp only [put_size]; omega))]
theorem cm_get34 (h : 38 < a0.tmps.size) : (cm a0 s32 s33 s34 s35 s36 s37 s38 s8).tmps[34]?.getD undef = s34 := by have := cm_at34 a0 s32 s33 s34 s35 s36 s37 s38 s8 h; simpa [Act.eval] using this
theorem cm_put35 : (cm a0 s32 s33 s34 s35 s36 s37 s38 s8).put (some 35) v = cm a0 s32 s33 s34 v s36 s37 s38 s8 := by unfold cm; rw [put_swap _ 8 35 _ _ (by decide), put_swap _ 38 35 _ _ (by decide), put_swap _ 37 35 _ _ (by decide), put_swap _ 36 35 _ _ (by decide), put_put _ 35]
theorem cm_at35 (h : 38 < a0.tmps.size) : (cm a0 s32 s33 s34 s35 s36 s37 s38 s8).eval (.tmp 35) = s35 := by unfold cm; rw [put_else _ 8 35 _ (by decide), put_else _ 38 35 _ (by decide), put_else _ 37 35 _ (by decide), put_else _ 36 35 _ (by decide), put_same _ 35 _ (by first | omega | (simp only [put_size]; omega))]
theorem cm_get35 (h : 38 < a0.tmps.size) : (cm a0 s32 s33 s34 s35 s36 s37 s38 s8).tmps[35]?.getD undef = s35 := by have := cm_at35 a0 s32 s33 s34 s35 s36 s37 s38 s8 h; simpa [Act.eval] using this
theorem cm_put36 : (cm a0 s32 s33 s34 s35 s36 s37 s38 s8).put (some 36) v = cm a0 s32 s33 s34 s35 v s37 s38 s8 := by unfold cm; rw [put_swap _ 8 36 _ _ (by decide), put_swap _ 38 36 _ _ (by decide), put_swap _ 37 36 _ _ (by decide), put_put _ 36]
theorem cm_at36 (h : 38 < a0.tmps.size) : (cm a0 s32 s33 s34 s35 s36 s37 s38 s8).eval (.tmp 36) = s36 := by unfold cm; rw [put_else _ 8 36 _ (by decide), put_else _ 38 36 _ (by decide), put_else _ 37 36 _ (by decide), put_same _ 36 _ (by first | omega | (simp only [put_size]; omega))]
theorem cm_get36 (h : 38 < a0.tmps.size) : (cm a0 s32 s33 s34 s35 s36 s37 s38 s8).tmps[36]?.getD undef = s36 := by have := cm_at36 a0 s32 s33 s34 s35 s36 s37 s38 s8 h; simpa [Act.eval] using this
theorem cm_put37 : (cm a0 s32 s33 s34 s35 s36 s37 s38 s8).put (some 37) v = cm a0 s32 s33 s34 s35 s36 v s38 s8 := by unfold cm; rw [put_swap _ 8 37 _ _ (by decide), put_swap _ 38 37 _ _ (by decide), put_put _ 37]
theorem cm_at37 (h : 38 < a0.tmps.size) : (cm a0 s32 s33 s34 s35 s36 s37 s38 s8).eval (.tmp 37) = s37 := by unfold cm; rw [put_else _ 8 37 _ (by decide), put_else _ 38 37 _ (by decide), put_same _ 37 _ (by first | omega | (simp only [put_size]; omega))]
theorem cm_get37 (h : 38 < a0.tmps.size) : (cm a0 s32 s33 s34 s35 s36 s37 s38 s8).tmps[37]?.getD undef = s37 := by have := cm_at37 a0 s32 s33 s34 s35 s36 s37 s38 s8 h; simpa [Act.eval] using this
theorem cm_put38 : (cm a0 s32 s33 s34 s35 s36 s37 s38 s8).put (some 38) v = cm a0 s32 s33 s34 s35 s36 s37 v s8 := by unfold cm; rw [put_swap _ 8 38 _ _ (by decide), put_put _ 38]
theorem cm_at38 (h : 38 < a0.tmps.size) : (cm a0 s32 s33 s34 s35 s36 s37 s38 s8).eval (.tmp 38) = s38 := by unfold cm; rw [put_else _ 8 38 _ (by decide), put_same _ 38 _ (by first | omega | (simp only [put_size]; omega))]
theorem cm_get38 (h : 38 < a0.tmps.size) : (cm a0 s32 s33 s34 s35 s36 s37 s38 s8).tmps[38]?.getD undef = s38 := by have := cm_at38 a0 s32 s33 s34 s35 s36 s37 s38 s8 h; simpa [Act.eval] using this
theorem cm_put8 : (cm a0 s32 s33 s34 s35 s36 s37 s38 s8).put (some 8) v = cm a0 s32 s33 s34 s35 s36 s37 s38 v := by unfold cm; rw [put_put _ 8]
theorem cm_at8 (h : 38 < a0.tmps.size) : (cm a0 s32 s33 s34 s35 s36 s37 s38 s8).eval (.tmp 8) = s8 := by unfold cm; rw [put_same _ 8 _ (by first | omega | (simp only [put_size]; omega))]
theorem cm_get8 (h : 38 < a0.tmps.size) : (cm a0 s32 s33 s34 s35 s36 s37 s38 s8).tmps[8]?.getD undef = s8 := by have := cm_at8 a0 s32 s33 s34 s35 s36 s37 s38 s8 h; simpa [Act.eval] using this
theorem cm_at0 : (cm a0 s32 s33 s34 s35 s36 s37 s38 s8).eval (.tmp 0) = a0.eval (.tmp 0) := by unfold cm; rw [put_else _ 8 0 _ (by decide), put_else _ 38 0 _ (by decide), put_else _ 37 0 _ (by decide), put_else _ 36 0 _ (by decide), put_else _ 35 0 _ (by decide), put_else _ 34 0 _ (by decide), put_else _ 33 0 _ (by decide), put_else _ 32 0 _ (by decide)]
theorem cm_get0 (u : Value) (h : a0.eval (.tmp 0) = u) : (cm a0 s32 s33 s34 s35 s36 s37 s38 s8).tmps[0]?.getD undef = u := by have := (cm_at0 a0 s32 s33 s34 s35 s36 s37 s38 s8).trans h; simpa [Act.eval] using this
theorem cm_at1 : (cm a0 s32 s33 s34 s35 s36 s37 s38 s8).eval (.tmp 1) = a0.eval (.tmp 1) := by unfold cm; rw [put_else _ 8 1 _ (by decide), put_else _ 38 1 _ (by decide), put_else _ 37 1 _ (by decide), put_else _ 36 1 _ (by decide), put_else _ 35 1 _ (by decide), put_else _ 34 1 _ (by decide), put_else _ 33 1 _ (by decide), put_else _ 32 1 _ (by decide)]
theorem cm_get1 (u : Value) (h : a0.eval (.tmp 1) = u) : (cm a0 s32 s33 s34 s35 s36 s37 s38 s8).tmps[1]?.getD undef = u := by have := (cm_at1 a0 s32 s33 s34 s35 s36 s37 s38 s8).trans h; simpa [Act.eval] using this
theorem cm_at5 : (cm a0 s32 s33 s34 s35 s36 s37 s38 s8).eval (.tmp 5) = a0.eval (.tmp 5) := by unfold cm; rw [put_else _ 8 5 _ (by decide), put_else _ 38 5 _ (by decide), put_else _ 37 5 _ (by decide), put_else _ 36 5 _ (by decide), put_else _ 35 5 _ (by decide), put_else _ 34 5 _ (by decide), put_else _ 33 5 _ (by decide), put_else _ 32 5 _ (by decide)]
theorem cm_get5 (u : Value) (h : a0.eval (.tmp 5) = u) : (cm a0 s32 s33 s34 s35 s36 s37 s38 s8).tmps[5]?.getD undef = u := by have := (cm_at5 a0 s32 s33 s34 s35 s36 s37 s38 s8).trans h; simpa [Act.eval] using this
end

/-- A frame whose slots of one region are what is named. -/
def cn (a0 : Act) (s96 s97 s98 s99 s100 s101 s102 s16 : Value) : Act := ((((((((a0.put (some 96) s96).put (some 97) s97).put (some 98) s98).put (some 99) s99).put (some 100) s100).put (some 101) s101).put (some 102) s102).put (some 16) s16)

theorem cn_self (a0 : Act) : a0 = cn a0 (a0.eval (.tmp 96)) (a0.eval (.tmp 97)) (a0.eval (.tmp 98)) (a0.eval (.tmp 99)) (a0.eval (.tmp 100)) (a0.eval (.tmp 101)) (a0.eval (.tmp 102)) (a0.eval (.tmp 16)) := by
  unfold cn
  rw [put_self _ 96, put_self _ 97, put_self _ 98, put_self _ 99, put_self _ 100, put_self _ 101, put_self _ 102, put_self _ 16]

section
variable (a0 : Act) (s96 s97 s98 s99 s100 s101 s102 s16 v : Value)
theorem cn_put96 : (cn a0 s96 s97 s98 s99 s100 s101 s102 s16).put (some 96) v = cn a0 v s97 s98 s99 s100 s101 s102 s16 := by unfold cn; rw [put_swap _ 16 96 _ _ (by decide), put_swap _ 102 96 _ _ (by decide), put_swap _ 101 96 _ _ (by decide), put_swap _ 100 96 _ _ (by decide), put_swap _ 99 96 _ _ (by decide), put_swap _ 98 96 _ _ (by decide), put_swap _ 97 96 _ _ (by decide), put_put _ 96]
theorem cn_at96 (h : 102 < a0.tmps.size) : (cn a0 s96 s97 s98 s99 s100 s101 s102 s16).eval (.tmp 96) = s96 := by unfold cn; rw [put_else _ 16 96 _ (by decide), put_else _ 102 96 _ (by decide), put_else _ 101 96 _ (by decide), put_else _ 100 96 _ (by decide), put_else _ 99 96 _ (by decide), put_else _ 98 96 _ (by decide), put_else _ 97 96 _ (by decide), put_same _ 96 _ (by first | omega | (simp only [put_size]; omega))]
theorem cn_get96 (h : 102 < a0.tmps.size) : (cn a0 s96 s97 s98 s99 s100 s101 s102 s16).tmps[96]?.getD undef = s96 := by have := cn_at96 a0 s96 s97 s98 s99 s100 s101 s102 s16 h; simpa [Act.eval] using this
theorem cn_put97 : (cn a0 s96 s97 s98 s99 s100 s101 s102 s16).put (some 97) v = cn a0 s96 v s98 s99 s100 s101 s102 s16 := by unfold cn; rw [put_swap _ 16 97 _ _ (by decide), put_swap _ 102 97 _ _ (by decide), put_swap _ 101 97 _ _ (by decide), put_swap _ 100 97 _ _ (by decide), put_swap _ 99 97 _ _ (by decide), put_swap _ 98 97 _ _ (by decide), put_put _ 97]
theorem cn_at97 (h : 102 < a0.tmps.size) : (cn a0 s96 s97 s98 s99 s100 s101 s102 s16).eval (.tmp 97) = s97 := by unfold cn; rw [put_else _ 16 97 _ (by decide), put_else _ 102 97 _ (by decide), put_else _ 101 97 _ (by decide), put_else _ 100 97 _ (by decide), put_else _ 99 97 _ (by decide), put_else _ 98 97 _ (by decide), put_same _ 97 _ (by first | omega | (simp only [put_size]; omega))]
theorem cn_get97 (h : 102 < a0.tmps.size) : (cn a0 s96 s97 s98 s99 s100 s101 s102 s16).tmps[97]?.getD undef = s97 := by have := cn_at97 a0 s96 s97 s98 s99 s100 s101 s102 s16 h; simpa [Act.eval] using this
theorem cn_put98 : (cn a0 s96 s97 s98 s99 s100 s101 s102 s16).put (some 98) v = cn a0 s96 s97 v s99 s100 s101 s102 s16 := by unfold cn; rw [put_swap _ 16 98 _ _ (by decide), put_swap _ 102 98 _ _ (by decide), put_swap _ 101 98 _ _ (by decide), put_swap _ 100 98 _ _ (by decide), put_swap _ 99 98 _ _ (by decide), put_put _ 98]
theorem cn_at98 (h : 102 < a0.tmps.size) : (cn a0 s96 s97 s98 s99 s100 s101 s102 s16).eval (.tmp 98) = s98 := by unfold cn; rw [put_else _ 16 98 _ (by decide), put_else _ 102 98 _ (by decide), put_else _ 101 98 _ (by decide), put_else _ 100 98 _ (by decide), put_else _ 99 98 _ (by decide), put_same _ 98 _ (by first | omega | (simp only [put_size]; omega))]
theorem cn_get98 (h : 102 < a0.tmps.size) : (cn a0 s96 s97 s98 s99 s100 s101 s102 s16).tmps[98]?.getD undef = s98 := by have := cn_at98 a0 s96 s97 s98 s99 s100 s101 s102 s16 h; simpa [Act.eval] using this
theorem cn_put99 : (cn a0 s96 s97 s98 s99 s100 s101 s102 s16).put (some 99) v = cn a0 s96 s97 s98 v s100 s101 s102 s16 := by unfold cn; rw [put_swap _ 16 99 _ _ (by decide), put_swap _ 102 99 _ _ (by decide), put_swap _ 101 99 _ _ (by decide), put_swap _ 100 99 _ _ (by decide), put_put _ 99]
theorem cn_at99 (h : 102 < a0.tmps.size) : (cn a0 s96 s97 s98 s99 s100 s101 s102 s16).eval (.tmp 99) = s99 := by unfold cn; rw [put_else _ 16 99 _ (by decide), put_else _ 102 99 _ (by decide), put_else _ 101 99 _ (by decide), put_else _ 100 99 _ (by decide), put_same _ 99 _ (by first | omega | (simp only [put_size]; omega))]
theorem cn_get99 (h : 102 < a0.tmps.size) : (cn a0 s96 s97 s98 s99 s100 s101 s102 s16).tmps[99]?.getD undef = s99 := by have := cn_at99 a0 s96 s97 s98 s99 s100 s101 s102 s16 h; simpa [Act.eval] using this
theorem cn_put100 : (cn a0 s96 s97 s98 s99 s100 s101 s102 s16).put (some 100) v = cn a0 s96 s97 s98 s99 v s101 s102 s16 := by unfold cn; rw [put_swap _ 16 100 _ _ (by decide), put_swap _ 102 100 _ _ (by decide), put_swap _ 101 100 _ _ (by decide), put_put _ 100]
theorem cn_at100 (h : 102 < a0.tmps.size) : (cn a0 s96 s97 s98 s99 s100 s101 s102 s16).eval (.tmp 100) = s100 := by unfold cn; rw [put_else _ 16 100 _ (by decide), put_else _ 102 100 _ (by decide), put_else _ 101 100 _ (by decide), put_same _ 100 _ (by first | omega | (simp only [put_size]; omega))]
theorem cn_get100 (h : 102 < a0.tmps.size) : (cn a0 s96 s97 s98 s99 s100 s101 s102 s16).tmps[100]?.getD undef = s100 := by have := cn_at100 a0 s96 s97 s98 s99 s100 s101 s102 s16 h; simpa [Act.eval] using this
theorem cn_put101 : (cn a0 s96 s97 s98 s99 s100 s101 s102 s16).put (some 101) v = cn a0 s96 s97 s98 s99 s100 v s102 s16 := by unfold cn; rw [put_swap _ 16 101 _ _ (by decide), put_swap _ 102 101 _ _ (by decide), put_put _ 101]
theorem cn_at101 (h : 102 < a0.tmps.size) : (cn a0 s96 s97 s98 s99 s100 s101 s102 s16).eval (.tmp 101) = s101 := by unfold cn; rw [put_else _ 16 101 _ (by decide), put_else _ 102 101 _ (by decide), put_same _ 101 _ (by first | omega | (simp only [put_size]; omega))]
theorem cn_get101 (h : 102 < a0.tmps.size) : (cn a0 s96 s97 s98 s99 s100 s101 s102 s16).tmps[101]?.getD undef = s101 := by have := cn_at101 a0 s96 s97 s98 s99 s100 s101 s102 s16 h; simpa [Act.eval] using this
theorem cn_put102 : (cn a0 s96 s97 s98 s99 s100 s101 s102 s16).put (some 102) v = cn a0 s96 s97 s98 s99 s100 s101 v s16 := by unfold cn; rw [put_swap _ 16 102 _ _ (by decide), put_put _ 102]
theorem cn_at102 (h : 102 < a0.tmps.size) : (cn a0 s96 s97 s98 s99 s100 s101 s102 s16).eval (.tmp 102) = s102 := by unfold cn; rw [put_else _ 16 102 _ (by decide), put_same _ 102 _ (by first | omega | (simp only [put_size]; omega))]
theorem cn_get102 (h : 102 < a0.tmps.size) : (cn a0 s96 s97 s98 s99 s100 s101 s102 s16).tmps[102]?.getD undef = s102 := by have := cn_at102 a0 s96 s97 s98 s99 s100 s101 s102 s16 h; simpa [Act.eval] using this
theorem cn_put16 : (cn a0 s96 s97 s98 s99 s100 s101 s102 s16).put (some 16) v = cn a0 s96 s97 s98 s99 s100 s101 s102 v := by unfold cn; rw [put_put _ 16]
theorem cn_at16 (h : 102 < a0.tmps.size) : (cn a0 s96 s97 s98 s99 s100 s101 s102 s16).eval (.tmp 16) = s16 := by unfold cn; rw [put_same _ 16 _ (by first | omega | (simp only [put_size]; omega))]
theorem cn_get16 (h : 102 < a0.tmps.size) : (cn a0 s96 s97 s98 s99 s100 s101 s102 s16).tmps[16]?.getD undef = s16 := by have := cn_at16 a0 s96 s97 s98 s99 s100 s101 s102 s16 h; simpa [Act.eval] using this
theorem cn_at0 : (cn a0 s96 s97 s98 s99 s100 s101 s102 s16).eval (.tmp 0) = a0.eval (.tmp 0) := by unfold cn; rw [put_else _ 16 0 _ (by decide), put_else _ 102 0 _ (by decide), put_else _ 101 0 _ (by decide), put_else _ 100 0 _ (by decide), put_else _ 99 0 _ (by decide), put_else _ 98 0 _ (by decide), put_else _ 97 0 _ (by decide), put_else _ 96 0 _ (by decide)]
theorem cn_get0 (u : Value) (h : a0.eval (.tmp 0) = u) : (cn a0 s96 s97 s98 s99 s100 s101 s102 s16).tmps[0]?.getD undef = u := by have := (cn_at0 a0 s96 s97 s98 s99 s100 s101 s102 s16).trans h; simpa [Act.eval] using this
theorem cn_at1 : (cn a0 s96 s97 s98 s99 s100 s101 s102 s16).eval (.tmp 1) = a0.eval (.tmp 1) := by unfold cn; rw [put_else _ 16 1 _ (by decide), put_else _ 102 1 _ (by decide), put_else _ 101 1 _ (by decide), put_else _ 100 1 _ (by decide), put_else _ 99 1 _ (by decide), put_else _ 98 1 _ (by decide), put_else _ 97 1 _ (by decide), put_else _ 96 1 _ (by decide)]
theorem cn_get1 (u : Value) (h : a0.eval (.tmp 1) = u) : (cn a0 s96 s97 s98 s99 s100 s101 s102 s16).tmps[1]?.getD undef = u := by have := (cn_at1 a0 s96 s97 s98 s99 s100 s101 s102 s16).trans h; simpa [Act.eval] using this
theorem cn_at5 : (cn a0 s96 s97 s98 s99 s100 s101 s102 s16).eval (.tmp 5) = a0.eval (.tmp 5) := by unfold cn; rw [put_else _ 16 5 _ (by decide), put_else _ 102 5 _ (by decide), put_else _ 101 5 _ (by decide), put_else _ 100 5 _ (by decide), put_else _ 99 5 _ (by decide), put_else _ 98 5 _ (by decide), put_else _ 97 5 _ (by decide), put_else _ 96 5 _ (by decide)]
theorem cn_get5 (u : Value) (h : a0.eval (.tmp 5) = u) : (cn a0 s96 s97 s98 s99 s100 s101 s102 s16).tmps[5]?.getD undef = u := by have := (cn_at5 a0 s96 s97 s98 s99 s100 s101 s102 s16).trans h; simpa [Act.eval] using this
end

/-- What is known while the answer is not stored: the copies, the answer, the block for it. -/
structure PreM (a : World) (ss : List Shp) (ms : List Mnd) (o : Ob) (vals : List ByteArray) (b1 b3 b5 b6 b7 : Bool) (sa sm so sr sp : Value) (W : World) : Prop where
  bel : Below a.heap.size a W
  q1 : b1 = true → ∃ B, sa = .slice (some ⟨B, 0, none⟩) ss.length ss.length ∧ ShpsIn W B ss
  q3 : b3 = true → ∃ B, sm = .slice (some ⟨B, 0, none⟩) ms.length ms.length ∧ MndsIn W B ms
  q5 : b5 = true → ∃ x1 x2, so = .agg #[.string o.kind, .string o.name, .string o.team, .slice (some ⟨x1, 0, none⟩) o.values.length o.values.length, .bool o.ending, .slice (some ⟨x2, 0, none⟩) o.holds.length o.holds.length, .int .i64 o.version] ∧ ObArg W x1 x2 o
  q7 : b7 = true → ∃ P, sp = .pointer (some ⟨P, 0, none⟩) ∧ a.heap.size ≤ P ∧ OwnBlk W P 30 7
  q6 : b6 = true → ∃ a1 n1 d1 a2 n2 d2 l h, sr = .agg #[.string o.kind, .string o.name, .string o.team, .slice a1 n1 d1, .bool o.ending, .slice a2 n2 d2, .int .i64 o.version] ∧ CT W l h (.slice a1 n1 d1) vals ∧ CT W l h (.slice a2 n2 d2) o.holds ∧ a.heap.size ≤ l ∧ h ≤ W.heap.size ∧ (b7 = true → ∀ P, sp = .pointer (some ⟨P, 0, none⟩) → P < l ∨ h ≤ P)

/-- The answer is stored. -/
def PostM (a : World) (o : Ob) (vals : List ByteArray) (sp : Value) (W : World) : Prop := ∃ P a1 n1 d1 a2 n2 d2, sp = .pointer (some ⟨P, 0, none⟩) ∧ Below a.heap.size a W ∧ FB W a.heap.size W.heap.size P o vals (.slice a1 n1 d1) (.slice a2 n2 d2)

section
variable {a : World} {ss : List Shp} {ms : List Mnd} {o : Ob} {vals : List ByteArray} {b1 b3 b5 b6 b7 : Bool} {sa sm so sr sp : Value} {W W' : World}

theorem PreM.later (h : PreM a ss ms o vals b1 b3 b5 b6 b7 sa sm so sr sp W) (hb : Below W.heap.size W W') : PreM a ss ms o vals b1 b3 b5 b6 b7 sa sm so sr sp W' where
  bel := blw_trans h.bel hb
  q1 := fun x => by obtain ⟨B, e, t⟩ := h.q1 x; exact ⟨B, e, t.later hb⟩
  q3 := fun x => by obtain ⟨B, e, t⟩ := h.q3 x; exact ⟨B, e, t.later hb⟩
  q5 := fun x => by obtain ⟨x1, x2, e, t⟩ := h.q5 x; exact ⟨x1, x2, e, t.later hb⟩
  q7 := fun x => by obtain ⟨P, e, t, u⟩ := h.q7 x; exact ⟨P, e, t, u.later hb⟩
  q6 := fun x => by
    obtain ⟨a1, n1, d1, a2, n2, d2, l, k, e, t1, t2, t3, t4, t5⟩ := h.q6 x
    exact ⟨a1, n1, d1, a2, n2, d2, l, k, e, t1.later hb, t2.later hb, t3, Nat.le_trans t4 hb.size, t5⟩

theorem PreM.shapes (h : PreM a ss ms o vals b1 b3 b5 b6 b7 sa sm so sr sp W) {B : Nat} (t : ShpsIn W B ss) : PreM a ss ms o vals true b3 b5 b6 b7 (.slice (some ⟨B, 0, none⟩) ss.length ss.length) sm so sr sp W :=
  ⟨h.bel, fun _ => ⟨B, rfl, t⟩, h.q3, h.q5, h.q7, h.q6⟩
theorem PreM.mends (h : PreM a ss ms o vals b1 b3 b5 b6 b7 sa sm so sr sp W) {B : Nat} (t : MndsIn W B ms) : PreM a ss ms o vals b1 true b5 b6 b7 sa (.slice (some ⟨B, 0, none⟩) ms.length ms.length) so sr sp W :=
  ⟨h.bel, h.q1, fun _ => ⟨B, rfl, t⟩, h.q5, h.q7, h.q6⟩
theorem PreM.object (h : PreM a ss ms o vals b1 b3 b5 b6 b7 sa sm so sr sp W) {x1 x2 : Nat} (t : ObArg W x1 x2 o) : PreM a ss ms o vals b1 b3 true b6 b7 sa sm (.agg #[.string o.kind, .string o.name, .string o.team, .slice (some ⟨x1, 0, none⟩) o.values.length o.values.length, .bool o.ending, .slice (some ⟨x2, 0, none⟩) o.holds.length o.holds.length, .int .i64 o.version]) sr sp W :=
  ⟨h.bel, h.q1, h.q3, fun _ => ⟨x1, x2, rfl, t⟩, h.q7, h.q6⟩
theorem PreM.answer (h : PreM a ss ms o vals b1 b3 b5 b6 b7 sa sm so sr sp W) (hb : Below W.heap.size W W') {a1 : Option Addr} {n1 d1 : Nat} {a2 : Option Addr} {n2 d2 mid : Nat} (t1 : CT W' W.heap.size mid (.slice a1 n1 d1) vals) (t2 : CT W' mid W'.heap.size (.slice a2 n2 d2) o.holds) (m1 : W.heap.size ≤ mid) (m2 : mid ≤ W'.heap.size) : PreM a ss ms o vals b1 b3 b5 true b7 sa sm so (.agg #[.string o.kind, .string o.name, .string o.team, .slice a1 n1 d1, .bool o.ending, .slice a2 n2 d2, .int .i64 o.version]) sp W' := by
  have k := h.later hb
  refine ⟨k.bel, k.q1, k.q3, k.q5, k.q7, fun _ => ⟨a1, n1, d1, a2, n2, d2, W.heap.size, W'.heap.size, rfl, t1.mono (Nat.le_refl _) m2, t2.mono m1 (Nat.le_refl _), h.bel.size, Nat.le_refl _, fun hb7 P e => ?_⟩⟩
  obtain ⟨P', e', _, hO⟩ := h.q7 hb7
  rw [e'] at e
  injection e with e; injection e with e; injection e with e
  exact Or.inl (e ▸ hO.lt)
theorem PreM.block (h : PreM a ss ms o vals b1 b3 b5 b6 b7 sa sm so sr sp W) (c : Array Value) (hc : c.size = 7) : PreM a ss ms o vals b1 b3 b5 b6 true sa sm so sr (.pointer (some ⟨W.heap.size, 0, none⟩)) (W.alloc (.cells c 30)) := by
  have k := h.later (blw_alloc (Below.refl _ _) (.cells c 30))
  refine ⟨k.bel, k.q1, k.q3, k.q5, fun _ => ⟨W.heap.size, rfl, h.bel.size, OwnBlk.alloc W c 30 7 hc⟩, fun x => ?_⟩
  obtain ⟨a1, n1, d1, a2, n2, d2, l, k, e, t1, t2, t3, t4, t5⟩ := h.q6 x
  have hb : Below W.heap.size W (W.alloc (.cells c 30)) := blw_alloc (Below.refl _ _) _
  refine ⟨a1, n1, d1, a2, n2, d2, l, k, e, t1.later hb, t2.later hb, t3, Nat.le_trans t4 hb.size, fun _ P e => ?_⟩
  injection e with e; injection e with e; injection e with e
  exact Or.inr (e ▸ t4)

theorem FB.store {s1 s2 : Value} {l h p : Nat} (k : Below a.heap.size a W) (hO : OwnBlk W p 30 7) (hd : p < l ∨ h ≤ p) (h1 : CT W l h s1 vals) (h2 : CT W l h s2 o.holds) (hl : a.heap.size ≤ l) (hh : h ≤ W.heap.size) (hp : a.heap.size ≤ p) :
    Below a.heap.size a (puts W p 0 0 [.string o.kind, .string o.name, .string o.team, s1, .bool o.ending, s2, .int .i64 o.version]) ∧ FB (puts W p 0 0 [.string o.kind, .string o.name, .string o.team, s1, .bool o.ending, s2, .int .i64 o.version]) a.heap.size (puts W p 0 0 [.string o.kind, .string o.name, .string o.team, s1, .bool o.ending, s2, .int .i64 o.version]).heap.size p o vals s1 s2 := by
  have r := puts_at 0 [.string o.kind, .string o.name, .string o.team, s1, .bool o.ending, s2, .int .i64 o.version] W 0 hO (by simp)
  have z : (puts W p 0 0 [.string o.kind, .string o.name, .string o.team, s1, .bool o.ending, s2, .int .i64 o.version]).heap.size = W.heap.size := puts_size _ _ _ _ _
  exact ⟨puts_below (a := a) 0 (B := p) hp _ W 0 k, ⟨by rw [z]; exact hO.lt, r 0 (by simp), r 1 (by simp), r 2 (by simp), r 3 (by simp), r 4 (by simp), r 5 (by simp), r 6 (by simp)⟩, (CT.puts 0 hd _ W 0 h1).mono hl (by rw [z]; exact hh), (CT.puts 0 hd _ W 0 h2).mono hl (by rw [z]; exact hh), hp, by rw [z]; exact hO.lt⟩
end

end Go.Proofs.YtfdahoekjpobaaaGreat
