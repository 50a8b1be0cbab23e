/-
  Sheets: rules: plain.
-/
import Derived.Test.YtikacjpbnoihjaaEPr
namespace Go.Proofs.Ytikacjpbnoihjaa.Pl

structure Ru where
  key : ByteArray
  args : List Int
  many : Bool
  dflt : List ByteArray
def kTeamR : List Ru := [⟨{ data := #[99, 111, 112, 105, 101, 115] }, [1], false, [{ data := #[49, 48, 48] }]⟩, ⟨{ data := #[114, 111, 111, 109] }, [1], false, [{ data := #[49, 48, 48, 48] }]⟩]
def kBerthR : List Ru := [⟨{ data := #[122, 111, 110, 101] }, [3], false, [{ data := #[122] }]⟩, ⟨{ data := #[114, 111, 111, 109] }, [1], false, [{ data := #[49, 48, 48] }]⟩, ⟨{ data := #[104, 111, 108, 100] }, [1], false, [{ data := #[49, 48, 48] }]⟩, ⟨{ data := #[109, 97, 114, 107] }, [3], true, []⟩]
def kServiceR : List Ru := [⟨{ data := #[116, 101, 97, 109] }, [3], false, [{ data := #[99, 111, 114, 101] }]⟩, ⟨{ data := #[105, 109, 97, 103, 101] }, [1], false, [{ data := #[49] }]⟩, ⟨{ data := #[119, 97, 110, 116] }, [1], false, [{ data := #[49] }]⟩, ⟨{ data := #[100, 111, 119, 110] }, [1], false, [{ data := #[49] }]⟩, ⟨{ data := #[111, 118, 101, 114] }, [1], false, [{ data := #[48] }]⟩, ⟨{ data := #[110, 101, 101, 100, 115] }, [1, 1], false, [{ data := #[49] }, { data := #[49] }]⟩, ⟨{ data := #[119, 104, 101, 114, 101] }, [4], false, [{ data := #[] }]⟩, ⟨{ data := #[108, 105, 107, 101] }, [4, 2], true, []⟩, ⟨{ data := #[97, 112, 97, 114, 116] }, [6], false, [{ data := #[110, 111, 110, 101] }]⟩, ⟨{ data := #[118, 111, 108, 117, 109, 101] }, [5], false, [{ data := #[110, 111] }]⟩, ⟨{ data := #[102, 111, 108, 108, 111, 119] }, [1, 1, 1], false, [{ data := #[48] }, { data := #[48] }, { data := #[48] }]⟩, ⟨{ data := #[112, 97, 99, 101] }, [1, 1, 1], false, [{ data := #[48] }, { data := #[48] }, { data := #[48] }]⟩]
def rulesOf (s : ByteArray) : List Ru :=
  if s.toList == [116, 101, 97, 109] then kTeamR
  else if s.toList == [98, 101, 114, 116, 104] then kBerthR
  else if s.toList == [115, 101, 114, 118, 105, 99, 101] then kServiceR
  else []
theorem spl_team_copies : splL { data := #[49, 48, 48] } = [{ data := #[49, 48, 48] }] := by rfl
theorem spl_team_room : splL { data := #[49, 48, 48, 48] } = [{ data := #[49, 48, 48, 48] }] := by rfl
theorem spl_berth_zone : splL { data := #[122] } = [{ data := #[122] }] := by rfl
theorem spl_berth_room : splL { data := #[49, 48, 48] } = [{ data := #[49, 48, 48] }] := by rfl
theorem spl_berth_hold : splL { data := #[49, 48, 48] } = [{ data := #[49, 48, 48] }] := by rfl
theorem spl_service_team : splL { data := #[99, 111, 114, 101] } = [{ data := #[99, 111, 114, 101] }] := by rfl
theorem spl_service_image : splL { data := #[49] } = [{ data := #[49] }] := by rfl
theorem spl_service_want : splL { data := #[49] } = [{ data := #[49] }] := by rfl
theorem spl_service_down : splL { data := #[49] } = [{ data := #[49] }] := by rfl
theorem spl_service_over : splL { data := #[48] } = [{ data := #[48] }] := by rfl
theorem spl_service_needs : splL { data := #[49, 32, 49] } = [{ data := #[49] }, { data := #[49] }] := by rfl
theorem spl_service_where : splL { data := #[] } = [{ data := #[] }] := by rfl
theorem spl_service_apart : splL { data := #[110, 111, 110, 101] } = [{ data := #[110, 111, 110, 101] }] := by rfl
theorem spl_service_volume : splL { data := #[110, 111] } = [{ data := #[110, 111] }] := by rfl
theorem spl_service_follow : splL { data := #[48, 32, 48, 32, 48] } = [{ data := #[48] }, { data := #[48] }, { data := #[48] }] := by rfl
theorem spl_service_pace : splL { data := #[48, 32, 48, 32, 48] } = [{ data := #[48] }, { data := #[48] }, { data := #[48] }] := by rfl

end Go.Proofs.Ytikacjpbnoihjaa.Pl
