/-
  The document's own lexer: Tokens, way by way (written by wip/bin/mkparts.py, splitparts.py).
-/
import Derived.Test.YtgikcciakbnehaaDoorLexWa
import Derived.Test.YtgikcciakbnehaaDoorLexWb
import Derived.Test.YtgikcciakbnehaaDoorLexWc
import Derived.Test.YtgikcciakbnehaaDoorLexWd
import Derived.Test.YtgikcciakbnehaaDoorLexWe
namespace Go.Proofs.YtgikcciakbnehaaDoor.Lex
open Go.Proofs.YtgikcciakbnehaaDoor Go.Proofs.YtgikcciakbnehaaDoor.Ser
open Go.ChangeShapes Go.WideShapes Go.ChangeAt Go.RowKit
set_option linter.unusedVariables false
set_option maxRecDepth 100000 in
set_option maxHeartbeats 16000000 in
theorem rtokens_says (s : ByteArray) (W : World) : Calls Tryd.prog 7 #[.string s] W fun e w' => TkR W (lexS s) e w' := by
  by_cases hs : 65536 < s.size
  · obtain ⟨r, hr⟩ : ∃ r : Ending → World → Prop, r = fun e w' => TkR W (lexS s) e w' := ⟨_, rfl⟩
    rw [← hr]
    have hsI : (65536 : Int) < (s.size : Int) := by omega
    have hout : r (.returned (.tuple #[.slice none 0 0, i64 1, i64 1, i64 2])) W := by
      rw [hr]; unfold lexS; rw [if_pos hs]; exact ⟨_, [], rfl, ownT_nil _ _, same_nil, Below.refl _ _⟩
    clear hr hs
    go_enter Tryd.func7, Tryd.ntmps7
    go_wp2
    exact bodyPost_ret (v := .tuple #[.slice none 0 0, i64 1, i64 1, i64 2]) (by simp [results, Tryd.results7, go_sem]) rfl hout
  exact (parts s W (by omega)).snd.snd.snd.snd.snd.snd.snd.snd.snd.snd.snd.snd.snd.snd.down ⟨way_blank s W (by omega)⟩ ⟨way_semi s W (by omega)⟩ ⟨way_m1 s W (by omega)⟩ ⟨way_bad s W (by omega)⟩ ⟨way_nl s W (by omega)⟩ ⟨way_name s W (by omega)⟩ ⟨way_num s W (by omega)⟩ ⟨way_chr s W (by omega)⟩ ⟨way_str s W (by omega)⟩ ⟨way_sg s W (by omega)⟩ ⟨way_none s W (by omega)⟩ ⟨way_rest1 s W (by omega)⟩ ⟨way_rest2 s W (by omega)⟩ ⟨way_fail s W (by omega)⟩
end Go.Proofs.YtgikcciakbnehaaDoor.Lex
