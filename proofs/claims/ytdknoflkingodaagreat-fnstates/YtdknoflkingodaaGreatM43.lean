/- The law on states, walked: for every slice of bytes it comes out true and writes into no memory that was there. -/
import Derived.Test.YtdknoflkingodaaGreatM1
import Derived.Test.YtdknoflkingodaaGreatM2
import Derived.Test.YtdknoflkingodaaGreatM3
import Derived.Test.YtdknoflkingodaaGreatM4
import Derived.Test.YtdknoflkingodaaGreatM5
import Derived.Test.YtdknoflkingodaaGreatM6
import Derived.Test.YtdknoflkingodaaGreatM7
import Derived.Test.YtdknoflkingodaaGreatM8
import Derived.Test.YtdknoflkingodaaGreatM9
import Derived.Test.YtdknoflkingodaaGreatM10
import Derived.Test.YtdknoflkingodaaGreatM11
import Derived.Test.YtdknoflkingodaaGreatM12
import Derived.Test.YtdknoflkingodaaGreatM13
import Derived.Test.YtdknoflkingodaaGreatM14
import Derived.Test.YtdknoflkingodaaGreatM15
import Derived.Test.YtdknoflkingodaaGreatM16
import Derived.Test.YtdknoflkingodaaGreatM17
import Derived.Test.YtdknoflkingodaaGreatM18
import Derived.Test.YtdknoflkingodaaGreatM19
import Derived.Test.YtdknoflkingodaaGreatM20
import Derived.Test.YtdknoflkingodaaGreatM21
import Derived.Test.YtdknoflkingodaaGreatM22
import Derived.Test.YtdknoflkingodaaGreatM23
import Derived.Test.YtdknoflkingodaaGreatM24
import Derived.Test.YtdknoflkingodaaGreatM25
import Derived.Test.YtdknoflkingodaaGreatM26
import Derived.Test.YtdknoflkingodaaGreatM27
import Derived.Test.YtdknoflkingodaaGreatM28
import Derived.Test.YtdknoflkingodaaGreatM29
import Derived.Test.YtdknoflkingodaaGreatM30
import Derived.Test.YtdknoflkingodaaGreatM31
import Derived.Test.YtdknoflkingodaaGreatM32
import Derived.Test.YtdknoflkingodaaGreatM33
import Derived.Test.YtdknoflkingodaaGreatM34
import Derived.Test.YtdknoflkingodaaGreatM35
import Derived.Test.YtdknoflkingodaaGreatM36
import Derived.Test.YtdknoflkingodaaGreatM37
import Derived.Test.YtdknoflkingodaaGreatM38
import Derived.Test.YtdknoflkingodaaGreatM39
import Derived.Test.YtdknoflkingodaaGreatM40
import Derived.Test.YtdknoflkingodaaGreatM41
import Derived.Test.YtdknoflkingodaaGreatM42
namespace Go.Proofs.YtdknoflkingodaaGreat
set_option maxRecDepth 100000
set_option linter.unusedVariables false
open Go.RowKit
theorem tallyAt_of : ∀ (T : List Ta) (b : Ta), T.Pairwise taLt → b ∈ T → tallyAt T b.o b.r = b.n
 | [], _, _, h => by cases h
 | c :: l, b, hp, hb => by
  unfold tallyAt
  by_cases e : c.o = b.o ∧ c.r = b.r
  ·rw [if_pos e]
   rcases List.mem_cons.1 hb with rfl | hb
   ·rfl
   ·have h := List.rel_of_pairwise_cons hp hb
    rcases h with h | h
    ·rw [e.1] at h; exact absurd h (List.lt_irrefl _)
    ·omega
  ·rw [if_neg e]
   rcases List.mem_cons.1 hb with rfl | hb
   ·exact absurd ⟨rfl, rfl⟩ e
   ·exact tallyAt_of l b (List.Pairwise.of_cons hp) hb
theorem livesOf_pos {L : List Li} {b : Li} (h : b ∈ L) : 0 < (livesOf L b.m b.o b.y).length := by
 unfold livesOf
 exact List.length_pos_of_mem (List.mem_filter.2 ⟨h, by unfold isLive; simp⟩)
theorem livesOf_le (L : List Li) (m : Bool) (o y : ByteArray) : (livesOf L m o y).length ≤ L.length := List.length_filter_le _ _
theorem iok_new : IOk nSt := ⟨⟨rfl, fun x hx => by simp [nSt] at hx; omega⟩, ⟨by simp [nSt], fun i h => by simp [nSt] at h⟩, ⟨by simp [nSt], fun i h => by simp [nSt] at h⟩, ⟨by simp [nSt], fun i h => by simp [nSt] at h⟩, fun i h => by simp [nSt] at h⟩
theorem li_shape {w : World} {B : Nat} {u : Value} {L : List Li} (h : w.ownsRow B 40 6 u L.length (liV L)) : ∃ a c, u = .slice a L.length c := by
 obtain ⟨a, c, h, -⟩ := LiAt.own h rfl
 exact ⟨a, c, h⟩
abbrev sa0 : Oper := oq 33 (.load 29 (.tmp 3)) 29 "laws.go:276" #[] none
abbrev sa1 : Oper := oq 34 (.fieldAddr 29 (.tmp 3) 3) 0 "laws.go:276" #[] none
abbrev sa2 : Oper := oq 35 (.load 27 (.tmp 34)) 27 "laws.go:276" #[eD 1] none
abbrev sa3 : Oper := oq 36 (.move (.tmp 4)) 3 "laws.go:276" #[] none
abbrev sa4 : Oper := oq 37 (.indexAddr 27 (.tmp 35) (.tmp 36)) 0 "laws.go:276" #[eD 2, eD 3] none
abbrev sa5 : Oper := oq 38 (.fieldAddr 35 (.tmp 37) 1) 0 "laws.go:276" #[eD 4] none
abbrev sa6 : Oper := oq 39 (.load 33 (.tmp 38)) 33 "laws.go:276" #[eD 5] none
abbrev sa7 : Oper := oq 40 (.call ⟨.value (.func 10), #[.tmp 33, .tmp 39], #[29, 33]⟩) 3 "laws.go:276" #[eD 0, eD 6] none
abbrev sa8 : Oper := oq 41 (.move (.tmp 4)) 3 "laws.go:276" #[] none
abbrev sa9 : Oper := oq 42 (.binOp .neq 3 (.tmp 40) (.tmp 41) 3) 4 "laws.go:276" #[eD 7, eD 8] none
abbrev sb0 : Oper := oq 50 (.load 29 (.tmp 3)) 29 "laws.go:281" #[] none
abbrev sb1 : Oper := oq 51 (.fieldAddr 29 (.tmp 3) 1) 0 "laws.go:281" #[] none
abbrev sb2 : Oper := oq 52 (.load 25 (.tmp 51)) 25 "laws.go:281" #[eD 1] none
abbrev sb3 : Oper := oq 53 (.move (.tmp 5)) 3 "laws.go:281" #[] none
abbrev sb4 : Oper := oq 54 (.indexAddr 25 (.tmp 52) (.tmp 53)) 0 "laws.go:281" #[eD 2, eD 3] none
abbrev sb5 : Oper := oq 55 (.fieldAddr 38 (.tmp 54) 0) 0 "laws.go:281" #[eD 4] none
abbrev sb6 : Oper := oq 56 (.load 9 (.tmp 55)) 9 "laws.go:281" #[eD 5] none
abbrev sb7 : Oper := oq 57 (.fieldAddr 29 (.tmp 3) 1) 0 "laws.go:281" #[] none
abbrev sb8 : Oper := oq 58 (.load 25 (.tmp 57)) 25 "laws.go:281" #[eD 7] none
abbrev sb9 : Oper := oq 59 (.move (.tmp 5)) 3 "laws.go:281" #[] none
abbrev sb10 : Oper := oq 60 (.indexAddr 25 (.tmp 58) (.tmp 59)) 0 "laws.go:281" #[eD 8, eD 9] none
abbrev sb11 : Oper := oq 61 (.fieldAddr 38 (.tmp 60) 1) 0 "laws.go:281" #[eD 10] none
abbrev sb12 : Oper := oq 62 (.load 3 (.tmp 61)) 3 "laws.go:281" #[eD 11] none
abbrev sb13 : Oper := oq 63 (.call ⟨.value (.func 11), #[.tmp 50, .tmp 56, .tmp 62], #[29, 9, 3]⟩) 3 "laws.go:281" #[eD 0, eD 6, eD 12] none
abbrev sb14 : Oper := oq 64 (.fieldAddr 29 (.tmp 3) 1) 0 "laws.go:281" #[] none
abbrev sb15 : Oper := oq 65 (.load 25 (.tmp 64)) 25 "laws.go:281" #[eD 14] none
abbrev sb16 : Oper := oq 66 (.move (.tmp 5)) 3 "laws.go:281" #[] none
abbrev sb17 : Oper := oq 67 (.indexAddr 25 (.tmp 65) (.tmp 66)) 0 "laws.go:281" #[eD 15, eD 16] none
abbrev sb18 : Oper := oq 68 (.fieldAddr 38 (.tmp 67) 2) 0 "laws.go:281" #[eD 17] none
abbrev sb19 : Oper := oq 69 (.load 3 (.tmp 68)) 3 "laws.go:281" #[eD 18] none
abbrev sb20 : Oper := oq 70 (.binOp .neq 3 (.tmp 63) (.tmp 69) 3) 4 "laws.go:281" #[eD 13, eD 19] none
abbrev sc0 : Oper := oq 123 (.load 29 (.tmp 3)) 29 "laws.go:299" #[] none
abbrev sc1 : Oper := oq 124 (.call ⟨.value (.func 18), #[.tmp 123], #[29]⟩) 4 "laws.go:299" #[eD 0] none
abbrev sc2 : Oper := oq 125 (.move (.tmp 124)) 4 "laws.go:299" #[eD 1, eC 1] none
abbrev sc3 : Oper := oq 126 (.load 29 (.tmp 3)) 29 "laws.go:299" #[eG 2] (some (2, true))
abbrev sc4 : Oper := oq 127 (.load 29 (.tmp 3)) 29 "laws.go:299" #[eG 2] (some (2, true))
abbrev sc5 : Oper := oq 128 (.call ⟨.value (.func 19), #[.tmp 126, .tmp 127], #[29, 29]⟩) 4 "laws.go:299" #[eD 3, eD 4, eC 2, eG 2] (some (2, true))
abbrev sc6 : Oper := oq 129 (.pick (.tmp 125) (.tmp 128) (.const (.bool false))) 4 "laws.go:299" #[eD 2, eD 5] none
abbrev sc7 : Oper := oq 130 (.move (.tmp 129)) 4 "laws.go:299" #[eD 6, eC 5] none
abbrev sc8 : Oper := oq 131 (.move (.tmp 6)) 3 "laws.go:299" #[eG 7] (some (7, true))
abbrev sc9 : Oper := oq 132 (.fieldAddr 29 (.tmp 3) 2) 0 "laws.go:299" #[eG 7] (some (7, true))
abbrev sc10 : Oper := oq 133 (.load 26 (.tmp 132)) 26 "laws.go:299" #[eD 9, eG 7] (some (7, true))
abbrev sc11 : Oper := oq 134 (.call ⟨.builtin .len, #[.tmp 133], #[26]⟩) 3 "laws.go:299" #[eD 10, eG 7] (some (7, true))
abbrev sc12 : Oper := oq 135 (.binOp .geq 3 (.tmp 131) (.tmp 134) 3) 4 "laws.go:299" #[eD 8, eD 11, eG 7] (some (7, true))
abbrev sc13 : Oper := oq 136 (.pick (.tmp 130) (.tmp 135) (.const (.bool false))) 4 "laws.go:299" #[eD 7, eD 12] none
abbrev sc14 : Oper := oq 137 (.move (.tmp 136)) 4 "laws.go:299" #[eD 13, eC 7] none
abbrev sc15 : Oper := oq 138 (.load 29 (.tmp 10)) 29 "laws.go:299" #[eG 14] (some (14, true))
abbrev sc16 : Oper := oq 139 (.load 29 (.tmp 11)) 29 "laws.go:299" #[eG 14] (some (14, true))
abbrev sc17 : Oper := oq 140 (.call ⟨.value (.func 19), #[.tmp 138, .tmp 139], #[29, 29]⟩) 4 "laws.go:299" #[eD 15, eD 16, eC 14, eG 14] (some (14, true))
abbrev sc18 : Oper := oq 141 (.load 29 (.tmp 10)) 29 "laws.go:299" #[eG 14] (some (14, true))
abbrev sc19 : Oper := oq 142 (.load 29 (.tmp 11)) 29 "laws.go:299" #[eG 14] (some (14, true))
abbrev sc20 : Oper := oq 143 (.call ⟨.value (.func 20), #[.tmp 141, .tmp 142], #[29, 29]⟩) 4 "laws.go:299" #[eD 18, eD 19, eC 17, eG 14] (some (14, true))
abbrev sc21 : Oper := oq 144 (.binOp .eql 4 (.tmp 140) (.tmp 143) 4) 4 "laws.go:299" #[eD 17, eD 20, eG 14] (some (14, true))
abbrev sc22 : Oper := oq 145 (.pick (.tmp 137) (.tmp 144) (.const (.bool false))) 4 "laws.go:299" #[eD 14, eD 21] none
abbrev sc23 : Oper := oq 146 (.move (.tmp 145)) 4 "laws.go:299" #[eD 22, eC 20] none
abbrev sc24 : Oper := oq 147 (.load 29 (.tmp 12)) 29 "laws.go:299" #[eG 23] (some (23, true))
abbrev sc25 : Oper := oq 148 (.call ⟨.value (.func 18), #[.tmp 147], #[29]⟩) 4 "laws.go:299" #[eD 24, eC 23, eG 23] (some (23, true))
abbrev sc26 : Oper := oq 149 (.load 29 (.tmp 12)) 29 "laws.go:299" #[eG 23] (some (23, true))
abbrev sc27 : Oper := oq 150 (.call ⟨.value (.func 21), #[.tmp 149], #[29]⟩) 4 "laws.go:299" #[eD 26, eC 25, eG 23] (some (23, true))
abbrev sc28 : Oper := oq 151 (.binOp .eql 4 (.tmp 148) (.tmp 150) 4) 4 "laws.go:299" #[eD 25, eD 27, eG 23] (some (23, true))
abbrev sc29 : Oper := oq 152 (.pick (.tmp 146) (.tmp 151) (.const (.bool false))) 4 "laws.go:299" #[eD 23, eD 28] none
abbrev sc30 : Oper := oq 153 (.move (.tmp 152)) 4 "laws.go:299" #[eD 29, eC 27] none
abbrev sc31 : Oper := oq 154 (.load 29 (.tmp 13)) 29 "laws.go:299" #[eG 30] (some (30, true))
abbrev sc32 : Oper := oq 155 (.move (.tmp 14)) 9 "laws.go:299" #[eG 30] (some (30, true))
abbrev sc33 : Oper := oq 156 (.move (.tmp 15)) 3 "laws.go:299" #[eG 30] (some (30, true))
abbrev sc34 : Oper := oq 157 (.call ⟨.value (.func 11), #[.tmp 154, .tmp 155, .tmp 156], #[29, 9, 3]⟩) 3 "laws.go:299" #[eD 31, eD 32, eD 33, eC 30, eG 30] (some (30, true))
abbrev sc35 : Oper := oq 158 (.load 29 (.tmp 13)) 29 "laws.go:299" #[eG 30] (some (30, true))
abbrev sc36 : Oper := oq 159 (.move (.tmp 14)) 9 "laws.go:299" #[eG 30] (some (30, true))
abbrev sc37 : Oper := oq 160 (.move (.tmp 15)) 3 "laws.go:299" #[eG 30] (some (30, true))
abbrev sc38 : Oper := oq 161 (.call ⟨.value (.func 22), #[.tmp 158, .tmp 159, .tmp 160], #[29, 9, 3]⟩) 3 "laws.go:299" #[eD 35, eD 36, eD 37, eC 34, eG 30] (some (30, true))
abbrev sc39 : Oper := oq 162 (.binOp .eql 3 (.tmp 157) (.tmp 161) 3) 4 "laws.go:299" #[eD 34, eD 38, eG 30] (some (30, true))
abbrev sc40 : Oper := oq 163 (.pick (.tmp 153) (.tmp 162) (.const (.bool false))) 4 "laws.go:299" #[eD 30, eD 39] none
abbrev sc41 : Oper := oq 164 (.move (.tmp 163)) 4 "laws.go:299" #[eD 40, eC 38] none
abbrev sc42 : Oper := oq 165 (.load 29 (.tmp 16)) 29 "laws.go:299" #[eG 41] (some (41, true))
abbrev sc43 : Oper := oq 166 (.move (.tmp 17)) 4 "laws.go:299" #[eG 41] (some (41, true))
abbrev sc44 : Oper := oq 167 (.move (.tmp 18)) 9 "laws.go:299" #[eG 41] (some (41, true))
abbrev sc45 : Oper := oq 168 (.move (.tmp 19)) 9 "laws.go:299" #[eG 41] (some (41, true))
abbrev sc46 : Oper := oq 169 (.call ⟨.value (.func 12), #[.tmp 165, .tmp 166, .tmp 167, .tmp 168], #[29, 4, 9, 9]⟩) 26 "laws.go:299" #[eD 42, eD 43, eD 44, eD 45, eC 41, eG 41] (some (41, true))
abbrev sc47 : Oper := oq 170 (.call ⟨.builtin .len, #[.tmp 169], #[26]⟩) 3 "laws.go:299" #[eD 46, eG 41] (some (41, true))
abbrev sc48 : Oper := oq 171 (.load 29 (.tmp 16)) 29 "laws.go:299" #[eG 41] (some (41, true))
abbrev sc49 : Oper := oq 172 (.move (.tmp 17)) 4 "laws.go:299" #[eG 41] (some (41, true))
abbrev sc50 : Oper := oq 173 (.move (.tmp 18)) 9 "laws.go:299" #[eG 41] (some (41, true))
abbrev sc51 : Oper := oq 174 (.move (.tmp 19)) 9 "laws.go:299" #[eG 41] (some (41, true))
abbrev sc52 : Oper := oq 175 (.call ⟨.value (.func 23), #[.tmp 171, .tmp 172, .tmp 173, .tmp 174], #[29, 4, 9, 9]⟩) 26 "laws.go:299" #[eD 48, eD 49, eD 50, eD 51, eC 46, eG 41] (some (41, true))
abbrev sc53 : Oper := oq 176 (.call ⟨.builtin .len, #[.tmp 175], #[26]⟩) 3 "laws.go:299" #[eD 52, eG 41] (some (41, true))
abbrev sc54 : Oper := oq 177 (.binOp .eql 3 (.tmp 170) (.tmp 176) 3) 4 "laws.go:299" #[eD 47, eD 53, eG 41] (some (41, true))
abbrev sc55 : Oper := oq 178 (.pick (.tmp 164) (.tmp 177) (.const (.bool false))) 4 "laws.go:299" #[eD 41, eD 54] none
abbrev sc56 : Oper := oq 179 (.move (.tmp 178)) 4 "laws.go:299" #[eD 55, eC 52] none
abbrev sc57 : Oper := oq 180 (.load 29 (.tmp 20)) 29 "laws.go:299" #[eG 56] (some (56, true))
abbrev sc58 : Oper := oq 181 (.load 33 (.tmp 21)) 33 "laws.go:299" #[eG 56] (some (56, true))
abbrev sc59 : Oper := oq 182 (.call ⟨.value (.func 10), #[.tmp 180, .tmp 181], #[29, 33]⟩) 3 "laws.go:299" #[eD 57, eD 58, eC 56, eG 56] (some (56, true))
abbrev sc60 : Oper := oq 183 (.load 29 (.tmp 20)) 29 "laws.go:299" #[eG 56] (some (56, true))
abbrev sc61 : Oper := oq 184 (.load 33 (.tmp 21)) 33 "laws.go:299" #[eG 56] (some (56, true))
abbrev sc62 : Oper := oq 185 (.call ⟨.value (.func 24), #[.tmp 183, .tmp 184], #[29, 33]⟩) 3 "laws.go:299" #[eD 60, eD 61, eC 59, eG 56] (some (56, true))
abbrev sc63 : Oper := oq 186 (.binOp .eql 3 (.tmp 182) (.tmp 185) 3) 4 "laws.go:299" #[eD 59, eD 62, eG 56] (some (56, true))
abbrev sc64 : Oper := oq 187 (.pick (.tmp 179) (.tmp 186) (.const (.bool false))) 4 "laws.go:299" #[eD 56, eD 63] none
abbrev sc65 : Oper := oq 188 (.move (.tmp 187)) 4 "laws.go:299" #[eD 64, eC 62] none
abbrev sc66 : Oper := oq 189 (.call ⟨.value (.func 25), #[], #[]⟩) 29 "laws.go:299" #[eC 65, eG 65] (some (65, true))
abbrev sc67 : Oper := oq 190 (.call ⟨.value (.func 18), #[.tmp 189], #[29]⟩) 4 "laws.go:299" #[eD 66, eC 66, eG 65] (some (65, true))
abbrev sc68 : Oper := oq 191 (.pick (.tmp 188) (.tmp 190) (.const (.bool false))) 4 "laws.go:299" #[eD 65, eD 67] none
abbrev sc69 : Oper := { dst := some 2, op := Op.assign (Operand.tmp 191), type := 4, pos := "laws.go:299", after := ([{ on := 68, ground := Ground.data }, { on := 67, ground := Ground.chain }, { on := 0, ground := Ground.phase }, { on := 1, ground := Ground.phase }, { on := 2, ground := Ground.phase }, { on := 3, ground := Ground.phase }, { on := 4, ground := Ground.phase }, { on := 5, ground := Ground.phase }, { on := 6, ground := Ground.phase }, { on := 7, ground := Ground.phase }, { on := 8, ground := Ground.phase }, { on := 9, ground := Ground.phase }, { on := 10, ground := Ground.phase }, { on := 11, ground := Ground.phase }, { on := 12, ground := Ground.phase }, { on := 13, ground := Ground.phase }, { on := 14, ground := Ground.phase }, { on := 15, ground := Ground.phase }, { on := 16, ground := Ground.phase }, { on := 17, ground := Ground.phase }, { on := 18, ground := Ground.phase }, { on := 19, ground := Ground.phase }, { on := 20, ground := Ground.phase }, { on := 21, ground := Ground.phase }, { on := 22, ground := Ground.phase }, { on := 23, ground := Ground.phase }, { on := 24, ground := Ground.phase }, { on := 25, ground := Ground.phase }, { on := 26, ground := Ground.phase }, { on := 27, ground := Ground.phase }, { on := 28, ground := Ground.phase }, { on := 29, ground := Ground.phase }, { on := 30, ground := Ground.phase }, { on := 31, ground := Ground.phase }, { on := 32, ground := Ground.phase }].append [{ on := 33, ground := Ground.phase }, { on := 34, ground := Ground.phase }, { on := 35, ground := Ground.phase }, { on := 36, ground := Ground.phase }, { on := 37, ground := Ground.phase }, { on := 38, ground := Ground.phase }, { on := 39, ground := Ground.phase }, { on := 40, ground := Ground.phase }, { on := 41, ground := Ground.phase }, { on := 42, ground := Ground.phase }, { on := 43, ground := Ground.phase }, { on := 44, ground := Ground.phase }, { on := 45, ground := Ground.phase }, { on := 46, ground := Ground.phase }, { on := 47, ground := Ground.phase }, { on := 48, ground := Ground.phase }, { on := 49, ground := Ground.phase }, { on := 50, ground := Ground.phase }, { on := 51, ground := Ground.phase }, { on := 52, ground := Ground.phase }, { on := 53, ground := Ground.phase }, { on := 54, ground := Ground.phase }, { on := 55, ground := Ground.phase }, { on := 56, ground := Ground.phase }, { on := 57, ground := Ground.phase }, { on := 58, ground := Ground.phase }, { on := 59, ground := Ground.phase }, { on := 60, ground := Ground.phase }, { on := 61, ground := Ground.phase }, { on := 62, ground := Ground.phase }, { on := 63, ground := Ground.phase }, { on := 64, ground := Ground.phase }, { on := 65, ground := Ground.phase }, { on := 66, ground := Ground.phase }, { on := 67, ground := Ground.phase }, { on := 68, ground := Ground.phase }]).toArray, guard := none }
set_option maxHeartbeats 40000000 in
theorem fnStates_walk (v : Value) (n : Nat) (hm : n ≤ maxLen) (w : World) (hc : CodeIs w w.heap.size v n) :
  Calls Tryz.prog 3 #[v] w fun e w' => e = .returned (.bool true) ∧ Below w.heap.size w w' := by
 obtain ⟨av, cv, rfl⟩ := hc.form
 have hbig := big_calls av n cv w
 unfold maxLen at hm
 cases hq : decide ((1048576 : Int) < n)
 case true =>
  rw [hq] at hbig
  clear hc
  go_enter Tryz.func3, Tryz.ntmps3
  go_wp2_with fail
  refine hbig.mono ?_
  rintro e w1 ⟨rfl, rfl⟩
  go_wp2
  go_ret
  exact ⟨rfl, Below.refl _ _⟩
 rw [hq] at hbig
 have hn : n ≤ 1048576 := by have := of_decide_eq_false hq; omega
 have HCW : Hid (∀ wx, Below w.heap.size w wx → CodeIs wx w.heap.size (.slice av n cv) n) := fun wx h => hc.below h
 clear hq hc hm
 go_enter Tryz.func3, Tryz.ntmps3
 go_wp2_with fail
 refine hbig.mono ?_
 rintro e w1 ⟨rfl, rfl⟩
 clear hbig
 go_wp2_with fail
 refine (drawState_calls w1.heap.size _ n hn w1 (Nat.le_refl _) (HCW.out _ (Below.refl _ _))).mono ?_
 rintro e w2 ⟨S, hok, hbd, v0, v1, v2, v3, rfl, hown, hb⟩
 have hat := hown.at
 obtain ⟨a0, c0, a1, c1, a2, c2, a3, c3, rfl, rfl, rfl, rfl⟩ := hat.shape
 have HOK := hidI hok
 have HBD := hidI hbd
 obtain ⟨X1, hX1⟩ : ∃ XX, XX = w2.alloc (.cells #[.slice a0 S.l.length c0, .slice a1 S.T.length c1, .slice a2 S.L.length c2, .slice a3 S.C.length c3] 29) := ⟨_, rfl⟩
 have HX : Hid (w2.alloc (.cells #[.slice a0 S.l.length c0, .slice a1 S.T.length c1, .slice a2 S.L.length c2, .slice a3 S.C.length c3] 29) = X1) := hX1.symm
 have hrs : Row X1 w2.heap.size #[.slice a0 S.l.length c0, .slice a1 S.T.length c1, .slice a2 S.L.length c2, .slice a3 S.C.length c3] 29 := by rw [hX1]; exact row_new _ _ _ rfl
 have HAT : Hid (∀ wx, Below X1.heap.size X1 wx → StAt wx S (.slice a0 S.l.length c0) (.slice a1 S.T.length c1) (.slice a2 S.L.length c2) (.slice a3 S.C.length c3)) := by
  have h0 : StAt X1 S (.slice a0 S.l.length c0) (.slice a1 S.T.length c1) (.slice a2 S.L.length c2) (.slice a3 S.C.length c3) := by rw [hX1]; exact hat.alloc _
  exact fun wx h => h0.below h
 have HRS : Hid (∀ wx, Below X1.heap.size X1 wx → Row wx w2.heap.size #[.slice a0 S.l.length c0, .slice a1 S.T.length c1, .slice a2 S.L.length c2, .slice a3 S.C.length c3] 29) := fun wx h => hrs.next h
 have HR4 : Hid (∀ wx, Below X1.heap.size X1 wx → wx.cell? ⟨w2.heap.size, 0, none⟩ = some (.slice a0 S.l.length c0) ∧ wx.cell? ⟨w2.heap.size, 1, none⟩ = some (.slice a1 S.T.length c1) ∧ wx.cell? ⟨w2.heap.size, 2, none⟩ = some (.slice a2 S.L.length c2) ∧ wx.cell? ⟨w2.heap.size, 3, none⟩ = some (.slice a3 S.C.length c3)) := fun wx h => Row.four (hrs.next h)
 have HB1 : Hid (Below w1.heap.size w1 X1) := by rw [hX1]; exact hb.alloc hb.size _
 have HSM : Hid (Small S) := hok.small
 have HNM : Hid (Named S) := hok.named
 have hnT : S.T.length ≤ 10 := hbd.T
 have hnL : S.L.length ≤ 10 := hbd.L
 have hnC : S.C.length ≤ 10 := hbd.C
 have HCG : Hid (0 < S.C.length → ∃ g f, a3 = some ⟨g, f, none⟩ ∧ ∀ j (h : j < S.C.length) wx, Below X1.heap.size X1 wx → ceC wx g (f + j * 8) S.C[j]) := fun h0 => by
  obtain ⟨x, y, hq, hg⟩ := (HAT.out X1 (Below.refl _ _)).2.2.2
  simp only [Value.slice.injEq] at hq
  rw [hq.1]
  obtain ⟨g, f, e, hgl, hcc⟩ := hg h0
  exact ⟨g, f, e, fun j hj wx hx => (hcc j hj).below hx hgl⟩
 have HTG : Hid (0 < S.T.length → ∃ g f, a1 = some ⟨g, f, none⟩ ∧ ∀ j (h : j < S.T.length) wx, Below X1.heap.size X1 wx → taC wx g (f + j * 3) S.T[j]) := fun h0 => by
  obtain ⟨x, y, hq, hg⟩ := (HAT.out X1 (Below.refl _ _)).2.1
  simp only [Value.slice.injEq] at hq
  rw [hq.1]
  obtain ⟨g, f, e, hgl, hcc⟩ := hg h0
  exact ⟨g, f, e, fun j hj wx hx => (hcc j hj).below hx hgl⟩
 have HLG : Hid (0 < S.L.length → ∃ g f, a2 = some ⟨g, f, none⟩ ∧ ∀ j (h : j < S.L.length) wx, Below X1.heap.size X1 wx → liC wx g (f + j * 6) S.L[j]) := fun h0 => by
  obtain ⟨x, y, hq, hg⟩ := (HAT.out X1 (Below.refl _ _)).2.2.1
  simp only [Value.slice.injEq] at hq
  rw [hq.1]
  obtain ⟨g, f, e, hgl, hcc⟩ := hg h0
  exact ⟨g, f, e, fun j hj wx hx => (hcc j hj).below hx hgl⟩
 clear hX1 hrs hb hat hown hok hbd
 go_wp2
 rw [HX.out]
 clear HX
 go_loopw [4] (fun z wr => ∃ k : Nat, k ≤ S.C.length ∧ z = .int .i64 k ∧ Below X1.heap.size X1 wr) (fun z _ => S.C.length - (intOf z).toNat)
 case atStart => exact ⟨0, Nat.zero_le _, rfl, Below.refl _ _⟩
 case round =>
 obtain ⟨k, hk, rfl, hbel⟩ := hrel
 have HBE := hidI hbel
 obtain ⟨d0, d1, d2, d3⟩ := HR4.out _ hbel
 by_cases hlt : k < S.C.length
 case pos =>
  obtain ⟨g, f, rfl, hcc⟩ := HCG.out (by omega)
  have hk1 : (k : Int) < S.C.length := by omega
  have hk0 : (0 : Int) ≤ k := by omega
  have HX := hidI (hcc k hlt)
  have HCX : Hid (∀ wx, Below X1.heap.size X1 wx → Calls Tryz.prog 10 #[.agg #[.slice a0 S.l.length c0, .slice a1 S.T.length c1, .slice a2 S.L.length c2, .slice (some ⟨g, f, none⟩) S.C.length c3], .agg #[.int .i64 S.C[k].r, .int .i64 S.C[k].s]] wx fun e w' => e = .returned (.int .i64 (k : Int)) ∧ Below wx.heap.size wx w') := fun wx h => by
   have := cellAt_calls S _ _ _ _ S.C[k].r S.C[k].s wx HSM.out.2.2.2 (HAT.out wx h)
   rwa [cut_hit (Asc.pair ceLt_trans HOK.out.2.2.2.1.2) hlt ⟨rfl, rfl⟩] at this
  generalize S.C[k] = x at *
  have HS : Hid (∀ wx, Below X1.heap.size X1 wx → wx.cell? ⟨w2.heap.size, 0, none⟩ = some (.slice a0 S.l.length c0) ∧ wx.cell? ⟨w2.heap.size, 1, none⟩ = some (.slice a1 S.T.length c1) ∧ wx.cell? ⟨w2.heap.size, 2, none⟩ = some (.slice a2 S.L.length c2) ∧ wx.cell? ⟨w2.heap.size, 3, none⟩ = some (.slice (some ⟨g, f, none⟩) S.C.length c3) ∧ wx.cell? ⟨g, f + k * 8 + 1, none⟩ = some (.int .i64 x.r) ∧ wx.cell? ⟨g, f + k * 8 + 2, none⟩ = some (.int .i64 x.s)) := fun wx h => by
   obtain ⟨t0, t1, t2, t3⟩ := HR4.out wx h
   have hq := HX.out wx h
   unfold ceC at hq
   exact ⟨t0, t1, t2, t3, hq.2.1, hq.2.2.1⟩
  have hBc : Below X1.heap.size X1 wr := hbel
  clear hcc HX hbel
  go_wp2
  clear d0 d1 d2 d3
  replace hBc := hBc.drew
  have hs := hidI (HS.out _ hBc)
  refine wp_region_held_drew (S := fun w' => w'.cell? ⟨w2.heap.size, 0, none⟩ = some (.slice a0 S.l.length c0) ∧ w'.cell? ⟨w2.heap.size, 1, none⟩ = some (.slice a1 S.T.length c1) ∧ w'.cell? ⟨w2.heap.size, 2, none⟩ = some (.slice a2 S.L.length c2) ∧ w'.cell? ⟨w2.heap.size, 3, none⟩ = some (.slice (some ⟨g, f, none⟩) S.C.length c3) ∧ w'.cell? ⟨g, f + k * 8 + 1, none⟩ = some (.int .i64 x.r) ∧ w'.cell? ⟨g, f + k * 8 + 2, none⟩ = some (.int .i64 x.s)) (by kernel_rfl) hs.out (fun hx => ?_)
  clear hx
  refine wpAnyH_list (l' := #[false, false, false, false, false, false, false, false, false, false]) (by as_aux_lemma => kernel_rfl) ?_
  refine tk 0 sa0 hs.out ?_; simp only [sq]; refine tk 1 sa1 hs.out ?_; simp only [sq]; refine tk 2 sa2 hs.out ?_; simp only [sq]; refine tk 3 sa3 hs.out ?_; simp only [sq]; refine tk 4 sa4 hs.out ?_; simp only [sq]; refine tk 5 sa5 hs.out ?_; simp only [sq]; refine tk 6 sa6 hs.out ?_; simp only [sq]; refine tk 8 sa8 hs.out ?_; simp only [sq]
  refine rd 7 sa7 (fun K hK => ?_)
  go_simp
  refine (HCX.out _ hBc).mono ?_
  rintro e wn ⟨rfl, hbn⟩
  replace hBc := hBc.trans (hbn.mono hBc.size)
  clear hbn
  try go_wp2_with fail
  replace hs := hidI (HS.out _ hBc)
  refine hK.out _ _ hs.out (fun hx => ?_)
  clear hx hK K
  try simp only [s1, s2, s3]
  clear HCX
  refine tk 9 sa9 hs.out ?_; simp only [sq]
  refine wpAnyH_done (by as_aux_lemma => kernel_rfl) ?_ _
  have HBF := hidI hBc
  clear hs hBc HS
  go_wp2
  go_roundw
  case rel => exact ⟨k + 1, by omega, by go_num, HBF.out⟩
  case measure => simp [intOf]; omega
 have hk1 : ¬ ((k : Int) < S.C.length) := by omega
 clear HCG hbel
 go_wp2
 clear d0 d1 d2 d3 hk1 hlt hk
 rename World => Z1
 go_loopw [5] (fun z wr => ∃ k : Nat, k ≤ S.T.length ∧ z = .int .i64 k ∧ Below X1.heap.size X1 wr) (fun z _ => S.T.length - (intOf z).toNat)
 case atStart => exact ⟨0, Nat.zero_le _, rfl, HBE.out⟩
 case round =>
 clear HBE
 obtain ⟨k, hk, rfl, hbel⟩ := hrel
 have HBE := hidI hbel
 obtain ⟨d0, d1, d2, d3⟩ := HR4.out _ hbel
 by_cases hlt : k < S.T.length
 case pos =>
  obtain ⟨g, f, rfl, hcc⟩ := HTG.out (by omega)
  have hk1 : (k : Int) < S.T.length := by omega
  have hk0 : (0 : Int) ≤ k := by omega
  have HX := hidI (hcc k hlt)
  have HCX : Hid (∀ wx, Below X1.heap.size X1 wx → Calls Tryz.prog 11 #[.agg #[.slice a0 S.l.length c0, .slice (some ⟨g, f, none⟩) S.T.length c1, .slice a2 S.L.length c2, .slice a3 S.C.length c3], .string S.T[k].o, .int .i64 S.T[k].r] wx fun e w' => e = .returned (.int .i64 S.T[k].n) ∧ Below wx.heap.size wx w') := fun wx h => by
   have := tallyAt_calls S _ _ _ _ S.T[k].o S.T[k].r wx HSM.out.2.1 (HAT.out wx h)
   rwa [tallyAt_of S.T S.T[k] (Asc.pair taLt_trans HOK.out.2.1.2) (List.getElem_mem hlt)] at this
  generalize S.T[k] = x at *
  have HS : Hid (∀ wx, Below X1.heap.size X1 wx → wx.cell? ⟨w2.heap.size, 0, none⟩ = some (.slice a0 S.l.length c0) ∧ wx.cell? ⟨w2.heap.size, 1, none⟩ = some (.slice (some ⟨g, f, none⟩) S.T.length c1) ∧ wx.cell? ⟨w2.heap.size, 2, none⟩ = some (.slice a2 S.L.length c2) ∧ wx.cell? ⟨w2.heap.size, 3, none⟩ = some (.slice a3 S.C.length c3) ∧ wx.cell? ⟨g, f + k * 3, none⟩ = some (.string x.o) ∧ wx.cell? ⟨g, f + k * 3 + 1, none⟩ = some (.int .i64 x.r) ∧ wx.cell? ⟨g, f + k * 3 + 2, none⟩ = some (.int .i64 x.n)) := fun wx h => by
   obtain ⟨t0, t1, t2, t3⟩ := HR4.out wx h
   have hq := HX.out wx h
   unfold taC at hq
   exact ⟨t0, t1, t2, t3, hq⟩
  have hBc : Below X1.heap.size X1 wr := hbel
  clear hcc HX hbel
  go_wp2
  clear d0 d1 d2 d3
  replace hBc := hBc.drew
  have hs := hidI (HS.out _ hBc)
  refine wp_region_held_drew (S := fun w' => w'.cell? ⟨w2.heap.size, 0, none⟩ = some (.slice a0 S.l.length c0) ∧ w'.cell? ⟨w2.heap.size, 1, none⟩ = some (.slice (some ⟨g, f, none⟩) S.T.length c1) ∧ w'.cell? ⟨w2.heap.size, 2, none⟩ = some (.slice a2 S.L.length c2) ∧ w'.cell? ⟨w2.heap.size, 3, none⟩ = some (.slice a3 S.C.length c3) ∧ w'.cell? ⟨g, f + k * 3, none⟩ = some (.string x.o) ∧ w'.cell? ⟨g, f + k * 3 + 1, none⟩ = some (.int .i64 x.r) ∧ w'.cell? ⟨g, f + k * 3 + 2, none⟩ = some (.int .i64 x.n)) (by kernel_rfl) hs.out (fun hx => ?_)
  clear hx
  refine wpAnyH_list (l' := #[false, false, false, false, false, false, false, false, false, false, false, false, false, false, false, false, false, false, false, false, false]) (by as_aux_lemma => kernel_rfl) ?_
  refine tk 0 sb0 hs.out ?_; simp only [sq]; refine tk 1 sb1 hs.out ?_; simp only [sq]; refine tk 2 sb2 hs.out ?_; simp only [sq]; refine tk 3 sb3 hs.out ?_; simp only [sq]; refine tk 4 sb4 hs.out ?_; simp only [sq]; refine tk 5 sb5 hs.out ?_; simp only [sq]; refine tk 6 sb6 hs.out ?_; simp only [sq]; refine tk 7 sb7 hs.out ?_; simp only [sq]; refine tk 8 sb8 hs.out ?_; simp only [sq]; refine tk 9 sb9 hs.out ?_; simp only [sq]; refine tk 10 sb10 hs.out ?_; simp only [sq]; refine tk 11 sb11 hs.out ?_; simp only [sq]; refine tk 12 sb12 hs.out ?_; simp only [sq]; refine tk 14 sb14 hs.out ?_; simp only [sq]; refine tk 15 sb15 hs.out ?_; simp only [sq]; refine tk 16 sb16 hs.out ?_; simp only [sq]; refine tk 17 sb17 hs.out ?_; simp only [sq]; refine tk 18 sb18 hs.out ?_; simp only [sq]; refine tk 19 sb19 hs.out ?_; simp only [sq]
  refine rd 13 sb13 (fun K hK => ?_)
  go_simp
  refine (HCX.out _ hBc).mono ?_
  rintro e wn ⟨rfl, hbn⟩
  replace hBc := hBc.trans (hbn.mono hBc.size)
  clear hbn
  try go_wp2_with fail
  replace hs := hidI (HS.out _ hBc)
  refine hK.out _ _ hs.out (fun hx => ?_)
  clear hx hK K
  try simp only [s1, s2, s3]
  clear HCX
  refine tk 20 sb20 hs.out ?_; simp only [sq]
  refine wpAnyH_done (by as_aux_lemma => kernel_rfl) ?_ _
  have HBF := hidI hBc
  clear hs hBc HS
  go_wp2
  go_roundw
  case rel => exact ⟨k + 1, by omega, by go_num, HBF.out⟩
  case measure => simp [intOf]; omega
 have hk1 : ¬ ((k : Int) < S.T.length) := by omega
 clear HTG hbel
 go_wp2
 clear d0 d1 d2 d3 hk1 hlt hk
 rename World => Z2
 go_loopw [6, 7] (fun y z wr => ∃ k q : Nat, k ≤ S.L.length ∧ y = .int .i64 q ∧ z = .int .i64 k ∧ k ≤ q ∧ q ≤ 10 * k ∧ Below X1.heap.size X1 wr) (fun _ z _ => S.L.length - (intOf z).toNat)
 case atStart => exact ⟨0, 0, Nat.zero_le _, rfl, rfl, Nat.le_refl _, Nat.le_refl _, HBE.out⟩
 case round =>
 clear HBE
 obtain ⟨k, q, hk, rfl, rfl, hkq, hq10, hbel⟩ := hrel
 have HBE := hidI hbel
 have hsz := hbel.size
 obtain ⟨d0, d1, d2, d3⟩ := HR4.out _ hbel
 by_cases hlt : k < S.L.length
 case pos =>
  obtain ⟨g, f, rfl, hcc⟩ := HLG.out (by omega)
  have hk1 : (k : Int) < S.L.length := by omega
  have hk0 : (0 : Int) ≤ k := by omega
  have hq := hcc k hlt _ hbel
  have hl0 := livesOf_pos (List.getElem_mem hlt)
  have hl1 := livesOf_le S.L S.L[k].m S.L[k].o S.L[k].y
  have HCX : Hid (∀ wx, Below X1.heap.size X1 wx → Calls Tryz.prog 12 #[.agg #[.slice a0 S.l.length c0, .slice a1 S.T.length c1, .slice (some ⟨g, f, none⟩) S.L.length c2, .slice a3 S.C.length c3], .bool S.L[k].m, .string S.L[k].o, .string S.L[k].y] wx fun e w' => ∃ u, e = .returned u ∧ (∃ a c, u = .slice a (livesOf S.L S.L[k].m S.L[k].o S.L[k].y).length c) ∧ Below wx.heap.size wx w') := fun wx h => by
   refine (livesOf_calls S _ _ _ _ S.L[k].m S.L[k].o S.L[k].y wx HSM.out.2.2.1 HNM.out.2.1 (HAT.out wx h)).mono ?_
   rintro e w' ⟨u, rfl, ho, hb⟩
   exact ⟨u, rfl, li_shape ho, hb⟩
  generalize S.L[k] = x at *
  generalize (livesOf S.L x.m x.o x.y).length = m at *
  unfold liC at hq
  obtain ⟨q0, q1, q2, q3, q4, q5⟩ := hq
  obtain ⟨WW, hWW⟩ : ∃ WW, WW = wr.alloc (.cells #[.bool x.m, .string x.o, .string x.y, .int .i64 x.v, .int .i64 x.r, .int .i64 x.s] 40) := ⟨_, rfl⟩
  have HBA : Hid (Below X1.heap.size X1 WW) := by rw [hWW]; exact HBE.out.alloc hsz _
  have hRW : Row WW wr.heap.size #[.bool x.m, .string x.o, .string x.y, .int .i64 x.v, .int .i64 x.r, .int .i64 x.s] 40 := by rw [hWW]; exact row_new wr _ _ rfl
  have HWW : Hid (wr.alloc (.cells #[.bool x.m, .string x.o, .string x.y, .int .i64 x.v, .int .i64 x.r, .int .i64 x.s] 40) = WW) := hWW.symm
  obtain ⟨e0, e1, e2, e3⟩ := HR4.out _ HBA.out
  have m0 := hRW.cell 0 rfl
  have m1 := hRW.cell 1 rfl
  have m2 := hRW.cell 2 rfl
  rw [hWW] at e0 e1 e2 e3 m0 m1 m2
  have hw : IntKind.i64.wrap ((q : Int) + m) = (q : Int) + m := by rw [IntKind.wrap_i64] <;> omega
  have hmz : ((m : Int) == 0) = false := by simp; omega
  have hmz2 : ¬ m = 0 := by omega
  clear hcc hbel hWW hRW
  go_wp2_with fail
  rw [HWW.out]
  refine (HCX.out _ HBA.out).mono ?_
  rintro e w3 ⟨u, rfl, ⟨ua, uc, rfl⟩, hb3⟩
  have HBF := hidI (HBA.out.trans (hb3.mono HBA.out.size))
  clear hb3 d0 d1 d2 d3 e0 e1 e2 e3 m0 m1 m2 q0 q1 q2 q3 q4 q5 HCX HWW
  go_wp2
  go_roundw
  case rel => exact ⟨k + 1, q + m, by omega, by go_num, by go_num, by omega, by omega, HBF.out⟩
  case measure => simp [intOf]; omega
 have hk1 : ¬ ((k : Int) < S.L.length) := by omega
 have hge : (S.L.length : Int) ≤ q := by omega
 clear HLG hbel hsz
 go_wp2_with fail
 clear d0 d1 d2 d3 hk1 hlt hkq hq10 hk
 rename World => Z3
 have HBZ : Hid (Below w1.heap.size w1 Z3) := HB1.out.trans (HBE.out.mono HB1.out.size)
 have RS : Hid (∀ wx, Below Z3.heap.size Z3 wx → Row wx (w2.heap.size) #[.slice a0 S.l.length c0, .slice a1 S.T.length c1, .slice a2 S.L.length c2, .slice a3 S.C.length c3] 29) := fun wx h => HRS.out wx (HBE.out.trans (h.mono HBE.out.size))
 have AS : Hid (∀ wx, Below Z3.heap.size Z3 wx → StAt wx S (.slice a0 S.l.length c0) (.slice a1 S.T.length c1) (.slice a2 S.L.length c2) (.slice a3 S.C.length c3)) := fun wx h => HAT.out wx (HBE.out.trans (h.mono HBE.out.size))
 clear HRS HAT HR4 HBE HB1
 refine (drawSameState_calls w1.heap.size _ n hn Z3 HBZ.out.size (HCW.out _ HBZ.out)).mono ?_
 rintro e x1 ⟨P, hwP, Q, hwQ, u0, u1, u2, u3, v0, v1, v2, v3, rfl, hownP, hownQ, hb⟩
 obtain ⟨b0, bc0, b1, bc1, b2, bc2, b3, bc3, rfl, rfl, rfl, rfl⟩ := hownP.at.shape
 obtain ⟨d0, dc0, d1, dc1, d2, dc2, d3, dc3, rfl, rfl, rfl, rfl⟩ := hownQ.at.shape
 obtain ⟨Y1, hY⟩ : ∃ XX, XX = (x1.alloc (.cells #[.slice b0 P.l.length bc0, .slice b1 P.T.length bc1, .slice b2 P.L.length bc2, .slice b3 P.C.length bc3] 29)).alloc (.cells #[.slice d0 Q.l.length dc0, .slice d1 Q.T.length dc1, .slice d2 Q.L.length dc2, .slice d3 Q.C.length dc3] 29) := ⟨_, rfl⟩
 have HY : Hid ((x1.alloc (.cells #[.slice b0 P.l.length bc0, .slice b1 P.T.length bc1, .slice b2 P.L.length bc2, .slice b3 P.C.length bc3] 29)).alloc (.cells #[.slice d0 Q.l.length dc0, .slice d1 Q.T.length dc1, .slice d2 Q.L.length dc2, .slice d3 Q.C.length dc3] 29) = Y1) := hY.symm
 have hbx : Below x1.heap.size x1 Y1 := by rw [hY]; exact ((Below.refl _ _).alloc (Nat.le_refl _) _).alloc (by simp) _
 have HBN1 : Hid (Below w1.heap.size w1 Y1) := HBZ.out.trans ((hb.trans (hbx.mono hb.size)).mono HBZ.out.size)
 have hstep : Below Z3.heap.size Z3 Y1 := hb.trans (hbx.mono hb.size)
 replace RS : Hid (∀ wx, Below Y1.heap.size Y1 wx → Row wx (w2.heap.size) #[.slice a0 S.l.length c0, .slice a1 S.T.length c1, .slice a2 S.L.length c2, .slice a3 S.C.length c3] 29) := fun wx h => RS.out wx (hstep.trans (h.mono hstep.size))
 replace AS : Hid (∀ wx, Below Y1.heap.size Y1 wx → StAt wx S (.slice a0 S.l.length c0) (.slice a1 S.T.length c1) (.slice a2 S.L.length c2) (.slice a3 S.C.length c3)) := fun wx h => AS.out wx (hstep.trans (h.mono hstep.size))
 have hrP : Row Y1 (x1.heap.size) #[.slice b0 P.l.length bc0, .slice b1 P.T.length bc1, .slice b2 P.L.length bc2, .slice b3 P.C.length bc3] 29 := by rw [hY]; exact (row_new _ _ _ rfl).alloc _
 have haP : StAt Y1 P (.slice b0 P.l.length bc0) (.slice b1 P.T.length bc1) (.slice b2 P.L.length bc2) (.slice b3 P.C.length bc3) := hownP.at.below hbx
 have RP : Hid (∀ wx, Below Y1.heap.size Y1 wx → Row wx (x1.heap.size) #[.slice b0 P.l.length bc0, .slice b1 P.T.length bc1, .slice b2 P.L.length bc2, .slice b3 P.C.length bc3] 29) := fun wx h => hrP.next h
 have AP : Hid (∀ wx, Below Y1.heap.size Y1 wx → StAt wx P (.slice b0 P.l.length bc0) (.slice b1 P.T.length bc1) (.slice b2 P.L.length bc2) (.slice b3 P.C.length bc3)) := fun wx h => haP.below h
 have hrQ : Row Y1 (x1.heap.size + 1) #[.slice d0 Q.l.length dc0, .slice d1 Q.T.length dc1, .slice d2 Q.L.length dc2, .slice d3 Q.C.length dc3] 29 := by rw [hY]; exact row_new _ _ _ (by simp)
 have haQ : StAt Y1 Q (.slice d0 Q.l.length dc0) (.slice d1 Q.T.length dc1) (.slice d2 Q.L.length dc2) (.slice d3 Q.C.length dc3) := hownQ.at.below hbx
 have RQ : Hid (∀ wx, Below Y1.heap.size Y1 wx → Row wx (x1.heap.size + 1) #[.slice d0 Q.l.length dc0, .slice d1 Q.T.length dc1, .slice d2 Q.L.length dc2, .slice d3 Q.C.length dc3] 29) := fun wx h => hrQ.next h
 have AQ : Hid (∀ wx, Below Y1.heap.size Y1 wx → StAt wx Q (.slice d0 Q.l.length dc0) (.slice d1 Q.T.length dc1) (.slice d2 Q.L.length dc2) (.slice d3 Q.C.length dc3)) := fun wx h => haQ.below h
 clear hY hb hbx hstep hownP hrP haP hownQ hrQ haQ  HBZ
 go_wp2_with fail
 rw [HY.out]
 clear HY
 refine (drawStateOk_calls w1.heap.size _ n hn Y1 HBN1.out.size (HCW.out _ HBN1.out)).mono ?_
 rintro e x2 ⟨R, hwR, v0, v1, v2, v3, rfl, hownR, hb⟩
 obtain ⟨e0, ec0, e1, ec1, e2, ec2, e3, ec3, rfl, rfl, rfl, rfl⟩ := hownR.at.shape
 obtain ⟨Y2, hY⟩ : ∃ XX, XX = x2.alloc (.cells #[.slice e0 R.l.length ec0, .slice e1 R.T.length ec1, .slice e2 R.L.length ec2, .slice e3 R.C.length ec3] 29) := ⟨_, rfl⟩
 have HY : Hid (x2.alloc (.cells #[.slice e0 R.l.length ec0, .slice e1 R.T.length ec1, .slice e2 R.L.length ec2, .slice e3 R.C.length ec3] 29) = Y2) := hY.symm
 have hbx : Below x2.heap.size x2 Y2 := by rw [hY]; exact (Below.refl _ _).alloc (Nat.le_refl _) _
 have HBN2 : Hid (Below w1.heap.size w1 Y2) := HBN1.out.trans ((hb.trans (hbx.mono hb.size)).mono HBN1.out.size)
 have hstep : Below Y1.heap.size Y1 Y2 := hb.trans (hbx.mono hb.size)
 replace RS : Hid (∀ wx, Below Y2.heap.size Y2 wx → Row wx (w2.heap.size) #[.slice a0 S.l.length c0, .slice a1 S.T.length c1, .slice a2 S.L.length c2, .slice a3 S.C.length c3] 29) := fun wx h => RS.out wx (hstep.trans (h.mono hstep.size))
 replace AS : Hid (∀ wx, Below Y2.heap.size Y2 wx → StAt wx S (.slice a0 S.l.length c0) (.slice a1 S.T.length c1) (.slice a2 S.L.length c2) (.slice a3 S.C.length c3)) := fun wx h => AS.out wx (hstep.trans (h.mono hstep.size))
 replace RP : Hid (∀ wx, Below Y2.heap.size Y2 wx → Row wx (x1.heap.size) #[.slice b0 P.l.length bc0, .slice b1 P.T.length bc1, .slice b2 P.L.length bc2, .slice b3 P.C.length bc3] 29) := fun wx h => RP.out wx (hstep.trans (h.mono hstep.size))
 replace AP : Hid (∀ wx, Below Y2.heap.size Y2 wx → StAt wx P (.slice b0 P.l.length bc0) (.slice b1 P.T.length bc1) (.slice b2 P.L.length bc2) (.slice b3 P.C.length bc3)) := fun wx h => AP.out wx (hstep.trans (h.mono hstep.size))
 replace RQ : Hid (∀ wx, Below Y2.heap.size Y2 wx → Row wx (x1.heap.size + 1) #[.slice d0 Q.l.length dc0, .slice d1 Q.T.length dc1, .slice d2 Q.L.length dc2, .slice d3 Q.C.length dc3] 29) := fun wx h => RQ.out wx (hstep.trans (h.mono hstep.size))
 replace AQ : Hid (∀ wx, Below Y2.heap.size Y2 wx → StAt wx Q (.slice d0 Q.l.length dc0) (.slice d1 Q.T.length dc1) (.slice d2 Q.L.length dc2) (.slice d3 Q.C.length dc3)) := fun wx h => AQ.out wx (hstep.trans (h.mono hstep.size))
 have hrR : Row Y2 (x2.heap.size) #[.slice e0 R.l.length ec0, .slice e1 R.T.length ec1, .slice e2 R.L.length ec2, .slice e3 R.C.length ec3] 29 := by rw [hY]; exact row_new _ _ _ rfl
 have haR : StAt Y2 R (.slice e0 R.l.length ec0) (.slice e1 R.T.length ec1) (.slice e2 R.L.length ec2) (.slice e3 R.C.length ec3) := hownR.at.below hbx
 have RR : Hid (∀ wx, Below Y2.heap.size Y2 wx → Row wx (x2.heap.size) #[.slice e0 R.l.length ec0, .slice e1 R.T.length ec1, .slice e2 R.L.length ec2, .slice e3 R.C.length ec3] 29) := fun wx h => hrR.next h
 have AR : Hid (∀ wx, Below Y2.heap.size Y2 wx → StAt wx R (.slice e0 R.l.length ec0) (.slice e1 R.T.length ec1) (.slice e2 R.L.length ec2) (.slice e3 R.C.length ec3)) := fun wx h => haR.below h
 clear hY hb hbx hstep hownR hrR haR  HBN1
 go_wp2_with fail
 rw [HY.out]
 clear HY
 refine (drawTallyAt_calls w1.heap.size _ n hn Y2 HBN2.out.size (HCW.out _ HBN2.out)).mono ?_
 rintro e x3 ⟨U, hwU, tob, trp, hto, v0, v1, v2, v3, rfl, hownU, hb⟩
 obtain ⟨h0, hc0, h1, hc1, h2, hc2, h3, hc3, rfl, rfl, rfl, rfl⟩ := hownU.at.shape
 obtain ⟨Y3, hY⟩ : ∃ XX, XX = x3.alloc (.cells #[.slice h0 U.l.length hc0, .slice h1 U.T.length hc1, .slice h2 U.L.length hc2, .slice h3 U.C.length hc3] 29) := ⟨_, rfl⟩
 have HY : Hid (x3.alloc (.cells #[.slice h0 U.l.length hc0, .slice h1 U.T.length hc1, .slice h2 U.L.length hc2, .slice h3 U.C.length hc3] 29) = Y3) := hY.symm
 have hbx : Below x3.heap.size x3 Y3 := by rw [hY]; exact (Below.refl _ _).alloc (Nat.le_refl _) _
 have HBN3 : Hid (Below w1.heap.size w1 Y3) := HBN2.out.trans ((hb.trans (hbx.mono hb.size)).mono HBN2.out.size)
 have hstep : Below Y2.heap.size Y2 Y3 := hb.trans (hbx.mono hb.size)
 replace RS : Hid (∀ wx, Below Y3.heap.size Y3 wx → Row wx (w2.heap.size) #[.slice a0 S.l.length c0, .slice a1 S.T.length c1, .slice a2 S.L.length c2, .slice a3 S.C.length c3] 29) := fun wx h => RS.out wx (hstep.trans (h.mono hstep.size))
 replace AS : Hid (∀ wx, Below Y3.heap.size Y3 wx → StAt wx S (.slice a0 S.l.length c0) (.slice a1 S.T.length c1) (.slice a2 S.L.length c2) (.slice a3 S.C.length c3)) := fun wx h => AS.out wx (hstep.trans (h.mono hstep.size))
 replace RP : Hid (∀ wx, Below Y3.heap.size Y3 wx → Row wx (x1.heap.size) #[.slice b0 P.l.length bc0, .slice b1 P.T.length bc1, .slice b2 P.L.length bc2, .slice b3 P.C.length bc3] 29) := fun wx h => RP.out wx (hstep.trans (h.mono hstep.size))
 replace AP : Hid (∀ wx, Below Y3.heap.size Y3 wx → StAt wx P (.slice b0 P.l.length bc0) (.slice b1 P.T.length bc1) (.slice b2 P.L.length bc2) (.slice b3 P.C.length bc3)) := fun wx h => AP.out wx (hstep.trans (h.mono hstep.size))
 replace RQ : Hid (∀ wx, Below Y3.heap.size Y3 wx → Row wx (x1.heap.size + 1) #[.slice d0 Q.l.length dc0, .slice d1 Q.T.length dc1, .slice d2 Q.L.length dc2, .slice d3 Q.C.length dc3] 29) := fun wx h => RQ.out wx (hstep.trans (h.mono hstep.size))
 replace AQ : Hid (∀ wx, Below Y3.heap.size Y3 wx → StAt wx Q (.slice d0 Q.l.length dc0) (.slice d1 Q.T.length dc1) (.slice d2 Q.L.length dc2) (.slice d3 Q.C.length dc3)) := fun wx h => AQ.out wx (hstep.trans (h.mono hstep.size))
 replace RR : Hid (∀ wx, Below Y3.heap.size Y3 wx → Row wx (x2.heap.size) #[.slice e0 R.l.length ec0, .slice e1 R.T.length ec1, .slice e2 R.L.length ec2, .slice e3 R.C.length ec3] 29) := fun wx h => RR.out wx (hstep.trans (h.mono hstep.size))
 replace AR : Hid (∀ wx, Below Y3.heap.size Y3 wx → StAt wx R (.slice e0 R.l.length ec0) (.slice e1 R.T.length ec1) (.slice e2 R.L.length ec2) (.slice e3 R.C.length ec3)) := fun wx h => AR.out wx (hstep.trans (h.mono hstep.size))
 have hrU : Row Y3 (x3.heap.size) #[.slice h0 U.l.length hc0, .slice h1 U.T.length hc1, .slice h2 U.L.length hc2, .slice h3 U.C.length hc3] 29 := by rw [hY]; exact row_new _ _ _ rfl
 have haU : StAt Y3 U (.slice h0 U.l.length hc0) (.slice h1 U.T.length hc1) (.slice h2 U.L.length hc2) (.slice h3 U.C.length hc3) := hownU.at.below hbx
 have RU : Hid (∀ wx, Below Y3.heap.size Y3 wx → Row wx (x3.heap.size) #[.slice h0 U.l.length hc0, .slice h1 U.T.length hc1, .slice h2 U.L.length hc2, .slice h3 U.C.length hc3] 29) := fun wx h => hrU.next h
 have AU : Hid (∀ wx, Below Y3.heap.size Y3 wx → StAt wx U (.slice h0 U.l.length hc0) (.slice h1 U.T.length hc1) (.slice h2 U.L.length hc2) (.slice h3 U.C.length hc3)) := fun wx h => haU.below h
 clear hY hb hbx hstep hownU hrU haU  HBN2
 go_wp2_with fail
 rw [HY.out]
 clear HY
 refine (drawLivesOf_calls w1.heap.size _ n hn Y3 HBN3.out.size (HCW.out _ HBN3.out)).mono ?_
 rintro e x4 ⟨V, hwV, lm, lob, ly, hlo, hly, v0, v1, v2, v3, rfl, hownV, hb⟩
 obtain ⟨i0, ic0, i1, ic1, i2, ic2, i3, ic3, rfl, rfl, rfl, rfl⟩ := hownV.at.shape
 obtain ⟨Y4, hY⟩ : ∃ XX, XX = x4.alloc (.cells #[.slice i0 V.l.length ic0, .slice i1 V.T.length ic1, .slice i2 V.L.length ic2, .slice i3 V.C.length ic3] 29) := ⟨_, rfl⟩
 have HY : Hid (x4.alloc (.cells #[.slice i0 V.l.length ic0, .slice i1 V.T.length ic1, .slice i2 V.L.length ic2, .slice i3 V.C.length ic3] 29) = Y4) := hY.symm
 have hbx : Below x4.heap.size x4 Y4 := by rw [hY]; exact (Below.refl _ _).alloc (Nat.le_refl _) _
 have HBN4 : Hid (Below w1.heap.size w1 Y4) := HBN3.out.trans ((hb.trans (hbx.mono hb.size)).mono HBN3.out.size)
 have hstep : Below Y3.heap.size Y3 Y4 := hb.trans (hbx.mono hb.size)
 replace RS : Hid (∀ wx, Below Y4.heap.size Y4 wx → Row wx (w2.heap.size) #[.slice a0 S.l.length c0, .slice a1 S.T.length c1, .slice a2 S.L.length c2, .slice a3 S.C.length c3] 29) := fun wx h => RS.out wx (hstep.trans (h.mono hstep.size))
 replace AS : Hid (∀ wx, Below Y4.heap.size Y4 wx → StAt wx S (.slice a0 S.l.length c0) (.slice a1 S.T.length c1) (.slice a2 S.L.length c2) (.slice a3 S.C.length c3)) := fun wx h => AS.out wx (hstep.trans (h.mono hstep.size))
 replace RP : Hid (∀ wx, Below Y4.heap.size Y4 wx → Row wx (x1.heap.size) #[.slice b0 P.l.length bc0, .slice b1 P.T.length bc1, .slice b2 P.L.length bc2, .slice b3 P.C.length bc3] 29) := fun wx h => RP.out wx (hstep.trans (h.mono hstep.size))
 replace AP : Hid (∀ wx, Below Y4.heap.size Y4 wx → StAt wx P (.slice b0 P.l.length bc0) (.slice b1 P.T.length bc1) (.slice b2 P.L.length bc2) (.slice b3 P.C.length bc3)) := fun wx h => AP.out wx (hstep.trans (h.mono hstep.size))
 replace RQ : Hid (∀ wx, Below Y4.heap.size Y4 wx → Row wx (x1.heap.size + 1) #[.slice d0 Q.l.length dc0, .slice d1 Q.T.length dc1, .slice d2 Q.L.length dc2, .slice d3 Q.C.length dc3] 29) := fun wx h => RQ.out wx (hstep.trans (h.mono hstep.size))
 replace AQ : Hid (∀ wx, Below Y4.heap.size Y4 wx → StAt wx Q (.slice d0 Q.l.length dc0) (.slice d1 Q.T.length dc1) (.slice d2 Q.L.length dc2) (.slice d3 Q.C.length dc3)) := fun wx h => AQ.out wx (hstep.trans (h.mono hstep.size))
 replace RR : Hid (∀ wx, Below Y4.heap.size Y4 wx → Row wx (x2.heap.size) #[.slice e0 R.l.length ec0, .slice e1 R.T.length ec1, .slice e2 R.L.length ec2, .slice e3 R.C.length ec3] 29) := fun wx h => RR.out wx (hstep.trans (h.mono hstep.size))
 replace AR : Hid (∀ wx, Below Y4.heap.size Y4 wx → StAt wx R (.slice e0 R.l.length ec0) (.slice e1 R.T.length ec1) (.slice e2 R.L.length ec2) (.slice e3 R.C.length ec3)) := fun wx h => AR.out wx (hstep.trans (h.mono hstep.size))
 replace RU : Hid (∀ wx, Below Y4.heap.size Y4 wx → Row wx (x3.heap.size) #[.slice h0 U.l.length hc0, .slice h1 U.T.length hc1, .slice h2 U.L.length hc2, .slice h3 U.C.length hc3] 29) := fun wx h => RU.out wx (hstep.trans (h.mono hstep.size))
 replace AU : Hid (∀ wx, Below Y4.heap.size Y4 wx → StAt wx U (.slice h0 U.l.length hc0) (.slice h1 U.T.length hc1) (.slice h2 U.L.length hc2) (.slice h3 U.C.length hc3)) := fun wx h => AU.out wx (hstep.trans (h.mono hstep.size))
 have hrV : Row Y4 (x4.heap.size) #[.slice i0 V.l.length ic0, .slice i1 V.T.length ic1, .slice i2 V.L.length ic2, .slice i3 V.C.length ic3] 29 := by rw [hY]; exact row_new _ _ _ rfl
 have haV : StAt Y4 V (.slice i0 V.l.length ic0) (.slice i1 V.T.length ic1) (.slice i2 V.L.length ic2) (.slice i3 V.C.length ic3) := hownV.at.below hbx
 have RV : Hid (∀ wx, Below Y4.heap.size Y4 wx → Row wx (x4.heap.size) #[.slice i0 V.l.length ic0, .slice i1 V.T.length ic1, .slice i2 V.L.length ic2, .slice i3 V.C.length ic3] 29) := fun wx h => hrV.next h
 have AV : Hid (∀ wx, Below Y4.heap.size Y4 wx → StAt wx V (.slice i0 V.l.length ic0) (.slice i1 V.T.length ic1) (.slice i2 V.L.length ic2) (.slice i3 V.C.length ic3)) := fun wx h => haV.below h
 clear hY hb hbx hstep hownV hrV haV  HBN3
 go_wp2_with fail
 rw [HY.out]
 clear HY
 refine (drawCellAt_calls w1.heap.size _ n hn Y4 HBN4.out.size (HCW.out _ HBN4.out)).mono ?_
 rintro e x5 ⟨F, hwF, fr, fs, v0, v1, v2, v3, rfl, hownF, hb⟩
 obtain ⟨j0, jc0, j1, jc1, j2, jc2, j3, jc3, rfl, rfl, rfl, rfl⟩ := hownF.at.shape
 obtain ⟨Y5, hY⟩ : ∃ XX, XX = (x5.alloc (.cells #[.slice j0 F.l.length jc0, .slice j1 F.T.length jc1, .slice j2 F.L.length jc2, .slice j3 F.C.length jc3] 29)).alloc (.cells #[.int .i64 fr, .int .i64 fs] 33) := ⟨_, rfl⟩
 have HY : Hid ((x5.alloc (.cells #[.slice j0 F.l.length jc0, .slice j1 F.T.length jc1, .slice j2 F.L.length jc2, .slice j3 F.C.length jc3] 29)).alloc (.cells #[.int .i64 fr, .int .i64 fs] 33) = Y5) := hY.symm
 have hbx : Below x5.heap.size x5 Y5 := by rw [hY]; exact ((Below.refl _ _).alloc (Nat.le_refl _) _).alloc (by simp) _
 have HBN5 : Hid (Below w1.heap.size w1 Y5) := HBN4.out.trans ((hb.trans (hbx.mono hb.size)).mono HBN4.out.size)
 have hstep : Below Y4.heap.size Y4 Y5 := hb.trans (hbx.mono hb.size)
 replace RS : Hid (∀ wx, Below Y5.heap.size Y5 wx → Row wx (w2.heap.size) #[.slice a0 S.l.length c0, .slice a1 S.T.length c1, .slice a2 S.L.length c2, .slice a3 S.C.length c3] 29) := fun wx h => RS.out wx (hstep.trans (h.mono hstep.size))
 replace AS : Hid (∀ wx, Below Y5.heap.size Y5 wx → StAt wx S (.slice a0 S.l.length c0) (.slice a1 S.T.length c1) (.slice a2 S.L.length c2) (.slice a3 S.C.length c3)) := fun wx h => AS.out wx (hstep.trans (h.mono hstep.size))
 replace RP : Hid (∀ wx, Below Y5.heap.size Y5 wx → Row wx (x1.heap.size) #[.slice b0 P.l.length bc0, .slice b1 P.T.length bc1, .slice b2 P.L.length bc2, .slice b3 P.C.length bc3] 29) := fun wx h => RP.out wx (hstep.trans (h.mono hstep.size))
 replace AP : Hid (∀ wx, Below Y5.heap.size Y5 wx → StAt wx P (.slice b0 P.l.length bc0) (.slice b1 P.T.length bc1) (.slice b2 P.L.length bc2) (.slice b3 P.C.length bc3)) := fun wx h => AP.out wx (hstep.trans (h.mono hstep.size))
 replace RQ : Hid (∀ wx, Below Y5.heap.size Y5 wx → Row wx (x1.heap.size + 1) #[.slice d0 Q.l.length dc0, .slice d1 Q.T.length dc1, .slice d2 Q.L.length dc2, .slice d3 Q.C.length dc3] 29) := fun wx h => RQ.out wx (hstep.trans (h.mono hstep.size))
 replace AQ : Hid (∀ wx, Below Y5.heap.size Y5 wx → StAt wx Q (.slice d0 Q.l.length dc0) (.slice d1 Q.T.length dc1) (.slice d2 Q.L.length dc2) (.slice d3 Q.C.length dc3)) := fun wx h => AQ.out wx (hstep.trans (h.mono hstep.size))
 replace RR : Hid (∀ wx, Below Y5.heap.size Y5 wx → Row wx (x2.heap.size) #[.slice e0 R.l.length ec0, .slice e1 R.T.length ec1, .slice e2 R.L.length ec2, .slice e3 R.C.length ec3] 29) := fun wx h => RR.out wx (hstep.trans (h.mono hstep.size))
 replace AR : Hid (∀ wx, Below Y5.heap.size Y5 wx → StAt wx R (.slice e0 R.l.length ec0) (.slice e1 R.T.length ec1) (.slice e2 R.L.length ec2) (.slice e3 R.C.length ec3)) := fun wx h => AR.out wx (hstep.trans (h.mono hstep.size))
 replace RU : Hid (∀ wx, Below Y5.heap.size Y5 wx → Row wx (x3.heap.size) #[.slice h0 U.l.length hc0, .slice h1 U.T.length hc1, .slice h2 U.L.length hc2, .slice h3 U.C.length hc3] 29) := fun wx h => RU.out wx (hstep.trans (h.mono hstep.size))
 replace AU : Hid (∀ wx, Below Y5.heap.size Y5 wx → StAt wx U (.slice h0 U.l.length hc0) (.slice h1 U.T.length hc1) (.slice h2 U.L.length hc2) (.slice h3 U.C.length hc3)) := fun wx h => AU.out wx (hstep.trans (h.mono hstep.size))
 replace RV : Hid (∀ wx, Below Y5.heap.size Y5 wx → Row wx (x4.heap.size) #[.slice i0 V.l.length ic0, .slice i1 V.T.length ic1, .slice i2 V.L.length ic2, .slice i3 V.C.length ic3] 29) := fun wx h => RV.out wx (hstep.trans (h.mono hstep.size))
 replace AV : Hid (∀ wx, Below Y5.heap.size Y5 wx → StAt wx V (.slice i0 V.l.length ic0) (.slice i1 V.T.length ic1) (.slice i2 V.L.length ic2) (.slice i3 V.C.length ic3)) := fun wx h => AV.out wx (hstep.trans (h.mono hstep.size))
 have hrF : Row Y5 (x5.heap.size) #[.slice j0 F.l.length jc0, .slice j1 F.T.length jc1, .slice j2 F.L.length jc2, .slice j3 F.C.length jc3] 29 := by rw [hY]; exact (row_new _ _ _ rfl).alloc _
 have haF : StAt Y5 F (.slice j0 F.l.length jc0) (.slice j1 F.T.length jc1) (.slice j2 F.L.length jc2) (.slice j3 F.C.length jc3) := hownF.at.below hbx
 have RF : Hid (∀ wx, Below Y5.heap.size Y5 wx → Row wx (x5.heap.size) #[.slice j0 F.l.length jc0, .slice j1 F.T.length jc1, .slice j2 F.L.length jc2, .slice j3 F.C.length jc3] 29) := fun wx h => hrF.next h
 have AF : Hid (∀ wx, Below Y5.heap.size Y5 wx → StAt wx F (.slice j0 F.l.length jc0) (.slice j1 F.T.length jc1) (.slice j2 F.L.length jc2) (.slice j3 F.C.length jc3)) := fun wx h => haF.below h
 have hrd : Row Y5 (x5.heap.size + 1) #[.int .i64 fr, .int .i64 fs] 33 := by rw [hY]; exact row_new _ _ _ (by simp)
 have RD : Hid (∀ wx, Below Y5.heap.size Y5 wx → Row wx (x5.heap.size + 1) #[.int .i64 fr, .int .i64 fs] 33) := fun wx h => hrd.next h
 clear hY hb hbx hstep hownF hrF haF hrd HBN4
 go_wp2_with fail
 rw [HY.out]
 clear HY
 have HK1 : Hid (∀ wx, Below Y5.heap.size Y5 wx → Calls Tryz.prog 18 #[.agg #[.slice a0 S.l.length c0, .slice a1 S.T.length c1, .slice a2 S.L.length c2, .slice a3 S.C.length c3]] wx fun e w' => e = .returned (.bool true) ∧ Below wx.heap.size wx w') := fun wx h => (stateOk_calls S _ _ _ _ wx HSM.out HNM.out (AS.out wx h)).mono (fun e w' q => ⟨q.1.is ((iok_iff (fun a ha => (HOK.out.2.1.2.all a ha).1)).2 HOK.out), q.2⟩)
 have HK2 : Hid (∀ wx, Below Y5.heap.size Y5 wx → Calls Tryz.prog 19 #[.agg #[.slice a0 S.l.length c0, .slice a1 S.T.length c1, .slice a2 S.L.length c2, .slice a3 S.C.length c3], .agg #[.slice a0 S.l.length c0, .slice a1 S.T.length c1, .slice a2 S.L.length c2, .slice a3 S.C.length c3]] wx fun e w' => e = .returned (.bool true) ∧ Below wx.heap.size wx w') := fun wx h => (sameState_calls S S _ _ _ _ _ _ _ _ wx HSM.out HSM.out (AS.out wx h) (AS.out wx h)).mono (fun e w' q => ⟨by rw [q.1, decide_eq_true rfl], q.2⟩)
 obtain ⟨qs, hqs⟩ : ∃ q, q = decide (P = Q) := ⟨_, rfl⟩
 have HK3 : Hid (∀ wx, Below Y5.heap.size Y5 wx → Calls Tryz.prog 19 #[.agg #[.slice b0 P.l.length bc0, .slice b1 P.T.length bc1, .slice b2 P.L.length bc2, .slice b3 P.C.length bc3], .agg #[.slice d0 Q.l.length dc0, .slice d1 Q.T.length dc1, .slice d2 Q.L.length dc2, .slice d3 Q.C.length dc3]] wx fun e w' => e = .returned (.bool qs) ∧ Below wx.heap.size wx w') := fun wx h => by rw [hqs]; exact sameState_calls P Q _ _ _ _ _ _ _ _ wx hwP.small hwQ.small (AP.out wx h) (AQ.out wx h)
 have HK4 : Hid (∀ wx, Below Y5.heap.size Y5 wx → Calls Tryz.prog 20 #[.agg #[.slice b0 P.l.length bc0, .slice b1 P.T.length bc1, .slice b2 P.L.length bc2, .slice b3 P.C.length bc3], .agg #[.slice d0 Q.l.length dc0, .slice d1 Q.T.length dc1, .slice d2 Q.L.length dc2, .slice d3 Q.C.length dc3]] wx fun e w' => e = .returned (.bool qs) ∧ Below wx.heap.size wx w') := fun wx h => by rw [hqs]; exact specSameState_calls P Q _ _ _ _ _ _ _ _ wx hwP.small hwQ.small (AP.out wx h) (AQ.out wx h)
 have hor : ∃ qr : Bool, (qr = true ↔ SOk R) := by
  by_cases h : SOk R
  ·exact ⟨true, fun _ => h, fun _ => rfl⟩
  ·exact ⟨false, (fun k => by cases k), fun k => absurd k h⟩
 obtain ⟨qr, hqr⟩ := hor
 have HK5 : Hid (∀ wx, Below Y5.heap.size Y5 wx → Calls Tryz.prog 18 #[.agg #[.slice e0 R.l.length ec0, .slice e1 R.T.length ec1, .slice e2 R.L.length ec2, .slice e3 R.C.length ec3]] wx fun e w' => e = .returned (.bool qr) ∧ Below wx.heap.size wx w') := fun wx h => (stateOk_calls R _ _ _ _ wx hwR.small hwR.named (AR.out wx h)).mono (fun e w' q => ⟨(q.1.iff (iok_iff hwR.nT)).same hqr, q.2⟩)
 have HK6 : Hid (∀ wx, Below Y5.heap.size Y5 wx → Calls Tryz.prog 21 #[.agg #[.slice e0 R.l.length ec0, .slice e1 R.T.length ec1, .slice e2 R.L.length ec2, .slice e3 R.C.length ec3]] wx fun e w' => e = .returned (.bool qr) ∧ Below wx.heap.size wx w') := fun wx h => (specStateOk_calls R _ _ _ _ wx hwR.small hwR.named (AR.out wx h)).mono (fun e w' q => ⟨q.1.same hqr, q.2⟩)
 obtain ⟨qt, hqt⟩ : ∃ q, q = tallyAt U.T tob trp := ⟨_, rfl⟩
 have HK7 : Hid (∀ wx, Below Y5.heap.size Y5 wx → Calls Tryz.prog 11 #[.agg #[.slice h0 U.l.length hc0, .slice h1 U.T.length hc1, .slice h2 U.L.length hc2, .slice h3 U.C.length hc3], .string tob, .int .i64 trp] wx fun e w' => e = .returned (.int .i64 qt) ∧ Below wx.heap.size wx w') := fun wx h => by rw [hqt]; exact tallyAt_calls U _ _ _ _ tob trp wx hwU.small.2.1 (AU.out wx h)
 have HK8 : Hid (∀ wx, Below Y5.heap.size Y5 wx → Calls Tryz.prog 22 #[.agg #[.slice h0 U.l.length hc0, .slice h1 U.T.length hc1, .slice h2 U.L.length hc2, .slice h3 U.C.length hc3], .string tob, .int .i64 trp] wx fun e w' => e = .returned (.int .i64 qt) ∧ Below wx.heap.size wx w') := fun wx h => by rw [hqt]; exact specTallyAt_calls U _ _ _ _ tob trp wx hwU.small.2.1 (AU.out wx h)
 obtain ⟨ql, hql⟩ : ∃ q, q = (livesOf V.L lm lob ly).length := ⟨_, rfl⟩
 have HK9 : Hid (∀ wx, Below Y5.heap.size Y5 wx → Calls Tryz.prog 12 #[.agg #[.slice i0 V.l.length ic0, .slice i1 V.T.length ic1, .slice i2 V.L.length ic2, .slice i3 V.C.length ic3], .bool lm, .string lob, .string ly] wx fun e w' => ∃ u, e = .returned u ∧ (∃ a c, u = .slice a ql c) ∧ Below wx.heap.size wx w') := fun wx h => by
  rw [hql]
  refine (livesOf_calls V _ _ _ _ lm lob ly wx hwV.small.2.2.1 hwV.named.2.1 (AV.out wx h)).mono ?_
  rintro e w' ⟨u, rfl, ho, hb⟩
  exact ⟨u, rfl, li_shape ho, hb⟩
 have HK10 : Hid (∀ wx, Below Y5.heap.size Y5 wx → Calls Tryz.prog 23 #[.agg #[.slice i0 V.l.length ic0, .slice i1 V.T.length ic1, .slice i2 V.L.length ic2, .slice i3 V.C.length ic3], .bool lm, .string lob, .string ly] wx fun e w' => ∃ u, e = .returned u ∧ (∃ a c, u = .slice a ql c) ∧ Below wx.heap.size wx w') := fun wx h => by
  rw [hql]
  refine (specLivesOf_calls V _ _ _ _ lm lob ly wx hwV.small.2.2.1 (AV.out wx h)).mono ?_
  rintro e w' ⟨u, rfl, ho, hb⟩
  exact ⟨u, rfl, li_shape ho, hb⟩
 obtain ⟨qc, hqc⟩ : ∃ q, q = cellAt F.C fr fs 0 := ⟨_, rfl⟩
 have HK11 : Hid (∀ wx, Below Y5.heap.size Y5 wx → Calls Tryz.prog 10 #[.agg #[.slice j0 F.l.length jc0, .slice j1 F.T.length jc1, .slice j2 F.L.length jc2, .slice j3 F.C.length jc3], .agg #[.int .i64 fr, .int .i64 fs]] wx fun e w' => e = .returned (.int .i64 qc) ∧ Below wx.heap.size wx w') := fun wx h => by rw [hqc]; exact cellAt_calls F _ _ _ _ fr fs wx hwF.small.2.2.2 (AF.out wx h)
 have HK12 : Hid (∀ wx, Below Y5.heap.size Y5 wx → Calls Tryz.prog 24 #[.agg #[.slice j0 F.l.length jc0, .slice j1 F.T.length jc1, .slice j2 F.L.length jc2, .slice j3 F.C.length jc3], .agg #[.int .i64 fr, .int .i64 fs]] wx fun e w' => e = .returned (.int .i64 qc) ∧ Below wx.heap.size wx w') := fun wx h => by rw [hqc]; exact specCellAt_calls F _ _ _ _ fr fs wx hwF.small.2.2.2 (AF.out wx h)
 have HK13 : Hid (∀ wx, Below Y5.heap.size Y5 wx → Calls Tryz.prog 25 #[] wx fun e w' => ∃ aa ca, e = .returned (.agg #[.slice aa 3 ca, .slice none 0 0, .slice none 0 0, .slice none 0 0]) ∧ StAt w' nSt (.slice aa 3 ca) (.slice none 0 0) (.slice none 0 0) (.slice none 0 0) ∧ Below wx.heap.size wx w') := fun wx h => by
  refine (stateNew_calls wx).mono ?_
  rintro e w' ⟨aa, ca, rfl, hr, hb⟩
  exact ⟨aa, ca, rfl, nSt_at hr.ints, hb⟩
 clear hqs hqr hqt hql hqc hwP hwQ hwR hwU hwV hwF hto hlo hly AS AP AQ AR AU AV AF HSM HNM HOK HBD HCW
 have HS : Hid (∀ wx, Below Y5.heap.size Y5 wx → Row wx (w2.heap.size) #[.slice a0 S.l.length c0, .slice a1 S.T.length c1, .slice a2 S.L.length c2, .slice a3 S.C.length c3] 29 ∧ Row wx (x1.heap.size) #[.slice b0 P.l.length bc0, .slice b1 P.T.length bc1, .slice b2 P.L.length bc2, .slice b3 P.C.length bc3] 29 ∧ Row wx (x1.heap.size + 1) #[.slice d0 Q.l.length dc0, .slice d1 Q.T.length dc1, .slice d2 Q.L.length dc2, .slice d3 Q.C.length dc3] 29 ∧ Row wx (x2.heap.size) #[.slice e0 R.l.length ec0, .slice e1 R.T.length ec1, .slice e2 R.L.length ec2, .slice e3 R.C.length ec3] 29 ∧ Row wx (x3.heap.size) #[.slice h0 U.l.length hc0, .slice h1 U.T.length hc1, .slice h2 U.L.length hc2, .slice h3 U.C.length hc3] 29 ∧ Row wx (x4.heap.size) #[.slice i0 V.l.length ic0, .slice i1 V.T.length ic1, .slice i2 V.L.length ic2, .slice i3 V.C.length ic3] 29 ∧ Row wx (x5.heap.size) #[.slice j0 F.l.length jc0, .slice j1 F.T.length jc1, .slice j2 F.L.length jc2, .slice j3 F.C.length jc3] 29 ∧ Row wx (x5.heap.size + 1) #[.int .i64 fr, .int .i64 fs] 33) := fun wx h => ⟨RS.out wx h, RP.out wx h, RQ.out wx h, RR.out wx h, RU.out wx h, RV.out wx h, RF.out wx h, RD.out wx h⟩
 clear RS RP RQ RR RU RV RF RD
 have hBc : Below Y5.heap.size Y5 Y5 := Below.refl _ _
 try simp only [List.append_eq, List.cons_append, List.nil_append]
 replace hBc := hBc.drew
 have hs := hidI (HS.out _ hBc)
 refine wp_region_held_drew (S := fun w' => Row w' (w2.heap.size) #[.slice a0 S.l.length c0, .slice a1 S.T.length c1, .slice a2 S.L.length c2, .slice a3 S.C.length c3] 29 ∧ Row w' (x1.heap.size) #[.slice b0 P.l.length bc0, .slice b1 P.T.length bc1, .slice b2 P.L.length bc2, .slice b3 P.C.length bc3] 29 ∧ Row w' (x1.heap.size + 1) #[.slice d0 Q.l.length dc0, .slice d1 Q.T.length dc1, .slice d2 Q.L.length dc2, .slice d3 Q.C.length dc3] 29 ∧ Row w' (x2.heap.size) #[.slice e0 R.l.length ec0, .slice e1 R.T.length ec1, .slice e2 R.L.length ec2, .slice e3 R.C.length ec3] 29 ∧ Row w' (x3.heap.size) #[.slice h0 U.l.length hc0, .slice h1 U.T.length hc1, .slice h2 U.L.length hc2, .slice h3 U.C.length hc3] 29 ∧ Row w' (x4.heap.size) #[.slice i0 V.l.length ic0, .slice i1 V.T.length ic1, .slice i2 V.L.length ic2, .slice i3 V.C.length ic3] 29 ∧ Row w' (x5.heap.size) #[.slice j0 F.l.length jc0, .slice j1 F.T.length jc1, .slice j2 F.L.length jc2, .slice j3 F.C.length jc3] 29 ∧ Row w' (x5.heap.size + 1) #[.int .i64 fr, .int .i64 fs] 33) (by kernel_rfl) hs.out (fun hx => ?_)
 clear hx
 refine wpAnyH_list (l' := #[false, false, false, false, false, false, false, false, false, false, false, false, false, false, false, false, false, false, false, false, false, false, false, false, false, false, false, false, false, false, false, false, false, false, false, false, false, false, false, false, false, false, false, false, false, false, false, false, false, false, false, false, false, false, false, false, false, false, false, false, false, false, false, false, false, false, false, false, false, false]) (by as_aux_lemma => kernel_rfl) ?_
 refine tk 0 sc0 hs.out (hy := by intro w hSw; obtain ⟨z0, z1, z2, z3⟩ := Row.four hSw.1; go_simp <;> with_reducible rfl) ?_; simp only [sq]
 refine rd 1 sc1 (fun K hK => ?_)
 go_simp
 refine (HK1.out _ hBc).mono ?_
 rintro e wn ⟨rfl, hbn⟩
 replace hBc := hBc.trans (hbn.mono hBc.size)
 clear hbn
 try go_wp2_with fail
 replace hs := hidI (HS.out _ hBc)
 refine hK.out _ _ hs.out (fun hx => ?_)
 clear hx hK K
 try simp only [s1, s2, s3]
 clear HK1
 refine tn 2 sc2 hs.out ?_; simp only [sq]; refine tk 3 sc3 hs.out (hy := by intro w hSw; obtain ⟨z0, z1, z2, z3⟩ := Row.four hSw.1; go_simp <;> with_reducible rfl) ?_; simp only [sq]; refine tk 4 sc4 hs.out (hy := by intro w hSw; obtain ⟨z0, z1, z2, z3⟩ := Row.four hSw.1; go_simp <;> with_reducible rfl) ?_; simp only [sq]
 refine rd 5 sc5 (fun K hK => ?_)
 go_simp
 refine (HK2.out _ hBc).mono ?_
 rintro e wn ⟨rfl, hbn⟩
 replace hBc := hBc.trans (hbn.mono hBc.size)
 clear hbn
 try go_wp2_with fail
 replace hs := hidI (HS.out _ hBc)
 refine hK.out _ _ hs.out (fun hx => ?_)
 clear hx hK K
 try simp only [s1, s2, s3]
 clear HK2
 refine tn 6 sc6 hs.out ?_; simp only [sq]; refine tn 7 sc7 hs.out ?_; simp only [sq]; refine tn 8 sc8 hs.out ?_; simp only [sq]; refine tn 9 sc9 hs.out ?_; simp only [sq]; refine tk 10 sc10 hs.out (hy := by intro w hSw; obtain ⟨z0, z1, z2, z3⟩ := Row.four hSw.1; go_simp <;> with_reducible rfl) ?_; simp only [sq]; refine tn 11 sc11 hs.out ?_; simp only [sq]; refine tn 12 sc12 hs.out ?_; simp only [sq]; refine tn 13 sc13 hs.out ?_; simp only [sq]; refine tn 14 sc14 hs.out ?_; simp only [sq]; refine tk 15 sc15 hs.out (hy := by intro w hSw; obtain ⟨z0, z1, z2, z3⟩ := Row.four hSw.2.1; go_simp <;> with_reducible rfl) ?_; simp only [sq]; refine tk 16 sc16 hs.out (hy := by intro w hSw; obtain ⟨z0, z1, z2, z3⟩ := Row.four hSw.2.2.1; go_simp <;> with_reducible rfl) ?_; simp only [sq]; refine tk 18 sc18 hs.out (hy := by intro w hSw; obtain ⟨z0, z1, z2, z3⟩ := Row.four hSw.2.1; go_simp <;> with_reducible rfl) ?_; simp only [sq]; refine tk 19 sc19 hs.out (hy := by intro w hSw; obtain ⟨z0, z1, z2, z3⟩ := Row.four hSw.2.2.1; go_simp <;> with_reducible rfl) ?_; simp only [sq]
 refine rd 17 sc17 (fun K hK => ?_)
 go_simp
 refine (HK3.out _ hBc).mono ?_
 rintro e wn ⟨rfl, hbn⟩
 replace hBc := hBc.trans (hbn.mono hBc.size)
 clear hbn
 try go_wp2_with fail
 replace hs := hidI (HS.out _ hBc)
 refine hK.out _ _ hs.out (fun hx => ?_)
 clear hx hK K
 try simp only [s1, s2, s3]
 clear HK3
 refine rd 20 sc20 (fun K hK => ?_)
 go_simp
 refine (HK4.out _ hBc).mono ?_
 rintro e wn ⟨rfl, hbn⟩
 replace hBc := hBc.trans (hbn.mono hBc.size)
 clear hbn
 try go_wp2_with fail
 replace hs := hidI (HS.out _ hBc)
 refine hK.out _ _ hs.out (fun hx => ?_)
 clear hx hK K
 try simp only [s1, s2, s3]
 clear HK4
 refine tn 21 sc21 hs.out ?_; simp only [sq]; refine tn 22 sc22 hs.out ?_; simp only [sq]; refine tn 23 sc23 hs.out ?_; simp only [sq]; refine tk 24 sc24 hs.out (hy := by intro w hSw; obtain ⟨z0, z1, z2, z3⟩ := Row.four hSw.2.2.2.1; go_simp <;> with_reducible rfl) ?_; simp only [sq]; refine tk 26 sc26 hs.out (hy := by intro w hSw; obtain ⟨z0, z1, z2, z3⟩ := Row.four hSw.2.2.2.1; go_simp <;> with_reducible rfl) ?_; simp only [sq]
 refine rd 25 sc25 (fun K hK => ?_)
 go_simp
 refine (HK5.out _ hBc).mono ?_
 rintro e wn ⟨rfl, hbn⟩
 replace hBc := hBc.trans (hbn.mono hBc.size)
 clear hbn
 try go_wp2_with fail
 replace hs := hidI (HS.out _ hBc)
 refine hK.out _ _ hs.out (fun hx => ?_)
 clear hx hK K
 try simp only [s1, s2, s3]
 clear HK5
 refine rd 27 sc27 (fun K hK => ?_)
 go_simp
 refine (HK6.out _ hBc).mono ?_
 rintro e wn ⟨rfl, hbn⟩
 replace hBc := hBc.trans (hbn.mono hBc.size)
 clear hbn
 try go_wp2_with fail
 replace hs := hidI (HS.out _ hBc)
 refine hK.out _ _ hs.out (fun hx => ?_)
 clear hx hK K
 try simp only [s1, s2, s3]
 clear HK6
 refine tn 28 sc28 hs.out ?_; simp only [sq]; refine tn 29 sc29 hs.out ?_; simp only [sq]; refine tn 30 sc30 hs.out ?_; simp only [sq]; refine tk 31 sc31 hs.out (hy := by intro w hSw; obtain ⟨z0, z1, z2, z3⟩ := Row.four hSw.2.2.2.2.1; go_simp <;> with_reducible rfl) ?_; simp only [sq]; refine tn 32 sc32 hs.out ?_; simp only [sq]; refine tn 33 sc33 hs.out ?_; simp only [sq]; refine tk 35 sc35 hs.out (hy := by intro w hSw; obtain ⟨z0, z1, z2, z3⟩ := Row.four hSw.2.2.2.2.1; go_simp <;> with_reducible rfl) ?_; simp only [sq]; refine tn 36 sc36 hs.out ?_; simp only [sq]; refine tn 37 sc37 hs.out ?_; simp only [sq]
 refine rd 34 sc34 (fun K hK => ?_)
 go_simp
 refine (HK7.out _ hBc).mono ?_
 rintro e wn ⟨rfl, hbn⟩
 replace hBc := hBc.trans (hbn.mono hBc.size)
 clear hbn
 try go_wp2_with fail
 replace hs := hidI (HS.out _ hBc)
 refine hK.out _ _ hs.out (fun hx => ?_)
 clear hx hK K
 try simp only [s1, s2, s3]
 clear HK7
 refine rd 38 sc38 (fun K hK => ?_)
 go_simp
 refine (HK8.out _ hBc).mono ?_
 rintro e wn ⟨rfl, hbn⟩
 replace hBc := hBc.trans (hbn.mono hBc.size)
 clear hbn
 try go_wp2_with fail
 replace hs := hidI (HS.out _ hBc)
 refine hK.out _ _ hs.out (fun hx => ?_)
 clear hx hK K
 try simp only [s1, s2, s3]
 clear HK8
 refine tn 39 sc39 hs.out ?_; simp only [sq]; refine tn 40 sc40 hs.out ?_; simp only [sq]; refine tn 41 sc41 hs.out ?_; simp only [sq]; refine tk 42 sc42 hs.out (hy := by intro w hSw; obtain ⟨z0, z1, z2, z3⟩ := Row.four hSw.2.2.2.2.2.1; go_simp <;> with_reducible rfl) ?_; simp only [sq]; refine tn 43 sc43 hs.out ?_; simp only [sq]; refine tn 44 sc44 hs.out ?_; simp only [sq]; refine tn 45 sc45 hs.out ?_; simp only [sq]; refine tk 48 sc48 hs.out (hy := by intro w hSw; obtain ⟨z0, z1, z2, z3⟩ := Row.four hSw.2.2.2.2.2.1; go_simp <;> with_reducible rfl) ?_; simp only [sq]; refine tn 49 sc49 hs.out ?_; simp only [sq]; refine tn 50 sc50 hs.out ?_; simp only [sq]; refine tn 51 sc51 hs.out ?_; simp only [sq]
 refine rd 46 sc46 (fun K hK => ?_)
 go_simp
 refine (HK9.out _ hBc).mono ?_
 rintro e wn ⟨u, rfl, ⟨ua46, uc46, rfl⟩, hbn⟩
 replace hBc := hBc.trans (hbn.mono hBc.size)
 clear hbn
 try go_wp2_with fail
 replace hs := hidI (HS.out _ hBc)
 refine hK.out _ _ hs.out (fun hx => ?_)
 clear hx hK K
 try simp only [s1, s2, s3]
 clear HK9
 refine tn 47 sc47 hs.out ?_; simp only [sq]
 refine rd 52 sc52 (fun K hK => ?_)
 go_simp
 refine (HK10.out _ hBc).mono ?_
 rintro e wn ⟨u, rfl, ⟨ua52, uc52, rfl⟩, hbn⟩
 replace hBc := hBc.trans (hbn.mono hBc.size)
 clear hbn
 try go_wp2_with fail
 replace hs := hidI (HS.out _ hBc)
 refine hK.out _ _ hs.out (fun hx => ?_)
 clear hx hK K
 try simp only [s1, s2, s3]
 clear HK10
 refine tn 53 sc53 hs.out ?_; simp only [sq]; refine tn 54 sc54 hs.out ?_; simp only [sq]; refine tn 55 sc55 hs.out ?_; simp only [sq]; refine tn 56 sc56 hs.out ?_; simp only [sq]; refine tk 57 sc57 hs.out (hy := by intro w hSw; obtain ⟨z0, z1, z2, z3⟩ := Row.four hSw.2.2.2.2.2.2.1; go_simp <;> with_reducible rfl) ?_; simp only [sq]; refine tk 58 sc58 hs.out (hy := by intro w hSw; have z0 := (hSw.2.2.2.2.2.2.2).cell 0 rfl; have z1 := (hSw.2.2.2.2.2.2.2).cell 1 rfl; go_simp <;> with_reducible rfl) ?_; simp only [sq]; refine tk 60 sc60 hs.out (hy := by intro w hSw; obtain ⟨z0, z1, z2, z3⟩ := Row.four hSw.2.2.2.2.2.2.1; go_simp <;> with_reducible rfl) ?_; simp only [sq]; refine tk 61 sc61 hs.out (hy := by intro w hSw; have z0 := (hSw.2.2.2.2.2.2.2).cell 0 rfl; have z1 := (hSw.2.2.2.2.2.2.2).cell 1 rfl; go_simp <;> with_reducible rfl) ?_; simp only [sq]
 refine rd 59 sc59 (fun K hK => ?_)
 go_simp
 refine (HK11.out _ hBc).mono ?_
 rintro e wn ⟨rfl, hbn⟩
 replace hBc := hBc.trans (hbn.mono hBc.size)
 clear hbn
 try go_wp2_with fail
 replace hs := hidI (HS.out _ hBc)
 refine hK.out _ _ hs.out (fun hx => ?_)
 clear hx hK K
 try simp only [s1, s2, s3]
 clear HK11
 refine rd 62 sc62 (fun K hK => ?_)
 go_simp
 refine (HK12.out _ hBc).mono ?_
 rintro e wn ⟨rfl, hbn⟩
 replace hBc := hBc.trans (hbn.mono hBc.size)
 clear hbn
 try go_wp2_with fail
 replace hs := hidI (HS.out _ hBc)
 refine hK.out _ _ hs.out (fun hx => ?_)
 clear hx hK K
 try simp only [s1, s2, s3]
 clear HK12
 refine tn 63 sc63 hs.out ?_; simp only [sq]; refine tn 64 sc64 hs.out ?_; simp only [sq]; refine tn 65 sc65 hs.out ?_; simp only [sq]
 refine rd 66 sc66 (fun K hK => ?_)
 go_simp
 refine (HK13.out _ hBc).mono ?_
 rintro e wn ⟨na, nc, rfl, hnew, hbn⟩
 replace hBc := hBc.trans (hbn.mono hBc.size)
 clear hbn
 try go_wp2_with fail
 replace hs := hidI (HS.out _ hBc)
 refine hK.out _ _ hs.out (fun hx => ?_)
 clear hx hK K
 try simp only [s1, s2, s3]
 refine rd 67 sc67 (fun K hK => ?_)
 go_simp
 refine (stateOk_calls nSt _ _ _ _ _ ⟨by simp [nSt], by simp [nSt], by simp [nSt], by simp [nSt]⟩ ⟨fun a h => by simp [nSt] at h, fun a h => by simp [nSt] at h, fun a h => by simp [nSt] at h⟩ hnew).mono ?_
 rintro e wn ⟨ht, hbn⟩
 obtain rfl := ht.is iok_new
 clear ht hnew
 replace hBc := hBc.trans (hbn.mono hBc.size)
 clear hbn
 try go_wp2_with fail
 replace hs := hidI (HS.out _ hBc)
 refine hK.out _ _ hs.out (fun hx => ?_)
 clear hx hK K
 try simp only [s1, s2, s3]
 refine tn 68 sc68 hs.out ?_; simp only [sq]; refine tn 69 sc69 hs.out ?_; simp only [sq]
 refine wpAnyH_done (by as_aux_lemma => kernel_rfl) ?_ _
 have HBF := hidI (HBN5.out.trans (hBc.mono HBN5.out.size))
 clear hs hBc HS
 go_wp2
 go_ret
 exact ⟨rfl, HBF.out⟩
end Go.Proofs.YtdknoflkingodaaGreat
