/- Plain forms of functions. -/
import Derived.Test.YtkdodhkiemfpeabAv16
import Derived.Test.YtkdodhkiemfpeabProg
import Derived.KernelRfl
namespace Go.Proofs.Ytkdodhkiemfpeab
set_option maxRecDepth 100000
set_option maxHeartbeats 1000000
def b_ridgewaylaw14_EdgeIs : AC :=
 (.seq
 (.reg [
 ⟨(some 5), .box 25 6 (.tmp 0), none, []⟩,
 ⟨(some 7), .box 27 2 (.tmp 2), none, []⟩,
 ⟨(some 8), .box 30 4 (.tmp 3), none, []⟩,
 ⟨(some 9), .box 32 6 (.tmp 4), none, []⟩,
 ⟨(some 10), .mv (.val (.bool false)), none, []⟩])
 (.seq
 (.reg [
 ⟨(some 20), .callS 9 [], none, []⟩,
 ⟨(some 11), .mv (.tmp 20), none, []⟩])
 (.seq
 (.seq
 (.reg [
 ⟨(some 21), .ld (some 6) (.tmp 5), none, []⟩,
 ⟨(some 22), .ld (some 4) (.tmp 8), none, []⟩,
 ⟨(some 23), .callS 10 [(.tmp 21), (.tmp 22)], none, []⟩,
 ⟨(some 24), .un .not (.tmp 23), none, []⟩,
 ⟨(some 25), .mv (.tmp 24), none, []⟩,
 ⟨(some 26), .ld (some 6) (.tmp 5), some (25, false), []⟩,
 ⟨(some 27), .off 1 (.tmp 9), some (25, false), []⟩,
 ⟨(some 28), .ld (some 4) (.tmp 27), some (25, false), []⟩,
 ⟨(some 29), .callS 10 [(.tmp 26), (.tmp 28)], some (25, false), []⟩,
 ⟨(some 30), .un .not (.tmp 29), some (25, false), []⟩,
 ⟨(some 31), .pick (.tmp 25) (.val (.bool true)) (.tmp 30), none, []⟩])
 (.cond (.tmp 31)
 (.seq
 (.reg [
 ⟨(some 32), .mv (.tmp 11), none, []⟩,
 ⟨(some 10), .mv (.tmp 32), none, []⟩])
 .ret)
 .skip))
 (.seq
 (.reg [
 ⟨(some 34), .ld (some 6) (.tmp 5), none, []⟩,
 ⟨(some 35), .mv (.tmp 1), none, []⟩,
 ⟨(some 36), .ld (some 2) (.tmp 7), none, []⟩,
 ⟨(some 37), .ld (some 4) (.tmp 8), none, []⟩,
 ⟨(some 38), .callS 11 [(.tmp 34), (.tmp 35), (.tmp 36), (.tmp 37)], none, []⟩,
 ⟨(some 33), .mv (.tmp 38), none, []⟩,
 ⟨(some 39), .ext (.tmp 33) 0, none, []⟩,
 ⟨(some 40), .ext (.tmp 33) 1, none, []⟩,
 ⟨(some 12), .box 32 6 (.val (.agg [(.int .i64 0), (.int .i64 0), (.slice .full 0 []), (.int .i64 0), (.int .i64 0), (.int .i64 0)])), none, []⟩,
 ⟨none, .st 6 (.tmp 12) (.tmp 39), none, []⟩,
 ⟨(some 13), .mv (.tmp 40), none, []⟩])
 (.seq
 (.reg [
 ⟨(some 42), .ld (some 6) (.tmp 5), none, []⟩,
 ⟨(some 43), .mv (.tmp 1), none, []⟩,
 ⟨(some 44), .ld (some 2) (.tmp 7), none, []⟩,
 ⟨(some 45), .ld (some 4) (.tmp 8), none, []⟩,
 ⟨(some 46), .callS 12 [(.tmp 42), (.tmp 43), (.tmp 44), (.tmp 45)], none, []⟩,
 ⟨(some 41), .mv (.tmp 46), none, []⟩,
 ⟨(some 47), .ext (.tmp 41) 0, none, []⟩,
 ⟨(some 48), .ext (.tmp 41) 1, none, []⟩,
 ⟨(some 14), .box 32 6 (.val (.agg [(.int .i64 0), (.int .i64 0), (.slice .full 0 []), (.int .i64 0), (.int .i64 0), (.int .i64 0)])), none, []⟩,
 ⟨none, .st 6 (.tmp 14) (.tmp 47), none, []⟩,
 ⟨(some 15), .mv (.tmp 48), none, []⟩])
 (.seq
 (.reg [
 ⟨(some 50), .ld (some 6) (.tmp 5), none, []⟩,
 ⟨(some 51), .mv (.tmp 1), none, []⟩,
 ⟨(some 52), .ld (some 2) (.tmp 7), none, []⟩,
 ⟨(some 53), .ld (some 6) (.tmp 9), none, []⟩,
 ⟨(some 54), .callS 13 [(.tmp 50), (.tmp 51), (.tmp 52), (.tmp 53)], none, []⟩,
 ⟨(some 49), .mv (.tmp 54), none, []⟩,
 ⟨(some 55), .ext (.tmp 49) 0, none, []⟩,
 ⟨(some 56), .ext (.tmp 49) 1, none, []⟩,
 ⟨(some 16), .box 30 4 (.val (.agg [(.int .i64 0), (.slice .full 0 []), (.int .i64 0), (.int .i64 0)])), none, []⟩,
 ⟨none, .st 4 (.tmp 16) (.tmp 55), none, []⟩,
 ⟨(some 17), .mv (.tmp 56), none, []⟩])
 (.seq
 (.reg [
 ⟨(some 58), .ld (some 6) (.tmp 5), none, []⟩,
 ⟨(some 59), .mv (.tmp 1), none, []⟩,
 ⟨(some 60), .ld (some 2) (.tmp 7), none, []⟩,
 ⟨(some 61), .ld (some 6) (.tmp 9), none, []⟩,
 ⟨(some 62), .callS 14 [(.tmp 58), (.tmp 59), (.tmp 60), (.tmp 61)], none, []⟩,
 ⟨(some 57), .mv (.tmp 62), none, []⟩,
 ⟨(some 63), .ext (.tmp 57) 0, none, []⟩,
 ⟨(some 64), .ext (.tmp 57) 1, none, []⟩,
 ⟨(some 18), .box 30 4 (.val (.agg [(.int .i64 0), (.slice .full 0 []), (.int .i64 0), (.int .i64 0)])), none, []⟩,
 ⟨none, .st 4 (.tmp 18) (.tmp 63), none, []⟩,
 ⟨(some 19), .mv (.tmp 64), none, []⟩])
 (.seq
 (.reg [
 ⟨(some 65), .mv (.tmp 11), none, []⟩,
 ⟨(some 66), .mv (.tmp 65), none, []⟩,
 ⟨(some 67), .ld (some 6) (.tmp 5), some (66, true), []⟩,
 ⟨(some 68), .mv (.tmp 1), some (66, true), []⟩,
 ⟨(some 69), .call 15 [(.tmp 67), (.tmp 68)], some (66, true), []⟩,
 ⟨(some 70), .ld (some 6) (.tmp 5), some (66, true), []⟩,
 ⟨(some 71), .mv (.tmp 1), some (66, true), []⟩,
 ⟨(some 72), .call 16 [(.tmp 70), (.tmp 71)], some (66, true), []⟩,
 ⟨(some 73), .bin .eql (.tmp 69) (.tmp 72), some (66, true), []⟩,
 ⟨(some 74), .pick (.tmp 66) (.tmp 73) (.val (.bool false)), none, []⟩,
 ⟨(some 75), .mv (.tmp 74), none, []⟩,
 ⟨(some 76), .mv (.tmp 13), some (75, true), []⟩,
 ⟨(some 77), .mv (.tmp 15), some (75, true), []⟩,
 ⟨(some 78), .eqB false (.tmp 76) (.tmp 77), some (75, true), []⟩,
 ⟨(some 79), .pick (.tmp 75) (.tmp 78) (.val (.bool false)), none, []⟩,
 ⟨(some 80), .mv (.tmp 79), none, []⟩,
 ⟨(some 81), .ld (some 6) (.tmp 12), some (80, true), []⟩,
 ⟨(some 82), .ld (some 6) (.tmp 14), some (80, true), []⟩,
 ⟨(some 83), .call 17 [(.tmp 81), (.tmp 82)], some (80, true), []⟩,
 ⟨(some 84), .pick (.tmp 80) (.tmp 83) (.val (.bool false)), none, []⟩,
 ⟨(some 85), .mv (.tmp 84), none, []⟩,
 ⟨(some 86), .mv (.tmp 17), some (85, true), []⟩,
 ⟨(some 87), .mv (.tmp 19), some (85, true), []⟩,
 ⟨(some 88), .eqB false (.tmp 86) (.tmp 87), some (85, true), []⟩,
 ⟨(some 89), .pick (.tmp 85) (.tmp 88) (.val (.bool false)), none, []⟩,
 ⟨(some 90), .mv (.tmp 89), none, []⟩,
 ⟨(some 91), .ld (some 4) (.tmp 16), some (90, true), []⟩,
 ⟨(some 92), .ld (some 4) (.tmp 18), some (90, true), []⟩,
 ⟨(some 93), .callS 18 [(.tmp 91), (.tmp 92)], some (90, true), []⟩,
 ⟨(some 94), .pick (.tmp 90) (.tmp 93) (.val (.bool false)), none, []⟩,
 ⟨(some 10), .mv (.tmp 94), none, []⟩])
 .ret))))))))
def c_ridgewaylaw14_EdgeIs : AF := ⟨b_ridgewaylaw14_EdgeIs, 95, [.tmp 10]⟩
theorem p_ridgewaylaw14_EdgeIs : prepFunc Try.prog 3 = some c_ridgewaylaw14_EdgeIs ∧ hasBody Try.prog 3 = true := ⟨by kernel_rfl, by kernel_rfl⟩
def b_ridgewaylaw14_awake : AC :=
 (.seq
 (.reg [
 ⟨(some 0), .mv (.val (.bool false)), none, []⟩])
 (.seq
 (.reg [
 ⟨(some 8), .callS 25 [], none, []⟩,
 ⟨(some 9), .bld [(.int .i64 0), (.int .i64 0)] [], none, []⟩,
 ⟨(some 10), .lit 3 1 [0] [(.val (.int .i64 65002))], none, []⟩,
 ⟨(some 11), .bld [(.int .i64 0), (.slice .full 0 []), (.int .i64 0), (.int .i64 0)] [(1, 1, (.tmp 10)), (2, 1, (.val (.int .i64 5)))], none, []⟩,
 ⟨(some 12), .callS 11 [(.tmp 8), (.val (.int .i64 0)), (.tmp 9), (.tmp 11)], none, []⟩,
 ⟨(some 7), .mv (.tmp 12), none, []⟩,
 ⟨(some 13), .ext (.tmp 7) 0, none, []⟩,
 ⟨(some 14), .ext (.tmp 7) 1, none, []⟩,
 ⟨(some 1), .box 32 6 (.val (.agg [(.int .i64 0), (.int .i64 0), (.slice .full 0 []), (.int .i64 0), (.int .i64 0), (.int .i64 0)])), none, []⟩,
 ⟨none, .st 6 (.tmp 1) (.tmp 13), none, []⟩,
 ⟨(some 2), .mv (.tmp 14), none, []⟩])
 (.seq
 (.reg [
 ⟨(some 16), .call 25 [], none, []⟩,
 ⟨(some 17), .bld [(.int .i64 0), (.int .i64 0)] [], none, []⟩,
 ⟨(some 18), .ld (some 6) (.tmp 1), none, []⟩,
 ⟨(some 19), .call 13 [(.tmp 16), (.val (.int .i64 1)), (.tmp 17), (.tmp 18)], none, []⟩,
 ⟨(some 15), .mv (.tmp 19), none, []⟩,
 ⟨(some 20), .ext (.tmp 15) 0, none, []⟩,
 ⟨(some 3), .box 30 4 (.val (.agg [(.int .i64 0), (.slice .full 0 []), (.int .i64 0), (.int .i64 0)])), none, []⟩,
 ⟨(some 21), .ext (.tmp 15) 1, none, []⟩,
 ⟨none, .st 4 (.tmp 3) (.tmp 20), none, []⟩,
 ⟨(some 4), .mv (.tmp 21), none, []⟩])
 (.seq
 (.reg [
 ⟨(some 23), .call 25 [], none, []⟩,
 ⟨(some 24), .bld [(.int .i64 0), (.int .i64 0)] [], none, []⟩,
 ⟨(some 25), .ld (some 6) (.tmp 1), none, []⟩,
 ⟨(some 26), .call 13 [(.tmp 23), (.val (.int .i64 0)), (.tmp 24), (.tmp 25)], none, []⟩,
 ⟨(some 22), .mv (.tmp 26), none, []⟩,
 ⟨(some 27), .ext (.tmp 22) 0, none, []⟩,
 ⟨(some 5), .box 30 4 (.val (.agg [(.int .i64 0), (.slice .full 0 []), (.int .i64 0), (.int .i64 0)])), none, []⟩,
 ⟨(some 28), .ext (.tmp 22) 1, none, []⟩,
 ⟨none, .st 4 (.tmp 5) (.tmp 27), none, []⟩,
 ⟨(some 6), .mv (.tmp 28), none, []⟩])
 (.seq
 (.reg [
 ⟨(some 29), .mv (.tmp 2), none, []⟩,
 ⟨(some 30), .mv (.tmp 29), none, []⟩,
 ⟨(some 31), .off 0 (.tmp 1), some (30, true), []⟩,
 ⟨(some 32), .ld none (.tmp 31), some (30, true), []⟩,
 ⟨(some 33), .bin .eql (.tmp 32) (.val (.int .i64 300)), some (30, true), []⟩,
 ⟨(some 34), .pick (.tmp 30) (.tmp 33) (.val (.bool false)), none, []⟩,
 ⟨(some 35), .mv (.tmp 34), none, []⟩,
 ⟨(some 36), .off 5 (.tmp 1), some (35, true), []⟩,
 ⟨(some 37), .ld none (.tmp 36), some (35, true), []⟩,
 ⟨(some 38), .bin .eql (.tmp 37) (.val (.int .i64 0)), some (35, true), []⟩,
 ⟨(some 39), .pick (.tmp 35) (.tmp 38) (.val (.bool false)), none, []⟩,
 ⟨(some 40), .mv (.tmp 39), none, []⟩,
 ⟨(some 41), .mv (.tmp 4), some (40, true), []⟩,
 ⟨(some 42), .pick (.tmp 40) (.tmp 41) (.val (.bool false)), none, []⟩,
 ⟨(some 43), .mv (.tmp 42), none, []⟩,
 ⟨(some 44), .off 1 (.tmp 3), some (43, true), []⟩,
 ⟨(some 45), .ld none (.tmp 44), some (43, true), []⟩,
 ⟨(some 46), .len (.tmp 45), some (43, true), []⟩,
 ⟨(some 47), .bin .eql (.tmp 46) (.val (.int .i64 3)), some (43, true), []⟩,
 ⟨(some 48), .pick (.tmp 43) (.tmp 47) (.val (.bool false)), none, []⟩,
 ⟨(some 49), .mv (.tmp 48), none, []⟩,
 ⟨(some 50), .off 1 (.tmp 3), some (49, true), []⟩,
 ⟨(some 51), .ld none (.tmp 50), some (49, true), []⟩,
 ⟨(some 52), .idxA 1 (.tmp 51) (.val (.int .i64 0)), some (49, true), []⟩,
 ⟨(some 53), .ld none (.tmp 52), some (49, true), []⟩,
 ⟨(some 54), .bin .eql (.tmp 53) (.val (.int .i64 65001)), some (49, true), []⟩,
 ⟨(some 55), .pick (.tmp 49) (.tmp 54) (.val (.bool false)), none, []⟩,
 ⟨(some 56), .mv (.tmp 55), none, []⟩,
 ⟨(some 57), .off 1 (.tmp 3), some (56, true), []⟩,
 ⟨(some 58), .ld none (.tmp 57), some (56, true), []⟩,
 ⟨(some 59), .idxA 1 (.tmp 58) (.val (.int .i64 1)), some (56, true), []⟩,
 ⟨(some 60), .ld none (.tmp 59), some (56, true), []⟩,
 ⟨(some 61), .bin .eql (.tmp 60) (.val (.int .i64 65001)), some (56, true), []⟩,
 ⟨(some 62), .pick (.tmp 56) (.tmp 61) (.val (.bool false)), none, []⟩,
 ⟨(some 63), .mv (.tmp 62), none, []⟩,
 ⟨(some 64), .off 1 (.tmp 3), some (63, true), []⟩,
 ⟨(some 65), .ld none (.tmp 64), some (63, true), []⟩,
 ⟨(some 66), .idxA 1 (.tmp 65) (.val (.int .i64 2)), some (63, true), []⟩,
 ⟨(some 67), .ld none (.tmp 66), some (63, true), []⟩,
 ⟨(some 68), .bin .eql (.tmp 67) (.val (.int .i64 65002)), some (63, true), []⟩,
 ⟨(some 69), .pick (.tmp 63) (.tmp 68) (.val (.bool false)), none, []⟩,
 ⟨(some 70), .mv (.tmp 69), none, []⟩,
 ⟨(some 71), .off 2 (.tmp 3), some (70, true), []⟩,
 ⟨(some 72), .ld none (.tmp 71), some (70, true), []⟩,
 ⟨(some 73), .bin .eql (.tmp 72) (.val (.int .i64 9)), some (70, true), []⟩,
 ⟨(some 74), .pick (.tmp 70) (.tmp 73) (.val (.bool false)), none, []⟩,
 ⟨(some 75), .mv (.tmp 74), none, []⟩,
 ⟨(some 76), .mv (.tmp 6), some (75, true), []⟩,
 ⟨(some 77), .un .not (.tmp 76), some (75, true), []⟩,
 ⟨(some 78), .pick (.tmp 75) (.tmp 77) (.val (.bool false)), none, []⟩,
 ⟨(some 79), .mv (.tmp 78), none, []⟩,
 ⟨(some 80), .callS 25 [], some (79, true), []⟩,
 ⟨(some 81), .callS 15 [(.tmp 80), (.val (.int .i64 1))], some (79, true), []⟩,
 ⟨(some 82), .bin .eql (.tmp 81) (.val (.int .i64 3)), some (79, true), []⟩,
 ⟨(some 83), .pick (.tmp 79) (.tmp 82) (.val (.bool false)), none, []⟩,
 ⟨(some 0), .mv (.tmp 83), none, []⟩])
 .ret)))))
def c_ridgewaylaw14_awake : AF := ⟨b_ridgewaylaw14_awake, 84, [.tmp 0]⟩
theorem p_ridgewaylaw14_awake : prepFunc Try.prog 9 = some c_ridgewaylaw14_awake ∧ hasBody Try.prog 9 = true := ⟨by kernel_rfl, by kernel_rfl⟩
def b_ridgewaylaw14_short : AC :=
 (.seq
 (.reg [
 ⟨(some 2), .box 25 6 (.tmp 0), none, []⟩,
 ⟨(some 3), .box 30 4 (.tmp 1), none, []⟩,
 ⟨(some 4), .mv (.val (.bool false)), none, []⟩])
 (.seq
 (.reg [
 ⟨(some 5), .ld (some 6) (.tmp 2), none, []⟩,
 ⟨(some 6), .callS 26 [(.tmp 5)], none, []⟩,
 ⟨(some 7), .mv (.tmp 6), none, []⟩,
 ⟨(some 8), .off 1 (.tmp 3), some (7, true), []⟩,
 ⟨(some 9), .ld none (.tmp 8), some (7, true), []⟩,
 ⟨(some 10), .len (.tmp 9), some (7, true), []⟩,
 ⟨(some 11), .bin .leq (.tmp 10) (.val (.int .i64 100)), some (7, true), []⟩,
 ⟨(some 12), .pick (.tmp 7) (.tmp 11) (.val (.bool false)), none, []⟩,
 ⟨(some 4), .mv (.tmp 12), none, []⟩])
 .ret))
def c_ridgewaylaw14_short : AF := ⟨b_ridgewaylaw14_short, 13, [.tmp 4]⟩
theorem p_ridgewaylaw14_short : prepFunc Try.prog 10 = some c_ridgewaylaw14_short ∧ hasBody Try.prog 10 = true := ⟨by kernel_rfl, by kernel_rfl⟩
def b_edge_In : AC :=
 (.seq
 (.reg [
 ⟨(some 4), .box 25 6 (.tmp 0), none, []⟩,
 ⟨(some 6), .box 27 2 (.tmp 2), none, []⟩,
 ⟨(some 7), .box 30 4 (.tmp 3), none, []⟩,
 ⟨(some 8), .box 32 6 (.val (.agg [(.int .i64 0), (.int .i64 0), (.slice .full 0 []), (.int .i64 0), (.int .i64 0), (.int .i64 0)])), none, []⟩,
 ⟨(some 9), .mv (.val (.bool false)), none, []⟩])
 (.seq
 (.seq
 (.reg [
 ⟨(some 14), .ld (some 6) (.tmp 4), none, []⟩,
 ⟨(some 15), .mv (.tmp 1), none, []⟩,
 ⟨(some 16), .ld (some 2) (.tmp 6), none, []⟩,
 ⟨(some 17), .callS 27 [(.tmp 14), (.tmp 15), (.tmp 16)], none, []⟩,
 ⟨(some 18), .un .not (.tmp 17), none, []⟩,
 ⟨(some 19), .mv (.tmp 18), none, []⟩,
 ⟨(some 20), .ld (some 4) (.tmp 7), some (19, false), []⟩,
 ⟨(some 21), .callS 22 [(.tmp 20)], some (19, false), []⟩,
 ⟨(some 22), .un .not (.tmp 21), some (19, false), []⟩,
 ⟨(some 23), .pick (.tmp 19) (.val (.bool true)) (.tmp 22), none, []⟩])
 (.cond (.tmp 23)
 (.seq
 (.reg [
 ⟨(some 24), .bld [(.int .i64 0), (.int .i64 0), (.slice .full 0 []), (.int .i64 0), (.int .i64 0), (.int .i64 0)] [], none, []⟩,
 ⟨none, .st 6 (.tmp 8) (.tmp 24), none, []⟩,
 ⟨(some 9), .mv (.val (.bool false)), none, []⟩])
 .ret)
 .skip))
 (.seq
 (.reg [
 ⟨(some 25), .off 5 (.tmp 4), none, []⟩,
 ⟨(some 26), .ld none (.tmp 25), none, []⟩,
 ⟨(some 27), .mv (.tmp 1), none, []⟩,
 ⟨(some 28), .idxA 4 (.tmp 26) (.tmp 27), none, []⟩,
 ⟨(some 29), .ld (some 4) (.tmp 28), none, []⟩,
 ⟨(some 10), .box 47 4 (.val (.agg [(.int .i64 0), (.int .i64 0), (.slice .full 0 []), (.slice .full 0 [])])), none, []⟩,
 ⟨none, .st 4 (.tmp 10) (.tmp 29), none, []⟩])
 (.seq
 (.reg [
 ⟨(some 11), .box 55 6 (.val (.agg [(.int .i64 0), (.int .i64 0), (.int .i64 0), (.int .i64 0), (.int .i64 0), (.int .i64 0)])), none, []⟩])
 (.seq
 (.reg [
 ⟨(some 12), .box 3 1 (.val (.int .i64 0)), none, []⟩])
 (.seq
 (.reg [
 ⟨(some 30), .mkclo 29 [(.tmp 7), (.tmp 10)], none, []⟩,
 ⟨(some 31), .mkclo 30 [(.tmp 7), (.tmp 4)], none, []⟩,
 ⟨(some 32), .mkclo 32 [(.tmp 7)], none, []⟩,
 ⟨(some 33), .mkclo 33 [(.tmp 10), (.tmp 7), (.tmp 12)], none, []⟩,
 ⟨(some 34), .mkclo 34 [(.tmp 10), (.tmp 6), (.tmp 7), (.tmp 11)], none, []⟩,
 ⟨(some 35), .lit 33 1 [0] [(.tmp 30), (.tmp 31), (.tmp 32), (.tmp 33), (.tmp 34)], none, []⟩,
 ⟨(some 36), .callS 28 [(.tmp 35)], none, []⟩,
 ⟨(some 13), .mv (.tmp 36), none, []⟩])
 (.seq
 (.seq
 (.reg [
 ⟨(some 37), .mv (.tmp 13), none, []⟩,
 ⟨(some 38), .un .not (.tmp 37), none, []⟩])
 (.cond (.tmp 38)
 (.seq
 (.reg [
 ⟨(some 39), .bld [(.int .i64 0), (.int .i64 0), (.slice .full 0 []), (.int .i64 0), (.int .i64 0), (.int .i64 0)] [], none, []⟩,
 ⟨none, .st 6 (.tmp 8) (.tmp 39), none, []⟩,
 ⟨(some 9), .mv (.val (.bool false)), none, []⟩])
 .ret)
 .skip))
 (.seq
 (.reg [
 ⟨(some 40), .ld none (.tmp 12), none, []⟩,
 ⟨(some 41), .off 3 (.tmp 7), none, []⟩,
 ⟨none, .st 1 (.tmp 41) (.tmp 40), none, []⟩])
 (.seq
 (.reg [
 ⟨(some 42), .off 5 (.tmp 11), none, []⟩,
 ⟨(some 43), .ld none (.tmp 42), none, []⟩,
 ⟨(some 44), .ld (some 4) (.tmp 7), none, []⟩,
 ⟨(some 45), .mv (.tmp 1), none, []⟩,
 ⟨(some 46), .bld [(.int .i64 0), (.int .i64 0), (.slice .full 0 []), (.int .i64 0), (.int .i64 0), (.int .i64 0)] [(0, 1, (.tmp 43)), (1, 4, (.tmp 44)), (5, 1, (.tmp 45))], none, []⟩,
 ⟨none, .st 6 (.tmp 8) (.tmp 46), none, []⟩,
 ⟨(some 9), .mv (.val (.bool true)), none, []⟩])
 .ret)))))))))
def c_edge_In : AF := ⟨b_edge_In, 47, [.cell 8 (some 6), .tmp 9]⟩
theorem p_edge_In : prepFunc Try.prog 11 = some c_edge_In ∧ hasBody Try.prog 11 = true := ⟨by kernel_rfl, by kernel_rfl⟩
def b_ridgewayref14_In : AC :=
 (.seq
 (.reg [
 ⟨(some 4), .box 25 6 (.tmp 0), none, []⟩,
 ⟨(some 6), .box 27 2 (.tmp 2), none, []⟩,
 ⟨(some 7), .box 30 4 (.tmp 3), none, []⟩,
 ⟨(some 8), .box 32 6 (.val (.agg [(.int .i64 0), (.int .i64 0), (.slice .full 0 []), (.int .i64 0), (.int .i64 0), (.int .i64 0)])), none, []⟩,
 ⟨(some 9), .mv (.val (.bool false)), none, []⟩])
 (.seq
 (.seq
 (.reg [
 ⟨(some 15), .ld (some 6) (.tmp 4), none, []⟩,
 ⟨(some 16), .callS 36 [(.tmp 15)], none, []⟩,
 ⟨(some 17), .un .not (.tmp 16), none, []⟩,
 ⟨(some 18), .mv (.tmp 17), none, []⟩,
 ⟨(some 19), .ld (some 6) (.tmp 4), some (18, false), []⟩,
 ⟨(some 20), .mv (.tmp 1), some (18, false), []⟩,
 ⟨(some 21), .callS 37 [(.tmp 19), (.tmp 20)], some (18, false), []⟩,
 ⟨(some 22), .un .not (.tmp 21), some (18, false), []⟩,
 ⟨(some 23), .pick (.tmp 18) (.val (.bool true)) (.tmp 22), none, []⟩,
 ⟨(some 24), .mv (.tmp 23), none, []⟩,
 ⟨(some 25), .ld (some 2) (.tmp 6), some (24, false), []⟩,
 ⟨(some 26), .callS 38 [(.tmp 25)], some (24, false), []⟩,
 ⟨(some 27), .un .not (.tmp 26), some (24, false), []⟩,
 ⟨(some 28), .pick (.tmp 24) (.val (.bool true)) (.tmp 27), none, []⟩,
 ⟨(some 29), .mv (.tmp 28), none, []⟩,
 ⟨(some 30), .ld (some 4) (.tmp 7), some (29, false), []⟩,
 ⟨(some 31), .callS 39 [(.tmp 30)], some (29, false), []⟩,
 ⟨(some 32), .un .not (.tmp 31), some (29, false), []⟩,
 ⟨(some 33), .pick (.tmp 29) (.val (.bool true)) (.tmp 32), none, []⟩])
 (.cond (.tmp 33)
 (.seq
 (.reg [
 ⟨(some 34), .bld [(.int .i64 0), (.int .i64 0), (.slice .full 0 []), (.int .i64 0), (.int .i64 0), (.int .i64 0)] [], none, []⟩,
 ⟨none, .st 6 (.tmp 8) (.tmp 34), none, []⟩,
 ⟨(some 9), .mv (.val (.bool false)), none, []⟩])
 .ret)
 .skip))
 (.seq
 (.reg [
 ⟨(some 35), .off 5 (.tmp 4), none, []⟩,
 ⟨(some 36), .ld none (.tmp 35), none, []⟩,
 ⟨(some 37), .mv (.tmp 1), none, []⟩,
 ⟨(some 38), .idxA 4 (.tmp 36) (.tmp 37), none, []⟩,
 ⟨(some 39), .ld (some 4) (.tmp 38), none, []⟩,
 ⟨(some 10), .box 47 4 (.val (.agg [(.int .i64 0), (.int .i64 0), (.slice .full 0 []), (.slice .full 0 [])])), none, []⟩,
 ⟨none, .st 4 (.tmp 10) (.tmp 39), none, []⟩])
 (.seq
 (.seq
 (.reg [
 ⟨(some 40), .off 1 (.tmp 7), none, []⟩,
 ⟨(some 41), .ld none (.tmp 40), none, []⟩,
 ⟨(some 42), .len (.tmp 41), none, []⟩,
 ⟨(some 43), .bin .eql (.tmp 42) (.val (.int .i64 0)), none, []⟩,
 ⟨(some 44), .mv (.tmp 43), none, []⟩,
 ⟨(some 45), .off 1 (.tmp 7), some (44, false), []⟩,
 ⟨(some 46), .ld none (.tmp 45), some (44, false), []⟩,
 ⟨(some 47), .idxA 1 (.tmp 46) (.val (.int .i64 0)), some (44, false), []⟩,
 ⟨(some 48), .ld none (.tmp 47), some (44, false), []⟩,
 ⟨(some 49), .off 0 (.tmp 10), some (44, false), []⟩,
 ⟨(some 50), .ld none (.tmp 49), some (44, false), []⟩,
 ⟨(some 51), .bin .neq (.tmp 48) (.tmp 50), some (44, false), []⟩,
 ⟨(some 52), .pick (.tmp 44) (.val (.bool true)) (.tmp 51), none, []⟩,
 ⟨(some 53), .mv (.tmp 52), none, []⟩,
 ⟨(some 54), .off 1 (.tmp 7), some (53, false), []⟩,
 ⟨(some 55), .ld none (.tmp 54), some (53, false), []⟩,
 ⟨(some 56), .off 0 (.tmp 4), some (53, false), []⟩,
 ⟨(some 57), .ld none (.tmp 56), some (53, false), []⟩,
 ⟨(some 58), .callS 40 [(.tmp 55), (.tmp 57)], some (53, false), []⟩,
 ⟨(some 59), .pick (.tmp 53) (.val (.bool true)) (.tmp 58), none, []⟩,
 ⟨(some 60), .mv (.tmp 59), none, []⟩,
 ⟨(some 61), .off 1 (.tmp 7), some (60, false), []⟩,
 ⟨(some 62), .ld none (.tmp 61), some (60, false), []⟩,
 ⟨(some 63), .len (.tmp 62), some (60, false), []⟩,
 ⟨(some 64), .bin .gtr (.tmp 63) (.val (.int .i64 32)), some (60, false), []⟩,
 ⟨(some 65), .pick (.tmp 60) (.val (.bool true)) (.tmp 64), none, []⟩])
 (.cond (.tmp 65)
 (.seq
 (.reg [
 ⟨(some 66), .bld [(.int .i64 0), (.int .i64 0), (.slice .full 0 []), (.int .i64 0), (.int .i64 0), (.int .i64 0)] [], none, []⟩,
 ⟨none, .st 6 (.tmp 8) (.tmp 66), none, []⟩,
 ⟨(some 9), .mv (.val (.bool false)), none, []⟩])
 .ret)
 .skip))
 (.seq
 (.reg [
 ⟨(some 68), .off 1 (.tmp 10), none, []⟩,
 ⟨(some 69), .ld none (.tmp 68), none, []⟩,
 ⟨(some 70), .off 0 (.tmp 10), none, []⟩,
 ⟨(some 71), .ld none (.tmp 70), none, []⟩,
 ⟨(some 72), .off 3 (.tmp 7), none, []⟩,
 ⟨(some 73), .ld none (.tmp 72), none, []⟩,
 ⟨(some 74), .callS 41 [(.tmp 69), (.tmp 71), (.tmp 73)], none, []⟩,
 ⟨(some 67), .mv (.tmp 74), none, []⟩,
 ⟨(some 75), .ext (.tmp 67) 0, none, []⟩,
 ⟨(some 76), .ext (.tmp 67) 1, none, []⟩,
 ⟨(some 11), .mv (.tmp 75), none, []⟩,
 ⟨(some 12), .mv (.tmp 76), none, []⟩])
 (.seq
 (.reg [
 ⟨(some 78), .off 2 (.tmp 10), none, []⟩,
 ⟨(some 79), .ld none (.tmp 78), none, []⟩,
 ⟨(some 80), .ld (some 2) (.tmp 6), none, []⟩,
 ⟨(some 81), .off 1 (.tmp 7), none, []⟩,
 ⟨(some 82), .ld none (.tmp 81), none, []⟩,
 ⟨(some 83), .off 1 (.tmp 10), none, []⟩,
 ⟨(some 84), .ld none (.tmp 83), none, []⟩,
 ⟨(some 85), .bld [(.int .i64 0), (.int .i64 0), (.slice .full 0 []), (.int .i64 0)] [(0, 2, (.tmp 80)), (2, 1, (.tmp 82)), (3, 1, (.tmp 84))], none, []⟩,
 ⟨(some 86), .callS 42 [(.tmp 79), (.tmp 85)], none, []⟩,
 ⟨(some 77), .mv (.tmp 86), none, []⟩,
 ⟨(some 87), .ext (.tmp 77) 0, none, []⟩,
 ⟨(some 88), .ext (.tmp 77) 1, none, []⟩,
 ⟨(some 13), .box 55 6 (.val (.agg [(.int .i64 0), (.int .i64 0), (.int .i64 0), (.int .i64 0), (.int .i64 0), (.int .i64 0)])), none, []⟩,
 ⟨none, .st 6 (.tmp 13) (.tmp 87), none, []⟩,
 ⟨(some 14), .mv (.tmp 88), none, []⟩])
 (.seq
 (.seq
 (.reg [
 ⟨(some 89), .mv (.tmp 12), none, []⟩,
 ⟨(some 90), .un .not (.tmp 89), none, []⟩,
 ⟨(some 91), .mv (.tmp 90), none, []⟩,
 ⟨(some 92), .mv (.tmp 14), some (91, false), []⟩,
 ⟨(some 93), .un .not (.tmp 92), some (91, false), []⟩,
 ⟨(some 94), .pick (.tmp 91) (.val (.bool true)) (.tmp 93), none, []⟩,
 ⟨(some 95), .mv (.tmp 94), none, []⟩,
 ⟨(some 96), .off 4 (.tmp 13), some (95, false), []⟩,
 ⟨(some 97), .ld none (.tmp 96), some (95, false), []⟩,
 ⟨(some 98), .bin .neq (.tmp 97) (.val (.int .i64 2)), some (95, false), []⟩,
 ⟨(some 99), .pick (.tmp 95) (.val (.bool true)) (.tmp 98), none, []⟩])
 (.cond (.tmp 99)
 (.seq
 (.reg [
 ⟨(some 100), .bld [(.int .i64 0), (.int .i64 0), (.slice .full 0 []), (.int .i64 0), (.int .i64 0), (.int .i64 0)] [], none, []⟩,
 ⟨none, .st 6 (.tmp 8) (.tmp 100), none, []⟩,
 ⟨(some 9), .mv (.val (.bool false)), none, []⟩])
 .ret)
 .skip))
 (.seq
 (.reg [
 ⟨(some 101), .mv (.tmp 11), none, []⟩,
 ⟨(some 102), .off 3 (.tmp 7), none, []⟩,
 ⟨none, .st 1 (.tmp 102) (.tmp 101), none, []⟩])
 (.seq
 (.reg [
 ⟨(some 103), .off 5 (.tmp 13), none, []⟩,
 ⟨(some 104), .ld none (.tmp 103), none, []⟩,
 ⟨(some 105), .ld (some 4) (.tmp 7), none, []⟩,
 ⟨(some 106), .mv (.tmp 1), none, []⟩,
 ⟨(some 107), .bld [(.int .i64 0), (.int .i64 0), (.slice .full 0 []), (.int .i64 0), (.int .i64 0), (.int .i64 0)] [(0, 1, (.tmp 104)), (1, 4, (.tmp 105)), (5, 1, (.tmp 106))], none, []⟩,
 ⟨none, .st 6 (.tmp 8) (.tmp 107), none, []⟩,
 ⟨(some 9), .mv (.val (.bool true)), none, []⟩])
 .ret)))))))))
def c_ridgewayref14_In : AF := ⟨b_ridgewayref14_In, 108, [.cell 8 (some 6), .tmp 9]⟩
theorem p_ridgewayref14_In : prepFunc Try.prog 12 = some c_ridgewayref14_In ∧ hasBody Try.prog 12 = true := ⟨by kernel_rfl, by kernel_rfl⟩
def b_edge_Out : AC :=
 (.seq
 (.reg [
 ⟨(some 4), .box 25 6 (.tmp 0), none, []⟩,
 ⟨(some 5), .box 3 1 (.tmp 1), none, []⟩,
 ⟨(some 6), .box 27 2 (.tmp 2), none, []⟩,
 ⟨(some 7), .box 32 6 (.tmp 3), none, []⟩,
 ⟨(some 8), .box 30 4 (.val (.agg [(.int .i64 0), (.slice .full 0 []), (.int .i64 0), (.int .i64 0)])), none, []⟩,
 ⟨(some 9), .mv (.val (.bool false)), none, []⟩])
 (.seq
 (.seq
 (.reg [
 ⟨(some 14), .ld (some 6) (.tmp 4), none, []⟩,
 ⟨(some 15), .ld none (.tmp 5), none, []⟩,
 ⟨(some 16), .ld (some 2) (.tmp 6), none, []⟩,
 ⟨(some 17), .callS 27 [(.tmp 14), (.tmp 15), (.tmp 16)], none, []⟩,
 ⟨(some 18), .un .not (.tmp 17), none, []⟩,
 ⟨(some 19), .mv (.tmp 18), none, []⟩,
 ⟨(some 20), .ld (some 6) (.tmp 7), some (19, false), []⟩,
 ⟨(some 21), .callS 21 [(.tmp 20)], some (19, false), []⟩,
 ⟨(some 22), .un .not (.tmp 21), some (19, false), []⟩,
 ⟨(some 23), .pick (.tmp 19) (.val (.bool true)) (.tmp 22), none, []⟩])
 (.cond (.tmp 23)
 (.seq
 (.reg [
 ⟨(some 24), .bld [(.int .i64 0), (.slice .full 0 []), (.int .i64 0), (.int .i64 0)] [], none, []⟩,
 ⟨none, .st 4 (.tmp 8) (.tmp 24), none, []⟩,
 ⟨(some 9), .mv (.val (.bool false)), none, []⟩])
 .ret)
 .skip))
 (.seq
 (.reg [
 ⟨(some 25), .off 5 (.tmp 4), none, []⟩,
 ⟨(some 26), .ld none (.tmp 25), none, []⟩,
 ⟨(some 27), .ld none (.tmp 5), none, []⟩,
 ⟨(some 28), .idxA 4 (.tmp 26) (.tmp 27), none, []⟩,
 ⟨(some 29), .ld (some 4) (.tmp 28), none, []⟩,
 ⟨(some 10), .box 47 4 (.val (.agg [(.int .i64 0), (.int .i64 0), (.slice .full 0 []), (.slice .full 0 [])])), none, []⟩,
 ⟨none, .st 4 (.tmp 10) (.tmp 29), none, []⟩])
 (.seq
 (.reg [
 ⟨(some 11), .box 28 1 (.val (.slice .full 0 [])), none, []⟩])
 (.seq
 (.reg [
 ⟨(some 12), .box 3 1 (.val (.int .i64 0)), none, []⟩])
 (.seq
 (.reg [
 ⟨(some 30), .mkclo 43 [(.tmp 7), (.tmp 5), (.tmp 4)], none, []⟩,
 ⟨(some 31), .mkclo 44 [(.tmp 10), (.tmp 6), (.tmp 7), (.tmp 4), (.tmp 11)], none, []⟩,
 ⟨(some 32), .mkclo 46 [(.tmp 10), (.tmp 4), (.tmp 7), (.tmp 12)], none, []⟩,
 ⟨(some 33), .mkclo 48 [(.tmp 11)], none, []⟩,
 ⟨(some 34), .lit 33 1 [0] [(.tmp 30), (.tmp 31), (.tmp 32), (.tmp 33)], none, []⟩,
 ⟨(some 35), .callS 28 [(.tmp 34)], none, []⟩,
 ⟨(some 13), .mv (.tmp 35), none, []⟩])
 (.seq
 (.seq
 (.reg [
 ⟨(some 36), .mv (.tmp 13), none, []⟩,
 ⟨(some 37), .un .not (.tmp 36), none, []⟩])
 (.cond (.tmp 37)
 (.seq
 (.reg [
 ⟨(some 38), .bld [(.int .i64 0), (.slice .full 0 []), (.int .i64 0), (.int .i64 0)] [], none, []⟩,
 ⟨none, .st 4 (.tmp 8) (.tmp 38), none, []⟩,
 ⟨(some 9), .mv (.val (.bool false)), none, []⟩])
 .ret)
 .skip))
 (.seq
 (.reg [
 ⟨(some 39), .off 1 (.tmp 7), none, []⟩,
 ⟨(some 40), .off 0 (.tmp 39), none, []⟩,
 ⟨(some 41), .ld none (.tmp 40), none, []⟩,
 ⟨(some 42), .ld none (.tmp 11), none, []⟩,
 ⟨(some 43), .off 1 (.tmp 4), none, []⟩,
 ⟨(some 44), .ld none (.tmp 43), none, []⟩,
 ⟨(some 45), .ld none (.tmp 12), none, []⟩,
 ⟨(some 46), .bld [(.int .i64 0), (.slice .full 0 []), (.int .i64 0), (.int .i64 0)] [(0, 1, (.tmp 41)), (1, 1, (.tmp 42)), (2, 1, (.tmp 44)), (3, 1, (.tmp 45))], none, []⟩,
 ⟨none, .st 4 (.tmp 8) (.tmp 46), none, []⟩,
 ⟨(some 9), .mv (.val (.bool true)), none, []⟩])
 .ret))))))))
def c_edge_Out : AF := ⟨b_edge_Out, 47, [.cell 8 (some 4), .tmp 9]⟩
theorem p_edge_Out : prepFunc Try.prog 13 = some c_edge_Out ∧ hasBody Try.prog 13 = true := ⟨by kernel_rfl, by kernel_rfl⟩
def b_ridgewayref14_Out : AC :=
 (.seq
 (.reg [
 ⟨(some 4), .box 25 6 (.tmp 0), none, []⟩,
 ⟨(some 6), .box 27 2 (.tmp 2), none, []⟩,
 ⟨(some 7), .box 32 6 (.tmp 3), none, []⟩,
 ⟨(some 8), .box 30 4 (.val (.agg [(.int .i64 0), (.slice .full 0 []), (.int .i64 0), (.int .i64 0)])), none, []⟩,
 ⟨(some 9), .mv (.val (.bool false)), none, []⟩])
 (.seq
 (.seq
 (.reg [
 ⟨(some 17), .ld (some 6) (.tmp 4), none, []⟩,
 ⟨(some 18), .callS 36 [(.tmp 17)], none, []⟩,
 ⟨(some 19), .un .not (.tmp 18), none, []⟩,
 ⟨(some 20), .mv (.tmp 19), none, []⟩,
 ⟨(some 21), .ld (some 6) (.tmp 4), some (20, false), []⟩,
 ⟨(some 22), .mv (.tmp 1), some (20, false), []⟩,
 ⟨(some 23), .callS 37 [(.tmp 21), (.tmp 22)], some (20, false), []⟩,
 ⟨(some 24), .un .not (.tmp 23), some (20, false), []⟩,
 ⟨(some 25), .pick (.tmp 20) (.val (.bool true)) (.tmp 24), none, []⟩,
 ⟨(some 26), .mv (.tmp 25), none, []⟩,
 ⟨(some 27), .ld (some 2) (.tmp 6), some (26, false), []⟩,
 ⟨(some 28), .callS 38 [(.tmp 27)], some (26, false), []⟩,
 ⟨(some 29), .un .not (.tmp 28), some (26, false), []⟩,
 ⟨(some 30), .pick (.tmp 26) (.val (.bool true)) (.tmp 29), none, []⟩,
 ⟨(some 31), .mv (.tmp 30), none, []⟩,
 ⟨(some 32), .ld (some 6) (.tmp 7), some (31, false), []⟩,
 ⟨(some 33), .callS 49 [(.tmp 32)], some (31, false), []⟩,
 ⟨(some 34), .un .not (.tmp 33), some (31, false), []⟩,
 ⟨(some 35), .pick (.tmp 31) (.val (.bool true)) (.tmp 34), none, []⟩,
 ⟨(some 36), .mv (.tmp 35), none, []⟩,
 ⟨(some 37), .off 5 (.tmp 7), some (36, false), []⟩,
 ⟨(some 38), .ld none (.tmp 37), some (36, false), []⟩,
 ⟨(some 39), .mv (.tmp 1), some (36, false), []⟩,
 ⟨(some 40), .bin .eql (.tmp 38) (.tmp 39), some (36, false), []⟩,
 ⟨(some 41), .pick (.tmp 36) (.val (.bool true)) (.tmp 40), none, []⟩,
 ⟨(some 42), .mv (.tmp 41), none, []⟩,
 ⟨(some 43), .off 5 (.tmp 7), some (42, false), []⟩,
 ⟨(some 44), .ld none (.tmp 43), some (42, false), []⟩,
 ⟨(some 45), .off 5 (.tmp 4), some (42, false), []⟩,
 ⟨(some 46), .ld none (.tmp 45), some (42, false), []⟩,
 ⟨(some 47), .len (.tmp 46), some (42, false), []⟩,
 ⟨(some 48), .bin .geq (.tmp 44) (.tmp 47), some (42, false), []⟩,
 ⟨(some 49), .pick (.tmp 42) (.val (.bool true)) (.tmp 48), none, []⟩])
 (.cond (.tmp 49)
 (.seq
 (.reg [
 ⟨(some 50), .bld [(.int .i64 0), (.slice .full 0 []), (.int .i64 0), (.int .i64 0)] [], none, []⟩,
 ⟨none, .st 4 (.tmp 8) (.tmp 50), none, []⟩,
 ⟨(some 9), .mv (.val (.bool false)), none, []⟩])
 .ret)
 .skip))
 (.seq
 (.reg [
 ⟨(some 51), .off 5 (.tmp 4), none, []⟩,
 ⟨(some 52), .ld none (.tmp 51), none, []⟩,
 ⟨(some 53), .mv (.tmp 1), none, []⟩,
 ⟨(some 54), .idxA 4 (.tmp 52) (.tmp 53), none, []⟩,
 ⟨(some 55), .ld (some 4) (.tmp 54), none, []⟩,
 ⟨(some 10), .box 47 4 (.val (.agg [(.int .i64 0), (.int .i64 0), (.slice .full 0 []), (.slice .full 0 [])])), none, []⟩,
 ⟨none, .st 4 (.tmp 10) (.tmp 55), none, []⟩])
 (.seq
 (.reg [
 ⟨(some 57), .off 3 (.tmp 10), none, []⟩,
 ⟨(some 58), .ld none (.tmp 57), none, []⟩,
 ⟨(some 59), .ld (some 2) (.tmp 6), none, []⟩,
 ⟨(some 60), .off 1 (.tmp 7), none, []⟩,
 ⟨(some 61), .off 1 (.tmp 60), none, []⟩,
 ⟨(some 62), .ld none (.tmp 61), none, []⟩,
 ⟨(some 63), .ld (some 6) (.tmp 4), none, []⟩,
 ⟨(some 64), .off 5 (.tmp 7), none, []⟩,
 ⟨(some 65), .ld none (.tmp 64), none, []⟩,
 ⟨(some 66), .call 16 [(.tmp 63), (.tmp 65)], none, []⟩,
 ⟨(some 67), .bld [(.int .i64 0), (.int .i64 0), (.slice .full 0 []), (.int .i64 0)] [(0, 2, (.tmp 59)), (2, 1, (.tmp 62)), (3, 1, (.tmp 66))], none, []⟩,
 ⟨(some 68), .call 42 [(.tmp 58), (.tmp 67)], none, []⟩,
 ⟨(some 56), .mv (.tmp 68), none, []⟩,
 ⟨(some 69), .ext (.tmp 56) 0, none, []⟩,
 ⟨(some 11), .box 55 6 (.val (.agg [(.int .i64 0), (.int .i64 0), (.int .i64 0), (.int .i64 0), (.int .i64 0), (.int .i64 0)])), none, []⟩,
 ⟨(some 70), .ext (.tmp 56) 1, none, []⟩,
 ⟨none, .st 6 (.tmp 11) (.tmp 69), none, []⟩,
 ⟨(some 12), .mv (.tmp 70), none, []⟩])
 (.seq
 (.reg [
 ⟨(some 72), .off 1 (.tmp 10), none, []⟩,
 ⟨(some 73), .ld none (.tmp 72), none, []⟩,
 ⟨(some 74), .off 0 (.tmp 4), none, []⟩,
 ⟨(some 75), .ld none (.tmp 74), none, []⟩,
 ⟨(some 76), .off 1 (.tmp 7), none, []⟩,
 ⟨(some 77), .off 3 (.tmp 76), none, []⟩,
 ⟨(some 78), .ld none (.tmp 77), none, []⟩,
 ⟨(some 79), .callS 50 [(.tmp 73), (.tmp 75), (.tmp 78)], none, []⟩,
 ⟨(some 71), .mv (.tmp 79), none, []⟩,
 ⟨(some 80), .ext (.tmp 71) 0, none, []⟩,
 ⟨(some 81), .ext (.tmp 71) 1, none, []⟩,
 ⟨(some 13), .mv (.tmp 80), none, []⟩,
 ⟨(some 14), .mv (.tmp 81), none, []⟩])
 (.seq
 (.seq
 (.reg [
 ⟨(some 82), .mv (.tmp 12), none, []⟩,
 ⟨(some 83), .un .not (.tmp 82), none, []⟩,
 ⟨(some 84), .mv (.tmp 83), none, []⟩,
 ⟨(some 85), .off 4 (.tmp 11), some (84, false), []⟩,
 ⟨(some 86), .ld none (.tmp 85), some (84, false), []⟩,
 ⟨(some 87), .bin .eql (.tmp 86) (.val (.int .i64 0)), some (84, false), []⟩,
 ⟨(some 88), .pick (.tmp 84) (.val (.bool true)) (.tmp 87), none, []⟩,
 ⟨(some 89), .mv (.tmp 88), none, []⟩,
 ⟨(some 90), .mv (.tmp 14), some (89, false), []⟩,
 ⟨(some 91), .un .not (.tmp 90), some (89, false), []⟩,
 ⟨(some 92), .pick (.tmp 89) (.val (.bool true)) (.tmp 91), none, []⟩])
 (.cond (.tmp 92)
 (.seq
 (.reg [
 ⟨(some 93), .bld [(.int .i64 0), (.slice .full 0 []), (.int .i64 0), (.int .i64 0)] [], none, []⟩,
 ⟨none, .st 4 (.tmp 8) (.tmp 93), none, []⟩,
 ⟨(some 9), .mv (.val (.bool false)), none, []⟩])
 .ret)
 .skip))
 (.seq
 (.reg [
 ⟨(some 94), .off 0 (.tmp 4), none, []⟩,
 ⟨(some 95), .ld none (.tmp 94), none, []⟩,
 ⟨(some 96), .lit 3 1 [0] [(.tmp 95)], none, []⟩,
 ⟨(some 15), .mv (.tmp 96), none, []⟩])
 (.seq
 (.seq
 (.reg [
 ⟨(some 97), .off 4 (.tmp 11), none, []⟩,
 ⟨(some 98), .ld none (.tmp 97), none, []⟩,
 ⟨(some 99), .bin .eql (.tmp 98) (.val (.int .i64 3)), none, []⟩])
 (.cond (.tmp 99)
 (.seq
 (.reg [
 ⟨(some 16), .mv (.val (.int .i64 0)), none, []⟩])
 (.block 0
 (.loop
 (.seq
 (.seq
 (.reg [
 ⟨(some 100), .mv (.tmp 16), none, []⟩,
 ⟨(some 101), .off 5 (.tmp 11), none, []⟩,
 ⟨(some 102), .ld none (.tmp 101), none, []⟩,
 ⟨(some 103), .bin .lss (.tmp 100) (.tmp 102), none, []⟩])
 (.cond (.tmp 103)
 .skip
 (.exit 0)))
 (.seq
 (.block 1
 (.reg [
 ⟨(some 106), .mv (.tmp 15), none, []⟩,
 ⟨(some 107), .off 0 (.tmp 4), none, []⟩,
 ⟨(some 108), .ld none (.tmp 107), none, []⟩,
 ⟨(some 109), .lit 3 1 [0] [(.tmp 108)], none, []⟩,
 ⟨(some 110), .app 3 1 8 (.tmp 106) (.tmp 109), none, []⟩,
 ⟨(some 15), .mv (.tmp 110), none, []⟩]))
 (.reg [
 ⟨(some 104), .mv (.tmp 16), none, []⟩,
 ⟨(some 105), .bin .add (.tmp 104) (.val (.int .i64 1)), none, []⟩,
 ⟨(some 16), .mv (.tmp 105), none, []⟩]))))))
 .skip))
 (.seq
 (.reg [
 ⟨(some 111), .mv (.tmp 15), none, []⟩,
 ⟨(some 112), .off 1 (.tmp 7), none, []⟩,
 ⟨(some 113), .off 1 (.tmp 112), none, []⟩,
 ⟨(some 114), .ld none (.tmp 113), none, []⟩,
 ⟨(some 115), .app 3 1 8 (.tmp 111) (.tmp 114), none, []⟩,
 ⟨(some 15), .mv (.tmp 115), none, []⟩])
 (.seq
 (.seq
 (.reg [
 ⟨(some 116), .mv (.tmp 15), none, []⟩,
 ⟨(some 117), .len (.tmp 116), none, []⟩,
 ⟨(some 118), .bin .gtr (.tmp 117) (.val (.int .i64 32)), none, []⟩])
 (.cond (.tmp 118)
 (.seq
 (.reg [
 ⟨(some 119), .bld [(.int .i64 0), (.slice .full 0 []), (.int .i64 0), (.int .i64 0)] [], none, []⟩,
 ⟨none, .st 4 (.tmp 8) (.tmp 119), none, []⟩,
 ⟨(some 9), .mv (.val (.bool false)), none, []⟩])
 .ret)
 .skip))
 (.seq
 (.reg [
 ⟨(some 120), .off 1 (.tmp 7), none, []⟩,
 ⟨(some 121), .off 0 (.tmp 120), none, []⟩,
 ⟨(some 122), .ld none (.tmp 121), none, []⟩,
 ⟨(some 123), .mv (.tmp 15), none, []⟩,
 ⟨(some 124), .off 1 (.tmp 4), none, []⟩,
 ⟨(some 125), .ld none (.tmp 124), none, []⟩,
 ⟨(some 126), .mv (.tmp 13), none, []⟩,
 ⟨(some 127), .bld [(.int .i64 0), (.slice .full 0 []), (.int .i64 0), (.int .i64 0)] [(0, 1, (.tmp 122)), (1, 1, (.tmp 123)), (2, 1, (.tmp 125)), (3, 1, (.tmp 126))], none, []⟩,
 ⟨none, .st 4 (.tmp 8) (.tmp 127), none, []⟩,
 ⟨(some 9), .mv (.val (.bool true)), none, []⟩])
 .ret)))))))))))
def c_ridgewayref14_Out : AF := ⟨b_ridgewayref14_Out, 128, [.cell 8 (some 4), .tmp 9]⟩
theorem p_ridgewayref14_Out : prepFunc Try.prog 14 = some c_ridgewayref14_Out ∧ hasBody Try.prog 14 = true := ⟨by kernel_rfl, by kernel_rfl⟩
def b_edge_Class : AC :=
 (.seq
 (.reg [
 ⟨(some 2), .box 25 6 (.tmp 0), none, []⟩,
 ⟨(some 4), .mv (.val (.int .i64 0)), none, []⟩])
 (.seq
 (.seq
 (.reg [
 ⟨(some 5), .mv (.tmp 1), none, []⟩,
 ⟨(some 6), .bin .lss (.tmp 5) (.val (.int .i64 0)), none, []⟩,
 ⟨(some 7), .mv (.tmp 6), none, []⟩,
 ⟨(some 8), .mv (.tmp 1), some (7, false), []⟩,
 ⟨(some 9), .off 5 (.tmp 2), some (7, false), []⟩,
 ⟨(some 10), .ld none (.tmp 9), some (7, false), []⟩,
 ⟨(some 11), .len (.tmp 10), some (7, false), []⟩,
 ⟨(some 12), .bin .geq (.tmp 8) (.tmp 11), some (7, false), []⟩,
 ⟨(some 13), .pick (.tmp 7) (.val (.bool true)) (.tmp 12), none, []⟩])
 (.cond (.tmp 13)
 (.seq
 (.reg [
 ⟨(some 4), .mv (.val (.int .i64 0)), none, []⟩])
 .ret)
 .skip))
 (.seq
 (.reg [
 ⟨(some 14), .off 5 (.tmp 2), none, []⟩,
 ⟨(some 15), .ld none (.tmp 14), none, []⟩,
 ⟨(some 16), .mv (.tmp 1), none, []⟩,
 ⟨(some 17), .idxA 4 (.tmp 15) (.tmp 16), none, []⟩,
 ⟨(some 18), .off 1 (.tmp 17), none, []⟩,
 ⟨(some 19), .ld none (.tmp 18), none, []⟩,
 ⟨(some 4), .mv (.tmp 19), none, []⟩])
 .ret)))
def c_edge_Class : AF := ⟨b_edge_Class, 20, [.tmp 4]⟩
theorem p_edge_Class : prepFunc Try.prog 15 = some c_edge_Class ∧ hasBody Try.prog 15 = true := ⟨by kernel_rfl, by kernel_rfl⟩
def b_ridgewayref14_Class : AC :=
 (.seq
 (.reg [
 ⟨(some 2), .box 25 6 (.tmp 0), none, []⟩,
 ⟨(some 4), .mv (.val (.int .i64 0)), none, []⟩])
 (.seq
 (.seq
 (.reg [
 ⟨(some 5), .ld (some 6) (.tmp 2), none, []⟩,
 ⟨(some 6), .mv (.tmp 1), none, []⟩,
 ⟨(some 7), .callS 37 [(.tmp 5), (.tmp 6)], none, []⟩,
 ⟨(some 8), .un .not (.tmp 7), none, []⟩])
 (.cond (.tmp 8)
 (.seq
 (.reg [
 ⟨(some 4), .mv (.val (.int .i64 0)), none, []⟩])
 .ret)
 .skip))
 (.seq
 (.reg [
 ⟨(some 9), .off 5 (.tmp 2), none, []⟩,
 ⟨(some 10), .ld none (.tmp 9), none, []⟩,
 ⟨(some 11), .mv (.tmp 1), none, []⟩,
 ⟨(some 12), .idxA 4 (.tmp 10) (.tmp 11), none, []⟩,
 ⟨(some 13), .off 1 (.tmp 12), none, []⟩,
 ⟨(some 14), .ld none (.tmp 13), none, []⟩,
 ⟨(some 4), .mv (.tmp 14), none, []⟩])
 .ret)))
def c_ridgewayref14_Class : AF := ⟨b_ridgewayref14_Class, 15, [.tmp 4]⟩
theorem p_ridgewayref14_Class : prepFunc Try.prog 16 = some c_ridgewayref14_Class ∧ hasBody Try.prog 16 = true := ⟨by kernel_rfl, by kernel_rfl⟩
def b_ridgewayref09_Same : AC :=
 (.seq
 (.reg [
 ⟨(some 2), .box 32 6 (.tmp 0), none, []⟩,
 ⟨(some 3), .box 32 6 (.tmp 1), none, []⟩,
 ⟨(some 4), .mv (.val (.bool false)), none, []⟩])
 (.seq
 (.reg [
 ⟨(some 5), .off 0 (.tmp 2), none, []⟩,
 ⟨(some 6), .ld none (.tmp 5), none, []⟩,
 ⟨(some 7), .off 0 (.tmp 3), none, []⟩,
 ⟨(some 8), .ld none (.tmp 7), none, []⟩,
 ⟨(some 9), .bin .eql (.tmp 6) (.tmp 8), none, []⟩,
 ⟨(some 10), .mv (.tmp 9), none, []⟩,
 ⟨(some 11), .off 5 (.tmp 2), some (10, true), []⟩,
 ⟨(some 12), .ld none (.tmp 11), some (10, true), []⟩,
 ⟨(some 13), .off 5 (.tmp 3), some (10, true), []⟩,
 ⟨(some 14), .ld none (.tmp 13), some (10, true), []⟩,
 ⟨(some 15), .bin .eql (.tmp 12) (.tmp 14), some (10, true), []⟩,
 ⟨(some 16), .pick (.tmp 10) (.tmp 15) (.val (.bool false)), none, []⟩,
 ⟨(some 17), .mv (.tmp 16), none, []⟩,
 ⟨(some 18), .off 1 (.tmp 2), some (17, true), []⟩,
 ⟨(some 19), .ld (some 4) (.tmp 18), some (17, true), []⟩,
 ⟨(some 20), .off 1 (.tmp 3), some (17, true), []⟩,
 ⟨(some 21), .ld (some 4) (.tmp 20), some (17, true), []⟩,
 ⟨(some 22), .callS 18 [(.tmp 19), (.tmp 21)], some (17, true), []⟩,
 ⟨(some 23), .pick (.tmp 17) (.tmp 22) (.val (.bool false)), none, []⟩,
 ⟨(some 4), .mv (.tmp 23), none, []⟩])
 .ret))
def c_ridgewayref09_Same : AF := ⟨b_ridgewayref09_Same, 24, [.tmp 4]⟩
theorem p_ridgewayref09_Same : prepFunc Try.prog 17 = some c_ridgewayref09_Same ∧ hasBody Try.prog 17 = true := ⟨by kernel_rfl, by kernel_rfl⟩
def b_ridgewayref07_SamePath : AC :=
 (.seq
 (.reg [
 ⟨(some 2), .box 30 4 (.tmp 0), none, []⟩,
 ⟨(some 3), .box 30 4 (.tmp 1), none, []⟩,
 ⟨(some 4), .mv (.val (.bool false)), none, []⟩])
 (.seq
 (.seq
 (.reg [
 ⟨(some 6), .off 0 (.tmp 2), none, []⟩,
 ⟨(some 7), .ld none (.tmp 6), none, []⟩,
 ⟨(some 8), .off 0 (.tmp 3), none, []⟩,
 ⟨(some 9), .ld none (.tmp 8), none, []⟩,
 ⟨(some 10), .bin .neq (.tmp 7) (.tmp 9), none, []⟩,
 ⟨(some 11), .mv (.tmp 10), none, []⟩,
 ⟨(some 12), .off 2 (.tmp 2), some (11, false), []⟩,
 ⟨(some 13), .ld none (.tmp 12), some (11, false), []⟩,
 ⟨(some 14), .off 2 (.tmp 3), some (11, false), []⟩,
 ⟨(some 15), .ld none (.tmp 14), some (11, false), []⟩,
 ⟨(some 16), .bin .neq (.tmp 13) (.tmp 15), some (11, false), []⟩,
 ⟨(some 17), .pick (.tmp 11) (.val (.bool true)) (.tmp 16), none, []⟩,
 ⟨(some 18), .mv (.tmp 17), none, []⟩,
 ⟨(some 19), .off 3 (.tmp 2), some (18, false), []⟩,
 ⟨(some 20), .ld none (.tmp 19), some (18, false), []⟩,
 ⟨(some 21), .off 3 (.tmp 3), some (18, false), []⟩,
 ⟨(some 22), .ld none (.tmp 21), some (18, false), []⟩,
 ⟨(some 23), .bin .neq (.tmp 20) (.tmp 22), some (18, false), []⟩,
 ⟨(some 24), .pick (.tmp 18) (.val (.bool true)) (.tmp 23), none, []⟩,
 ⟨(some 25), .mv (.tmp 24), none, []⟩,
 ⟨(some 26), .off 1 (.tmp 2), some (25, false), []⟩,
 ⟨(some 27), .ld none (.tmp 26), some (25, false), []⟩,
 ⟨(some 28), .len (.tmp 27), some (25, false), []⟩,
 ⟨(some 29), .off 1 (.tmp 3), some (25, false), []⟩,
 ⟨(some 30), .ld none (.tmp 29), some (25, false), []⟩,
 ⟨(some 31), .len (.tmp 30), some (25, false), []⟩,
 ⟨(some 32), .bin .neq (.tmp 28) (.tmp 31), some (25, false), []⟩,
 ⟨(some 33), .pick (.tmp 25) (.val (.bool true)) (.tmp 32), none, []⟩])
 (.cond (.tmp 33)
 (.seq
 (.reg [
 ⟨(some 4), .mv (.val (.bool false)), none, []⟩])
 .ret)
 .skip))
 (.seq
 (.seq
 (.reg [
 ⟨(some 5), .mv (.val (.int .i64 0)), none, []⟩])
 (.block 0
 (.loop
 (.seq
 (.seq
 (.reg [
 ⟨(some 34), .mv (.tmp 5), none, []⟩,
 ⟨(some 35), .off 1 (.tmp 2), none, []⟩,
 ⟨(some 36), .ld none (.tmp 35), none, []⟩,
 ⟨(some 37), .len (.tmp 36), none, []⟩,
 ⟨(some 38), .bin .lss (.tmp 34) (.tmp 37), none, []⟩])
 (.cond (.tmp 38)
 .skip
 (.exit 0)))
 (.seq
 (.block 1
 (.seq
 (.reg [
 ⟨(some 41), .off 1 (.tmp 2), none, []⟩,
 ⟨(some 42), .ld none (.tmp 41), none, []⟩,
 ⟨(some 43), .mv (.tmp 5), none, []⟩,
 ⟨(some 44), .idxA 1 (.tmp 42) (.tmp 43), none, []⟩,
 ⟨(some 45), .ld none (.tmp 44), none, []⟩,
 ⟨(some 46), .off 1 (.tmp 3), none, []⟩,
 ⟨(some 47), .ld none (.tmp 46), none, []⟩,
 ⟨(some 48), .mv (.tmp 5), none, []⟩,
 ⟨(some 49), .idxA 1 (.tmp 47) (.tmp 48), none, []⟩,
 ⟨(some 50), .ld none (.tmp 49), none, []⟩,
 ⟨(some 51), .bin .neq (.tmp 45) (.tmp 50), none, []⟩])
 (.cond (.tmp 51)
 (.seq
 (.reg [
 ⟨(some 4), .mv (.val (.bool false)), none, []⟩])
 .ret)
 .skip)))
 (.reg [
 ⟨(some 39), .mv (.tmp 5), none, []⟩,
 ⟨(some 40), .bin .add (.tmp 39) (.val (.int .i64 1)), none, []⟩,
 ⟨(some 5), .mv (.tmp 40), none, []⟩]))))))
 (.seq
 (.reg [
 ⟨(some 4), .mv (.val (.bool true)), none, []⟩])
 .ret))))
def c_ridgewayref07_SamePath : AF := ⟨b_ridgewayref07_SamePath, 52, [.tmp 4]⟩
theorem p_ridgewayref07_SamePath : prepFunc Try.prog 18 = some c_ridgewayref07_SamePath ∧ hasBody Try.prog 18 = true := ⟨by kernel_rfl, by kernel_rfl⟩
def b_conf_Sane : AC :=
 (.seq
 (.reg [
 ⟨(some 1), .box 25 6 (.tmp 0), none, []⟩,
 ⟨(some 2), .mv (.val (.bool false)), none, []⟩])
 (.seq
 (.reg [
 ⟨(some 3), .off 0 (.tmp 1), none, []⟩,
 ⟨(some 4), .ld none (.tmp 3), none, []⟩,
 ⟨(some 5), .callS 52 [(.tmp 4)], none, []⟩,
 ⟨(some 6), .mv (.tmp 5), none, []⟩,
 ⟨(some 7), .off 1 (.tmp 1), some (6, true), []⟩,
 ⟨(some 8), .ld none (.tmp 7), some (6, true), []⟩,
 ⟨(some 9), .callS 52 [(.tmp 8)], some (6, true), []⟩,
 ⟨(some 10), .pick (.tmp 6) (.tmp 9) (.val (.bool false)), none, []⟩,
 ⟨(some 11), .mv (.tmp 10), none, []⟩,
 ⟨(some 12), .off 2 (.tmp 1), some (11, true), []⟩,
 ⟨(some 13), .ld none (.tmp 12), some (11, true), []⟩,
 ⟨(some 14), .callS 53 [(.tmp 13)], some (11, true), []⟩,
 ⟨(some 15), .pick (.tmp 11) (.tmp 14) (.val (.bool false)), none, []⟩,
 ⟨(some 16), .mv (.tmp 15), none, []⟩,
 ⟨(some 17), .off 3 (.tmp 1), some (16, true), []⟩,
 ⟨(some 18), .ld none (.tmp 17), some (16, true), []⟩,
 ⟨(some 19), .callS 54 [(.tmp 18)], some (16, true), []⟩,
 ⟨(some 20), .pick (.tmp 16) (.tmp 19) (.val (.bool false)), none, []⟩,
 ⟨(some 21), .mv (.tmp 20), none, []⟩,
 ⟨(some 22), .off 4 (.tmp 1), some (21, true), []⟩,
 ⟨(some 23), .ld none (.tmp 22), some (21, true), []⟩,
 ⟨(some 24), .callS 55 [(.tmp 23)], some (21, true), []⟩,
 ⟨(some 25), .pick (.tmp 21) (.tmp 24) (.val (.bool false)), none, []⟩,
 ⟨(some 26), .mv (.tmp 25), none, []⟩,
 ⟨(some 27), .ld (some 6) (.tmp 1), some (26, true), []⟩,
 ⟨(some 28), .callS 56 [(.tmp 27)], some (26, true), []⟩,
 ⟨(some 29), .pick (.tmp 26) (.tmp 28) (.val (.bool false)), none, []⟩,
 ⟨(some 2), .mv (.tmp 29), none, []⟩])
 .ret))
def c_conf_Sane : AF := ⟨b_conf_Sane, 30, [.tmp 2]⟩
theorem p_conf_Sane : prepFunc Try.prog 20 = some c_conf_Sane ∧ hasBody Try.prog 20 = true := ⟨by kernel_rfl, by kernel_rfl⟩
def b_route_Sane : AC :=
 (.seq
 (.reg [
 ⟨(some 1), .box 32 6 (.tmp 0), none, []⟩,
 ⟨(some 2), .mv (.val (.bool false)), none, []⟩])
 (.seq
 (.seq
 (.reg [
 ⟨(some 3), .off 1 (.tmp 1), none, []⟩,
 ⟨(some 4), .ld (some 4) (.tmp 3), none, []⟩,
 ⟨(some 5), .callS 22 [(.tmp 4)], none, []⟩,
 ⟨(some 6), .un .not (.tmp 5), none, []⟩,
 ⟨(some 7), .mv (.tmp 6), none, []⟩,
 ⟨(some 8), .off 1 (.tmp 1), some (7, false), []⟩,
 ⟨(some 9), .off 1 (.tmp 8), some (7, false), []⟩,
 ⟨(some 10), .ld none (.tmp 9), some (7, false), []⟩,
 ⟨(some 11), .len (.tmp 10), some (7, false), []⟩,
 ⟨(some 12), .bin .gtr (.tmp 11) (.val (.int .i64 32)), some (7, false), []⟩,
 ⟨(some 13), .pick (.tmp 7) (.val (.bool true)) (.tmp 12), none, []⟩])
 (.cond (.tmp 13)
 (.seq
 (.reg [
 ⟨(some 2), .mv (.val (.bool false)), none, []⟩])
 .ret)
 .skip))
 (.seq
 (.seq
 (.reg [
 ⟨(some 14), .off 5 (.tmp 1), none, []⟩,
 ⟨(some 15), .ld none (.tmp 14), none, []⟩,
 ⟨(some 16), .bin .eql (.tmp 15) (.val (.int .i64 (-1))), none, []⟩])
 (.cond (.tmp 16)
 (.seq
 (.reg [
 ⟨(some 17), .off 0 (.tmp 1), none, []⟩,
 ⟨(some 18), .ld none (.tmp 17), none, []⟩,
 ⟨(some 19), .bin .eql (.tmp 18) (.val (.int .i64 400)), none, []⟩,
 ⟨(some 20), .mv (.tmp 19), none, []⟩,
 ⟨(some 21), .off 1 (.tmp 1), some (20, true), []⟩,
 ⟨(some 22), .off 1 (.tmp 21), some (20, true), []⟩,
 ⟨(some 23), .ld none (.tmp 22), some (20, true), []⟩,
 ⟨(some 24), .len (.tmp 23), some (20, true), []⟩,
 ⟨(some 25), .bin .eql (.tmp 24) (.val (.int .i64 0)), some (20, true), []⟩,
 ⟨(some 26), .pick (.tmp 20) (.tmp 25) (.val (.bool false)), none, []⟩,
 ⟨(some 27), .mv (.tmp 26), none, []⟩,
 ⟨(some 28), .off 1 (.tmp 1), some (27, true), []⟩,
 ⟨(some 29), .off 0 (.tmp 28), some (27, true), []⟩,
 ⟨(some 30), .ld none (.tmp 29), some (27, true), []⟩,
 ⟨(some 31), .bin .eql (.tmp 30) (.val (.int .i64 0)), some (27, true), []⟩,
 ⟨(some 32), .pick (.tmp 27) (.tmp 31) (.val (.bool false)), none, []⟩,
 ⟨(some 33), .mv (.tmp 32), none, []⟩,
 ⟨(some 34), .off 1 (.tmp 1), some (33, true), []⟩,
 ⟨(some 35), .off 3 (.tmp 34), some (33, true), []⟩,
 ⟨(some 36), .ld none (.tmp 35), some (33, true), []⟩,
 ⟨(some 37), .bin .eql (.tmp 36) (.val (.int .i64 0)), some (33, true), []⟩,
 ⟨(some 38), .pick (.tmp 33) (.tmp 37) (.val (.bool false)), none, []⟩,
 ⟨(some 2), .mv (.tmp 38), none, []⟩])
 .ret)
 .skip))
 (.seq
 (.reg [
 ⟨(some 39), .off 5 (.tmp 1), none, []⟩,
 ⟨(some 40), .ld none (.tmp 39), none, []⟩,
 ⟨(some 41), .bin .geq (.tmp 40) (.val (.int .i64 0)), none, []⟩,
 ⟨(some 42), .mv (.tmp 41), none, []⟩,
 ⟨(some 43), .off 5 (.tmp 1), some (42, true), []⟩,
 ⟨(some 44), .ld none (.tmp 43), some (42, true), []⟩,
 ⟨(some 45), .bin .lss (.tmp 44) (.val (.int .i64 8)), some (42, true), []⟩,
 ⟨(some 46), .pick (.tmp 42) (.tmp 45) (.val (.bool false)), none, []⟩,
 ⟨(some 47), .mv (.tmp 46), none, []⟩,
 ⟨(some 48), .off 0 (.tmp 1), some (47, true), []⟩,
 ⟨(some 49), .ld none (.tmp 48), some (47, true), []⟩,
 ⟨(some 50), .bin .geq (.tmp 49) (.val (.int .i64 1)), some (47, true), []⟩,
 ⟨(some 51), .pick (.tmp 47) (.tmp 50) (.val (.bool false)), none, []⟩,
 ⟨(some 52), .mv (.tmp 51), none, []⟩,
 ⟨(some 53), .off 0 (.tmp 1), some (52, true), []⟩,
 ⟨(some 54), .ld none (.tmp 53), some (52, true), []⟩,
 ⟨(some 55), .bin .lss (.tmp 54) (.val (.int .i64 400)), some (52, true), []⟩,
 ⟨(some 56), .pick (.tmp 52) (.tmp 55) (.val (.bool false)), none, []⟩,
 ⟨(some 2), .mv (.tmp 56), none, []⟩])
 .ret))))
def c_route_Sane : AF := ⟨b_route_Sane, 57, [.tmp 2]⟩
theorem p_route_Sane : prepFunc Try.prog 21 = some c_route_Sane ∧ hasBody Try.prog 21 = true := ⟨by kernel_rfl, by kernel_rfl⟩
def b_attr_Sane : AC :=
 (.seq
 (.reg [
 ⟨(some 1), .box 30 4 (.tmp 0), none, []⟩,
 ⟨(some 2), .mv (.val (.bool false)), none, []⟩])
 (.seq
 (.seq
 (.reg [
 ⟨(some 5), .off 1 (.tmp 1), none, []⟩,
 ⟨(some 6), .ld none (.tmp 5), none, []⟩,
 ⟨(some 7), .len (.tmp 6), none, []⟩,
 ⟨(some 8), .mv (.val (.int .i64 0)), none, []⟩])
 (.block 0
 (.loop
 (.seq
 (.reg [
 ⟨(some 9), .bin .lss (.tmp 8) (.tmp 7), none, []⟩])
 (.seq
 (.cond (.tmp 9)
 .skip
 (.exit 0))
 (.seq
 (.block 1
 (.seq
 (.reg [
 ⟨(some 10), .idxA 1 (.tmp 6) (.tmp 8), none, []⟩,
 ⟨(some 11), .ld none (.tmp 10), none, []⟩,
 ⟨(some 4), .mv (.tmp 11), none, []⟩])
 (.seq
 (.reg [
 ⟨(some 12), .mv (.tmp 4), none, []⟩,
 ⟨(some 13), .bin .lss (.tmp 12) (.val (.int .i64 1)), none, []⟩,
 ⟨(some 14), .mv (.tmp 13), none, []⟩,
 ⟨(some 15), .mv (.tmp 4), some (14, false), []⟩,
 ⟨(some 16), .bin .gtr (.tmp 15) (.val (.int .i64 4294967295)), some (14, false), []⟩,
 ⟨(some 17), .pick (.tmp 14) (.val (.bool true)) (.tmp 16), none, []⟩])
 (.cond (.tmp 17)
 (.seq
 (.reg [
 ⟨(some 2), .mv (.val (.bool false)), none, []⟩])
 .ret)
 .skip))))
 (.reg [
 ⟨(some 18), .bin .add (.tmp 8) (.val (.int .i64 1)), none, []⟩,
 ⟨(some 8), .mv (.tmp 18), none, []⟩])))))))
 (.seq
 (.reg [
 ⟨(some 19), .off 0 (.tmp 1), none, []⟩,
 ⟨(some 20), .ld none (.tmp 19), none, []⟩,
 ⟨(some 21), .bin .geq (.tmp 20) (.val (.int .i64 0)), none, []⟩,
 ⟨(some 22), .mv (.tmp 21), none, []⟩,
 ⟨(some 23), .off 0 (.tmp 1), some (22, true), []⟩,
 ⟨(some 24), .ld none (.tmp 23), some (22, true), []⟩,
 ⟨(some 25), .bin .leq (.tmp 24) (.val (.int .i64 2)), some (22, true), []⟩,
 ⟨(some 26), .pick (.tmp 22) (.tmp 25) (.val (.bool false)), none, []⟩,
 ⟨(some 27), .mv (.tmp 26), none, []⟩,
 ⟨(some 28), .off 1 (.tmp 1), some (27, true), []⟩,
 ⟨(some 29), .ld none (.tmp 28), some (27, true), []⟩,
 ⟨(some 30), .len (.tmp 29), some (27, true), []⟩,
 ⟨(some 31), .bin .leq (.tmp 30) (.val (.int .i64 255)), some (27, true), []⟩,
 ⟨(some 32), .pick (.tmp 27) (.tmp 31) (.val (.bool false)), none, []⟩,
 ⟨(some 33), .mv (.tmp 32), none, []⟩,
 ⟨(some 34), .off 2 (.tmp 1), some (33, true), []⟩,
 ⟨(some 35), .ld none (.tmp 34), some (33, true), []⟩,
 ⟨(some 36), .bin .geq (.tmp 35) (.val (.int .i64 1)), some (33, true), []⟩,
 ⟨(some 37), .pick (.tmp 33) (.tmp 36) (.val (.bool false)), none, []⟩,
 ⟨(some 38), .mv (.tmp 37), none, []⟩,
 ⟨(some 39), .off 2 (.tmp 1), some (38, true), []⟩,
 ⟨(some 40), .ld none (.tmp 39), some (38, true), []⟩,
 ⟨(some 41), .bin .leq (.tmp 40) (.val (.int .i64 4294967295)), some (38, true), []⟩,
 ⟨(some 42), .pick (.tmp 38) (.tmp 41) (.val (.bool false)), none, []⟩,
 ⟨(some 43), .mv (.tmp 42), none, []⟩,
 ⟨(some 44), .off 3 (.tmp 1), some (43, true), []⟩,
 ⟨(some 45), .ld none (.tmp 44), some (43, true), []⟩,
 ⟨(some 46), .bin .geq (.tmp 45) (.val (.int .i64 0)), some (43, true), []⟩,
 ⟨(some 47), .pick (.tmp 43) (.tmp 46) (.val (.bool false)), none, []⟩,
 ⟨(some 48), .mv (.tmp 47), none, []⟩,
 ⟨(some 49), .off 3 (.tmp 1), some (48, true), []⟩,
 ⟨(some 50), .ld none (.tmp 49), some (48, true), []⟩,
 ⟨(some 51), .bin .leq (.tmp 50) (.val (.int .i64 4294967295)), some (48, true), []⟩,
 ⟨(some 52), .pick (.tmp 48) (.tmp 51) (.val (.bool false)), none, []⟩,
 ⟨(some 2), .mv (.tmp 52), none, []⟩])
 .ret)))
def c_attr_Sane : AF := ⟨b_attr_Sane, 53, [.tmp 2]⟩
theorem p_attr_Sane : prepFunc Try.prog 22 = some c_attr_Sane ∧ hasBody Try.prog 22 = true := ⟨by kernel_rfl, by kernel_rfl⟩
def b_role_In : AC :=
 (.seq
 (.reg [
 ⟨(some 6), .mv (.val (.int .i64 0)), none, []⟩,
 ⟨(some 7), .mv (.val (.bool false)), none, []⟩])
 (.seq
 (.block 0
 (.seq
 (.reg [
 ⟨(some 9), .mv (.tmp 0), none, []⟩,
 ⟨(some 10), .bin .eql (.tmp 9) (.val (.int .i64 1)), none, []⟩,
 ⟨(some 11), .mv (.tmp 10), none, []⟩,
 ⟨(some 12), .mv (.tmp 2), some (11, true), []⟩,
 ⟨(some 13), .bin .eql (.tmp 12) (.val (.int .i64 0)), some (11, true), []⟩,
 ⟨(some 14), .pick (.tmp 11) (.tmp 13) (.val (.bool false)), none, []⟩,
 ⟨(some 8), .mv (.tmp 14), none, []⟩])
 (.cond (.tmp 8)
 (.seq
 (.reg [
 ⟨(some 6), .mv (.val (.int .i64 0)), none, []⟩,
 ⟨(some 7), .mv (.val (.bool true)), none, []⟩])
 .ret)
 (.seq
 (.seq
 (.reg [
 ⟨(some 16), .mv (.tmp 0), none, []⟩,
 ⟨(some 17), .bin .eql (.tmp 16) (.val (.int .i64 2)), none, []⟩,
 ⟨(some 18), .mv (.tmp 17), none, []⟩,
 ⟨(some 19), .mv (.tmp 2), some (18, true), []⟩,
 ⟨(some 20), .bin .eql (.tmp 19) (.val (.int .i64 0)), some (18, true), []⟩,
 ⟨(some 21), .mv (.tmp 20), some (18, true), []⟩,
 ⟨(some 22), .mv (.tmp 2), some (21, false), []⟩,
 ⟨(some 23), .mv (.tmp 1), some (21, false), []⟩,
 ⟨(some 24), .bin .eql (.tmp 22) (.tmp 23), some (21, false), []⟩,
 ⟨(some 25), .pick (.tmp 21) (.val (.bool true)) (.tmp 24), some (18, true), []⟩,
 ⟨(some 26), .pick (.tmp 18) (.tmp 25) (.val (.bool false)), none, []⟩,
 ⟨(some 15), .mv (.tmp 26), none, []⟩])
 (.cond (.tmp 15)
 .skip
 (.reg [
 ⟨(some 27), .mv (.tmp 0), none, []⟩,
 ⟨(some 28), .bin .eql (.tmp 27) (.val (.int .i64 3)), none, []⟩,
 ⟨(some 29), .mv (.tmp 28), none, []⟩,
 ⟨(some 30), .mv (.tmp 2), some (29, true), []⟩,
 ⟨(some 31), .bin .eql (.tmp 30) (.val (.int .i64 0)), some (29, true), []⟩,
 ⟨(some 32), .pick (.tmp 29) (.tmp 31) (.val (.bool false)), none, []⟩,
 ⟨(some 15), .mv (.tmp 32), none, []⟩])))
 (.cond (.tmp 15)
 (.seq
 (.reg [
 ⟨(some 33), .mv (.tmp 1), none, []⟩,
 ⟨(some 6), .mv (.tmp 33), none, []⟩,
 ⟨(some 7), .mv (.val (.bool true)), none, []⟩])
 .ret)
 (.seq
 (.reg [
 ⟨(some 35), .mv (.tmp 0), none, []⟩,
 ⟨(some 36), .bin .eql (.tmp 35) (.val (.int .i64 3)), none, []⟩,
 ⟨(some 34), .mv (.tmp 36), none, []⟩])
 (.cond (.tmp 34)
 (.seq
 (.reg [
 ⟨(some 37), .mv (.tmp 2), none, []⟩,
 ⟨(some 6), .mv (.tmp 37), none, []⟩,
 ⟨(some 7), .mv (.val (.bool true)), none, []⟩])
 .ret)
 .skip)))))))
 (.seq
 (.reg [
 ⟨(some 6), .mv (.val (.int .i64 0)), none, []⟩,
 ⟨(some 7), .mv (.val (.bool false)), none, []⟩])
 .ret)))
def c_role_In : AF := ⟨b_role_In, 38, [.tmp 6, .tmp 7]⟩
theorem p_role_In : prepFunc Try.prog 23 = some c_role_In ∧ hasBody Try.prog 23 = true := ⟨by kernel_rfl, by kernel_rfl⟩
def b_policy_Pick : AC :=
 (.seq
 (.reg [
 ⟨(some 3), .box 59 4 (.tmp 1), none, []⟩,
 ⟨(some 4), .box 55 6 (.val (.agg [(.int .i64 0), (.int .i64 0), (.int .i64 0), (.int .i64 0), (.int .i64 0), (.int .i64 0)])), none, []⟩,
 ⟨(some 5), .mv (.val (.bool false)), none, []⟩])
 (.seq
 (.seq
 (.reg [
 ⟨(some 8), .mv (.tmp 0), none, []⟩,
 ⟨(some 9), .len (.tmp 8), none, []⟩,
 ⟨(some 10), .mv (.val (.int .i64 0)), none, []⟩])
 (.block 0
 (.loop
 (.seq
 (.reg [
 ⟨(some 11), .bin .lss (.tmp 10) (.tmp 9), none, []⟩])
 (.seq
 (.cond (.tmp 11)
 .skip
 (.exit 0))
 (.seq
 (.block 1
 (.seq
 (.reg [
 ⟨(some 12), .idxA 6 (.tmp 8) (.tmp 10), none, []⟩,
 ⟨(some 13), .ld (some 6) (.tmp 12), none, []⟩,
 ⟨(some 7), .box 55 6 (.val (.agg [(.int .i64 0), (.int .i64 0), (.int .i64 0), (.int .i64 0), (.int .i64 0), (.int .i64 0)])), none, []⟩,
 ⟨none, .st 6 (.tmp 7) (.tmp 13), none, []⟩])
 (.seq
 (.reg [
 ⟨(some 14), .ld (some 6) (.tmp 7), none, []⟩,
 ⟨(some 15), .ld (some 4) (.tmp 3), none, []⟩,
 ⟨(some 16), .callS 57 [(.tmp 14), (.tmp 15)], none, []⟩])
 (.cond (.tmp 16)
 (.seq
 (.reg [
 ⟨(some 17), .ld (some 6) (.tmp 7), none, []⟩,
 ⟨none, .st 6 (.tmp 4) (.tmp 17), none, []⟩,
 ⟨(some 5), .mv (.val (.bool true)), none, []⟩])
 .ret)
 .skip))))
 (.reg [
 ⟨(some 18), .bin .add (.tmp 10) (.val (.int .i64 1)), none, []⟩,
 ⟨(some 10), .mv (.tmp 18), none, []⟩])))))))
 (.seq
 (.reg [
 ⟨(some 19), .bld [(.int .i64 0), (.int .i64 0), (.int .i64 0), (.int .i64 0), (.int .i64 0), (.int .i64 0)] [], none, []⟩,
 ⟨none, .st 6 (.tmp 4) (.tmp 19), none, []⟩,
 ⟨(some 5), .mv (.val (.bool false)), none, []⟩])
 .ret)))
def c_policy_Pick : AF := ⟨b_policy_Pick, 20, [.cell 4 (some 6), .tmp 5]⟩
theorem p_policy_Pick : prepFunc Try.prog 24 = some c_policy_Pick ∧ hasBody Try.prog 24 = true := ⟨by kernel_rfl, by kernel_rfl⟩
def b_ridgewaylaw14_node : AC :=
 (.seq
 (.reg [
 ⟨(some 0), .box 25 6 (.val (.agg [(.int .i64 0), (.int .i64 0), (.int .i64 0), (.int .i64 0), (.slice .full 0 []), (.slice .full 0 [])])), none, []⟩])
 (.seq
 (.reg [
 ⟨(some 1), .bld [(.int .i64 0), (.int .i64 0), (.int .i64 0), (.int .i64 0), (.int .i64 0), (.int .i64 0)] [(4, 1, (.val (.int .i64 2))), (5, 1, (.val (.int .i64 300)))], none, []⟩,
 ⟨(some 2), .lit 55 6 [0, 0, 0, 0, 0, 0] [(.tmp 1)], none, []⟩,
 ⟨(some 3), .bld [(.int .i64 0), (.int .i64 0), (.int .i64 0), (.int .i64 0), (.int .i64 0), (.int .i64 0)] [(4, 1, (.val (.int .i64 1)))], none, []⟩,
 ⟨(some 4), .lit 55 6 [0, 0, 0, 0, 0, 0] [(.tmp 3)], none, []⟩,
 ⟨(some 5), .bld [(.int .i64 0), (.int .i64 0), (.slice .full 0 []), (.slice .full 0 [])] [(0, 1, (.val (.int .i64 65002))), (1, 1, (.val (.int .i64 1))), (2, 1, (.tmp 2)), (3, 1, (.tmp 4))], none, []⟩,
 ⟨(some 6), .bld [(.int .i64 0), (.int .i64 0), (.int .i64 0), (.int .i64 0), (.int .i64 0), (.int .i64 0)] [(4, 1, (.val (.int .i64 2))), (5, 1, (.val (.int .i64 100)))], none, []⟩,
 ⟨(some 7), .lit 55 6 [0, 0, 0, 0, 0, 0] [(.tmp 6)], none, []⟩,
 ⟨(some 8), .bld [(.int .i64 0), (.int .i64 0), (.int .i64 0), (.int .i64 0), (.int .i64 0), (.int .i64 0)] [(4, 1, (.val (.int .i64 3))), (5, 1, (.val (.int .i64 1)))], none, []⟩,
 ⟨(some 9), .lit 55 6 [0, 0, 0, 0, 0, 0] [(.tmp 8)], none, []⟩,
 ⟨(some 10), .bld [(.int .i64 0), (.int .i64 0), (.slice .full 0 []), (.slice .full 0 [])] [(0, 1, (.val (.int .i64 65003))), (1, 1, (.val (.int .i64 3))), (2, 1, (.tmp 7)), (3, 1, (.tmp 9))], none, []⟩,
 ⟨(some 11), .lit 47 4 [0, 0, 6, 6] [(.tmp 5), (.tmp 10)], none, []⟩,
 ⟨(some 12), .bld [(.int .i64 0), (.int .i64 0), (.int .i64 0), (.int .i64 0), (.slice .full 0 []), (.slice .full 0 [])] [(0, 1, (.val (.int .i64 65001))), (1, 1, (.val (.int .i64 9))), (3, 1, (.val (.int .i64 9))), (5, 1, (.tmp 11))], none, []⟩,
 ⟨none, .st 6 (.tmp 0) (.tmp 12), none, []⟩])
 .ret))
def c_ridgewaylaw14_node : AF := ⟨b_ridgewaylaw14_node, 13, [.cell 0 (some 6)]⟩
theorem p_ridgewaylaw14_node : prepFunc Try.prog 25 = some c_ridgewaylaw14_node ∧ hasBody Try.prog 25 = true := ⟨by kernel_rfl, by kernel_rfl⟩
def b_ridgewayref12_Few : AC :=
 (.seq
 (.reg [
 ⟨(some 1), .box 25 6 (.tmp 0), none, []⟩,
 ⟨(some 2), .mv (.val (.bool false)), none, []⟩])
 (.seq
 (.seq
 (.reg [
 ⟨(some 3), .mv (.val (.int .i64 0)), none, []⟩])
 (.block 0
 (.loop
 (.seq
 (.seq
 (.reg [
 ⟨(some 4), .mv (.tmp 3), none, []⟩,
 ⟨(some 5), .off 5 (.tmp 1), none, []⟩,
 ⟨(some 6), .ld none (.tmp 5), none, []⟩,
 ⟨(some 7), .len (.tmp 6), none, []⟩,
 ⟨(some 8), .bin .lss (.tmp 4) (.tmp 7), none, []⟩])
 (.cond (.tmp 8)
 .skip
 (.exit 0)))
 (.seq
 (.block 1
 (.seq
 (.reg [
 ⟨(some 11), .off 5 (.tmp 1), none, []⟩,
 ⟨(some 12), .ld none (.tmp 11), none, []⟩,
 ⟨(some 13), .mv (.tmp 3), none, []⟩,
 ⟨(some 14), .idxA 4 (.tmp 12) (.tmp 13), none, []⟩,
 ⟨(some 15), .off 2 (.tmp 14), none, []⟩,
 ⟨(some 16), .ld none (.tmp 15), none, []⟩,
 ⟨(some 17), .len (.tmp 16), none, []⟩,
 ⟨(some 18), .bin .gtr (.tmp 17) (.val (.int .i64 20)), none, []⟩,
 ⟨(some 19), .mv (.tmp 18), none, []⟩,
 ⟨(some 20), .off 5 (.tmp 1), some (19, false), []⟩,
 ⟨(some 21), .ld none (.tmp 20), some (19, false), []⟩,
 ⟨(some 22), .mv (.tmp 3), some (19, false), []⟩,
 ⟨(some 23), .idxA 4 (.tmp 21) (.tmp 22), some (19, false), []⟩,
 ⟨(some 24), .off 3 (.tmp 23), some (19, false), []⟩,
 ⟨(some 25), .ld none (.tmp 24), some (19, false), []⟩,
 ⟨(some 26), .len (.tmp 25), some (19, false), []⟩,
 ⟨(some 27), .bin .gtr (.tmp 26) (.val (.int .i64 20)), some (19, false), []⟩,
 ⟨(some 28), .pick (.tmp 19) (.val (.bool true)) (.tmp 27), none, []⟩])
 (.cond (.tmp 28)
 (.seq
 (.reg [
 ⟨(some 2), .mv (.val (.bool false)), none, []⟩])
 .ret)
 .skip)))
 (.reg [
 ⟨(some 9), .mv (.tmp 3), none, []⟩,
 ⟨(some 10), .bin .add (.tmp 9) (.val (.int .i64 1)), none, []⟩,
 ⟨(some 3), .mv (.tmp 10), none, []⟩]))))))
 (.seq
 (.reg [
 ⟨(some 29), .off 4 (.tmp 1), none, []⟩,
 ⟨(some 30), .ld none (.tmp 29), none, []⟩,
 ⟨(some 31), .len (.tmp 30), none, []⟩,
 ⟨(some 32), .bin .leq (.tmp 31) (.val (.int .i64 20)), none, []⟩,
 ⟨(some 33), .mv (.tmp 32), none, []⟩,
 ⟨(some 34), .off 5 (.tmp 1), some (33, true), []⟩,
 ⟨(some 35), .ld none (.tmp 34), some (33, true), []⟩,
 ⟨(some 36), .len (.tmp 35), some (33, true), []⟩,
 ⟨(some 37), .bin .leq (.tmp 36) (.val (.int .i64 20)), some (33, true), []⟩,
 ⟨(some 38), .pick (.tmp 33) (.tmp 37) (.val (.bool false)), none, []⟩,
 ⟨(some 2), .mv (.tmp 38), none, []⟩])
 .ret)))
def c_ridgewayref12_Few : AF := ⟨b_ridgewayref12_Few, 39, [.tmp 2]⟩
theorem p_ridgewayref12_Few : prepFunc Try.prog 26 = some c_ridgewayref12_Few ∧ hasBody Try.prog 26 = true := ⟨by kernel_rfl, by kernel_rfl⟩
def b_edge_at : AC :=
 (.seq
 (.reg [
 ⟨(some 3), .box 25 6 (.tmp 0), none, []⟩,
 ⟨(some 5), .box 27 2 (.tmp 2), none, []⟩,
 ⟨(some 6), .mv (.val (.bool false)), none, []⟩])
 (.seq
 (.reg [
 ⟨(some 7), .mv (.tmp 1), none, []⟩,
 ⟨(some 8), .bin .geq (.tmp 7) (.val (.int .i64 0)), none, []⟩,
 ⟨(some 9), .mv (.tmp 8), none, []⟩,
 ⟨(some 10), .mv (.tmp 1), some (9, true), []⟩,
 ⟨(some 11), .off 5 (.tmp 3), some (9, true), []⟩,
 ⟨(some 12), .ld none (.tmp 11), some (9, true), []⟩,
 ⟨(some 13), .len (.tmp 12), some (9, true), []⟩,
 ⟨(some 14), .bin .lss (.tmp 10) (.tmp 13), some (9, true), []⟩,
 ⟨(some 15), .pick (.tmp 9) (.tmp 14) (.val (.bool false)), none, []⟩,
 ⟨(some 16), .mv (.tmp 15), none, []⟩,
 ⟨(some 17), .ld (some 2) (.tmp 5), some (16, true), []⟩,
 ⟨(some 18), .callS 58 [(.tmp 17)], some (16, true), []⟩,
 ⟨(some 19), .pick (.tmp 16) (.tmp 18) (.val (.bool false)), none, []⟩,
 ⟨(some 20), .mv (.tmp 19), none, []⟩,
 ⟨(some 21), .ld (some 6) (.tmp 3), some (20, true), []⟩,
 ⟨(some 22), .callS 20 [(.tmp 21)], some (20, true), []⟩,
 ⟨(some 23), .pick (.tmp 20) (.tmp 22) (.val (.bool false)), none, []⟩,
 ⟨(some 6), .mv (.tmp 23), none, []⟩])
 .ret))
def c_edge_at : AF := ⟨b_edge_at, 24, [.tmp 6]⟩
theorem p_edge_at : prepFunc Try.prog 27 = some c_edge_at ∧ hasBody Try.prog 27 = true := ⟨by kernel_rfl, by kernel_rfl⟩
def b_edge_through : AC :=
 (.seq
 (.reg [
 ⟨(some 2), .mv (.val (.bool false)), none, []⟩])
 (.seq
 (.seq
 (.reg [
 ⟨(some 5), .mv (.tmp 0), none, []⟩,
 ⟨(some 6), .len (.tmp 5), none, []⟩,
 ⟨(some 7), .mv (.val (.int .i64 0)), none, []⟩])
 (.block 0
 (.loop
 (.seq
 (.reg [
 ⟨(some 8), .bin .lss (.tmp 7) (.tmp 6), none, []⟩])
 (.seq
 (.cond (.tmp 8)
 .skip
 (.exit 0))
 (.seq
 (.block 1
 (.seq
 (.reg [
 ⟨(some 9), .idxA 1 (.tmp 5) (.tmp 7), none, []⟩,
 ⟨(some 10), .ld none (.tmp 9), none, []⟩,
 ⟨(some 4), .mv (.tmp 10), none, []⟩])
 (.seq
 (.reg [
 ⟨(some 11), .mv (.tmp 4), none, []⟩,
 ⟨(some 12), .callvS (.tmp 11) [], none, []⟩,
 ⟨(some 13), .un .not (.tmp 12), none, []⟩])
 (.cond (.tmp 13)
 (.seq
 (.reg [
 ⟨(some 2), .mv (.val (.bool false)), none, []⟩])
 .ret)
 .skip))))
 (.reg [
 ⟨(some 14), .bin .add (.tmp 7) (.val (.int .i64 1)), none, []⟩,
 ⟨(some 7), .mv (.tmp 14), none, []⟩])))))))
 (.seq
 (.reg [
 ⟨(some 2), .mv (.val (.bool true)), none, []⟩])
 .ret)))
def c_edge_through : AF := ⟨b_edge_through, 15, [.tmp 2]⟩
theorem p_edge_through : prepFunc Try.prog 28 = some c_edge_through ∧ hasBody Try.prog 28 = true := ⟨by kernel_rfl, by kernel_rfl⟩
def b_edge_In_1 : AC :=
 (.seq
 (.reg [
 ⟨(some 2), .mv (.val (.bool false)), none, []⟩])
 (.seq
 (.reg [
 ⟨(some 3), .off 1 (.tmp 0), none, []⟩,
 ⟨(some 4), .ld none (.tmp 3), none, []⟩,
 ⟨(some 5), .len (.tmp 4), none, []⟩,
 ⟨(some 6), .bin .gtr (.tmp 5) (.val (.int .i64 0)), none, []⟩,
 ⟨(some 7), .mv (.tmp 6), none, []⟩,
 ⟨(some 8), .off 1 (.tmp 0), some (7, true), []⟩,
 ⟨(some 9), .ld none (.tmp 8), some (7, true), []⟩,
 ⟨(some 10), .idxA 1 (.tmp 9) (.val (.int .i64 0)), some (7, true), []⟩,
 ⟨(some 11), .ld none (.tmp 10), some (7, true), []⟩,
 ⟨(some 12), .off 0 (.tmp 1), some (7, true), []⟩,
 ⟨(some 13), .ld none (.tmp 12), some (7, true), []⟩,
 ⟨(some 14), .bin .eql (.tmp 11) (.tmp 13), some (7, true), []⟩,
 ⟨(some 15), .pick (.tmp 7) (.tmp 14) (.val (.bool false)), none, []⟩,
 ⟨(some 2), .mv (.tmp 15), none, []⟩])
 .ret))
def c_edge_In_1 : AF := ⟨b_edge_In_1, 16, [.tmp 2]⟩
theorem p_edge_In_1 : prepFunc Try.prog 29 = some c_edge_In_1 ∧ hasBody Try.prog 29 = true := ⟨by kernel_rfl, by kernel_rfl⟩
def b_edge_In_2 : AC :=
 (.seq
 (.reg [
 ⟨(some 2), .mv (.val (.bool false)), none, []⟩])
 (.seq
 (.reg [
 ⟨(some 3), .off 1 (.tmp 0), none, []⟩,
 ⟨(some 4), .ld none (.tmp 3), none, []⟩,
 ⟨(some 5), .off 0 (.tmp 1), none, []⟩,
 ⟨(some 6), .ld none (.tmp 5), none, []⟩,
 ⟨(some 7), .callS 31 [(.tmp 4), (.tmp 6)], none, []⟩,
 ⟨(some 8), .un .not (.tmp 7), none, []⟩,
 ⟨(some 2), .mv (.tmp 8), none, []⟩])
 .ret))
def c_edge_In_2 : AF := ⟨b_edge_In_2, 9, [.tmp 2]⟩
theorem p_edge_In_2 : prepFunc Try.prog 30 = some c_edge_In_2 ∧ hasBody Try.prog 30 = true := ⟨by kernel_rfl, by kernel_rfl⟩
def b_slices_Contains___int_int : AC :=
 (.seq
 (.reg [
 ⟨(some 4), .mv (.val (.bool false)), none, []⟩])
 (.seq
 (.reg [
 ⟨(some 5), .mv (.tmp 0), none, []⟩,
 ⟨(some 6), .mv (.tmp 1), none, []⟩,
 ⟨(some 7), .callS 59 [(.tmp 5), (.tmp 6)], none, []⟩,
 ⟨(some 8), .bin .geq (.tmp 7) (.val (.int .i64 0)), none, []⟩,
 ⟨(some 4), .mv (.tmp 8), none, []⟩])
 .ret))
def c_slices_Contains___int_int : AF := ⟨b_slices_Contains___int_int, 9, [.tmp 4]⟩
theorem p_slices_Contains___int_int : prepFunc Try.prog 31 = some c_slices_Contains___int_int ∧ hasBody Try.prog 31 = true := ⟨by kernel_rfl, by kernel_rfl⟩
def b_edge_In_3 : AC :=
 (.seq
 (.reg [
 ⟨(some 1), .mv (.val (.bool false)), none, []⟩])
 (.seq
 (.reg [
 ⟨(some 2), .off 1 (.tmp 0), none, []⟩,
 ⟨(some 3), .ld none (.tmp 2), none, []⟩,
 ⟨(some 4), .len (.tmp 3), none, []⟩,
 ⟨(some 5), .bin .leq (.tmp 4) (.val (.int .i64 32)), none, []⟩,
 ⟨(some 1), .mv (.tmp 5), none, []⟩])
 .ret))
def c_edge_In_3 : AF := ⟨b_edge_In_3, 6, [.tmp 1]⟩
theorem p_edge_In_3 : prepFunc Try.prog 32 = some c_edge_In_3 ∧ hasBody Try.prog 32 = true := ⟨by kernel_rfl, by kernel_rfl⟩
def b_edge_In_4 : AC :=
 (.seq
 (.reg [
 ⟨(some 3), .mv (.val (.bool false)), none, []⟩])
 (.seq
 (.reg [
 ⟨(some 5), .off 1 (.tmp 0), none, []⟩,
 ⟨(some 6), .ld none (.tmp 5), none, []⟩,
 ⟨(some 7), .off 0 (.tmp 0), none, []⟩,
 ⟨(some 8), .ld none (.tmp 7), none, []⟩,
 ⟨(some 9), .off 3 (.tmp 1), none, []⟩,
 ⟨(some 10), .ld none (.tmp 9), none, []⟩,
 ⟨(some 11), .callS 23 [(.tmp 6), (.tmp 8), (.tmp 10)], none, []⟩,
 ⟨(some 4), .mv (.tmp 11), none, []⟩,
 ⟨(some 12), .ext (.tmp 4) 0, none, []⟩,
 ⟨(some 13), .ext (.tmp 4) 1, none, []⟩,
 ⟨none, .st 1 (.tmp 2) (.tmp 12), none, []⟩,
 ⟨(some 3), .mv (.tmp 13), none, []⟩])
 (.seq
 (.reg [
 ⟨(some 14), .mv (.tmp 3), none, []⟩,
 ⟨(some 3), .mv (.tmp 14), none, []⟩])
 .ret)))
def c_edge_In_4 : AF := ⟨b_edge_In_4, 15, [.tmp 3]⟩
theorem p_edge_In_4 : prepFunc Try.prog 33 = some c_edge_In_4 ∧ hasBody Try.prog 33 = true := ⟨by kernel_rfl, by kernel_rfl⟩
def b_edge_In_5 : AC :=
 (.seq
 (.reg [
 ⟨(some 4), .mv (.val (.bool false)), none, []⟩])
 (.seq
 (.reg [
 ⟨(some 6), .off 2 (.tmp 0), none, []⟩,
 ⟨(some 7), .ld none (.tmp 6), none, []⟩,
 ⟨(some 8), .ld (some 2) (.tmp 1), none, []⟩,
 ⟨(some 9), .off 1 (.tmp 2), none, []⟩,
 ⟨(some 10), .ld none (.tmp 9), none, []⟩,
 ⟨(some 11), .off 1 (.tmp 0), none, []⟩,
 ⟨(some 12), .ld none (.tmp 11), none, []⟩,
 ⟨(some 13), .bld [(.int .i64 0), (.int .i64 0), (.slice .full 0 []), (.int .i64 0)] [(0, 2, (.tmp 8)), (2, 1, (.tmp 10)), (3, 1, (.tmp 12))], none, []⟩,
 ⟨(some 14), .callS 24 [(.tmp 7), (.tmp 13)], none, []⟩,
 ⟨(some 5), .mv (.tmp 14), none, []⟩,
 ⟨(some 15), .ext (.tmp 5) 0, none, []⟩,
 ⟨(some 16), .ext (.tmp 5) 1, none, []⟩,
 ⟨none, .st 6 (.tmp 3) (.tmp 15), none, []⟩,
 ⟨(some 4), .mv (.tmp 16), none, []⟩])
 (.seq
 (.reg [
 ⟨(some 17), .ld (some 6) (.tmp 3), none, []⟩,
 ⟨(some 18), .mv (.tmp 4), none, []⟩,
 ⟨(some 19), .callS 35 [(.tmp 17), (.tmp 18)], none, []⟩,
 ⟨(some 4), .mv (.tmp 19), none, []⟩])
 .ret)))
def c_edge_In_5 : AF := ⟨b_edge_In_5, 20, [.tmp 4]⟩
theorem p_edge_In_5 : prepFunc Try.prog 34 = some c_edge_In_5 ∧ hasBody Try.prog 34 = true := ⟨by kernel_rfl, by kernel_rfl⟩
def b_edge_accepts : AC :=
 (.seq
 (.reg [
 ⟨(some 2), .box 55 6 (.tmp 0), none, []⟩,
 ⟨(some 4), .mv (.val (.bool false)), none, []⟩])
 (.seq
 (.reg [
 ⟨(some 5), .mv (.tmp 1), none, []⟩,
 ⟨(some 6), .mv (.tmp 5), none, []⟩,
 ⟨(some 7), .off 4 (.tmp 2), some (6, true), []⟩,
 ⟨(some 8), .ld none (.tmp 7), some (6, true), []⟩,
 ⟨(some 9), .bin .neq (.tmp 8) (.val (.int .i64 0)), some (6, true), []⟩,
 ⟨(some 10), .pick (.tmp 6) (.tmp 9) (.val (.bool false)), none, []⟩,
 ⟨(some 4), .mv (.tmp 10), none, []⟩])
 .ret))
def c_edge_accepts : AF := ⟨b_edge_accepts, 11, [.tmp 4]⟩
theorem p_edge_accepts : prepFunc Try.prog 35 = some c_edge_accepts ∧ hasBody Try.prog 35 = true := ⟨by kernel_rfl, by kernel_rfl⟩
def b_ridgewayref12_Sane : AC :=
 (.seq
 (.reg [
 ⟨(some 1), .box 25 6 (.tmp 0), none, []⟩,
 ⟨(some 2), .mv (.val (.bool false)), none, []⟩])
 (.seq
 (.reg [
 ⟨(some 3), .off 0 (.tmp 1), none, []⟩,
 ⟨(some 4), .ld none (.tmp 3), none, []⟩,
 ⟨(some 5), .bin .geq (.tmp 4) (.val (.int .i64 1)), none, []⟩,
 ⟨(some 6), .mv (.tmp 5), none, []⟩,
 ⟨(some 7), .off 0 (.tmp 1), some (6, true), []⟩,
 ⟨(some 8), .ld none (.tmp 7), some (6, true), []⟩,
 ⟨(some 9), .bin .leq (.tmp 8) (.val (.int .i64 4294967295)), some (6, true), []⟩,
 ⟨(some 10), .pick (.tmp 6) (.tmp 9) (.val (.bool false)), none, []⟩,
 ⟨(some 11), .mv (.tmp 10), none, []⟩,
 ⟨(some 12), .off 1 (.tmp 1), some (11, true), []⟩,
 ⟨(some 13), .ld none (.tmp 12), some (11, true), []⟩,
 ⟨(some 14), .bin .geq (.tmp 13) (.val (.int .i64 1)), some (11, true), []⟩,
 ⟨(some 15), .pick (.tmp 11) (.tmp 14) (.val (.bool false)), none, []⟩,
 ⟨(some 16), .mv (.tmp 15), none, []⟩,
 ⟨(some 17), .off 1 (.tmp 1), some (16, true), []⟩,
 ⟨(some 18), .ld none (.tmp 17), some (16, true), []⟩,
 ⟨(some 19), .bin .leq (.tmp 18) (.val (.int .i64 4294967295)), some (16, true), []⟩,
 ⟨(some 20), .pick (.tmp 16) (.tmp 19) (.val (.bool false)), none, []⟩,
 ⟨(some 21), .mv (.tmp 20), none, []⟩,
 ⟨(some 22), .off 2 (.tmp 1), some (21, true), []⟩,
 ⟨(some 23), .ld none (.tmp 22), some (21, true), []⟩,
 ⟨(some 24), .callS 60 [(.tmp 23)], some (21, true), []⟩,
 ⟨(some 25), .pick (.tmp 21) (.tmp 24) (.val (.bool false)), none, []⟩,
 ⟨(some 26), .mv (.tmp 25), none, []⟩,
 ⟨(some 27), .off 3 (.tmp 1), some (26, true), []⟩,
 ⟨(some 28), .ld none (.tmp 27), some (26, true), []⟩,
 ⟨(some 29), .bin .geq (.tmp 28) (.val (.int .i64 1)), some (26, true), []⟩,
 ⟨(some 30), .pick (.tmp 26) (.tmp 29) (.val (.bool false)), none, []⟩,
 ⟨(some 31), .mv (.tmp 30), none, []⟩,
 ⟨(some 32), .off 3 (.tmp 1), some (31, true), []⟩,
 ⟨(some 33), .ld none (.tmp 32), some (31, true), []⟩,
 ⟨(some 34), .bin .leq (.tmp 33) (.val (.int .i64 1000)), some (31, true), []⟩,
 ⟨(some 35), .pick (.tmp 31) (.tmp 34) (.val (.bool false)), none, []⟩,
 ⟨(some 36), .mv (.tmp 35), none, []⟩,
 ⟨(some 37), .off 4 (.tmp 1), some (36, true), []⟩,
 ⟨(some 38), .ld none (.tmp 37), some (36, true), []⟩,
 ⟨(some 39), .callS 61 [(.tmp 38)], some (36, true), []⟩,
 ⟨(some 40), .pick (.tmp 36) (.tmp 39) (.val (.bool false)), none, []⟩,
 ⟨(some 41), .mv (.tmp 40), none, []⟩,
 ⟨(some 42), .off 5 (.tmp 1), some (41, true), []⟩,
 ⟨(some 43), .ld none (.tmp 42), some (41, true), []⟩,
 ⟨(some 44), .off 0 (.tmp 1), some (41, true), []⟩,
 ⟨(some 45), .ld none (.tmp 44), some (41, true), []⟩,
 ⟨(some 46), .callS 62 [(.tmp 43), (.tmp 45)], some (41, true), []⟩,
 ⟨(some 47), .pick (.tmp 41) (.tmp 46) (.val (.bool false)), none, []⟩,
 ⟨(some 2), .mv (.tmp 47), none, []⟩])
 .ret))
def c_ridgewayref12_Sane : AF := ⟨b_ridgewayref12_Sane, 48, [.tmp 2]⟩
theorem p_ridgewayref12_Sane : prepFunc Try.prog 36 = some c_ridgewayref12_Sane ∧ hasBody Try.prog 36 = true := ⟨by kernel_rfl, by kernel_rfl⟩
def b_ridgewayref14_side : AC :=
 (.seq
 (.reg [
 ⟨(some 2), .box 25 6 (.tmp 0), none, []⟩,
 ⟨(some 4), .mv (.val (.bool false)), none, []⟩])
 (.seq
 (.reg [
 ⟨(some 5), .mv (.tmp 1), none, []⟩,
 ⟨(some 6), .bin .geq (.tmp 5) (.val (.int .i64 0)), none, []⟩,
 ⟨(some 7), .mv (.tmp 6), none, []⟩,
 ⟨(some 8), .mv (.tmp 1), some (7, true), []⟩,
 ⟨(some 9), .off 5 (.tmp 2), some (7, true), []⟩,
 ⟨(some 10), .ld none (.tmp 9), some (7, true), []⟩,
 ⟨(some 11), .len (.tmp 10), some (7, true), []⟩,
 ⟨(some 12), .bin .lss (.tmp 8) (.tmp 11), some (7, true), []⟩,
 ⟨(some 13), .pick (.tmp 7) (.tmp 12) (.val (.bool false)), none, []⟩,
 ⟨(some 4), .mv (.tmp 13), none, []⟩])
 .ret))
def c_ridgewayref14_side : AF := ⟨b_ridgewayref14_side, 14, [.tmp 4]⟩
theorem p_ridgewayref14_side : prepFunc Try.prog 37 = some c_ridgewayref14_side ∧ hasBody Try.prog 37 = true := ⟨by kernel_rfl, by kernel_rfl⟩
def b_ridgewayref02_Sane : AC :=
 (.seq
 (.reg [
 ⟨(some 1), .box 27 2 (.tmp 0), none, []⟩,
 ⟨(some 2), .mv (.val (.bool false)), none, []⟩])
 (.seq
 (.reg [
 ⟨(some 3), .off 1 (.tmp 1), none, []⟩,
 ⟨(some 4), .ld none (.tmp 3), none, []⟩,
 ⟨(some 5), .bin .geq (.tmp 4) (.val (.int .i64 0)), none, []⟩,
 ⟨(some 6), .mv (.tmp 5), none, []⟩,
 ⟨(some 7), .off 1 (.tmp 1), some (6, true), []⟩,
 ⟨(some 8), .ld none (.tmp 7), some (6, true), []⟩,
 ⟨(some 9), .bin .leq (.tmp 8) (.val (.int .i64 32)), some (6, true), []⟩,
 ⟨(some 10), .pick (.tmp 6) (.tmp 9) (.val (.bool false)), none, []⟩,
 ⟨(some 11), .mv (.tmp 10), none, []⟩,
 ⟨(some 12), .off 0 (.tmp 1), some (11, true), []⟩,
 ⟨(some 13), .ld none (.tmp 12), some (11, true), []⟩,
 ⟨(some 14), .bin .geq (.tmp 13) (.val (.int .i64 0)), some (11, true), []⟩,
 ⟨(some 15), .pick (.tmp 11) (.tmp 14) (.val (.bool false)), none, []⟩,
 ⟨(some 16), .mv (.tmp 15), none, []⟩,
 ⟨(some 17), .off 0 (.tmp 1), some (16, true), []⟩,
 ⟨(some 18), .ld none (.tmp 17), some (16, true), []⟩,
 ⟨(some 19), .bin .leq (.tmp 18) (.val (.int .i64 4294967295)), some (16, true), []⟩,
 ⟨(some 20), .pick (.tmp 16) (.tmp 19) (.val (.bool false)), none, []⟩,
 ⟨(some 21), .mv (.tmp 20), none, []⟩,
 ⟨(some 22), .off 0 (.tmp 1), some (21, true), []⟩,
 ⟨(some 23), .ld none (.tmp 22), some (21, true), []⟩,
 ⟨(some 24), .off 1 (.tmp 1), some (21, true), []⟩,
 ⟨(some 25), .ld none (.tmp 24), some (21, true), []⟩,
 ⟨(some 26), .call 63 [(.tmp 23), (.tmp 25)], some (21, true), []⟩,
 ⟨(some 27), .off 0 (.tmp 1), some (21, true), []⟩,
 ⟨(some 28), .ld none (.tmp 27), some (21, true), []⟩,
 ⟨(some 29), .bin .eql (.tmp 26) (.tmp 28), some (21, true), []⟩,
 ⟨(some 30), .pick (.tmp 21) (.tmp 29) (.val (.bool false)), none, []⟩,
 ⟨(some 2), .mv (.tmp 30), none, []⟩])
 .ret))
def c_ridgewayref02_Sane : AF := ⟨b_ridgewayref02_Sane, 31, [.tmp 2]⟩
theorem p_ridgewayref02_Sane : prepFunc Try.prog 38 = some c_ridgewayref02_Sane ∧ hasBody Try.prog 38 = true := ⟨by kernel_rfl, by kernel_rfl⟩
def b_ridgewayref07_Sane : AC :=
 (.seq
 (.reg [
 ⟨(some 1), .box 30 4 (.tmp 0), none, []⟩,
 ⟨(some 2), .mv (.val (.bool false)), none, []⟩])
 (.seq
 (.seq
 (.reg [
 ⟨(some 3), .mv (.val (.int .i64 0)), none, []⟩])
 (.block 0
 (.loop
 (.seq
 (.seq
 (.reg [
 ⟨(some 4), .mv (.tmp 3), none, []⟩,
 ⟨(some 5), .off 1 (.tmp 1), none, []⟩,
 ⟨(some 6), .ld none (.tmp 5), none, []⟩,
 ⟨(some 7), .len (.tmp 6), none, []⟩,
 ⟨(some 8), .bin .lss (.tmp 4) (.tmp 7), none, []⟩])
 (.cond (.tmp 8)
 .skip
 (.exit 0)))
 (.seq
 (.block 1
 (.seq
 (.reg [
 ⟨(some 11), .off 1 (.tmp 1), none, []⟩,
 ⟨(some 12), .ld none (.tmp 11), none, []⟩,
 ⟨(some 13), .mv (.tmp 3), none, []⟩,
 ⟨(some 14), .idxA 1 (.tmp 12) (.tmp 13), none, []⟩,
 ⟨(some 15), .ld none (.tmp 14), none, []⟩,
 ⟨(some 16), .bin .lss (.tmp 15) (.val (.int .i64 1)), none, []⟩,
 ⟨(some 17), .mv (.tmp 16), none, []⟩,
 ⟨(some 18), .off 1 (.tmp 1), some (17, false), []⟩,
 ⟨(some 19), .ld none (.tmp 18), some (17, false), []⟩,
 ⟨(some 20), .mv (.tmp 3), some (17, false), []⟩,
 ⟨(some 21), .idxA 1 (.tmp 19) (.tmp 20), some (17, false), []⟩,
 ⟨(some 22), .ld none (.tmp 21), some (17, false), []⟩,
 ⟨(some 23), .bin .gtr (.tmp 22) (.val (.int .i64 4294967295)), some (17, false), []⟩,
 ⟨(some 24), .pick (.tmp 17) (.val (.bool true)) (.tmp 23), none, []⟩])
 (.cond (.tmp 24)
 (.seq
 (.reg [
 ⟨(some 2), .mv (.val (.bool false)), none, []⟩])
 .ret)
 .skip)))
 (.reg [
 ⟨(some 9), .mv (.tmp 3), none, []⟩,
 ⟨(some 10), .bin .add (.tmp 9) (.val (.int .i64 1)), none, []⟩,
 ⟨(some 3), .mv (.tmp 10), none, []⟩]))))))
 (.seq
 (.reg [
 ⟨(some 25), .off 0 (.tmp 1), none, []⟩,
 ⟨(some 26), .ld none (.tmp 25), none, []⟩,
 ⟨(some 27), .bin .geq (.tmp 26) (.val (.int .i64 0)), none, []⟩,
 ⟨(some 28), .mv (.tmp 27), none, []⟩,
 ⟨(some 29), .off 0 (.tmp 1), some (28, true), []⟩,
 ⟨(some 30), .ld none (.tmp 29), some (28, true), []⟩,
 ⟨(some 31), .bin .leq (.tmp 30) (.val (.int .i64 2)), some (28, true), []⟩,
 ⟨(some 32), .pick (.tmp 28) (.tmp 31) (.val (.bool false)), none, []⟩,
 ⟨(some 33), .mv (.tmp 32), none, []⟩,
 ⟨(some 34), .off 1 (.tmp 1), some (33, true), []⟩,
 ⟨(some 35), .ld none (.tmp 34), some (33, true), []⟩,
 ⟨(some 36), .len (.tmp 35), some (33, true), []⟩,
 ⟨(some 37), .bin .leq (.tmp 36) (.val (.int .i64 255)), some (33, true), []⟩,
 ⟨(some 38), .pick (.tmp 33) (.tmp 37) (.val (.bool false)), none, []⟩,
 ⟨(some 39), .mv (.tmp 38), none, []⟩,
 ⟨(some 40), .off 2 (.tmp 1), some (39, true), []⟩,
 ⟨(some 41), .ld none (.tmp 40), some (39, true), []⟩,
 ⟨(some 42), .bin .geq (.tmp 41) (.val (.int .i64 1)), some (39, true), []⟩,
 ⟨(some 43), .pick (.tmp 39) (.tmp 42) (.val (.bool false)), none, []⟩,
 ⟨(some 44), .mv (.tmp 43), none, []⟩,
 ⟨(some 45), .off 2 (.tmp 1), some (44, true), []⟩,
 ⟨(some 46), .ld none (.tmp 45), some (44, true), []⟩,
 ⟨(some 47), .bin .leq (.tmp 46) (.val (.int .i64 4294967295)), some (44, true), []⟩,
 ⟨(some 48), .pick (.tmp 44) (.tmp 47) (.val (.bool false)), none, []⟩,
 ⟨(some 49), .mv (.tmp 48), none, []⟩,
 ⟨(some 50), .off 3 (.tmp 1), some (49, true), []⟩,
 ⟨(some 51), .ld none (.tmp 50), some (49, true), []⟩,
 ⟨(some 52), .bin .geq (.tmp 51) (.val (.int .i64 0)), some (49, true), []⟩,
 ⟨(some 53), .pick (.tmp 49) (.tmp 52) (.val (.bool false)), none, []⟩,
 ⟨(some 54), .mv (.tmp 53), none, []⟩,
 ⟨(some 55), .off 3 (.tmp 1), some (54, true), []⟩,
 ⟨(some 56), .ld none (.tmp 55), some (54, true), []⟩,
 ⟨(some 57), .bin .leq (.tmp 56) (.val (.int .i64 4294967295)), some (54, true), []⟩,
 ⟨(some 58), .pick (.tmp 54) (.tmp 57) (.val (.bool false)), none, []⟩,
 ⟨(some 2), .mv (.tmp 58), none, []⟩])
 .ret)))
def c_ridgewayref07_Sane : AF := ⟨b_ridgewayref07_Sane, 59, [.tmp 2]⟩
theorem p_ridgewayref07_Sane : prepFunc Try.prog 39 = some c_ridgewayref07_Sane ∧ hasBody Try.prog 39 = true := ⟨by kernel_rfl, by kernel_rfl⟩
def b_ridgewayref14_has : AC :=
 (.seq
 (.reg [
 ⟨(some 4), .mv (.val (.bool false)), none, []⟩])
 (.seq
 (.seq
 (.reg [
 ⟨(some 5), .mv (.val (.int .i64 0)), none, []⟩])
 (.block 0
 (.loop
 (.seq
 (.seq
 (.reg [
 ⟨(some 6), .mv (.tmp 5), none, []⟩,
 ⟨(some 7), .mv (.tmp 0), none, []⟩,
 ⟨(some 8), .len (.tmp 7), none, []⟩,
 ⟨(some 9), .bin .lss (.tmp 6) (.tmp 8), none, []⟩])
 (.cond (.tmp 9)
 .skip
 (.exit 0)))
 (.seq
 (.block 1
 (.seq
 (.reg [
 ⟨(some 12), .mv (.tmp 0), none, []⟩,
 ⟨(some 13), .mv (.tmp 5), none, []⟩,
 ⟨(some 14), .idxA 1 (.tmp 12) (.tmp 13), none, []⟩,
 ⟨(some 15), .ld none (.tmp 14), none, []⟩,
 ⟨(some 16), .mv (.tmp 1), none, []⟩,
 ⟨(some 17), .bin .eql (.tmp 15) (.tmp 16), none, []⟩])
 (.cond (.tmp 17)
 (.seq
 (.reg [
 ⟨(some 4), .mv (.val (.bool true)), none, []⟩])
 .ret)
 .skip)))
 (.reg [
 ⟨(some 10), .mv (.tmp 5), none, []⟩,
 ⟨(some 11), .bin .add (.tmp 10) (.val (.int .i64 1)), none, []⟩,
 ⟨(some 5), .mv (.tmp 11), none, []⟩]))))))
 (.seq
 (.reg [
 ⟨(some 4), .mv (.val (.bool false)), none, []⟩])
 .ret)))
def c_ridgewayref14_has : AF := ⟨b_ridgewayref14_has, 18, [.tmp 4]⟩
theorem p_ridgewayref14_has : prepFunc Try.prog 40 = some c_ridgewayref14_has ∧ hasBody Try.prog 40 = true := ⟨by kernel_rfl, by kernel_rfl⟩
def b_ridgewayref13_In : AC :=
 (.seq
 (.reg [
 ⟨(some 6), .mv (.val (.int .i64 0)), none, []⟩,
 ⟨(some 7), .mv (.val (.bool false)), none, []⟩])
 (.seq
 (.block 0
 (.seq
 (.reg [
 ⟨(some 9), .mv (.tmp 0), none, []⟩,
 ⟨(some 10), .bin .eql (.tmp 9) (.val (.int .i64 1)), none, []⟩,
 ⟨(some 11), .mv (.tmp 10), none, []⟩,
 ⟨(some 12), .mv (.tmp 2), some (11, true), []⟩,
 ⟨(some 13), .bin .eql (.tmp 12) (.val (.int .i64 0)), some (11, true), []⟩,
 ⟨(some 14), .pick (.tmp 11) (.tmp 13) (.val (.bool false)), none, []⟩,
 ⟨(some 8), .mv (.tmp 14), none, []⟩])
 (.cond (.tmp 8)
 (.seq
 (.reg [
 ⟨(some 6), .mv (.val (.int .i64 0)), none, []⟩,
 ⟨(some 7), .mv (.val (.bool true)), none, []⟩])
 .ret)
 (.seq
 (.reg [
 ⟨(some 16), .mv (.tmp 0), none, []⟩,
 ⟨(some 17), .bin .eql (.tmp 16) (.val (.int .i64 2)), none, []⟩,
 ⟨(some 18), .mv (.tmp 17), none, []⟩,
 ⟨(some 19), .mv (.tmp 2), some (18, true), []⟩,
 ⟨(some 20), .bin .eql (.tmp 19) (.val (.int .i64 0)), some (18, true), []⟩,
 ⟨(some 21), .mv (.tmp 20), some (18, true), []⟩,
 ⟨(some 22), .mv (.tmp 2), some (21, false), []⟩,
 ⟨(some 23), .mv (.tmp 1), some (21, false), []⟩,
 ⟨(some 24), .bin .eql (.tmp 22) (.tmp 23), some (21, false), []⟩,
 ⟨(some 25), .pick (.tmp 21) (.val (.bool true)) (.tmp 24), some (18, true), []⟩,
 ⟨(some 26), .pick (.tmp 18) (.tmp 25) (.val (.bool false)), none, []⟩,
 ⟨(some 15), .mv (.tmp 26), none, []⟩])
 (.cond (.tmp 15)
 (.seq
 (.reg [
 ⟨(some 27), .mv (.tmp 1), none, []⟩,
 ⟨(some 6), .mv (.tmp 27), none, []⟩,
 ⟨(some 7), .mv (.val (.bool true)), none, []⟩])
 .ret)
 (.seq
 (.reg [
 ⟨(some 29), .mv (.tmp 0), none, []⟩,
 ⟨(some 30), .bin .eql (.tmp 29) (.val (.int .i64 3)), none, []⟩,
 ⟨(some 31), .mv (.tmp 30), none, []⟩,
 ⟨(some 32), .mv (.tmp 2), some (31, true), []⟩,
 ⟨(some 33), .bin .eql (.tmp 32) (.val (.int .i64 0)), some (31, true), []⟩,
 ⟨(some 34), .pick (.tmp 31) (.tmp 33) (.val (.bool false)), none, []⟩,
 ⟨(some 28), .mv (.tmp 34), none, []⟩])
 (.cond (.tmp 28)
 (.seq
 (.reg [
 ⟨(some 35), .mv (.tmp 1), none, []⟩,
 ⟨(some 6), .mv (.tmp 35), none, []⟩,
 ⟨(some 7), .mv (.val (.bool true)), none, []⟩])
 .ret)
 (.seq
 (.reg [
 ⟨(some 37), .mv (.tmp 0), none, []⟩,
 ⟨(some 38), .bin .eql (.tmp 37) (.val (.int .i64 3)), none, []⟩,
 ⟨(some 36), .mv (.tmp 38), none, []⟩])
 (.cond (.tmp 36)
 (.seq
 (.reg [
 ⟨(some 39), .mv (.tmp 2), none, []⟩,
 ⟨(some 6), .mv (.tmp 39), none, []⟩,
 ⟨(some 7), .mv (.val (.bool true)), none, []⟩])
 .ret)
 .skip)))))))))
 (.seq
 (.reg [
 ⟨(some 6), .mv (.val (.int .i64 0)), none, []⟩,
 ⟨(some 7), .mv (.val (.bool false)), none, []⟩])
 .ret)))
def c_ridgewayref13_In : AF := ⟨b_ridgewayref13_In, 40, [.tmp 6, .tmp 7]⟩
theorem p_ridgewayref13_In : prepFunc Try.prog 41 = some c_ridgewayref13_In ∧ hasBody Try.prog 41 = true := ⟨by kernel_rfl, by kernel_rfl⟩
def b_ridgewayref10_Pick : AC :=
 (.seq
 (.reg [
 ⟨(some 3), .box 59 4 (.tmp 1), none, []⟩,
 ⟨(some 4), .box 55 6 (.val (.agg [(.int .i64 0), (.int .i64 0), (.int .i64 0), (.int .i64 0), (.int .i64 0), (.int .i64 0)])), none, []⟩,
 ⟨(some 5), .mv (.val (.bool false)), none, []⟩])
 (.seq
 (.seq
 (.reg [
 ⟨(some 6), .mv (.val (.int .i64 0)), none, []⟩])
 (.block 0
 (.loop
 (.seq
 (.seq
 (.reg [
 ⟨(some 7), .mv (.tmp 6), none, []⟩,
 ⟨(some 8), .mv (.tmp 0), none, []⟩,
 ⟨(some 9), .len (.tmp 8), none, []⟩,
 ⟨(some 10), .bin .lss (.tmp 7) (.tmp 9), none, []⟩])
 (.cond (.tmp 10)
 .skip
 (.exit 0)))
 (.seq
 (.block 1
 (.seq
 (.reg [
 ⟨(some 13), .mv (.tmp 0), none, []⟩,
 ⟨(some 14), .mv (.tmp 6), none, []⟩,
 ⟨(some 15), .idxA 6 (.tmp 13) (.tmp 14), none, []⟩,
 ⟨(some 16), .ld (some 6) (.tmp 15), none, []⟩,
 ⟨(some 17), .ld (some 4) (.tmp 3), none, []⟩,
 ⟨(some 18), .callS 64 [(.tmp 16), (.tmp 17)], none, []⟩])
 (.cond (.tmp 18)
 (.seq
 (.reg [
 ⟨(some 19), .mv (.tmp 0), none, []⟩,
 ⟨(some 20), .mv (.tmp 6), none, []⟩,
 ⟨(some 21), .idxA 6 (.tmp 19) (.tmp 20), none, []⟩,
 ⟨(some 22), .ld (some 6) (.tmp 21), none, []⟩,
 ⟨none, .st 6 (.tmp 4) (.tmp 22), none, []⟩,
 ⟨(some 5), .mv (.val (.bool true)), none, []⟩])
 .ret)
 .skip)))
 (.reg [
 ⟨(some 11), .mv (.tmp 6), none, []⟩,
 ⟨(some 12), .bin .add (.tmp 11) (.val (.int .i64 1)), none, []⟩,
 ⟨(some 6), .mv (.tmp 12), none, []⟩]))))))
 (.seq
 (.reg [
 ⟨(some 23), .bld [(.int .i64 0), (.int .i64 0), (.int .i64 0), (.int .i64 0), (.int .i64 0), (.int .i64 0)] [], none, []⟩,
 ⟨none, .st 6 (.tmp 4) (.tmp 23), none, []⟩,
 ⟨(some 5), .mv (.val (.bool false)), none, []⟩])
 .ret)))
def c_ridgewayref10_Pick : AF := ⟨b_ridgewayref10_Pick, 24, [.cell 4 (some 6), .tmp 5]⟩
theorem p_ridgewayref10_Pick : prepFunc Try.prog 42 = some c_ridgewayref10_Pick ∧ hasBody Try.prog 42 = true := ⟨by kernel_rfl, by kernel_rfl⟩
def b_edge_Out_1 : AC :=
 (.seq
 (.reg [
 ⟨(some 3), .mv (.val (.bool false)), none, []⟩])
 (.seq
 (.reg [
 ⟨(some 4), .off 5 (.tmp 0), none, []⟩,
 ⟨(some 5), .ld none (.tmp 4), none, []⟩,
 ⟨(some 6), .ld none (.tmp 1), none, []⟩,
 ⟨(some 7), .bin .neq (.tmp 5) (.tmp 6), none, []⟩,
 ⟨(some 8), .mv (.tmp 7), none, []⟩,
 ⟨(some 9), .off 5 (.tmp 0), some (8, true), []⟩,
 ⟨(some 10), .ld none (.tmp 9), some (8, true), []⟩,
 ⟨(some 11), .off 5 (.tmp 2), some (8, true), []⟩,
 ⟨(some 12), .ld none (.tmp 11), some (8, true), []⟩,
 ⟨(some 13), .len (.tmp 12), some (8, true), []⟩,
 ⟨(some 14), .bin .lss (.tmp 10) (.tmp 13), some (8, true), []⟩,
 ⟨(some 15), .pick (.tmp 8) (.tmp 14) (.val (.bool false)), none, []⟩,
 ⟨(some 3), .mv (.tmp 15), none, []⟩])
 .ret))
def c_edge_Out_1 : AF := ⟨b_edge_Out_1, 16, [.tmp 3]⟩
theorem p_edge_Out_1 : prepFunc Try.prog 43 = some c_edge_Out_1 ∧ hasBody Try.prog 43 = true := ⟨by kernel_rfl, by kernel_rfl⟩
def b_edge_Out_2 : AC :=
 (.seq
 (.reg [
 ⟨(some 5), .mv (.val (.bool false)), none, []⟩])
 (.seq
 (.reg [
 ⟨(some 9), .off 3 (.tmp 0), none, []⟩,
 ⟨(some 10), .ld none (.tmp 9), none, []⟩,
 ⟨(some 11), .ld (some 2) (.tmp 1), none, []⟩,
 ⟨(some 12), .off 1 (.tmp 2), none, []⟩,
 ⟨(some 13), .off 1 (.tmp 12), none, []⟩,
 ⟨(some 14), .ld none (.tmp 13), none, []⟩,
 ⟨(some 15), .ld (some 6) (.tmp 3), none, []⟩,
 ⟨(some 16), .off 5 (.tmp 2), none, []⟩,
 ⟨(some 17), .ld none (.tmp 16), none, []⟩,
 ⟨(some 18), .call 15 [(.tmp 15), (.tmp 17)], none, []⟩,
 ⟨(some 19), .bld [(.int .i64 0), (.int .i64 0), (.slice .full 0 []), (.int .i64 0)] [(0, 2, (.tmp 11)), (2, 1, (.tmp 14)), (3, 1, (.tmp 18))], none, []⟩,
 ⟨(some 20), .call 24 [(.tmp 10), (.tmp 19)], none, []⟩,
 ⟨(some 8), .mv (.tmp 20), none, []⟩,
 ⟨(some 21), .ext (.tmp 8) 0, none, []⟩,
 ⟨(some 6), .box 55 6 (.val (.agg [(.int .i64 0), (.int .i64 0), (.int .i64 0), (.int .i64 0), (.int .i64 0), (.int .i64 0)])), none, []⟩,
 ⟨(some 22), .ext (.tmp 8) 1, none, []⟩,
 ⟨none, .st 6 (.tmp 6) (.tmp 21), none, []⟩,
 ⟨(some 7), .mv (.tmp 22), none, []⟩])
 (.seq
 (.reg [
 ⟨(some 23), .off 0 (.tmp 3), none, []⟩,
 ⟨(some 24), .ld none (.tmp 23), none, []⟩,
 ⟨(some 25), .ld (some 6) (.tmp 6), none, []⟩,
 ⟨(some 26), .off 1 (.tmp 2), none, []⟩,
 ⟨(some 27), .off 1 (.tmp 26), none, []⟩,
 ⟨(some 28), .ld none (.tmp 27), none, []⟩,
 ⟨(some 29), .callS 45 [(.tmp 24), (.tmp 25), (.tmp 28)], none, []⟩,
 ⟨none, .st 1 (.tmp 4) (.tmp 29), none, []⟩])
 (.seq
 (.reg [
 ⟨(some 30), .ld (some 6) (.tmp 6), none, []⟩,
 ⟨(some 31), .mv (.tmp 7), none, []⟩,
 ⟨(some 32), .callS 35 [(.tmp 30), (.tmp 31)], none, []⟩,
 ⟨(some 5), .mv (.tmp 32), none, []⟩])
 .ret))))
def c_edge_Out_2 : AF := ⟨b_edge_Out_2, 33, [.tmp 5]⟩
theorem p_edge_Out_2 : prepFunc Try.prog 44 = some c_edge_Out_2 ∧ hasBody Try.prog 44 = true := ⟨by kernel_rfl, by kernel_rfl⟩
def b_edge_longer : AC :=
 (.seq
 (.reg [
 ⟨(some 4), .box 55 6 (.tmp 1), none, []⟩,
 ⟨(some 6), .mv (.val (.slice .full 0 [])), none, []⟩])
 (.seq
 (.reg [
 ⟨(some 8), .mv (.tmp 0), none, []⟩,
 ⟨(some 9), .lit 3 1 [0] [(.tmp 8)], none, []⟩,
 ⟨(some 7), .mv (.tmp 9), none, []⟩])
 (.seq
 (.seq
 (.reg [
 ⟨(some 10), .off 4 (.tmp 4), none, []⟩,
 ⟨(some 11), .ld none (.tmp 10), none, []⟩,
 ⟨(some 12), .bin .eql (.tmp 11) (.val (.int .i64 3)), none, []⟩])
 (.cond (.tmp 12)
 (.reg [
 ⟨(some 13), .mv (.tmp 7), none, []⟩,
 ⟨(some 14), .off 5 (.tmp 4), none, []⟩,
 ⟨(some 15), .ld none (.tmp 14), none, []⟩,
 ⟨(some 16), .bin .add (.val (.int .i64 1)) (.tmp 15), none, []⟩,
 ⟨(some 17), .callS 65 [(.tmp 13), (.tmp 16)], none, []⟩,
 ⟨(some 7), .mv (.tmp 17), none, []⟩])
 .skip))
 (.seq
 (.reg [
 ⟨(some 18), .mv (.tmp 7), none, []⟩,
 ⟨(some 19), .mv (.tmp 2), none, []⟩,
 ⟨(some 20), .app 3 1 8 (.tmp 18) (.tmp 19), none, []⟩,
 ⟨(some 6), .mv (.tmp 20), none, []⟩])
 .ret))))
def c_edge_longer : AF := ⟨b_edge_longer, 21, [.tmp 6]⟩
theorem p_edge_longer : prepFunc Try.prog 45 = some c_edge_longer ∧ hasBody Try.prog 45 = true := ⟨by kernel_rfl, by kernel_rfl⟩
def b_edge_Out_3 : AC :=
 (.seq
 (.reg [
 ⟨(some 4), .mv (.val (.bool false)), none, []⟩])
 (.seq
 (.reg [
 ⟨(some 6), .off 1 (.tmp 0), none, []⟩,
 ⟨(some 7), .ld none (.tmp 6), none, []⟩,
 ⟨(some 8), .off 0 (.tmp 1), none, []⟩,
 ⟨(some 9), .ld none (.tmp 8), none, []⟩,
 ⟨(some 10), .off 1 (.tmp 2), none, []⟩,
 ⟨(some 11), .off 3 (.tmp 10), none, []⟩,
 ⟨(some 12), .ld none (.tmp 11), none, []⟩,
 ⟨(some 13), .callS 47 [(.tmp 7), (.tmp 9), (.tmp 12)], none, []⟩,
 ⟨(some 5), .mv (.tmp 13), none, []⟩,
 ⟨(some 14), .ext (.tmp 5) 0, none, []⟩,
 ⟨(some 15), .ext (.tmp 5) 1, none, []⟩,
 ⟨none, .st 1 (.tmp 3) (.tmp 14), none, []⟩,
 ⟨(some 4), .mv (.tmp 15), none, []⟩])
 (.seq
 (.reg [
 ⟨(some 16), .mv (.tmp 4), none, []⟩,
 ⟨(some 4), .mv (.tmp 16), none, []⟩])
 .ret)))
def c_edge_Out_3 : AF := ⟨b_edge_Out_3, 17, [.tmp 4]⟩
theorem p_edge_Out_3 : prepFunc Try.prog 46 = some c_edge_Out_3 ∧ hasBody Try.prog 46 = true := ⟨by kernel_rfl, by kernel_rfl⟩
def b_role_Out : AC :=
 (.seq
 (.reg [
 ⟨(some 6), .mv (.val (.int .i64 0)), none, []⟩,
 ⟨(some 7), .mv (.val (.bool false)), none, []⟩])
 (.seq
 (.block 0
 (.seq
 (.reg [
 ⟨(some 9), .mv (.tmp 0), none, []⟩,
 ⟨(some 10), .bin .eql (.tmp 9) (.val (.int .i64 1)), none, []⟩,
 ⟨(some 11), .mv (.tmp 10), none, []⟩,
 ⟨(some 12), .mv (.tmp 2), some (11, true), []⟩,
 ⟨(some 13), .bin .neq (.tmp 12) (.val (.int .i64 0)), some (11, true), []⟩,
 ⟨(some 14), .pick (.tmp 11) (.tmp 13) (.val (.bool false)), none, []⟩,
 ⟨(some 8), .mv (.tmp 14), none, []⟩])
 (.cond (.tmp 8)
 (.seq
 (.reg [
 ⟨(some 15), .mv (.tmp 2), none, []⟩,
 ⟨(some 6), .mv (.tmp 15), none, []⟩,
 ⟨(some 7), .mv (.val (.bool true)), none, []⟩])
 .ret)
 (.seq
 (.reg [
 ⟨(some 17), .mv (.tmp 0), none, []⟩,
 ⟨(some 18), .bin .eql (.tmp 17) (.val (.int .i64 1)), none, []⟩,
 ⟨(some 19), .mv (.tmp 18), none, []⟩,
 ⟨(some 20), .mv (.tmp 0), some (19, false), []⟩,
 ⟨(some 21), .bin .eql (.tmp 20) (.val (.int .i64 2)), some (19, false), []⟩,
 ⟨(some 22), .pick (.tmp 19) (.val (.bool true)) (.tmp 21), none, []⟩,
 ⟨(some 23), .mv (.tmp 22), none, []⟩,
 ⟨(some 24), .mv (.tmp 2), some (23, true), []⟩,
 ⟨(some 25), .bin .eql (.tmp 24) (.val (.int .i64 0)), some (23, true), []⟩,
 ⟨(some 26), .pick (.tmp 23) (.tmp 25) (.val (.bool false)), none, []⟩,
 ⟨(some 16), .mv (.tmp 26), none, []⟩])
 (.cond (.tmp 16)
 (.seq
 (.reg [
 ⟨(some 27), .mv (.tmp 1), none, []⟩,
 ⟨(some 6), .mv (.tmp 27), none, []⟩,
 ⟨(some 7), .mv (.val (.bool true)), none, []⟩])
 .ret)
 (.seq
 (.reg [
 ⟨(some 29), .mv (.tmp 0), none, []⟩,
 ⟨(some 30), .bin .eql (.tmp 29) (.val (.int .i64 3)), none, []⟩,
 ⟨(some 31), .mv (.tmp 30), none, []⟩,
 ⟨(some 32), .mv (.tmp 2), some (31, true), []⟩,
 ⟨(some 33), .bin .eql (.tmp 32) (.val (.int .i64 0)), some (31, true), []⟩,
 ⟨(some 34), .pick (.tmp 31) (.tmp 33) (.val (.bool false)), none, []⟩,
 ⟨(some 28), .mv (.tmp 34), none, []⟩])
 (.cond (.tmp 28)
 (.seq
 (.reg [
 ⟨(some 6), .mv (.val (.int .i64 0)), none, []⟩,
 ⟨(some 7), .mv (.val (.bool true)), none, []⟩])
 .ret)
 .skip)))))))
 (.seq
 (.reg [
 ⟨(some 6), .mv (.val (.int .i64 0)), none, []⟩,
 ⟨(some 7), .mv (.val (.bool false)), none, []⟩])
 .ret)))
def c_role_Out : AF := ⟨b_role_Out, 35, [.tmp 6, .tmp 7]⟩
theorem p_role_Out : prepFunc Try.prog 47 = some c_role_Out ∧ hasBody Try.prog 47 = true := ⟨by kernel_rfl, by kernel_rfl⟩
def b_edge_Out_4 : AC :=
 (.seq
 (.reg [
 ⟨(some 1), .mv (.val (.bool false)), none, []⟩])
 (.seq
 (.reg [
 ⟨(some 2), .ld none (.tmp 0), none, []⟩,
 ⟨(some 3), .len (.tmp 2), none, []⟩,
 ⟨(some 4), .bin .leq (.tmp 3) (.val (.int .i64 32)), none, []⟩,
 ⟨(some 1), .mv (.tmp 4), none, []⟩])
 .ret))
def c_edge_Out_4 : AF := ⟨b_edge_Out_4, 5, [.tmp 1]⟩
theorem p_edge_Out_4 : prepFunc Try.prog 48 = some c_edge_Out_4 ∧ hasBody Try.prog 48 = true := ⟨by kernel_rfl, by kernel_rfl⟩
def b_ridgewayref09_Sane : AC :=
 (.seq
 (.reg [
 ⟨(some 1), .box 32 6 (.tmp 0), none, []⟩,
 ⟨(some 2), .mv (.val (.bool false)), none, []⟩])
 (.seq
 (.seq
 (.reg [
 ⟨(some 3), .off 1 (.tmp 1), none, []⟩,
 ⟨(some 4), .ld (some 4) (.tmp 3), none, []⟩,
 ⟨(some 5), .callS 39 [(.tmp 4)], none, []⟩,
 ⟨(some 6), .un .not (.tmp 5), none, []⟩,
 ⟨(some 7), .mv (.tmp 6), none, []⟩,
 ⟨(some 8), .off 1 (.tmp 1), some (7, false), []⟩,
 ⟨(some 9), .off 1 (.tmp 8), some (7, false), []⟩,
 ⟨(some 10), .ld none (.tmp 9), some (7, false), []⟩,
 ⟨(some 11), .len (.tmp 10), some (7, false), []⟩,
 ⟨(some 12), .bin .gtr (.tmp 11) (.val (.int .i64 32)), some (7, false), []⟩,
 ⟨(some 13), .pick (.tmp 7) (.val (.bool true)) (.tmp 12), none, []⟩])
 (.cond (.tmp 13)
 (.seq
 (.reg [
 ⟨(some 2), .mv (.val (.bool false)), none, []⟩])
 .ret)
 .skip))
 (.seq
 (.seq
 (.reg [
 ⟨(some 14), .off 5 (.tmp 1), none, []⟩,
 ⟨(some 15), .ld none (.tmp 14), none, []⟩,
 ⟨(some 16), .bin .eql (.tmp 15) (.val (.int .i64 (-1))), none, []⟩])
 (.cond (.tmp 16)
 (.seq
 (.reg [
 ⟨(some 17), .off 0 (.tmp 1), none, []⟩,
 ⟨(some 18), .ld none (.tmp 17), none, []⟩,
 ⟨(some 19), .bin .eql (.tmp 18) (.val (.int .i64 400)), none, []⟩,
 ⟨(some 20), .mv (.tmp 19), none, []⟩,
 ⟨(some 21), .off 1 (.tmp 1), some (20, true), []⟩,
 ⟨(some 22), .off 1 (.tmp 21), some (20, true), []⟩,
 ⟨(some 23), .ld none (.tmp 22), some (20, true), []⟩,
 ⟨(some 24), .len (.tmp 23), some (20, true), []⟩,
 ⟨(some 25), .bin .eql (.tmp 24) (.val (.int .i64 0)), some (20, true), []⟩,
 ⟨(some 26), .pick (.tmp 20) (.tmp 25) (.val (.bool false)), none, []⟩,
 ⟨(some 27), .mv (.tmp 26), none, []⟩,
 ⟨(some 28), .off 1 (.tmp 1), some (27, true), []⟩,
 ⟨(some 29), .off 0 (.tmp 28), some (27, true), []⟩,
 ⟨(some 30), .ld none (.tmp 29), some (27, true), []⟩,
 ⟨(some 31), .bin .eql (.tmp 30) (.val (.int .i64 0)), some (27, true), []⟩,
 ⟨(some 32), .pick (.tmp 27) (.tmp 31) (.val (.bool false)), none, []⟩,
 ⟨(some 33), .mv (.tmp 32), none, []⟩,
 ⟨(some 34), .off 1 (.tmp 1), some (33, true), []⟩,
 ⟨(some 35), .off 3 (.tmp 34), some (33, true), []⟩,
 ⟨(some 36), .ld none (.tmp 35), some (33, true), []⟩,
 ⟨(some 37), .bin .eql (.tmp 36) (.val (.int .i64 0)), some (33, true), []⟩,
 ⟨(some 38), .pick (.tmp 33) (.tmp 37) (.val (.bool false)), none, []⟩,
 ⟨(some 2), .mv (.tmp 38), none, []⟩])
 .ret)
 .skip))
 (.seq
 (.reg [
 ⟨(some 39), .off 5 (.tmp 1), none, []⟩,
 ⟨(some 40), .ld none (.tmp 39), none, []⟩,
 ⟨(some 41), .bin .geq (.tmp 40) (.val (.int .i64 0)), none, []⟩,
 ⟨(some 42), .mv (.tmp 41), none, []⟩,
 ⟨(some 43), .off 5 (.tmp 1), some (42, true), []⟩,
 ⟨(some 44), .ld none (.tmp 43), some (42, true), []⟩,
 ⟨(some 45), .bin .leq (.tmp 44) (.val (.int .i64 7)), some (42, true), []⟩,
 ⟨(some 46), .pick (.tmp 42) (.tmp 45) (.val (.bool false)), none, []⟩,
 ⟨(some 47), .mv (.tmp 46), none, []⟩,
 ⟨(some 48), .off 0 (.tmp 1), some (47, true), []⟩,
 ⟨(some 49), .ld none (.tmp 48), some (47, true), []⟩,
 ⟨(some 50), .bin .geq (.tmp 49) (.val (.int .i64 1)), some (47, true), []⟩,
 ⟨(some 51), .pick (.tmp 47) (.tmp 50) (.val (.bool false)), none, []⟩,
 ⟨(some 52), .mv (.tmp 51), none, []⟩,
 ⟨(some 53), .off 0 (.tmp 1), some (52, true), []⟩,
 ⟨(some 54), .ld none (.tmp 53), some (52, true), []⟩,
 ⟨(some 55), .bin .leq (.tmp 54) (.val (.int .i64 399)), some (52, true), []⟩,
 ⟨(some 56), .pick (.tmp 52) (.tmp 55) (.val (.bool false)), none, []⟩,
 ⟨(some 2), .mv (.tmp 56), none, []⟩])
 .ret))))
def c_ridgewayref09_Sane : AF := ⟨b_ridgewayref09_Sane, 57, [.tmp 2]⟩
theorem p_ridgewayref09_Sane : prepFunc Try.prog 49 = some c_ridgewayref09_Sane ∧ hasBody Try.prog 49 = true := ⟨by kernel_rfl, by kernel_rfl⟩
def b_ridgewayref13_Out : AC :=
 (.seq
 (.reg [
 ⟨(some 6), .mv (.val (.int .i64 0)), none, []⟩,
 ⟨(some 7), .mv (.val (.bool false)), none, []⟩])
 (.seq
 (.block 0
 (.seq
 (.reg [
 ⟨(some 9), .mv (.tmp 0), none, []⟩,
 ⟨(some 10), .bin .eql (.tmp 9) (.val (.int .i64 1)), none, []⟩,
 ⟨(some 11), .mv (.tmp 10), none, []⟩,
 ⟨(some 12), .mv (.tmp 2), some (11, true), []⟩,
 ⟨(some 13), .bin .neq (.tmp 12) (.val (.int .i64 0)), some (11, true), []⟩,
 ⟨(some 14), .pick (.tmp 11) (.tmp 13) (.val (.bool false)), none, []⟩,
 ⟨(some 8), .mv (.tmp 14), none, []⟩])
 (.cond (.tmp 8)
 (.seq
 (.reg [
 ⟨(some 15), .mv (.tmp 2), none, []⟩,
 ⟨(some 6), .mv (.tmp 15), none, []⟩,
 ⟨(some 7), .mv (.val (.bool true)), none, []⟩])
 .ret)
 (.seq
 (.reg [
 ⟨(some 17), .mv (.tmp 0), none, []⟩,
 ⟨(some 18), .bin .eql (.tmp 17) (.val (.int .i64 1)), none, []⟩,
 ⟨(some 19), .mv (.tmp 18), none, []⟩,
 ⟨(some 20), .mv (.tmp 0), some (19, false), []⟩,
 ⟨(some 21), .bin .eql (.tmp 20) (.val (.int .i64 2)), some (19, false), []⟩,
 ⟨(some 22), .pick (.tmp 19) (.val (.bool true)) (.tmp 21), none, []⟩,
 ⟨(some 23), .mv (.tmp 22), none, []⟩,
 ⟨(some 24), .mv (.tmp 2), some (23, true), []⟩,
 ⟨(some 25), .bin .eql (.tmp 24) (.val (.int .i64 0)), some (23, true), []⟩,
 ⟨(some 26), .pick (.tmp 23) (.tmp 25) (.val (.bool false)), none, []⟩,
 ⟨(some 16), .mv (.tmp 26), none, []⟩])
 (.cond (.tmp 16)
 (.seq
 (.reg [
 ⟨(some 27), .mv (.tmp 1), none, []⟩,
 ⟨(some 6), .mv (.tmp 27), none, []⟩,
 ⟨(some 7), .mv (.val (.bool true)), none, []⟩])
 .ret)
 (.seq
 (.reg [
 ⟨(some 29), .mv (.tmp 0), none, []⟩,
 ⟨(some 30), .bin .eql (.tmp 29) (.val (.int .i64 3)), none, []⟩,
 ⟨(some 31), .mv (.tmp 30), none, []⟩,
 ⟨(some 32), .mv (.tmp 2), some (31, true), []⟩,
 ⟨(some 33), .bin .eql (.tmp 32) (.val (.int .i64 0)), some (31, true), []⟩,
 ⟨(some 34), .pick (.tmp 31) (.tmp 33) (.val (.bool false)), none, []⟩,
 ⟨(some 28), .mv (.tmp 34), none, []⟩])
 (.cond (.tmp 28)
 (.seq
 (.reg [
 ⟨(some 6), .mv (.val (.int .i64 0)), none, []⟩,
 ⟨(some 7), .mv (.val (.bool true)), none, []⟩])
 .ret)
 .skip)))))))
 (.seq
 (.reg [
 ⟨(some 6), .mv (.val (.int .i64 0)), none, []⟩,
 ⟨(some 7), .mv (.val (.bool false)), none, []⟩])
 .ret)))
def c_ridgewayref13_Out : AF := ⟨b_ridgewayref13_Out, 35, [.tmp 6, .tmp 7]⟩
theorem p_ridgewayref13_Out : prepFunc Try.prog 50 = some c_ridgewayref13_Out ∧ hasBody Try.prog 50 = true := ⟨by kernel_rfl, by kernel_rfl⟩
def b_conf_saneNumber : AC :=
 (.seq
 (.reg [
 ⟨(some 2), .mv (.val (.bool false)), none, []⟩])
 (.seq
 (.reg [
 ⟨(some 3), .mv (.tmp 0), none, []⟩,
 ⟨(some 4), .bin .geq (.tmp 3) (.val (.int .i64 1)), none, []⟩,
 ⟨(some 5), .mv (.tmp 4), none, []⟩,
 ⟨(some 6), .mv (.tmp 0), some (5, true), []⟩,
 ⟨(some 7), .bin .leq (.tmp 6) (.val (.int .i64 4294967295)), some (5, true), []⟩,
 ⟨(some 8), .pick (.tmp 5) (.tmp 7) (.val (.bool false)), none, []⟩,
 ⟨(some 2), .mv (.tmp 8), none, []⟩])
 .ret))
def c_conf_saneNumber : AF := ⟨b_conf_saneNumber, 9, [.tmp 2]⟩
theorem p_conf_saneNumber : prepFunc Try.prog 52 = some c_conf_saneNumber ∧ hasBody Try.prog 52 = true := ⟨by kernel_rfl, by kernel_rfl⟩
def b_conf_saneHold : AC :=
 (.seq
 (.reg [
 ⟨(some 2), .mv (.val (.bool false)), none, []⟩])
 (.seq
 (.reg [
 ⟨(some 3), .mv (.tmp 0), none, []⟩,
 ⟨(some 4), .bin .eql (.tmp 3) (.val (.int .i64 0)), none, []⟩,
 ⟨(some 5), .mv (.tmp 4), none, []⟩,
 ⟨(some 6), .mv (.tmp 0), some (5, false), []⟩,
 ⟨(some 7), .bin .geq (.tmp 6) (.val (.int .i64 3)), some (5, false), []⟩,
 ⟨(some 8), .mv (.tmp 7), some (5, false), []⟩,
 ⟨(some 9), .mv (.tmp 0), some (8, true), []⟩,
 ⟨(some 10), .bin .leq (.tmp 9) (.val (.int .i64 65535)), some (8, true), []⟩,
 ⟨(some 11), .pick (.tmp 8) (.tmp 10) (.val (.bool false)), some (5, false), []⟩,
 ⟨(some 12), .pick (.tmp 5) (.val (.bool true)) (.tmp 11), none, []⟩,
 ⟨(some 2), .mv (.tmp 12), none, []⟩])
 .ret))
def c_conf_saneHold : AF := ⟨b_conf_saneHold, 13, [.tmp 2]⟩
theorem p_conf_saneHold : prepFunc Try.prog 53 = some c_conf_saneHold ∧ hasBody Try.prog 53 = true := ⟨by kernel_rfl, by kernel_rfl⟩
def b_conf_saneCap : AC :=
 (.seq
 (.reg [
 ⟨(some 2), .mv (.val (.bool false)), none, []⟩])
 (.seq
 (.reg [
 ⟨(some 3), .mv (.tmp 0), none, []⟩,
 ⟨(some 4), .bin .geq (.tmp 3) (.val (.int .i64 1)), none, []⟩,
 ⟨(some 5), .mv (.tmp 4), none, []⟩,
 ⟨(some 6), .mv (.tmp 0), some (5, true), []⟩,
 ⟨(some 7), .bin .leq (.tmp 6) (.val (.int .i64 1000)), some (5, true), []⟩,
 ⟨(some 8), .pick (.tmp 5) (.tmp 7) (.val (.bool false)), none, []⟩,
 ⟨(some 2), .mv (.tmp 8), none, []⟩])
 .ret))
def c_conf_saneCap : AF := ⟨b_conf_saneCap, 9, [.tmp 2]⟩
theorem p_conf_saneCap : prepFunc Try.prog 54 = some c_conf_saneCap ∧ hasBody Try.prog 54 = true := ⟨by kernel_rfl, by kernel_rfl⟩
def b_conf_saneOwn : AC :=
 (.seq
 (.reg [
 ⟨(some 2), .mv (.val (.bool false)), none, []⟩])
 (.seq
 (.seq
 (.reg [
 ⟨(some 5), .mv (.tmp 0), none, []⟩,
 ⟨(some 6), .len (.tmp 5), none, []⟩,
 ⟨(some 7), .bin .gtr (.tmp 6) (.val (.int .i64 8)), none, []⟩])
 (.cond (.tmp 7)
 (.seq
 (.reg [
 ⟨(some 2), .mv (.val (.bool false)), none, []⟩])
 .ret)
 .skip))
 (.seq
 (.seq
 (.reg [
 ⟨(some 8), .mv (.tmp 0), none, []⟩,
 ⟨(some 9), .len (.tmp 8), none, []⟩,
 ⟨(some 10), .mv (.val (.int .i64 0)), none, []⟩])
 (.block 0
 (.loop
 (.seq
 (.reg [
 ⟨(some 11), .bin .lss (.tmp 10) (.tmp 9), none, []⟩])
 (.seq
 (.cond (.tmp 11)
 .skip
 (.exit 0))
 (.seq
 (.block 1
 (.seq
 (.reg [
 ⟨(some 12), .mv (.tmp 10), none, []⟩,
 ⟨(some 13), .idxA 2 (.tmp 8) (.tmp 10), none, []⟩,
 ⟨(some 14), .ld (some 2) (.tmp 13), none, []⟩,
 ⟨(some 4), .box 27 2 (.val (.agg [(.int .i64 0), (.int .i64 0)])), none, []⟩,
 ⟨(some 3), .mv (.tmp 12), none, []⟩,
 ⟨none, .st 2 (.tmp 4) (.tmp 14), none, []⟩])
 (.seq
 (.reg [
 ⟨(some 15), .ld (some 2) (.tmp 4), none, []⟩,
 ⟨(some 16), .call 58 [(.tmp 15)], none, []⟩,
 ⟨(some 17), .un .not (.tmp 16), none, []⟩,
 ⟨(some 18), .mv (.tmp 17), none, []⟩,
 ⟨(some 19), .mv (.tmp 0), some (18, false), []⟩,
 ⟨(some 20), .mv (.tmp 3), some (18, false), []⟩,
 ⟨(some 21), .slc 2 (.tmp 19) none (some (.tmp 20)) none, some (18, false), []⟩,
 ⟨(some 22), .ld (some 2) (.tmp 4), some (18, false), []⟩,
 ⟨(some 23), .callS 73 [(.tmp 21), (.tmp 22)], some (18, false), []⟩,
 ⟨(some 24), .pick (.tmp 18) (.val (.bool true)) (.tmp 23), none, []⟩])
 (.cond (.tmp 24)
 (.seq
 (.reg [
 ⟨(some 2), .mv (.val (.bool false)), none, []⟩])
 .ret)
 .skip))))
 (.reg [
 ⟨(some 25), .bin .add (.tmp 10) (.val (.int .i64 1)), none, []⟩,
 ⟨(some 10), .mv (.tmp 25), none, []⟩])))))))
 (.seq
 (.reg [
 ⟨(some 2), .mv (.val (.bool true)), none, []⟩])
 .ret))))
def c_conf_saneOwn : AF := ⟨b_conf_saneOwn, 26, [.tmp 2]⟩
theorem p_conf_saneOwn : prepFunc Try.prog 55 = some c_conf_saneOwn ∧ hasBody Try.prog 55 = true := ⟨by kernel_rfl, by kernel_rfl⟩
def b_conf_saneSides : AC :=
 (.seq
 (.reg [
 ⟨(some 1), .box 25 6 (.tmp 0), none, []⟩,
 ⟨(some 2), .mv (.val (.bool false)), none, []⟩])
 (.seq
 (.seq
 (.reg [
 ⟨(some 5), .off 5 (.tmp 1), none, []⟩,
 ⟨(some 6), .ld none (.tmp 5), none, []⟩,
 ⟨(some 7), .len (.tmp 6), none, []⟩,
 ⟨(some 8), .bin .gtr (.tmp 7) (.val (.int .i64 8)), none, []⟩])
 (.cond (.tmp 8)
 (.seq
 (.reg [
 ⟨(some 2), .mv (.val (.bool false)), none, []⟩])
 .ret)
 .skip))
 (.seq
 (.seq
 (.reg [
 ⟨(some 9), .off 5 (.tmp 1), none, []⟩,
 ⟨(some 10), .ld none (.tmp 9), none, []⟩,
 ⟨(some 11), .len (.tmp 10), none, []⟩,
 ⟨(some 12), .mv (.val (.int .i64 0)), none, []⟩])
 (.block 0
 (.loop
 (.seq
 (.reg [
 ⟨(some 13), .bin .lss (.tmp 12) (.tmp 11), none, []⟩])
 (.seq
 (.cond (.tmp 13)
 .skip
 (.exit 0))
 (.seq
 (.block 1
 (.seq
 (.reg [
 ⟨(some 14), .mv (.tmp 12), none, []⟩,
 ⟨(some 15), .idxA 4 (.tmp 10) (.tmp 12), none, []⟩,
 ⟨(some 16), .ld (some 4) (.tmp 15), none, []⟩,
 ⟨(some 4), .box 47 4 (.val (.agg [(.int .i64 0), (.int .i64 0), (.slice .full 0 []), (.slice .full 0 [])])), none, []⟩,
 ⟨(some 3), .mv (.tmp 14), none, []⟩,
 ⟨none, .st 4 (.tmp 4) (.tmp 16), none, []⟩])
 (.seq
 (.seq
 (.reg [
 ⟨(some 17), .off 0 (.tmp 4), none, []⟩,
 ⟨(some 18), .ld none (.tmp 17), none, []⟩,
 ⟨(some 19), .call 52 [(.tmp 18)], none, []⟩,
 ⟨(some 20), .un .not (.tmp 19), none, []⟩,
 ⟨(some 21), .mv (.tmp 20), none, []⟩,
 ⟨(some 22), .off 0 (.tmp 1), some (21, false), []⟩,
 ⟨(some 23), .ld none (.tmp 22), some (21, false), []⟩,
 ⟨(some 24), .off 5 (.tmp 1), some (21, false), []⟩,
 ⟨(some 25), .ld none (.tmp 24), some (21, false), []⟩,
 ⟨(some 26), .mv (.tmp 3), some (21, false), []⟩,
 ⟨(some 27), .slc 4 (.tmp 25) none (some (.tmp 26)) none, some (21, false), []⟩,
 ⟨(some 28), .off 0 (.tmp 4), some (21, false), []⟩,
 ⟨(some 29), .ld none (.tmp 28), some (21, false), []⟩,
 ⟨(some 30), .callS 74 [(.tmp 23), (.tmp 27), (.tmp 29)], some (21, false), []⟩,
 ⟨(some 31), .pick (.tmp 21) (.val (.bool true)) (.tmp 30), none, []⟩,
 ⟨(some 32), .mv (.tmp 31), none, []⟩,
 ⟨(some 33), .off 1 (.tmp 4), some (32, false), []⟩,
 ⟨(some 34), .ld none (.tmp 33), some (32, false), []⟩,
 ⟨(some 35), .bin .lss (.tmp 34) (.val (.int .i64 1)), some (32, false), []⟩,
 ⟨(some 36), .pick (.tmp 32) (.val (.bool true)) (.tmp 35), none, []⟩,
 ⟨(some 37), .mv (.tmp 36), none, []⟩,
 ⟨(some 38), .off 1 (.tmp 4), some (37, false), []⟩,
 ⟨(some 39), .ld none (.tmp 38), some (37, false), []⟩,
 ⟨(some 40), .bin .gtr (.tmp 39) (.val (.int .i64 3)), some (37, false), []⟩,
 ⟨(some 41), .pick (.tmp 37) (.val (.bool true)) (.tmp 40), none, []⟩])
 (.cond (.tmp 41)
 (.seq
 (.reg [
 ⟨(some 2), .mv (.val (.bool false)), none, []⟩])
 .ret)
 .skip))
 (.seq
 (.reg [
 ⟨(some 42), .off 2 (.tmp 4), none, []⟩,
 ⟨(some 43), .ld none (.tmp 42), none, []⟩,
 ⟨(some 44), .callS 75 [(.tmp 43), (.val (.bool true))], none, []⟩,
 ⟨(some 45), .un .not (.tmp 44), none, []⟩,
 ⟨(some 46), .mv (.tmp 45), none, []⟩,
 ⟨(some 47), .off 3 (.tmp 4), some (46, false), []⟩,
 ⟨(some 48), .ld none (.tmp 47), some (46, false), []⟩,
 ⟨(some 49), .callS 75 [(.tmp 48), (.val (.bool false))], some (46, false), []⟩,
 ⟨(some 50), .un .not (.tmp 49), some (46, false), []⟩,
 ⟨(some 51), .pick (.tmp 46) (.val (.bool true)) (.tmp 50), none, []⟩])
 (.cond (.tmp 51)
 (.seq
 (.reg [
 ⟨(some 2), .mv (.val (.bool false)), none, []⟩])
 .ret)
 .skip)))))
 (.reg [
 ⟨(some 52), .bin .add (.tmp 12) (.val (.int .i64 1)), none, []⟩,
 ⟨(some 12), .mv (.tmp 52), none, []⟩])))))))
 (.seq
 (.reg [
 ⟨(some 2), .mv (.val (.bool true)), none, []⟩])
 .ret))))
def c_conf_saneSides : AF := ⟨b_conf_saneSides, 53, [.tmp 2]⟩
theorem p_conf_saneSides : prepFunc Try.prog 56 = some c_conf_saneSides ∧ hasBody Try.prog 56 = true := ⟨by kernel_rfl, by kernel_rfl⟩
def b_policy_Fits : AC :=
 (.seq
 (.reg [
 ⟨(some 2), .box 55 6 (.tmp 0), none, []⟩,
 ⟨(some 3), .box 59 4 (.tmp 1), none, []⟩,
 ⟨(some 4), .mv (.val (.bool false)), none, []⟩])
 (.seq
 (.seq
 (.reg [
 ⟨(some 5), .off 0 (.tmp 2), none, []⟩,
 ⟨(some 6), .ld none (.tmp 5), none, []⟩,
 ⟨(some 7), .bin .lss (.tmp 6) (.val (.int .i64 0)), none, []⟩,
 ⟨(some 8), .mv (.tmp 7), none, []⟩,
 ⟨(some 9), .off 0 (.tmp 2), some (8, false), []⟩,
 ⟨(some 10), .ld none (.tmp 9), some (8, false), []⟩,
 ⟨(some 11), .bin .geq (.tmp 10) (.val (.int .i64 5)), some (8, false), []⟩,
 ⟨(some 12), .pick (.tmp 8) (.val (.bool true)) (.tmp 11), none, []⟩])
 (.cond (.tmp 12)
 (.seq
 (.reg [
 ⟨(some 4), .mv (.val (.bool false)), none, []⟩])
 .ret)
 .skip))
 (.seq
 (.reg [
 ⟨(some 13), .call 76 [], none, []⟩,
 ⟨(some 14), .off 0 (.tmp 2), none, []⟩,
 ⟨(some 15), .ld none (.tmp 14), none, []⟩,
 ⟨(some 16), .prt none 5 1 0 (.tmp 13) (.tmp 15), none, []⟩,
 ⟨(some 17), .ld (some 6) (.tmp 2), none, []⟩,
 ⟨(some 18), .ld (some 4) (.tmp 3), none, []⟩,
 ⟨(some 19), .callvS (.tmp 16) [(.tmp 17), (.tmp 18)], none, []⟩,
 ⟨(some 4), .mv (.tmp 19), none, []⟩])
 .ret)))
def c_policy_Fits : AF := ⟨b_policy_Fits, 20, [.tmp 4]⟩
theorem p_policy_Fits : prepFunc Try.prog 57 = some c_policy_Fits ∧ hasBody Try.prog 57 = true := ⟨by kernel_rfl, by kernel_rfl⟩
def b_prefix_Sane : AC :=
 (.seq
 (.reg [
 ⟨(some 1), .box 27 2 (.tmp 0), none, []⟩,
 ⟨(some 2), .mv (.val (.bool false)), none, []⟩])
 (.seq
 (.reg [
 ⟨(some 3), .off 1 (.tmp 1), none, []⟩,
 ⟨(some 4), .ld none (.tmp 3), none, []⟩,
 ⟨(some 5), .bin .geq (.tmp 4) (.val (.int .i64 0)), none, []⟩,
 ⟨(some 6), .mv (.tmp 5), none, []⟩,
 ⟨(some 7), .off 1 (.tmp 1), some (6, true), []⟩,
 ⟨(some 8), .ld none (.tmp 7), some (6, true), []⟩,
 ⟨(some 9), .bin .leq (.tmp 8) (.val (.int .i64 32)), some (6, true), []⟩,
 ⟨(some 10), .pick (.tmp 6) (.tmp 9) (.val (.bool false)), none, []⟩,
 ⟨(some 11), .mv (.tmp 10), none, []⟩,
 ⟨(some 12), .off 0 (.tmp 1), some (11, true), []⟩,
 ⟨(some 13), .ld none (.tmp 12), some (11, true), []⟩,
 ⟨(some 14), .off 1 (.tmp 1), some (11, true), []⟩,
 ⟨(some 15), .ld none (.tmp 14), some (11, true), []⟩,
 ⟨(some 16), .call 77 [(.tmp 13), (.tmp 15)], some (11, true), []⟩,
 ⟨(some 17), .off 0 (.tmp 1), some (11, true), []⟩,
 ⟨(some 18), .ld none (.tmp 17), some (11, true), []⟩,
 ⟨(some 19), .bin .eql (.tmp 16) (.tmp 18), some (11, true), []⟩,
 ⟨(some 20), .pick (.tmp 11) (.tmp 19) (.val (.bool false)), none, []⟩,
 ⟨(some 2), .mv (.tmp 20), none, []⟩])
 .ret))
def c_prefix_Sane : AF := ⟨b_prefix_Sane, 21, [.tmp 2]⟩
theorem p_prefix_Sane : prepFunc Try.prog 58 = some c_prefix_Sane ∧ hasBody Try.prog 58 = true := ⟨by kernel_rfl, by kernel_rfl⟩
def b_slices_Index___int_int : AC :=
 (.seq
 (.reg [
 ⟨(some 4), .mv (.val (.int .i64 0)), none, []⟩])
 (.seq
 (.seq
 (.reg [
 ⟨(some 6), .mv (.tmp 0), none, []⟩,
 ⟨(some 7), .len (.tmp 6), none, []⟩,
 ⟨(some 8), .mv (.val (.int .i64 0)), none, []⟩])
 (.block 0
 (.loop
 (.seq
 (.reg [
 ⟨(some 9), .bin .lss (.tmp 8) (.tmp 7), none, []⟩])
 (.seq
 (.cond (.tmp 9)
 .skip
 (.exit 0))
 (.seq
 (.block 1
 (.seq
 (.reg [
 ⟨(some 10), .mv (.tmp 8), none, []⟩,
 ⟨(some 5), .mv (.tmp 10), none, []⟩])
 (.seq
 (.reg [
 ⟨(some 11), .mv (.tmp 1), none, []⟩,
 ⟨(some 12), .mv (.tmp 0), none, []⟩,
 ⟨(some 13), .mv (.tmp 5), none, []⟩,
 ⟨(some 14), .idxA 1 (.tmp 12) (.tmp 13), none, []⟩,
 ⟨(some 15), .ld none (.tmp 14), none, []⟩,
 ⟨(some 16), .bin .eql (.tmp 11) (.tmp 15), none, []⟩])
 (.cond (.tmp 16)
 (.seq
 (.reg [
 ⟨(some 17), .mv (.tmp 5), none, []⟩,
 ⟨(some 4), .mv (.tmp 17), none, []⟩])
 .ret)
 .skip))))
 (.reg [
 ⟨(some 18), .bin .add (.tmp 8) (.val (.int .i64 1)), none, []⟩,
 ⟨(some 8), .mv (.tmp 18), none, []⟩])))))))
 (.seq
 (.reg [
 ⟨(some 4), .mv (.val (.int .i64 (-1))), none, []⟩])
 .ret)))
def c_slices_Index___int_int : AF := ⟨b_slices_Index___int_int, 19, [.tmp 4]⟩
theorem p_slices_Index___int_int : prepFunc Try.prog 59 = some c_slices_Index___int_int ∧ hasBody Try.prog 59 = true := ⟨by kernel_rfl, by kernel_rfl⟩
def b_ridgewayref12_Hold : AC :=
 (.seq
 (.reg [
 ⟨(some 2), .mv (.val (.bool false)), none, []⟩])
 (.seq
 (.reg [
 ⟨(some 3), .mv (.tmp 0), none, []⟩,
 ⟨(some 4), .bin .eql (.tmp 3) (.val (.int .i64 0)), none, []⟩,
 ⟨(some 5), .mv (.tmp 4), none, []⟩,
 ⟨(some 6), .mv (.tmp 0), some (5, false), []⟩,
 ⟨(some 7), .bin .geq (.tmp 6) (.val (.int .i64 3)), some (5, false), []⟩,
 ⟨(some 8), .mv (.tmp 7), some (5, false), []⟩,
 ⟨(some 9), .mv (.tmp 0), some (8, true), []⟩,
 ⟨(some 10), .bin .leq (.tmp 9) (.val (.int .i64 65535)), some (8, true), []⟩,
 ⟨(some 11), .pick (.tmp 8) (.tmp 10) (.val (.bool false)), some (5, false), []⟩,
 ⟨(some 12), .pick (.tmp 5) (.val (.bool true)) (.tmp 11), none, []⟩,
 ⟨(some 2), .mv (.tmp 12), none, []⟩])
 .ret))
def c_ridgewayref12_Hold : AF := ⟨b_ridgewayref12_Hold, 13, [.tmp 2]⟩
theorem p_ridgewayref12_Hold : prepFunc Try.prog 60 = some c_ridgewayref12_Hold ∧ hasBody Try.prog 60 = true := ⟨by kernel_rfl, by kernel_rfl⟩
def b_ridgewayref12_owns : AC :=
 (.seq
 (.reg [
 ⟨(some 2), .mv (.val (.bool false)), none, []⟩])
 (.seq
 (.seq
 (.reg [
 ⟨(some 3), .mv (.val (.int .i64 0)), none, []⟩])
 (.block 0
 (.loop
 (.seq
 (.seq
 (.reg [
 ⟨(some 5), .mv (.tmp 3), none, []⟩,
 ⟨(some 6), .mv (.tmp 0), none, []⟩,
 ⟨(some 7), .len (.tmp 6), none, []⟩,
 ⟨(some 8), .bin .lss (.tmp 5) (.tmp 7), none, []⟩])
 (.cond (.tmp 8)
 .skip
 (.exit 0)))
 (.seq
 (.block 1
 (.seq
 (.seq
 (.reg [
 ⟨(some 11), .mv (.tmp 0), none, []⟩,
 ⟨(some 12), .mv (.tmp 3), none, []⟩,
 ⟨(some 13), .idxA 2 (.tmp 11) (.tmp 12), none, []⟩,
 ⟨(some 14), .ld (some 2) (.tmp 13), none, []⟩,
 ⟨(some 15), .callS 38 [(.tmp 14)], none, []⟩,
 ⟨(some 16), .un .not (.tmp 15), none, []⟩])
 (.cond (.tmp 16)
 (.seq
 (.reg [
 ⟨(some 2), .mv (.val (.bool false)), none, []⟩])
 .ret)
 .skip))
 (.seq
 (.reg [
 ⟨(some 4), .mv (.val (.int .i64 0)), none, []⟩])
 (.block 2
 (.loop
 (.seq
 (.seq
 (.reg [
 ⟨(some 17), .mv (.tmp 4), none, []⟩,
 ⟨(some 18), .mv (.tmp 3), none, []⟩,
 ⟨(some 19), .bin .lss (.tmp 17) (.tmp 18), none, []⟩])
 (.cond (.tmp 19)
 .skip
 (.exit 2)))
 (.seq
 (.block 3
 (.seq
 (.reg [
 ⟨(some 22), .mv (.tmp 0), none, []⟩,
 ⟨(some 23), .mv (.tmp 4), none, []⟩,
 ⟨(some 24), .idxA 2 (.tmp 22) (.tmp 23), none, []⟩,
 ⟨(some 25), .ld (some 2) (.tmp 24), none, []⟩,
 ⟨(some 26), .mv (.tmp 0), none, []⟩,
 ⟨(some 27), .mv (.tmp 3), none, []⟩,
 ⟨(some 28), .idxA 2 (.tmp 26) (.tmp 27), none, []⟩,
 ⟨(some 29), .ld (some 2) (.tmp 28), none, []⟩,
 ⟨(some 30), .eqA false 2 [(0, 0), (1, 0)] (.tmp 25) (.tmp 29), none, []⟩])
 (.cond (.tmp 30)
 (.seq
 (.reg [
 ⟨(some 2), .mv (.val (.bool false)), none, []⟩])
 .ret)
 .skip)))
 (.reg [
 ⟨(some 20), .mv (.tmp 4), none, []⟩,
 ⟨(some 21), .bin .add (.tmp 20) (.val (.int .i64 1)), none, []⟩,
 ⟨(some 4), .mv (.tmp 21), none, []⟩]))))))))
 (.reg [
 ⟨(some 9), .mv (.tmp 3), none, []⟩,
 ⟨(some 10), .bin .add (.tmp 9) (.val (.int .i64 1)), none, []⟩,
 ⟨(some 3), .mv (.tmp 10), none, []⟩]))))))
 (.seq
 (.reg [
 ⟨(some 31), .mv (.tmp 0), none, []⟩,
 ⟨(some 32), .len (.tmp 31), none, []⟩,
 ⟨(some 33), .bin .leq (.tmp 32) (.val (.int .i64 8)), none, []⟩,
 ⟨(some 2), .mv (.tmp 33), none, []⟩])
 .ret)))
def c_ridgewayref12_owns : AF := ⟨b_ridgewayref12_owns, 34, [.tmp 2]⟩
theorem p_ridgewayref12_owns : prepFunc Try.prog 61 = some c_ridgewayref12_owns ∧ hasBody Try.prog 61 = true := ⟨by kernel_rfl, by kernel_rfl⟩
def b_ridgewayref12_sides : AC :=
 (.seq
 (.reg [
 ⟨(some 4), .mv (.val (.bool false)), none, []⟩])
 (.seq
 (.seq
 (.reg [
 ⟨(some 5), .mv (.val (.int .i64 0)), none, []⟩])
 (.block 0
 (.loop
 (.seq
 (.seq
 (.reg [
 ⟨(some 8), .mv (.tmp 5), none, []⟩,
 ⟨(some 9), .mv (.tmp 0), none, []⟩,
 ⟨(some 10), .len (.tmp 9), none, []⟩,
 ⟨(some 11), .bin .lss (.tmp 8) (.tmp 10), none, []⟩])
 (.cond (.tmp 11)
 .skip
 (.exit 0)))
 (.seq
 (.block 1
 (.seq
 (.reg [
 ⟨(some 14), .mv (.tmp 0), none, []⟩,
 ⟨(some 15), .mv (.tmp 5), none, []⟩,
 ⟨(some 16), .idxA 4 (.tmp 14) (.tmp 15), none, []⟩,
 ⟨(some 17), .ld (some 4) (.tmp 16), none, []⟩,
 ⟨(some 6), .box 47 4 (.val (.agg [(.int .i64 0), (.int .i64 0), (.slice .full 0 []), (.slice .full 0 [])])), none, []⟩,
 ⟨none, .st 4 (.tmp 6) (.tmp 17), none, []⟩])
 (.seq
 (.seq
 (.reg [
 ⟨(some 18), .off 0 (.tmp 6), none, []⟩,
 ⟨(some 19), .ld none (.tmp 18), none, []⟩,
 ⟨(some 20), .bin .lss (.tmp 19) (.val (.int .i64 1)), none, []⟩,
 ⟨(some 21), .mv (.tmp 20), none, []⟩,
 ⟨(some 22), .off 0 (.tmp 6), some (21, false), []⟩,
 ⟨(some 23), .ld none (.tmp 22), some (21, false), []⟩,
 ⟨(some 24), .bin .gtr (.tmp 23) (.val (.int .i64 4294967295)), some (21, false), []⟩,
 ⟨(some 25), .pick (.tmp 21) (.val (.bool true)) (.tmp 24), none, []⟩,
 ⟨(some 26), .mv (.tmp 25), none, []⟩,
 ⟨(some 27), .off 0 (.tmp 6), some (26, false), []⟩,
 ⟨(some 28), .ld none (.tmp 27), some (26, false), []⟩,
 ⟨(some 29), .mv (.tmp 1), some (26, false), []⟩,
 ⟨(some 30), .bin .eql (.tmp 28) (.tmp 29), some (26, false), []⟩,
 ⟨(some 31), .pick (.tmp 26) (.val (.bool true)) (.tmp 30), none, []⟩,
 ⟨(some 32), .mv (.tmp 31), none, []⟩,
 ⟨(some 33), .off 1 (.tmp 6), some (32, false), []⟩,
 ⟨(some 34), .ld none (.tmp 33), some (32, false), []⟩,
 ⟨(some 35), .bin .lss (.tmp 34) (.val (.int .i64 1)), some (32, false), []⟩,
 ⟨(some 36), .pick (.tmp 32) (.val (.bool true)) (.tmp 35), none, []⟩,
 ⟨(some 37), .mv (.tmp 36), none, []⟩,
 ⟨(some 38), .off 1 (.tmp 6), some (37, false), []⟩,
 ⟨(some 39), .ld none (.tmp 38), some (37, false), []⟩,
 ⟨(some 40), .bin .gtr (.tmp 39) (.val (.int .i64 3)), some (37, false), []⟩,
 ⟨(some 41), .pick (.tmp 37) (.val (.bool true)) (.tmp 40), none, []⟩,
 ⟨(some 42), .mv (.tmp 41), none, []⟩,
 ⟨(some 43), .off 2 (.tmp 6), some (42, false), []⟩,
 ⟨(some 44), .ld none (.tmp 43), some (42, false), []⟩,
 ⟨(some 45), .callS 78 [(.tmp 44), (.val (.bool true))], some (42, false), []⟩,
 ⟨(some 46), .un .not (.tmp 45), some (42, false), []⟩,
 ⟨(some 47), .pick (.tmp 42) (.val (.bool true)) (.tmp 46), none, []⟩,
 ⟨(some 48), .mv (.tmp 47), none, []⟩,
 ⟨(some 49), .off 3 (.tmp 6), some (48, false), []⟩,
 ⟨(some 50), .ld none (.tmp 49), some (48, false), []⟩,
 ⟨(some 51), .callS 78 [(.tmp 50), (.val (.bool false))], some (48, false), []⟩,
 ⟨(some 52), .un .not (.tmp 51), some (48, false), []⟩,
 ⟨(some 53), .pick (.tmp 48) (.val (.bool true)) (.tmp 52), none, []⟩])
 (.cond (.tmp 53)
 (.seq
 (.reg [
 ⟨(some 4), .mv (.val (.bool false)), none, []⟩])
 .ret)
 .skip))
 (.seq
 (.reg [
 ⟨(some 7), .mv (.val (.int .i64 0)), none, []⟩])
 (.block 2
 (.loop
 (.seq
 (.seq
 (.reg [
 ⟨(some 54), .mv (.tmp 7), none, []⟩,
 ⟨(some 55), .mv (.tmp 5), none, []⟩,
 ⟨(some 56), .bin .lss (.tmp 54) (.tmp 55), none, []⟩])
 (.cond (.tmp 56)
 .skip
 (.exit 2)))
 (.seq
 (.block 3
 (.seq
 (.reg [
 ⟨(some 59), .mv (.tmp 0), none, []⟩,
 ⟨(some 60), .mv (.tmp 7), none, []⟩,
 ⟨(some 61), .idxA 4 (.tmp 59) (.tmp 60), none, []⟩,
 ⟨(some 62), .off 0 (.tmp 61), none, []⟩,
 ⟨(some 63), .ld none (.tmp 62), none, []⟩,
 ⟨(some 64), .off 0 (.tmp 6), none, []⟩,
 ⟨(some 65), .ld none (.tmp 64), none, []⟩,
 ⟨(some 66), .bin .eql (.tmp 63) (.tmp 65), none, []⟩])
 (.cond (.tmp 66)
 (.seq
 (.reg [
 ⟨(some 4), .mv (.val (.bool false)), none, []⟩])
 .ret)
 .skip)))
 (.reg [
 ⟨(some 57), .mv (.tmp 7), none, []⟩,
 ⟨(some 58), .bin .add (.tmp 57) (.val (.int .i64 1)), none, []⟩,
 ⟨(some 7), .mv (.tmp 58), none, []⟩])))))))))
 (.reg [
 ⟨(some 12), .mv (.tmp 5), none, []⟩,
 ⟨(some 13), .bin .add (.tmp 12) (.val (.int .i64 1)), none, []⟩,
 ⟨(some 5), .mv (.tmp 13), none, []⟩]))))))
 (.seq
 (.reg [
 ⟨(some 67), .mv (.tmp 0), none, []⟩,
 ⟨(some 68), .len (.tmp 67), none, []⟩,
 ⟨(some 69), .bin .leq (.tmp 68) (.val (.int .i64 8)), none, []⟩,
 ⟨(some 4), .mv (.tmp 69), none, []⟩])
 .ret)))
def c_ridgewayref12_sides : AF := ⟨b_ridgewayref12_sides, 70, [.tmp 4]⟩
theorem p_ridgewayref12_sides : prepFunc Try.prog 62 = some c_ridgewayref12_sides ∧ hasBody Try.prog 62 = true := ⟨by kernel_rfl, by kernel_rfl⟩
def b_ridgewayref02_Mask : AC :=
 (.seq
 (.reg [
 ⟨(some 4), .mv (.val (.int .i64 0)), none, []⟩])
 (.seq
 (.reg [
 ⟨(some 6), .mv (.tmp 0), none, []⟩,
 ⟨(some 7), .bin .and (.tmp 6) (.val (.int .i64 4294967295)), none, []⟩,
 ⟨(some 5), .mv (.tmp 7), none, []⟩])
 (.seq
 (.reg [
 ⟨(some 8), .mv (.tmp 5), none, []⟩,
 ⟨(some 9), .mv (.tmp 5), none, []⟩,
 ⟨(some 10), .mv (.tmp 1), none, []⟩,
 ⟨(some 11), .callS 79 [(.tmp 10)], none, []⟩,
 ⟨(some 12), .bin .rem (.tmp 9) (.tmp 11), none, []⟩,
 ⟨(some 13), .bin .sub (.tmp 8) (.tmp 12), none, []⟩,
 ⟨(some 4), .mv (.tmp 13), none, []⟩])
 .ret)))
def c_ridgewayref02_Mask : AF := ⟨b_ridgewayref02_Mask, 14, [.tmp 4]⟩
theorem p_ridgewayref02_Mask : prepFunc Try.prog 63 = some c_ridgewayref02_Mask ∧ hasBody Try.prog 63 = true := ⟨by kernel_rfl, by kernel_rfl⟩
def b_ridgewayref10_Fits : AC :=
 (.seq
 (.reg [
 ⟨(some 2), .box 55 6 (.tmp 0), none, []⟩,
 ⟨(some 3), .box 59 4 (.tmp 1), none, []⟩,
 ⟨(some 4), .mv (.val (.bool false)), none, []⟩])
 (.seq
 (.seq
 (.reg [
 ⟨(some 5), .off 0 (.tmp 2), none, []⟩,
 ⟨(some 6), .ld none (.tmp 5), none, []⟩])
 (.block 0
 (.seq
 (.reg [
 ⟨(some 8), .bin .eql (.tmp 6) (.val (.int .i64 0)), none, []⟩,
 ⟨(some 7), .mv (.tmp 8), none, []⟩])
 (.cond (.tmp 7)
 (.seq
 (.reg [
 ⟨(some 4), .mv (.val (.bool true)), none, []⟩])
 .ret)
 (.seq
 (.reg [
 ⟨(some 10), .bin .eql (.tmp 6) (.val (.int .i64 1)), none, []⟩,
 ⟨(some 9), .mv (.tmp 10), none, []⟩])
 (.cond (.tmp 9)
 (.seq
 (.reg [
 ⟨(some 11), .off 1 (.tmp 2), none, []⟩,
 ⟨(some 12), .ld (some 2) (.tmp 11), none, []⟩,
 ⟨(some 13), .off 0 (.tmp 3), none, []⟩,
 ⟨(some 14), .ld (some 2) (.tmp 13), none, []⟩,
 ⟨(some 15), .callS 80 [(.tmp 12), (.tmp 14)], none, []⟩,
 ⟨(some 4), .mv (.tmp 15), none, []⟩])
 .ret)
 (.seq
 (.reg [
 ⟨(some 17), .bin .eql (.tmp 6) (.val (.int .i64 2)), none, []⟩,
 ⟨(some 16), .mv (.tmp 17), none, []⟩])
 (.cond (.tmp 16)
 (.seq
 (.reg [
 ⟨(some 18), .off 2 (.tmp 3), none, []⟩,
 ⟨(some 19), .ld none (.tmp 18), none, []⟩,
 ⟨(some 20), .off 3 (.tmp 2), none, []⟩,
 ⟨(some 21), .ld none (.tmp 20), none, []⟩,
 ⟨(some 22), .callS 81 [(.tmp 19), (.tmp 21)], none, []⟩,
 ⟨(some 4), .mv (.tmp 22), none, []⟩])
 .ret)
 (.seq
 (.reg [
 ⟨(some 24), .bin .eql (.tmp 6) (.val (.int .i64 3)), none, []⟩,
 ⟨(some 23), .mv (.tmp 24), none, []⟩])
 (.cond (.tmp 23)
 (.seq
 (.reg [
 ⟨(some 25), .off 2 (.tmp 3), none, []⟩,
 ⟨(some 26), .ld none (.tmp 25), none, []⟩,
 ⟨(some 27), .len (.tmp 26), none, []⟩,
 ⟨(some 28), .off 3 (.tmp 2), none, []⟩,
 ⟨(some 29), .ld none (.tmp 28), none, []⟩,
 ⟨(some 30), .bin .gtr (.tmp 27) (.tmp 29), none, []⟩,
 ⟨(some 4), .mv (.tmp 30), none, []⟩])
 .ret)
 (.seq
 (.reg [
 ⟨(some 32), .bin .eql (.tmp 6) (.val (.int .i64 4)), none, []⟩,
 ⟨(some 31), .mv (.tmp 32), none, []⟩])
 (.cond (.tmp 31)
 (.seq
 (.reg [
 ⟨(some 33), .off 3 (.tmp 3), none, []⟩,
 ⟨(some 34), .ld none (.tmp 33), none, []⟩,
 ⟨(some 35), .off 3 (.tmp 2), none, []⟩,
 ⟨(some 36), .ld none (.tmp 35), none, []⟩,
 ⟨(some 37), .bin .eql (.tmp 34) (.tmp 36), none, []⟩,
 ⟨(some 4), .mv (.tmp 37), none, []⟩])
 .ret)
 .skip))))))))))))
 (.seq
 (.reg [
 ⟨(some 4), .mv (.val (.bool false)), none, []⟩])
 .ret)))
def c_ridgewayref10_Fits : AF := ⟨b_ridgewayref10_Fits, 38, [.tmp 4]⟩
theorem p_ridgewayref10_Fits : prepFunc Try.prog 64 = some c_ridgewayref10_Fits ∧ hasBody Try.prog 64 = true := ⟨by kernel_rfl, by kernel_rfl⟩
def b_slices_Repeat___int_int : AC :=
 (.seq
 (.reg [
 ⟨(some 4), .mv (.val (.slice .full 0 [])), none, []⟩])
 (.seq
 (.seq
 (.reg [
 ⟨(some 9), .mv (.tmp 1), none, []⟩,
 ⟨(some 10), .bin .lss (.tmp 9) (.val (.int .i64 0)), none, []⟩])
 (.cond (.tmp 10)
 (.reg [
 ⟨(some 11), .mkif 9 (.val (.str ⟨⟨[99, 97, 110, 110, 111, 116, 32, 98, 101, 32, 110, 101, 103, 97, 116, 105, 118, 101]⟩⟩)), none, []⟩,
 ⟨none, .bad, none, []⟩])
 .skip))
 (.seq
 (.reg [
 ⟨(some 13), .mv (.tmp 0), none, []⟩,
 ⟨(some 14), .len (.tmp 13), none, []⟩,
 ⟨(some 15), .conv .u64 (.tmp 14), none, []⟩,
 ⟨(some 16), .mv (.tmp 1), none, []⟩,
 ⟨(some 17), .conv .u64 (.tmp 16), none, []⟩,
 ⟨(some 18), .callS 82 [(.tmp 15), (.tmp 17)], none, []⟩,
 ⟨(some 12), .mv (.tmp 18), none, []⟩,
 ⟨(some 19), .ext (.tmp 12) 0, none, []⟩,
 ⟨(some 20), .ext (.tmp 12) 1, none, []⟩,
 ⟨(some 5), .mv (.tmp 19), none, []⟩,
 ⟨(some 6), .mv (.tmp 20), none, []⟩])
 (.seq
 (.seq
 (.reg [
 ⟨(some 21), .mv (.tmp 5), none, []⟩,
 ⟨(some 22), .bin .gtr (.tmp 21) (.val (.int .u64 0)), none, []⟩,
 ⟨(some 23), .mv (.tmp 22), none, []⟩,
 ⟨(some 24), .mv (.tmp 6), some (23, false), []⟩,
 ⟨(some 25), .bin .gtr (.tmp 24) (.val (.int .u64 9223372036854775807)), some (23, false), []⟩,
 ⟨(some 26), .pick (.tmp 23) (.val (.bool true)) (.tmp 25), none, []⟩])
 (.cond (.tmp 26)
 (.reg [
 ⟨(some 27), .mkif 9 (.val (.str ⟨⟨[116, 104, 101, 32, 114, 101, 115, 117, 108, 116, 32, 111, 102, 32, 40, 108, 101, 110, 40, 120, 41, 32, 42, 32, 99, 111, 117, 110, 116, 41, 32, 111, 118, 101, 114, 102, 108, 111, 119, 115]⟩⟩)), none, []⟩,
 ⟨none, .bad, none, []⟩])
 .skip))
 (.seq
 (.reg [
 ⟨(some 28), .mv (.tmp 6), none, []⟩,
 ⟨(some 29), .conv .i64 (.tmp 28), none, []⟩,
 ⟨(some 30), .prim (.mkSl 3 1 8 [(.int .i64 0)]) [(.tmp 29), (.tmp 29)], none, []⟩,
 ⟨(some 7), .mv (.tmp 30), none, []⟩])
 (.seq
 (.reg [
 ⟨(some 31), .mv (.tmp 7), none, []⟩,
 ⟨(some 32), .mv (.tmp 0), none, []⟩,
 ⟨(some 33), .prim (.copy 1) [(.tmp 31), (.tmp 32)], none, []⟩,
 ⟨(some 8), .mv (.tmp 33), none, []⟩])
 (.seq
 (.block 0
 (.loop
 (.seq
 (.seq
 (.reg [
 ⟨(some 34), .mv (.tmp 8), none, []⟩,
 ⟨(some 35), .mv (.tmp 7), none, []⟩,
 ⟨(some 36), .len (.tmp 35), none, []⟩,
 ⟨(some 37), .bin .lss (.tmp 34) (.tmp 36), none, []⟩])
 (.cond (.tmp 37)
 .skip
 (.exit 0)))
 (.block 1
 (.reg [
 ⟨(some 39), .mv (.tmp 7), none, []⟩,
 ⟨(some 40), .mv (.tmp 8), none, []⟩,
 ⟨(some 41), .slc 1 (.tmp 39) (some (.tmp 40)) none none, none, []⟩,
 ⟨(some 42), .mv (.tmp 7), none, []⟩,
 ⟨(some 43), .mv (.tmp 8), none, []⟩,
 ⟨(some 44), .slc 1 (.tmp 42) none (some (.tmp 43)) none, none, []⟩,
 ⟨(some 38), .mv (.tmp 8), none, []⟩,
 ⟨(some 45), .prim (.copy 1) [(.tmp 41), (.tmp 44)], none, []⟩,
 ⟨(some 46), .bin .add (.tmp 38) (.tmp 45), none, []⟩,
 ⟨(some 8), .mv (.tmp 46), none, []⟩])))))
 (.seq
 (.reg [
 ⟨(some 47), .mv (.tmp 7), none, []⟩,
 ⟨(some 4), .mv (.tmp 47), none, []⟩])
 .ret))))))))
def c_slices_Repeat___int_int : AF := ⟨b_slices_Repeat___int_int, 48, [.tmp 4]⟩
theorem p_slices_Repeat___int_int : prepFunc Try.prog 65 = some c_slices_Repeat___int_int ∧ hasBody Try.prog 65 = true := ⟨by kernel_rfl, by kernel_rfl⟩
def b_slices_Contains___api_Prefix_api_Prefix : AC :=
 (.seq
 (.reg [
 ⟨(some 3), .box 27 2 (.tmp 1), none, []⟩,
 ⟨(some 4), .mv (.val (.bool false)), none, []⟩])
 (.seq
 (.reg [
 ⟨(some 5), .mv (.tmp 0), none, []⟩,
 ⟨(some 6), .ld (some 2) (.tmp 3), none, []⟩,
 ⟨(some 7), .callS 85 [(.tmp 5), (.tmp 6)], none, []⟩,
 ⟨(some 8), .bin .geq (.tmp 7) (.val (.int .i64 0)), none, []⟩,
 ⟨(some 4), .mv (.tmp 8), none, []⟩])
 .ret))
def c_slices_Contains___api_Prefix_api_Prefix : AF := ⟨b_slices_Contains___api_Prefix_api_Prefix, 9, [.tmp 4]⟩
theorem p_slices_Contains___api_Prefix_api_Prefix : prepFunc Try.prog 73 = some c_slices_Contains___api_Prefix_api_Prefix ∧ hasBody Try.prog 73 = true := ⟨by kernel_rfl, by kernel_rfl⟩
def b_conf_taken : AC :=
 (.seq
 (.reg [
 ⟨(some 5), .box 3 1 (.tmp 2), none, []⟩,
 ⟨(some 6), .mv (.val (.bool false)), none, []⟩])
 (.seq
 (.reg [
 ⟨(some 7), .ld none (.tmp 5), none, []⟩,
 ⟨(some 8), .mv (.tmp 0), none, []⟩,
 ⟨(some 9), .bin .eql (.tmp 7) (.tmp 8), none, []⟩,
 ⟨(some 10), .mv (.tmp 9), none, []⟩,
 ⟨(some 11), .mv (.tmp 1), some (10, false), []⟩,
 ⟨(some 12), .mkclo 87 [(.tmp 5)], some (10, false), []⟩,
 ⟨(some 13), .callS 86 [(.tmp 11), (.tmp 12)], some (10, false), []⟩,
 ⟨(some 14), .pick (.tmp 10) (.val (.bool true)) (.tmp 13), none, []⟩,
 ⟨(some 6), .mv (.tmp 14), none, []⟩])
 .ret))
def c_conf_taken : AF := ⟨b_conf_taken, 15, [.tmp 6]⟩
theorem p_conf_taken : prepFunc Try.prog 74 = some c_conf_taken ∧ hasBody Try.prog 74 = true := ⟨by kernel_rfl, by kernel_rfl⟩
def b_conf_saneRules : AC :=
 (.seq
 (.reg [
 ⟨(some 4), .mv (.val (.bool false)), none, []⟩])
 (.seq
 (.seq
 (.reg [
 ⟨(some 7), .mv (.tmp 0), none, []⟩,
 ⟨(some 8), .len (.tmp 7), none, []⟩,
 ⟨(some 9), .bin .gtr (.tmp 8) (.val (.int .i64 8)), none, []⟩])
 (.cond (.tmp 9)
 (.seq
 (.reg [
 ⟨(some 4), .mv (.val (.bool false)), none, []⟩])
 .ret)
 .skip))
 (.seq
 (.seq
 (.reg [
 ⟨(some 10), .mv (.tmp 0), none, []⟩,
 ⟨(some 11), .len (.tmp 10), none, []⟩,
 ⟨(some 12), .mv (.val (.int .i64 0)), none, []⟩])
 (.block 0
 (.loop
 (.seq
 (.reg [
 ⟨(some 13), .bin .lss (.tmp 12) (.tmp 11), none, []⟩])
 (.seq
 (.cond (.tmp 13)
 .skip
 (.exit 0))
 (.seq
 (.block 1
 (.seq
 (.reg [
 ⟨(some 14), .idxA 6 (.tmp 10) (.tmp 12), none, []⟩,
 ⟨(some 15), .ld (some 6) (.tmp 14), none, []⟩,
 ⟨(some 6), .box 55 6 (.val (.agg [(.int .i64 0), (.int .i64 0), (.int .i64 0), (.int .i64 0), (.int .i64 0), (.int .i64 0)])), none, []⟩,
 ⟨none, .st 6 (.tmp 6) (.tmp 15), none, []⟩])
 (.seq
 (.reg [
 ⟨(some 16), .ld (some 6) (.tmp 6), none, []⟩,
 ⟨(some 17), .mv (.tmp 1), none, []⟩,
 ⟨(some 18), .callS 88 [(.tmp 16), (.tmp 17)], none, []⟩,
 ⟨(some 19), .un .not (.tmp 18), none, []⟩])
 (.cond (.tmp 19)
 (.seq
 (.reg [
 ⟨(some 4), .mv (.val (.bool false)), none, []⟩])
 .ret)
 .skip))))
 (.reg [
 ⟨(some 20), .bin .add (.tmp 12) (.val (.int .i64 1)), none, []⟩,
 ⟨(some 12), .mv (.tmp 20), none, []⟩])))))))
 (.seq
 (.reg [
 ⟨(some 4), .mv (.val (.bool true)), none, []⟩])
 .ret))))
def c_conf_saneRules : AF := ⟨b_conf_saneRules, 21, [.tmp 4]⟩
theorem p_conf_saneRules : prepFunc Try.prog 75 = some c_conf_saneRules ∧ hasBody Try.prog 75 = true := ⟨by kernel_rfl, by kernel_rfl⟩
def b_policy_fits : AC :=
 (.seq
 (.reg [
 ⟨(some 0), .box 85 5 (.val (.agg [.nilFn, .nilFn, .nilFn, .nilFn, .nilFn])), none, []⟩])
 (.seq
 (.reg [
 ⟨(some 1), .bld [.nilFn, .nilFn, .nilFn, .nilFn, .nilFn] [(0, 1, (.val (.fn 89 []))), (1, 1, (.val (.fn 90 []))), (2, 1, (.val (.fn 92 []))), (3, 1, (.val (.fn 93 []))), (4, 1, (.val (.fn 94 [])))], none, []⟩,
 ⟨none, .st 5 (.tmp 0) (.tmp 1), none, []⟩])
 .ret))
def c_policy_fits : AF := ⟨b_policy_fits, 2, [.cell 0 (some 5)]⟩
theorem p_policy_fits : prepFunc Try.prog 76 = some c_policy_fits ∧ hasBody Try.prog 76 = true := ⟨by kernel_rfl, by kernel_rfl⟩
def b_prefix_Mask : AC :=
 (.seq
 (.reg [
 ⟨(some 4), .mv (.val (.int .i64 0)), none, []⟩])
 (.seq
 (.reg [
 ⟨(some 6), .mv (.tmp 1), none, []⟩,
 ⟨(some 7), .mx (.tmp 6) (.val (.int .i64 0)), none, []⟩,
 ⟨(some 8), .mn (.tmp 7) (.val (.int .i64 32)), none, []⟩,
 ⟨(some 9), .bin .sub (.val (.int .i64 32)) (.tmp 8), none, []⟩,
 ⟨(some 5), .mv (.tmp 9), none, []⟩])
 (.seq
 (.reg [
 ⟨(some 10), .mv (.tmp 0), none, []⟩,
 ⟨(some 11), .bin .and (.tmp 10) (.val (.int .i64 4294967295)), none, []⟩,
 ⟨(some 12), .mv (.tmp 5), none, []⟩,
 ⟨(some 13), .bin .shr (.tmp 11) (.tmp 12), none, []⟩,
 ⟨(some 14), .mv (.tmp 5), none, []⟩,
 ⟨(some 15), .bin .shl (.tmp 13) (.tmp 14), none, []⟩,
 ⟨(some 4), .mv (.tmp 15), none, []⟩])
 .ret)))
def c_prefix_Mask : AF := ⟨b_prefix_Mask, 16, [.tmp 4]⟩
theorem p_prefix_Mask : prepFunc Try.prog 77 = some c_prefix_Mask ∧ hasBody Try.prog 77 = true := ⟨by kernel_rfl, by kernel_rfl⟩
def b_ridgewayref12_rules : AC :=
 (.seq
 (.reg [
 ⟨(some 4), .mv (.val (.bool false)), none, []⟩])
 (.seq
 (.seq
 (.reg [
 ⟨(some 5), .mv (.val (.int .i64 0)), none, []⟩])
 (.block 0
 (.loop
 (.seq
 (.seq
 (.reg [
 ⟨(some 6), .mv (.tmp 5), none, []⟩,
 ⟨(some 7), .mv (.tmp 0), none, []⟩,
 ⟨(some 8), .len (.tmp 7), none, []⟩,
 ⟨(some 9), .bin .lss (.tmp 6) (.tmp 8), none, []⟩])
 (.cond (.tmp 9)
 .skip
 (.exit 0)))
 (.seq
 (.block 1
 (.seq
 (.reg [
 ⟨(some 12), .mv (.tmp 0), none, []⟩,
 ⟨(some 13), .mv (.tmp 5), none, []⟩,
 ⟨(some 14), .idxA 6 (.tmp 12) (.tmp 13), none, []⟩,
 ⟨(some 15), .ld (some 6) (.tmp 14), none, []⟩,
 ⟨(some 16), .mv (.tmp 1), none, []⟩,
 ⟨(some 17), .callS 95 [(.tmp 15), (.tmp 16)], none, []⟩,
 ⟨(some 18), .un .not (.tmp 17), none, []⟩])
 (.cond (.tmp 18)
 (.seq
 (.reg [
 ⟨(some 4), .mv (.val (.bool false)), none, []⟩])
 .ret)
 .skip)))
 (.reg [
 ⟨(some 10), .mv (.tmp 5), none, []⟩,
 ⟨(some 11), .bin .add (.tmp 10) (.val (.int .i64 1)), none, []⟩,
 ⟨(some 5), .mv (.tmp 11), none, []⟩]))))))
 (.seq
 (.reg [
 ⟨(some 19), .mv (.tmp 0), none, []⟩,
 ⟨(some 20), .len (.tmp 19), none, []⟩,
 ⟨(some 21), .bin .leq (.tmp 20) (.val (.int .i64 8)), none, []⟩,
 ⟨(some 4), .mv (.tmp 21), none, []⟩])
 .ret)))
def c_ridgewayref12_rules : AF := ⟨b_ridgewayref12_rules, 22, [.tmp 4]⟩
theorem p_ridgewayref12_rules : prepFunc Try.prog 78 = some c_ridgewayref12_rules ∧ hasBody Try.prog 78 = true := ⟨by kernel_rfl, by kernel_rfl⟩
def b_ridgewayref02_size : AC :=
 (.seq
 (.reg [
 ⟨(some 2), .mv (.val (.int .i64 0)), none, []⟩])
 (.seq
 (.reg [
 ⟨(some 3), .mv (.val (.int .i64 1)), none, []⟩])
 (.seq
 (.seq
 (.reg [
 ⟨(some 5), .mv (.tmp 0), none, []⟩,
 ⟨(some 6), .mx (.tmp 5) (.val (.int .i64 0)), none, []⟩,
 ⟨(some 4), .mv (.tmp 6), none, []⟩])
 (.block 0
 (.loop
 (.seq
 (.seq
 (.reg [
 ⟨(some 7), .mv (.tmp 4), none, []⟩,
 ⟨(some 8), .bin .lss (.tmp 7) (.val (.int .i64 32)), none, []⟩])
 (.cond (.tmp 8)
 .skip
 (.exit 0)))
 (.seq
 (.block 1
 (.reg [
 ⟨(some 11), .mv (.tmp 3), none, []⟩,
 ⟨(some 12), .bin .mul (.tmp 11) (.val (.int .i64 2)), none, []⟩,
 ⟨(some 3), .mv (.tmp 12), none, []⟩]))
 (.reg [
 ⟨(some 9), .mv (.tmp 4), none, []⟩,
 ⟨(some 10), .bin .add (.tmp 9) (.val (.int .i64 1)), none, []⟩,
 ⟨(some 4), .mv (.tmp 10), none, []⟩]))))))
 (.seq
 (.reg [
 ⟨(some 13), .mv (.tmp 3), none, []⟩,
 ⟨(some 2), .mv (.tmp 13), none, []⟩])
 .ret))))
def c_ridgewayref02_size : AF := ⟨b_ridgewayref02_size, 14, [.tmp 2]⟩
theorem p_ridgewayref02_size : prepFunc Try.prog 79 = some c_ridgewayref02_size ∧ hasBody Try.prog 79 = true := ⟨by kernel_rfl, by kernel_rfl⟩
def b_ridgewayref02_Has : AC :=
 (.seq
 (.reg [
 ⟨(some 2), .box 27 2 (.tmp 0), none, []⟩,
 ⟨(some 3), .box 27 2 (.tmp 1), none, []⟩,
 ⟨(some 4), .mv (.val (.bool false)), none, []⟩])
 (.seq
 (.reg [
 ⟨(some 5), .ld (some 2) (.tmp 2), none, []⟩,
 ⟨(some 6), .call 38 [(.tmp 5)], none, []⟩,
 ⟨(some 7), .mv (.tmp 6), none, []⟩,
 ⟨(some 8), .ld (some 2) (.tmp 3), some (7, true), []⟩,
 ⟨(some 9), .call 38 [(.tmp 8)], some (7, true), []⟩,
 ⟨(some 10), .pick (.tmp 7) (.tmp 9) (.val (.bool false)), none, []⟩,
 ⟨(some 11), .mv (.tmp 10), none, []⟩,
 ⟨(some 12), .off 1 (.tmp 3), some (11, true), []⟩,
 ⟨(some 13), .ld none (.tmp 12), some (11, true), []⟩,
 ⟨(some 14), .off 1 (.tmp 2), some (11, true), []⟩,
 ⟨(some 15), .ld none (.tmp 14), some (11, true), []⟩,
 ⟨(some 16), .bin .geq (.tmp 13) (.tmp 15), some (11, true), []⟩,
 ⟨(some 17), .pick (.tmp 11) (.tmp 16) (.val (.bool false)), none, []⟩,
 ⟨(some 18), .mv (.tmp 17), none, []⟩,
 ⟨(some 19), .off 0 (.tmp 3), some (18, true), []⟩,
 ⟨(some 20), .ld none (.tmp 19), some (18, true), []⟩,
 ⟨(some 21), .off 1 (.tmp 2), some (18, true), []⟩,
 ⟨(some 22), .ld none (.tmp 21), some (18, true), []⟩,
 ⟨(some 23), .call 63 [(.tmp 20), (.tmp 22)], some (18, true), []⟩,
 ⟨(some 24), .off 0 (.tmp 2), some (18, true), []⟩,
 ⟨(some 25), .ld none (.tmp 24), some (18, true), []⟩,
 ⟨(some 26), .bin .eql (.tmp 23) (.tmp 25), some (18, true), []⟩,
 ⟨(some 27), .pick (.tmp 18) (.tmp 26) (.val (.bool false)), none, []⟩,
 ⟨(some 4), .mv (.tmp 27), none, []⟩])
 .ret))
def c_ridgewayref02_Has : AF := ⟨b_ridgewayref02_Has, 28, [.tmp 4]⟩
theorem p_ridgewayref02_Has : prepFunc Try.prog 80 = some c_ridgewayref02_Has ∧ hasBody Try.prog 80 = true := ⟨by kernel_rfl, by kernel_rfl⟩
def b_ridgewayref10_has : AC :=
 (.seq
 (.reg [
 ⟨(some 4), .mv (.val (.bool false)), none, []⟩])
 (.seq
 (.seq
 (.reg [
 ⟨(some 5), .mv (.val (.int .i64 0)), none, []⟩])
 (.block 0
 (.loop
 (.seq
 (.seq
 (.reg [
 ⟨(some 6), .mv (.tmp 5), none, []⟩,
 ⟨(some 7), .mv (.tmp 0), none, []⟩,
 ⟨(some 8), .len (.tmp 7), none, []⟩,
 ⟨(some 9), .bin .lss (.tmp 6) (.tmp 8), none, []⟩])
 (.cond (.tmp 9)
 .skip
 (.exit 0)))
 (.seq
 (.block 1
 (.seq
 (.reg [
 ⟨(some 12), .mv (.tmp 0), none, []⟩,
 ⟨(some 13), .mv (.tmp 5), none, []⟩,
 ⟨(some 14), .idxA 1 (.tmp 12) (.tmp 13), none, []⟩,
 ⟨(some 15), .ld none (.tmp 14), none, []⟩,
 ⟨(some 16), .mv (.tmp 1), none, []⟩,
 ⟨(some 17), .bin .eql (.tmp 15) (.tmp 16), none, []⟩])
 (.cond (.tmp 17)
 (.seq
 (.reg [
 ⟨(some 4), .mv (.val (.bool true)), none, []⟩])
 .ret)
 .skip)))
 (.reg [
 ⟨(some 10), .mv (.tmp 5), none, []⟩,
 ⟨(some 11), .bin .add (.tmp 10) (.val (.int .i64 1)), none, []⟩,
 ⟨(some 5), .mv (.tmp 11), none, []⟩]))))))
 (.seq
 (.reg [
 ⟨(some 4), .mv (.val (.bool false)), none, []⟩])
 .ret)))
def c_ridgewayref10_has : AF := ⟨b_ridgewayref10_has, 18, [.tmp 4]⟩
theorem p_ridgewayref10_has : prepFunc Try.prog 81 = some c_ridgewayref10_has ∧ hasBody Try.prog 81 = true := ⟨by kernel_rfl, by kernel_rfl⟩
def b_math_bits_Mul : AC :=
 (.seq
 (.reg [
 ⟨(some 4), .mv (.val (.int .u64 0)), none, []⟩,
 ⟨(some 5), .mv (.val (.int .u64 0)), none, []⟩])
 (.seq
 (.cond (.val (.bool false))
 (.seq
 (.reg [
 ⟨(some 11), .mv (.tmp 0), none, []⟩,
 ⟨(some 12), .conv .u32 (.tmp 11), none, []⟩,
 ⟨(some 13), .mv (.tmp 1), none, []⟩,
 ⟨(some 14), .conv .u32 (.tmp 13), none, []⟩,
 ⟨(some 15), .callS 96 [(.tmp 12), (.tmp 14)], none, []⟩,
 ⟨(some 10), .mv (.tmp 15), none, []⟩,
 ⟨(some 16), .ext (.tmp 10) 0, none, []⟩,
 ⟨(some 17), .ext (.tmp 10) 1, none, []⟩,
 ⟨(some 6), .mv (.tmp 16), none, []⟩,
 ⟨(some 7), .mv (.tmp 17), none, []⟩])
 (.seq
 (.reg [
 ⟨(some 18), .mv (.tmp 6), none, []⟩,
 ⟨(some 19), .conv .u64 (.tmp 18), none, []⟩,
 ⟨(some 20), .mv (.tmp 7), none, []⟩,
 ⟨(some 21), .conv .u64 (.tmp 20), none, []⟩,
 ⟨(some 4), .mv (.tmp 19), none, []⟩,
 ⟨(some 5), .mv (.tmp 21), none, []⟩])
 .ret))
 .skip)
 (.seq
 (.reg [
 ⟨(some 23), .mv (.tmp 0), none, []⟩,
 ⟨(some 24), .mv (.tmp 1), none, []⟩,
 ⟨(some 25), .callS 97 [(.tmp 23), (.tmp 24)], none, []⟩,
 ⟨(some 22), .mv (.tmp 25), none, []⟩,
 ⟨(some 26), .ext (.tmp 22) 0, none, []⟩,
 ⟨(some 27), .ext (.tmp 22) 1, none, []⟩,
 ⟨(some 8), .mv (.tmp 26), none, []⟩,
 ⟨(some 9), .mv (.tmp 27), none, []⟩])
 (.seq
 (.reg [
 ⟨(some 28), .mv (.tmp 8), none, []⟩,
 ⟨(some 29), .mv (.tmp 9), none, []⟩,
 ⟨(some 4), .mv (.tmp 28), none, []⟩,
 ⟨(some 5), .mv (.tmp 29), none, []⟩])
 .ret))))
def c_math_bits_Mul : AF := ⟨b_math_bits_Mul, 30, [.tmp 4, .tmp 5]⟩
theorem p_math_bits_Mul : prepFunc Try.prog 82 = some c_math_bits_Mul ∧ hasBody Try.prog 82 = true := ⟨by kernel_rfl, by kernel_rfl⟩
def b_slices_Index___api_Prefix_api_Prefix : AC :=
 (.seq
 (.reg [
 ⟨(some 3), .box 27 2 (.tmp 1), none, []⟩,
 ⟨(some 4), .mv (.val (.int .i64 0)), none, []⟩])
 (.seq
 (.seq
 (.reg [
 ⟨(some 6), .mv (.tmp 0), none, []⟩,
 ⟨(some 7), .len (.tmp 6), none, []⟩,
 ⟨(some 8), .mv (.val (.int .i64 0)), none, []⟩])
 (.block 0
 (.loop
 (.seq
 (.reg [
 ⟨(some 9), .bin .lss (.tmp 8) (.tmp 7), none, []⟩])
 (.seq
 (.cond (.tmp 9)
 .skip
 (.exit 0))
 (.seq
 (.block 1
 (.seq
 (.reg [
 ⟨(some 10), .mv (.tmp 8), none, []⟩,
 ⟨(some 5), .mv (.tmp 10), none, []⟩])
 (.seq
 (.reg [
 ⟨(some 11), .ld (some 2) (.tmp 3), none, []⟩,
 ⟨(some 12), .mv (.tmp 0), none, []⟩,
 ⟨(some 13), .mv (.tmp 5), none, []⟩,
 ⟨(some 14), .idxA 2 (.tmp 12) (.tmp 13), none, []⟩,
 ⟨(some 15), .ld (some 2) (.tmp 14), none, []⟩,
 ⟨(some 16), .eqA false 2 [(0, 0), (1, 0)] (.tmp 11) (.tmp 15), none, []⟩])
 (.cond (.tmp 16)
 (.seq
 (.reg [
 ⟨(some 17), .mv (.tmp 5), none, []⟩,
 ⟨(some 4), .mv (.tmp 17), none, []⟩])
 .ret)
 .skip))))
 (.reg [
 ⟨(some 18), .bin .add (.tmp 8) (.val (.int .i64 1)), none, []⟩,
 ⟨(some 8), .mv (.tmp 18), none, []⟩])))))))
 (.seq
 (.reg [
 ⟨(some 4), .mv (.val (.int .i64 (-1))), none, []⟩])
 .ret)))
def c_slices_Index___api_Prefix_api_Prefix : AF := ⟨b_slices_Index___api_Prefix_api_Prefix, 19, [.tmp 4]⟩
theorem p_slices_Index___api_Prefix_api_Prefix : prepFunc Try.prog 85 = some c_slices_Index___api_Prefix_api_Prefix ∧ hasBody Try.prog 85 = true := ⟨by kernel_rfl, by kernel_rfl⟩
def b_slices_ContainsFunc___api_Side_api_Side : AC :=
 (.seq
 (.reg [
 ⟨(some 4), .mv (.val (.bool false)), none, []⟩])
 (.seq
 (.reg [
 ⟨(some 5), .mv (.tmp 0), none, []⟩,
 ⟨(some 6), .mv (.tmp 1), none, []⟩,
 ⟨(some 7), .callS 99 [(.tmp 5), (.tmp 6)], none, []⟩,
 ⟨(some 8), .bin .geq (.tmp 7) (.val (.int .i64 0)), none, []⟩,
 ⟨(some 4), .mv (.tmp 8), none, []⟩])
 .ret))
def c_slices_ContainsFunc___api_Side_api_Side : AF := ⟨b_slices_ContainsFunc___api_Side_api_Side, 9, [.tmp 4]⟩
theorem p_slices_ContainsFunc___api_Side_api_Side : prepFunc Try.prog 86 = some c_slices_ContainsFunc___api_Side_api_Side ∧ hasBody Try.prog 86 = true := ⟨by kernel_rfl, by kernel_rfl⟩
def b_conf_taken_1 : AC :=
 (.seq
 (.reg [
 ⟨(some 2), .box 47 4 (.tmp 0), none, []⟩,
 ⟨(some 3), .mv (.val (.bool false)), none, []⟩])
 (.seq
 (.reg [
 ⟨(some 4), .off 0 (.tmp 2), none, []⟩,
 ⟨(some 5), .ld none (.tmp 4), none, []⟩,
 ⟨(some 6), .ld none (.tmp 1), none, []⟩,
 ⟨(some 7), .bin .eql (.tmp 5) (.tmp 6), none, []⟩,
 ⟨(some 3), .mv (.tmp 7), none, []⟩])
 .ret))
def c_conf_taken_1 : AF := ⟨b_conf_taken_1, 8, [.tmp 3]⟩
theorem p_conf_taken_1 : prepFunc Try.prog 87 = some c_conf_taken_1 ∧ hasBody Try.prog 87 = true := ⟨by kernel_rfl, by kernel_rfl⟩
def b_policy_Sane : AC :=
 (.seq
 (.reg [
 ⟨(some 2), .box 55 6 (.tmp 0), none, []⟩,
 ⟨(some 4), .mv (.val (.bool false)), none, []⟩])
 (.seq
 (.reg [
 ⟨(some 5), .ld (some 6) (.tmp 2), none, []⟩,
 ⟨(some 6), .mv (.tmp 1), none, []⟩,
 ⟨(some 7), .callS 100 [(.tmp 5), (.tmp 6)], none, []⟩,
 ⟨(some 8), .mv (.tmp 7), none, []⟩,
 ⟨(some 9), .ld (some 6) (.tmp 2), some (8, true), []⟩,
 ⟨(some 10), .mv (.tmp 1), some (8, true), []⟩,
 ⟨(some 11), .callS 101 [(.tmp 9), (.tmp 10)], some (8, true), []⟩,
 ⟨(some 12), .pick (.tmp 8) (.tmp 11) (.val (.bool false)), none, []⟩,
 ⟨(some 4), .mv (.tmp 12), none, []⟩])
 .ret))
def c_policy_Sane : AF := ⟨b_policy_Sane, 13, [.tmp 4]⟩
theorem p_policy_Sane : prepFunc Try.prog 88 = some c_policy_Sane ∧ hasBody Try.prog 88 = true := ⟨by kernel_rfl, by kernel_rfl⟩
def b_policy_fits_1 : AC :=
 (.seq
 (.reg [
 ⟨(some 2), .box 55 6 (.tmp 0), none, []⟩,
 ⟨(some 3), .box 59 4 (.tmp 1), none, []⟩,
 ⟨(some 4), .mv (.val (.bool false)), none, []⟩])
 (.seq
 (.reg [
 ⟨(some 4), .mv (.val (.bool true)), none, []⟩])
 .ret))
def c_policy_fits_1 : AF := ⟨b_policy_fits_1, 5, [.tmp 4]⟩
theorem p_policy_fits_1 : prepFunc Try.prog 89 = some c_policy_fits_1 ∧ hasBody Try.prog 89 = true := ⟨by kernel_rfl, by kernel_rfl⟩
def b_policy_fits_2 : AC :=
 (.seq
 (.reg [
 ⟨(some 2), .box 55 6 (.tmp 0), none, []⟩,
 ⟨(some 3), .box 59 4 (.tmp 1), none, []⟩,
 ⟨(some 4), .mv (.val (.bool false)), none, []⟩])
 (.seq
 (.reg [
 ⟨(some 5), .off 1 (.tmp 2), none, []⟩,
 ⟨(some 6), .ld (some 2) (.tmp 5), none, []⟩,
 ⟨(some 7), .off 0 (.tmp 3), none, []⟩,
 ⟨(some 8), .ld (some 2) (.tmp 7), none, []⟩,
 ⟨(some 9), .callS 91 [(.tmp 6), (.tmp 8)], none, []⟩,
 ⟨(some 4), .mv (.tmp 9), none, []⟩])
 .ret))
def c_policy_fits_2 : AF := ⟨b_policy_fits_2, 10, [.tmp 4]⟩
theorem p_policy_fits_2 : prepFunc Try.prog 90 = some c_policy_fits_2 ∧ hasBody Try.prog 90 = true := ⟨by kernel_rfl, by kernel_rfl⟩
def b_prefix_Has : AC :=
 (.seq
 (.reg [
 ⟨(some 2), .box 27 2 (.tmp 0), none, []⟩,
 ⟨(some 3), .box 27 2 (.tmp 1), none, []⟩,
 ⟨(some 4), .mv (.val (.bool false)), none, []⟩])
 (.seq
 (.reg [
 ⟨(some 5), .ld (some 2) (.tmp 2), none, []⟩,
 ⟨(some 6), .call 58 [(.tmp 5)], none, []⟩,
 ⟨(some 7), .mv (.tmp 6), none, []⟩,
 ⟨(some 8), .ld (some 2) (.tmp 3), some (7, true), []⟩,
 ⟨(some 9), .call 58 [(.tmp 8)], some (7, true), []⟩,
 ⟨(some 10), .pick (.tmp 7) (.tmp 9) (.val (.bool false)), none, []⟩,
 ⟨(some 11), .mv (.tmp 10), none, []⟩,
 ⟨(some 12), .off 1 (.tmp 3), some (11, true), []⟩,
 ⟨(some 13), .ld none (.tmp 12), some (11, true), []⟩,
 ⟨(some 14), .off 1 (.tmp 2), some (11, true), []⟩,
 ⟨(some 15), .ld none (.tmp 14), some (11, true), []⟩,
 ⟨(some 16), .bin .geq (.tmp 13) (.tmp 15), some (11, true), []⟩,
 ⟨(some 17), .pick (.tmp 11) (.tmp 16) (.val (.bool false)), none, []⟩,
 ⟨(some 18), .mv (.tmp 17), none, []⟩,
 ⟨(some 19), .off 0 (.tmp 3), some (18, true), []⟩,
 ⟨(some 20), .ld none (.tmp 19), some (18, true), []⟩,
 ⟨(some 21), .off 1 (.tmp 2), some (18, true), []⟩,
 ⟨(some 22), .ld none (.tmp 21), some (18, true), []⟩,
 ⟨(some 23), .call 77 [(.tmp 20), (.tmp 22)], some (18, true), []⟩,
 ⟨(some 24), .off 0 (.tmp 2), some (18, true), []⟩,
 ⟨(some 25), .ld none (.tmp 24), some (18, true), []⟩,
 ⟨(some 26), .bin .eql (.tmp 23) (.tmp 25), some (18, true), []⟩,
 ⟨(some 27), .pick (.tmp 18) (.tmp 26) (.val (.bool false)), none, []⟩,
 ⟨(some 4), .mv (.tmp 27), none, []⟩])
 .ret))
def c_prefix_Has : AF := ⟨b_prefix_Has, 28, [.tmp 4]⟩
theorem p_prefix_Has : prepFunc Try.prog 91 = some c_prefix_Has ∧ hasBody Try.prog 91 = true := ⟨by kernel_rfl, by kernel_rfl⟩
def b_policy_fits_3 : AC :=
 (.seq
 (.reg [
 ⟨(some 2), .box 55 6 (.tmp 0), none, []⟩,
 ⟨(some 3), .box 59 4 (.tmp 1), none, []⟩,
 ⟨(some 4), .mv (.val (.bool false)), none, []⟩])
 (.seq
 (.reg [
 ⟨(some 5), .off 2 (.tmp 3), none, []⟩,
 ⟨(some 6), .ld none (.tmp 5), none, []⟩,
 ⟨(some 7), .off 3 (.tmp 2), none, []⟩,
 ⟨(some 8), .ld none (.tmp 7), none, []⟩,
 ⟨(some 9), .callS 31 [(.tmp 6), (.tmp 8)], none, []⟩,
 ⟨(some 4), .mv (.tmp 9), none, []⟩])
 .ret))
def c_policy_fits_3 : AF := ⟨b_policy_fits_3, 10, [.tmp 4]⟩
theorem p_policy_fits_3 : prepFunc Try.prog 92 = some c_policy_fits_3 ∧ hasBody Try.prog 92 = true := ⟨by kernel_rfl, by kernel_rfl⟩
def b_policy_fits_4 : AC :=
 (.seq
 (.reg [
 ⟨(some 2), .box 55 6 (.tmp 0), none, []⟩,
 ⟨(some 3), .box 59 4 (.tmp 1), none, []⟩,
 ⟨(some 4), .mv (.val (.bool false)), none, []⟩])
 (.seq
 (.reg [
 ⟨(some 5), .off 2 (.tmp 3), none, []⟩,
 ⟨(some 6), .ld none (.tmp 5), none, []⟩,
 ⟨(some 7), .len (.tmp 6), none, []⟩,
 ⟨(some 8), .off 3 (.tmp 2), none, []⟩,
 ⟨(some 9), .ld none (.tmp 8), none, []⟩,
 ⟨(some 10), .bin .gtr (.tmp 7) (.tmp 9), none, []⟩,
 ⟨(some 4), .mv (.tmp 10), none, []⟩])
 .ret))
def c_policy_fits_4 : AF := ⟨b_policy_fits_4, 11, [.tmp 4]⟩
theorem p_policy_fits_4 : prepFunc Try.prog 93 = some c_policy_fits_4 ∧ hasBody Try.prog 93 = true := ⟨by kernel_rfl, by kernel_rfl⟩
def b_policy_fits_5 : AC :=
 (.seq
 (.reg [
 ⟨(some 2), .box 55 6 (.tmp 0), none, []⟩,
 ⟨(some 3), .box 59 4 (.tmp 1), none, []⟩,
 ⟨(some 4), .mv (.val (.bool false)), none, []⟩])
 (.seq
 (.reg [
 ⟨(some 5), .off 3 (.tmp 3), none, []⟩,
 ⟨(some 6), .ld none (.tmp 5), none, []⟩,
 ⟨(some 7), .off 3 (.tmp 2), none, []⟩,
 ⟨(some 8), .ld none (.tmp 7), none, []⟩,
 ⟨(some 9), .bin .eql (.tmp 6) (.tmp 8), none, []⟩,
 ⟨(some 4), .mv (.tmp 9), none, []⟩])
 .ret))
def c_policy_fits_5 : AF := ⟨b_policy_fits_5, 10, [.tmp 4]⟩
theorem p_policy_fits_5 : prepFunc Try.prog 94 = some c_policy_fits_5 ∧ hasBody Try.prog 94 = true := ⟨by kernel_rfl, by kernel_rfl⟩
def b_ridgewayref10_Sane : AC :=
 (.seq
 (.reg [
 ⟨(some 2), .box 55 6 (.tmp 0), none, []⟩,
 ⟨(some 4), .mv (.val (.bool false)), none, []⟩])
 (.seq
 (.seq
 (.reg [
 ⟨(some 5), .ld (some 6) (.tmp 2), none, []⟩,
 ⟨(some 6), .callS 102 [(.tmp 5)], none, []⟩,
 ⟨(some 7), .un .not (.tmp 6), none, []⟩,
 ⟨(some 8), .mv (.tmp 7), none, []⟩,
 ⟨(some 9), .mv (.tmp 1), some (8, false), []⟩,
 ⟨(some 10), .mv (.tmp 9), some (8, false), []⟩,
 ⟨(some 11), .off 0 (.tmp 2), some (10, true), []⟩,
 ⟨(some 12), .ld none (.tmp 11), some (10, true), []⟩,
 ⟨(some 13), .bin .eql (.tmp 12) (.val (.int .i64 4)), some (10, true), []⟩,
 ⟨(some 14), .pick (.tmp 10) (.tmp 13) (.val (.bool false)), some (8, false), []⟩,
 ⟨(some 15), .pick (.tmp 8) (.val (.bool true)) (.tmp 14), none, []⟩])
 (.cond (.tmp 15)
 (.seq
 (.reg [
 ⟨(some 4), .mv (.val (.bool false)), none, []⟩])
 .ret)
 .skip))
 (.seq
 (.seq
 (.reg [
 ⟨(some 16), .off 4 (.tmp 2), none, []⟩,
 ⟨(some 17), .ld none (.tmp 16), none, []⟩])
 (.block 0
 (.seq
 (.reg [
 ⟨(some 19), .bin .eql (.tmp 17) (.val (.int .i64 0)), none, []⟩,
 ⟨(some 18), .mv (.tmp 19), none, []⟩])
 (.cond (.tmp 18)
 (.seq
 (.reg [
 ⟨(some 20), .off 5 (.tmp 2), none, []⟩,
 ⟨(some 21), .ld none (.tmp 20), none, []⟩,
 ⟨(some 22), .bin .eql (.tmp 21) (.val (.int .i64 0)), none, []⟩,
 ⟨(some 4), .mv (.tmp 22), none, []⟩])
 .ret)
 (.seq
 (.reg [
 ⟨(some 24), .bin .eql (.tmp 17) (.val (.int .i64 1)), none, []⟩,
 ⟨(some 23), .mv (.tmp 24), none, []⟩])
 (.cond (.tmp 23)
 (.seq
 (.reg [
 ⟨(some 25), .mv (.tmp 1), none, []⟩,
 ⟨(some 26), .un .not (.tmp 25), none, []⟩,
 ⟨(some 27), .mv (.tmp 26), none, []⟩,
 ⟨(some 28), .off 5 (.tmp 2), some (27, true), []⟩,
 ⟨(some 29), .ld none (.tmp 28), some (27, true), []⟩,
 ⟨(some 30), .bin .eql (.tmp 29) (.val (.int .i64 0)), some (27, true), []⟩,
 ⟨(some 31), .pick (.tmp 27) (.tmp 30) (.val (.bool false)), none, []⟩,
 ⟨(some 4), .mv (.tmp 31), none, []⟩])
 .ret)
 (.seq
 (.reg [
 ⟨(some 33), .bin .eql (.tmp 17) (.val (.int .i64 2)), none, []⟩,
 ⟨(some 32), .mv (.tmp 33), none, []⟩])
 (.cond (.tmp 32)
 (.seq
 (.reg [
 ⟨(some 34), .mv (.tmp 1), none, []⟩,
 ⟨(some 35), .mv (.tmp 34), none, []⟩,
 ⟨(some 36), .off 5 (.tmp 2), some (35, true), []⟩,
 ⟨(some 37), .ld none (.tmp 36), some (35, true), []⟩,
 ⟨(some 38), .bin .geq (.tmp 37) (.val (.int .i64 1)), some (35, true), []⟩,
 ⟨(some 39), .pick (.tmp 35) (.tmp 38) (.val (.bool false)), none, []⟩,
 ⟨(some 40), .mv (.tmp 39), none, []⟩,
 ⟨(some 41), .off 5 (.tmp 2), some (40, true), []⟩,
 ⟨(some 42), .ld none (.tmp 41), some (40, true), []⟩,
 ⟨(some 43), .bin .leq (.tmp 42) (.val (.int .i64 399)), some (40, true), []⟩,
 ⟨(some 44), .pick (.tmp 40) (.tmp 43) (.val (.bool false)), none, []⟩,
 ⟨(some 4), .mv (.tmp 44), none, []⟩])
 .ret)
 (.seq
 (.reg [
 ⟨(some 46), .bin .eql (.tmp 17) (.val (.int .i64 3)), none, []⟩,
 ⟨(some 45), .mv (.tmp 46), none, []⟩])
 (.cond (.tmp 45)
 (.seq
 (.reg [
 ⟨(some 47), .mv (.tmp 1), none, []⟩,
 ⟨(some 48), .un .not (.tmp 47), none, []⟩,
 ⟨(some 49), .mv (.tmp 48), none, []⟩,
 ⟨(some 50), .off 5 (.tmp 2), some (49, true), []⟩,
 ⟨(some 51), .ld none (.tmp 50), some (49, true), []⟩,
 ⟨(some 52), .bin .geq (.tmp 51) (.val (.int .i64 1)), some (49, true), []⟩,
 ⟨(some 53), .pick (.tmp 49) (.tmp 52) (.val (.bool false)), none, []⟩,
 ⟨(some 54), .mv (.tmp 53), none, []⟩,
 ⟨(some 55), .off 5 (.tmp 2), some (54, true), []⟩,
 ⟨(some 56), .ld none (.tmp 55), some (54, true), []⟩,
 ⟨(some 57), .bin .leq (.tmp 56) (.val (.int .i64 8)), some (54, true), []⟩,
 ⟨(some 58), .pick (.tmp 54) (.tmp 57) (.val (.bool false)), none, []⟩,
 ⟨(some 4), .mv (.tmp 58), none, []⟩])
 .ret)
 .skip))))))))))
 (.seq
 (.reg [
 ⟨(some 4), .mv (.val (.bool false)), none, []⟩])
 .ret))))
def c_ridgewayref10_Sane : AF := ⟨b_ridgewayref10_Sane, 59, [.tmp 4]⟩
theorem p_ridgewayref10_Sane : prepFunc Try.prog 95 = some c_ridgewayref10_Sane ∧ hasBody Try.prog 95 = true := ⟨by kernel_rfl, by kernel_rfl⟩
def b_math_bits_Mul32 : AC :=
 (.seq
 (.reg [
 ⟨(some 4), .mv (.val (.int .u32 0)), none, []⟩,
 ⟨(some 5), .mv (.val (.int .u32 0)), none, []⟩])
 (.seq
 (.reg [
 ⟨(some 7), .mv (.tmp 0), none, []⟩,
 ⟨(some 8), .conv .u64 (.tmp 7), none, []⟩,
 ⟨(some 9), .mv (.tmp 1), none, []⟩,
 ⟨(some 10), .conv .u64 (.tmp 9), none, []⟩,
 ⟨(some 11), .bin .mul (.tmp 8) (.tmp 10), none, []⟩,
 ⟨(some 6), .mv (.tmp 11), none, []⟩])
 (.seq
 (.reg [
 ⟨(some 12), .mv (.tmp 6), none, []⟩,
 ⟨(some 13), .bin .shr (.tmp 12) (.val (.int .u64 32)), none, []⟩,
 ⟨(some 14), .conv .u32 (.tmp 13), none, []⟩,
 ⟨(some 15), .mv (.tmp 6), none, []⟩,
 ⟨(some 16), .conv .u32 (.tmp 15), none, []⟩,
 ⟨(some 4), .mv (.tmp 14), none, []⟩,
 ⟨(some 5), .mv (.tmp 16), none, []⟩])
 .ret)))
def c_math_bits_Mul32 : AF := ⟨b_math_bits_Mul32, 17, [.tmp 4, .tmp 5]⟩
theorem p_math_bits_Mul32 : prepFunc Try.prog 96 = some c_math_bits_Mul32 ∧ hasBody Try.prog 96 = true := ⟨by kernel_rfl, by kernel_rfl⟩
def b_math_bits_Mul64 : AC :=
 (.seq
 (.reg [
 ⟨(some 4), .mv (.val (.int .u64 0)), none, []⟩,
 ⟨(some 5), .mv (.val (.int .u64 0)), none, []⟩])
 (.seq
 (.reg [
 ⟨(some 14), .mv (.tmp 0), none, []⟩,
 ⟨(some 15), .bin .and (.tmp 14) (.val (.int .u64 4294967295)), none, []⟩,
 ⟨(some 6), .mv (.tmp 15), none, []⟩])
 (.seq
 (.reg [
 ⟨(some 16), .mv (.tmp 0), none, []⟩,
 ⟨(some 17), .bin .shr (.tmp 16) (.val (.int .u64 32)), none, []⟩,
 ⟨(some 7), .mv (.tmp 17), none, []⟩])
 (.seq
 (.reg [
 ⟨(some 18), .mv (.tmp 1), none, []⟩,
 ⟨(some 19), .bin .and (.tmp 18) (.val (.int .u64 4294967295)), none, []⟩,
 ⟨(some 8), .mv (.tmp 19), none, []⟩])
 (.seq
 (.reg [
 ⟨(some 20), .mv (.tmp 1), none, []⟩,
 ⟨(some 21), .bin .shr (.tmp 20) (.val (.int .u64 32)), none, []⟩,
 ⟨(some 9), .mv (.tmp 21), none, []⟩])
 (.seq
 (.reg [
 ⟨(some 22), .mv (.tmp 6), none, []⟩,
 ⟨(some 23), .mv (.tmp 8), none, []⟩,
 ⟨(some 24), .bin .mul (.tmp 22) (.tmp 23), none, []⟩,
 ⟨(some 10), .mv (.tmp 24), none, []⟩])
 (.seq
 (.reg [
 ⟨(some 25), .mv (.tmp 7), none, []⟩,
 ⟨(some 26), .mv (.tmp 8), none, []⟩,
 ⟨(some 27), .bin .mul (.tmp 25) (.tmp 26), none, []⟩,
 ⟨(some 28), .mv (.tmp 10), none, []⟩,
 ⟨(some 29), .bin .shr (.tmp 28) (.val (.int .u64 32)), none, []⟩,
 ⟨(some 30), .bin .add (.tmp 27) (.tmp 29), none, []⟩,
 ⟨(some 11), .mv (.tmp 30), none, []⟩])
 (.seq
 (.reg [
 ⟨(some 31), .mv (.tmp 11), none, []⟩,
 ⟨(some 32), .bin .and (.tmp 31) (.val (.int .u64 4294967295)), none, []⟩,
 ⟨(some 12), .mv (.tmp 32), none, []⟩])
 (.seq
 (.reg [
 ⟨(some 33), .mv (.tmp 11), none, []⟩,
 ⟨(some 34), .bin .shr (.tmp 33) (.val (.int .u64 32)), none, []⟩,
 ⟨(some 13), .mv (.tmp 34), none, []⟩])
 (.seq
 (.reg [
 ⟨(some 35), .mv (.tmp 12), none, []⟩,
 ⟨(some 36), .mv (.tmp 6), none, []⟩,
 ⟨(some 37), .mv (.tmp 9), none, []⟩,
 ⟨(some 38), .bin .mul (.tmp 36) (.tmp 37), none, []⟩,
 ⟨(some 39), .bin .add (.tmp 35) (.tmp 38), none, []⟩,
 ⟨(some 12), .mv (.tmp 39), none, []⟩])
 (.seq
 (.reg [
 ⟨(some 40), .mv (.tmp 7), none, []⟩,
 ⟨(some 41), .mv (.tmp 9), none, []⟩,
 ⟨(some 42), .bin .mul (.tmp 40) (.tmp 41), none, []⟩,
 ⟨(some 43), .mv (.tmp 13), none, []⟩,
 ⟨(some 44), .bin .add (.tmp 42) (.tmp 43), none, []⟩,
 ⟨(some 45), .mv (.tmp 12), none, []⟩,
 ⟨(some 46), .bin .shr (.tmp 45) (.val (.int .u64 32)), none, []⟩,
 ⟨(some 47), .bin .add (.tmp 44) (.tmp 46), none, []⟩,
 ⟨(some 4), .mv (.tmp 47), none, []⟩])
 (.seq
 (.reg [
 ⟨(some 48), .mv (.tmp 0), none, []⟩,
 ⟨(some 49), .mv (.tmp 1), none, []⟩,
 ⟨(some 50), .bin .mul (.tmp 48) (.tmp 49), none, []⟩,
 ⟨(some 5), .mv (.tmp 50), none, []⟩])
 .ret))))))))))))
def c_math_bits_Mul64 : AF := ⟨b_math_bits_Mul64, 51, [.tmp 4, .tmp 5]⟩
theorem p_math_bits_Mul64 : prepFunc Try.prog 97 = some c_math_bits_Mul64 ∧ hasBody Try.prog 97 = true := ⟨by kernel_rfl, by kernel_rfl⟩
def b_slices_IndexFunc___api_Side_api_Side : AC :=
 (.seq
 (.reg [
 ⟨(some 4), .mv (.val (.int .i64 0)), none, []⟩])
 (.seq
 (.seq
 (.reg [
 ⟨(some 6), .mv (.tmp 0), none, []⟩,
 ⟨(some 7), .len (.tmp 6), none, []⟩,
 ⟨(some 8), .mv (.val (.int .i64 0)), none, []⟩])
 (.block 0
 (.loop
 (.seq
 (.reg [
 ⟨(some 9), .bin .lss (.tmp 8) (.tmp 7), none, []⟩])
 (.seq
 (.cond (.tmp 9)
 .skip
 (.exit 0))
 (.seq
 (.block 1
 (.seq
 (.reg [
 ⟨(some 10), .mv (.tmp 8), none, []⟩,
 ⟨(some 5), .mv (.tmp 10), none, []⟩])
 (.seq
 (.reg [
 ⟨(some 11), .mv (.tmp 1), none, []⟩,
 ⟨(some 12), .mv (.tmp 0), none, []⟩,
 ⟨(some 13), .mv (.tmp 5), none, []⟩,
 ⟨(some 14), .idxA 4 (.tmp 12) (.tmp 13), none, []⟩,
 ⟨(some 15), .ld (some 4) (.tmp 14), none, []⟩,
 ⟨(some 16), .callvS (.tmp 11) [(.tmp 15)], none, []⟩])
 (.cond (.tmp 16)
 (.seq
 (.reg [
 ⟨(some 17), .mv (.tmp 5), none, []⟩,
 ⟨(some 4), .mv (.tmp 17), none, []⟩])
 .ret)
 .skip))))
 (.reg [
 ⟨(some 18), .bin .add (.tmp 8) (.val (.int .i64 1)), none, []⟩,
 ⟨(some 8), .mv (.tmp 18), none, []⟩])))))))
 (.seq
 (.reg [
 ⟨(some 4), .mv (.val (.int .i64 (-1))), none, []⟩])
 .ret)))
def c_slices_IndexFunc___api_Side_api_Side : AF := ⟨b_slices_IndexFunc___api_Side_api_Side, 19, [.tmp 4]⟩
theorem p_slices_IndexFunc___api_Side_api_Side : prepFunc Try.prog 99 = some c_slices_IndexFunc___api_Side_api_Side ∧ hasBody Try.prog 99 = true := ⟨by kernel_rfl, by kernel_rfl⟩
def b_policy_saneMatch : AC :=
 (.seq
 (.reg [
 ⟨(some 2), .box 55 6 (.tmp 0), none, []⟩,
 ⟨(some 4), .mv (.val (.bool false)), none, []⟩])
 (.seq
 (.seq
 (.reg [
 ⟨(some 5), .off 0 (.tmp 2), none, []⟩,
 ⟨(some 6), .ld none (.tmp 5), none, []⟩,
 ⟨(some 7), .bin .eql (.tmp 6) (.val (.int .i64 1)), none, []⟩])
 (.cond (.tmp 7)
 (.seq
 (.reg [
 ⟨(some 8), .off 1 (.tmp 2), none, []⟩,
 ⟨(some 9), .ld (some 2) (.tmp 8), none, []⟩,
 ⟨(some 10), .callS 58 [(.tmp 9)], none, []⟩,
 ⟨(some 11), .mv (.tmp 10), none, []⟩,
 ⟨(some 12), .off 3 (.tmp 2), some (11, true), []⟩,
 ⟨(some 13), .ld none (.tmp 12), some (11, true), []⟩,
 ⟨(some 14), .bin .eql (.tmp 13) (.val (.int .i64 0)), some (11, true), []⟩,
 ⟨(some 15), .pick (.tmp 11) (.tmp 14) (.val (.bool false)), none, []⟩,
 ⟨(some 4), .mv (.tmp 15), none, []⟩])
 .ret)
 .skip))
 (.seq
 (.seq
 (.reg [
 ⟨(some 16), .off 1 (.tmp 2), none, []⟩,
 ⟨(some 17), .ld (some 2) (.tmp 16), none, []⟩,
 ⟨(some 18), .bld [(.int .i64 0), (.int .i64 0)] [], none, []⟩,
 ⟨(some 19), .eqA true 2 [(0, 0), (1, 0)] (.tmp 17) (.tmp 18), none, []⟩])
 (.cond (.tmp 19)
 (.seq
 (.reg [
 ⟨(some 4), .mv (.val (.bool false)), none, []⟩])
 .ret)
 .skip))
 (.seq
 (.seq
 (.reg [
 ⟨(some 20), .off 0 (.tmp 2), none, []⟩,
 ⟨(some 21), .ld none (.tmp 20), none, []⟩])
 (.block 0
 (.seq
 (.reg [
 ⟨(some 23), .bin .eql (.tmp 21) (.val (.int .i64 0)), none, []⟩,
 ⟨(some 22), .mv (.tmp 23), none, []⟩])
 (.cond (.tmp 22)
 (.seq
 (.reg [
 ⟨(some 24), .off 3 (.tmp 2), none, []⟩,
 ⟨(some 25), .ld none (.tmp 24), none, []⟩,
 ⟨(some 26), .bin .eql (.tmp 25) (.val (.int .i64 0)), none, []⟩,
 ⟨(some 4), .mv (.tmp 26), none, []⟩])
 .ret)
 (.seq
 (.reg [
 ⟨(some 28), .bin .eql (.tmp 21) (.val (.int .i64 2)), none, []⟩,
 ⟨(some 27), .mv (.tmp 28), none, []⟩])
 (.cond (.tmp 27)
 (.seq
 (.reg [
 ⟨(some 29), .off 3 (.tmp 2), none, []⟩,
 ⟨(some 30), .ld none (.tmp 29), none, []⟩,
 ⟨(some 31), .bin .geq (.tmp 30) (.val (.int .i64 1)), none, []⟩,
 ⟨(some 32), .mv (.tmp 31), none, []⟩,
 ⟨(some 33), .off 3 (.tmp 2), some (32, true), []⟩,
 ⟨(some 34), .ld none (.tmp 33), some (32, true), []⟩,
 ⟨(some 35), .bin .leq (.tmp 34) (.val (.int .i64 4294967295)), some (32, true), []⟩,
 ⟨(some 36), .pick (.tmp 32) (.tmp 35) (.val (.bool false)), none, []⟩,
 ⟨(some 4), .mv (.tmp 36), none, []⟩])
 .ret)
 (.seq
 (.reg [
 ⟨(some 38), .bin .eql (.tmp 21) (.val (.int .i64 3)), none, []⟩,
 ⟨(some 37), .mv (.tmp 38), none, []⟩])
 (.cond (.tmp 37)
 (.seq
 (.reg [
 ⟨(some 39), .off 3 (.tmp 2), none, []⟩,
 ⟨(some 40), .ld none (.tmp 39), none, []⟩,
 ⟨(some 41), .bin .geq (.tmp 40) (.val (.int .i64 0)), none, []⟩,
 ⟨(some 42), .mv (.tmp 41), none, []⟩,
 ⟨(some 43), .off 3 (.tmp 2), some (42, true), []⟩,
 ⟨(some 44), .ld none (.tmp 43), some (42, true), []⟩,
 ⟨(some 45), .bin .leq (.tmp 44) (.val (.int .i64 32)), some (42, true), []⟩,
 ⟨(some 46), .pick (.tmp 42) (.tmp 45) (.val (.bool false)), none, []⟩,
 ⟨(some 4), .mv (.tmp 46), none, []⟩])
 .ret)
 (.seq
 (.reg [
 ⟨(some 48), .bin .eql (.tmp 21) (.val (.int .i64 4)), none, []⟩,
 ⟨(some 47), .mv (.tmp 48), none, []⟩])
 (.cond (.tmp 47)
 (.seq
 (.reg [
 ⟨(some 49), .mv (.tmp 1), none, []⟩,
 ⟨(some 50), .un .not (.tmp 49), none, []⟩,
 ⟨(some 51), .mv (.tmp 50), none, []⟩,
 ⟨(some 52), .off 3 (.tmp 2), some (51, true), []⟩,
 ⟨(some 53), .ld none (.tmp 52), some (51, true), []⟩,
 ⟨(some 54), .bin .geq (.tmp 53) (.val (.int .i64 0)), some (51, true), []⟩,
 ⟨(some 55), .pick (.tmp 51) (.tmp 54) (.val (.bool false)), none, []⟩,
 ⟨(some 56), .mv (.tmp 55), none, []⟩,
 ⟨(some 57), .off 3 (.tmp 2), some (56, true), []⟩,
 ⟨(some 58), .ld none (.tmp 57), some (56, true), []⟩,
 ⟨(some 59), .bin .leq (.tmp 58) (.val (.int .i64 3)), some (56, true), []⟩,
 ⟨(some 60), .pick (.tmp 56) (.tmp 59) (.val (.bool false)), none, []⟩,
 ⟨(some 4), .mv (.tmp 60), none, []⟩])
 .ret)
 .skip))))))))))
 (.seq
 (.reg [
 ⟨(some 4), .mv (.val (.bool false)), none, []⟩])
 .ret)))))
def c_policy_saneMatch : AF := ⟨b_policy_saneMatch, 61, [.tmp 4]⟩
theorem p_policy_saneMatch : prepFunc Try.prog 100 = some c_policy_saneMatch ∧ hasBody Try.prog 100 = true := ⟨by kernel_rfl, by kernel_rfl⟩
def b_policy_saneAct : AC :=
 (.seq
 (.reg [
 ⟨(some 2), .box 55 6 (.tmp 0), none, []⟩,
 ⟨(some 4), .mv (.val (.bool false)), none, []⟩])
 (.seq
 (.seq
 (.reg [
 ⟨(some 5), .off 4 (.tmp 2), none, []⟩,
 ⟨(some 6), .ld none (.tmp 5), none, []⟩])
 (.block 0
 (.seq
 (.reg [
 ⟨(some 8), .bin .eql (.tmp 6) (.val (.int .i64 0)), none, []⟩,
 ⟨(some 7), .mv (.tmp 8), none, []⟩])
 (.cond (.tmp 7)
 (.seq
 (.reg [
 ⟨(some 9), .off 5 (.tmp 2), none, []⟩,
 ⟨(some 10), .ld none (.tmp 9), none, []⟩,
 ⟨(some 11), .bin .eql (.tmp 10) (.val (.int .i64 0)), none, []⟩,
 ⟨(some 4), .mv (.tmp 11), none, []⟩])
 .ret)
 (.seq
 (.reg [
 ⟨(some 13), .bin .eql (.tmp 6) (.val (.int .i64 1)), none, []⟩,
 ⟨(some 12), .mv (.tmp 13), none, []⟩])
 (.cond (.tmp 12)
 (.seq
 (.reg [
 ⟨(some 14), .mv (.tmp 1), none, []⟩,
 ⟨(some 15), .un .not (.tmp 14), none, []⟩,
 ⟨(some 16), .mv (.tmp 15), none, []⟩,
 ⟨(some 17), .off 5 (.tmp 2), some (16, true), []⟩,
 ⟨(some 18), .ld none (.tmp 17), some (16, true), []⟩,
 ⟨(some 19), .bin .eql (.tmp 18) (.val (.int .i64 0)), some (16, true), []⟩,
 ⟨(some 20), .pick (.tmp 16) (.tmp 19) (.val (.bool false)), none, []⟩,
 ⟨(some 4), .mv (.tmp 20), none, []⟩])
 .ret)
 (.seq
 (.reg [
 ⟨(some 22), .bin .eql (.tmp 6) (.val (.int .i64 2)), none, []⟩,
 ⟨(some 21), .mv (.tmp 22), none, []⟩])
 (.cond (.tmp 21)
 (.seq
 (.reg [
 ⟨(some 23), .mv (.tmp 1), none, []⟩,
 ⟨(some 24), .mv (.tmp 23), none, []⟩,
 ⟨(some 25), .off 5 (.tmp 2), some (24, true), []⟩,
 ⟨(some 26), .ld none (.tmp 25), some (24, true), []⟩,
 ⟨(some 27), .bin .geq (.tmp 26) (.val (.int .i64 1)), some (24, true), []⟩,
 ⟨(some 28), .pick (.tmp 24) (.tmp 27) (.val (.bool false)), none, []⟩,
 ⟨(some 29), .mv (.tmp 28), none, []⟩,
 ⟨(some 30), .off 5 (.tmp 2), some (29, true), []⟩,
 ⟨(some 31), .ld none (.tmp 30), some (29, true), []⟩,
 ⟨(some 32), .bin .lss (.tmp 31) (.val (.int .i64 400)), some (29, true), []⟩,
 ⟨(some 33), .pick (.tmp 29) (.tmp 32) (.val (.bool false)), none, []⟩,
 ⟨(some 4), .mv (.tmp 33), none, []⟩])
 .ret)
 (.seq
 (.reg [
 ⟨(some 35), .bin .eql (.tmp 6) (.val (.int .i64 3)), none, []⟩,
 ⟨(some 34), .mv (.tmp 35), none, []⟩])
 (.cond (.tmp 34)
 (.seq
 (.reg [
 ⟨(some 36), .mv (.tmp 1), none, []⟩,
 ⟨(some 37), .un .not (.tmp 36), none, []⟩,
 ⟨(some 38), .mv (.tmp 37), none, []⟩,
 ⟨(some 39), .off 5 (.tmp 2), some (38, true), []⟩,
 ⟨(some 40), .ld none (.tmp 39), some (38, true), []⟩,
 ⟨(some 41), .bin .geq (.tmp 40) (.val (.int .i64 1)), some (38, true), []⟩,
 ⟨(some 42), .pick (.tmp 38) (.tmp 41) (.val (.bool false)), none, []⟩,
 ⟨(some 43), .mv (.tmp 42), none, []⟩,
 ⟨(some 44), .off 5 (.tmp 2), some (43, true), []⟩,
 ⟨(some 45), .ld none (.tmp 44), some (43, true), []⟩,
 ⟨(some 46), .bin .leq (.tmp 45) (.val (.int .i64 8)), some (43, true), []⟩,
 ⟨(some 47), .pick (.tmp 43) (.tmp 46) (.val (.bool false)), none, []⟩,
 ⟨(some 4), .mv (.tmp 47), none, []⟩])
 .ret)
 .skip))))))))))
 (.seq
 (.reg [
 ⟨(some 4), .mv (.val (.bool false)), none, []⟩])
 .ret)))
def c_policy_saneAct : AF := ⟨b_policy_saneAct, 48, [.tmp 4]⟩
theorem p_policy_saneAct : prepFunc Try.prog 101 = some c_policy_saneAct ∧ hasBody Try.prog 101 = true := ⟨by kernel_rfl, by kernel_rfl⟩
def b_ridgewayref10_match : AC :=
 (.seq
 (.reg [
 ⟨(some 1), .box 55 6 (.tmp 0), none, []⟩,
 ⟨(some 2), .mv (.val (.bool false)), none, []⟩])
 (.seq
 (.reg [
 ⟨(some 4), .bld [(.int .i64 0), (.int .i64 0)] [], none, []⟩,
 ⟨(some 3), .box 27 2 (.val (.agg [(.int .i64 0), (.int .i64 0)])), none, []⟩,
 ⟨none, .st 2 (.tmp 3) (.tmp 4), none, []⟩])
 (.seq
 (.seq
 (.reg [
 ⟨(some 5), .off 0 (.tmp 1), none, []⟩,
 ⟨(some 6), .ld none (.tmp 5), none, []⟩])
 (.block 0
 (.seq
 (.reg [
 ⟨(some 8), .bin .eql (.tmp 6) (.val (.int .i64 0)), none, []⟩,
 ⟨(some 7), .mv (.tmp 8), none, []⟩])
 (.cond (.tmp 7)
 (.seq
 (.reg [
 ⟨(some 9), .off 1 (.tmp 1), none, []⟩,
 ⟨(some 10), .ld (some 2) (.tmp 9), none, []⟩,
 ⟨(some 11), .ld (some 2) (.tmp 3), none, []⟩,
 ⟨(some 12), .eqA false 2 [(0, 0), (1, 0)] (.tmp 10) (.tmp 11), none, []⟩,
 ⟨(some 13), .mv (.tmp 12), none, []⟩,
 ⟨(some 14), .off 3 (.tmp 1), some (13, true), []⟩,
 ⟨(some 15), .ld none (.tmp 14), some (13, true), []⟩,
 ⟨(some 16), .bin .eql (.tmp 15) (.val (.int .i64 0)), some (13, true), []⟩,
 ⟨(some 17), .pick (.tmp 13) (.tmp 16) (.val (.bool false)), none, []⟩,
 ⟨(some 2), .mv (.tmp 17), none, []⟩])
 .ret)
 (.seq
 (.reg [
 ⟨(some 19), .bin .eql (.tmp 6) (.val (.int .i64 1)), none, []⟩,
 ⟨(some 18), .mv (.tmp 19), none, []⟩])
 (.cond (.tmp 18)
 (.seq
 (.reg [
 ⟨(some 20), .off 1 (.tmp 1), none, []⟩,
 ⟨(some 21), .ld (some 2) (.tmp 20), none, []⟩,
 ⟨(some 22), .callS 38 [(.tmp 21)], none, []⟩,
 ⟨(some 23), .mv (.tmp 22), none, []⟩,
 ⟨(some 24), .off 3 (.tmp 1), some (23, true), []⟩,
 ⟨(some 25), .ld none (.tmp 24), some (23, true), []⟩,
 ⟨(some 26), .bin .eql (.tmp 25) (.val (.int .i64 0)), some (23, true), []⟩,
 ⟨(some 27), .pick (.tmp 23) (.tmp 26) (.val (.bool false)), none, []⟩,
 ⟨(some 2), .mv (.tmp 27), none, []⟩])
 .ret)
 (.seq
 (.reg [
 ⟨(some 29), .bin .eql (.tmp 6) (.val (.int .i64 2)), none, []⟩,
 ⟨(some 28), .mv (.tmp 29), none, []⟩])
 (.cond (.tmp 28)
 (.seq
 (.reg [
 ⟨(some 30), .off 1 (.tmp 1), none, []⟩,
 ⟨(some 31), .ld (some 2) (.tmp 30), none, []⟩,
 ⟨(some 32), .ld (some 2) (.tmp 3), none, []⟩,
 ⟨(some 33), .eqA false 2 [(0, 0), (1, 0)] (.tmp 31) (.tmp 32), none, []⟩,
 ⟨(some 34), .mv (.tmp 33), none, []⟩,
 ⟨(some 35), .off 3 (.tmp 1), some (34, true), []⟩,
 ⟨(some 36), .ld none (.tmp 35), some (34, true), []⟩,
 ⟨(some 37), .bin .geq (.tmp 36) (.val (.int .i64 1)), some (34, true), []⟩,
 ⟨(some 38), .pick (.tmp 34) (.tmp 37) (.val (.bool false)), none, []⟩,
 ⟨(some 39), .mv (.tmp 38), none, []⟩,
 ⟨(some 40), .off 3 (.tmp 1), some (39, true), []⟩,
 ⟨(some 41), .ld none (.tmp 40), some (39, true), []⟩,
 ⟨(some 42), .bin .leq (.tmp 41) (.val (.int .i64 4294967295)), some (39, true), []⟩,
 ⟨(some 43), .pick (.tmp 39) (.tmp 42) (.val (.bool false)), none, []⟩,
 ⟨(some 2), .mv (.tmp 43), none, []⟩])
 .ret)
 (.seq
 (.reg [
 ⟨(some 45), .bin .eql (.tmp 6) (.val (.int .i64 3)), none, []⟩,
 ⟨(some 44), .mv (.tmp 45), none, []⟩])
 (.cond (.tmp 44)
 (.seq
 (.reg [
 ⟨(some 46), .off 1 (.tmp 1), none, []⟩,
 ⟨(some 47), .ld (some 2) (.tmp 46), none, []⟩,
 ⟨(some 48), .ld (some 2) (.tmp 3), none, []⟩,
 ⟨(some 49), .eqA false 2 [(0, 0), (1, 0)] (.tmp 47) (.tmp 48), none, []⟩,
 ⟨(some 50), .mv (.tmp 49), none, []⟩,
 ⟨(some 51), .off 3 (.tmp 1), some (50, true), []⟩,
 ⟨(some 52), .ld none (.tmp 51), some (50, true), []⟩,
 ⟨(some 53), .bin .geq (.tmp 52) (.val (.int .i64 0)), some (50, true), []⟩,
 ⟨(some 54), .pick (.tmp 50) (.tmp 53) (.val (.bool false)), none, []⟩,
 ⟨(some 55), .mv (.tmp 54), none, []⟩,
 ⟨(some 56), .off 3 (.tmp 1), some (55, true), []⟩,
 ⟨(some 57), .ld none (.tmp 56), some (55, true), []⟩,
 ⟨(some 58), .bin .leq (.tmp 57) (.val (.int .i64 32)), some (55, true), []⟩,
 ⟨(some 59), .pick (.tmp 55) (.tmp 58) (.val (.bool false)), none, []⟩,
 ⟨(some 2), .mv (.tmp 59), none, []⟩])
 .ret)
 (.seq
 (.reg [
 ⟨(some 61), .bin .eql (.tmp 6) (.val (.int .i64 4)), none, []⟩,
 ⟨(some 60), .mv (.tmp 61), none, []⟩])
 (.cond (.tmp 60)
 (.seq
 (.reg [
 ⟨(some 62), .off 1 (.tmp 1), none, []⟩,
 ⟨(some 63), .ld (some 2) (.tmp 62), none, []⟩,
 ⟨(some 64), .ld (some 2) (.tmp 3), none, []⟩,
 ⟨(some 65), .eqA false 2 [(0, 0), (1, 0)] (.tmp 63) (.tmp 64), none, []⟩,
 ⟨(some 66), .mv (.tmp 65), none, []⟩,
 ⟨(some 67), .off 3 (.tmp 1), some (66, true), []⟩,
 ⟨(some 68), .ld none (.tmp 67), some (66, true), []⟩,
 ⟨(some 69), .bin .geq (.tmp 68) (.val (.int .i64 0)), some (66, true), []⟩,
 ⟨(some 70), .pick (.tmp 66) (.tmp 69) (.val (.bool false)), none, []⟩,
 ⟨(some 71), .mv (.tmp 70), none, []⟩,
 ⟨(some 72), .off 3 (.tmp 1), some (71, true), []⟩,
 ⟨(some 73), .ld none (.tmp 72), some (71, true), []⟩,
 ⟨(some 74), .bin .leq (.tmp 73) (.val (.int .i64 3)), some (71, true), []⟩,
 ⟨(some 75), .pick (.tmp 71) (.tmp 74) (.val (.bool false)), none, []⟩,
 ⟨(some 2), .mv (.tmp 75), none, []⟩])
 .ret)
 .skip))))))))))))
 (.seq
 (.reg [
 ⟨(some 2), .mv (.val (.bool false)), none, []⟩])
 .ret))))
def c_ridgewayref10_match : AF := ⟨b_ridgewayref10_match, 76, [.tmp 2]⟩
theorem p_ridgewayref10_match : prepFunc Try.prog 102 = some c_ridgewayref10_match ∧ hasBody Try.prog 102 = true := ⟨by kernel_rfl, by kernel_rfl⟩
def tab : Tab := [(3, c_ridgewaylaw14_EdgeIs), (9, c_ridgewaylaw14_awake), (10, c_ridgewaylaw14_short), (11, c_edge_In), (12, c_ridgewayref14_In), (13, c_edge_Out), (14, c_ridgewayref14_Out), (15, c_edge_Class), (16, c_ridgewayref14_Class), (17, c_ridgewayref09_Same), (18, c_ridgewayref07_SamePath), (20, c_conf_Sane), (21, c_route_Sane), (22, c_attr_Sane), (23, c_role_In), (24, c_policy_Pick), (25, c_ridgewaylaw14_node), (26, c_ridgewayref12_Few), (27, c_edge_at), (28, c_edge_through), (29, c_edge_In_1), (30, c_edge_In_2), (31, c_slices_Contains___int_int), (32, c_edge_In_3), (33, c_edge_In_4), (34, c_edge_In_5), (35, c_edge_accepts), (36, c_ridgewayref12_Sane), (37, c_ridgewayref14_side), (38, c_ridgewayref02_Sane), (39, c_ridgewayref07_Sane), (40, c_ridgewayref14_has), (41, c_ridgewayref13_In), (42, c_ridgewayref10_Pick), (43, c_edge_Out_1), (44, c_edge_Out_2), (45, c_edge_longer), (46, c_edge_Out_3), (47, c_role_Out), (48, c_edge_Out_4), (49, c_ridgewayref09_Sane), (50, c_ridgewayref13_Out), (52, c_conf_saneNumber), (53, c_conf_saneHold), (54, c_conf_saneCap), (55, c_conf_saneOwn), (56, c_conf_saneSides), (57, c_policy_Fits), (58, c_prefix_Sane), (59, c_slices_Index___int_int), (60, c_ridgewayref12_Hold), (61, c_ridgewayref12_owns), (62, c_ridgewayref12_sides), (63, c_ridgewayref02_Mask), (64, c_ridgewayref10_Fits), (65, c_slices_Repeat___int_int), (73, c_slices_Contains___api_Prefix_api_Prefix), (74, c_conf_taken), (75, c_conf_saneRules), (76, c_policy_fits), (77, c_prefix_Mask), (78, c_ridgewayref12_rules), (79, c_ridgewayref02_size), (80, c_ridgewayref02_Has), (81, c_ridgewayref10_has), (82, c_math_bits_Mul), (85, c_slices_Index___api_Prefix_api_Prefix), (86, c_slices_ContainsFunc___api_Side_api_Side), (87, c_conf_taken_1), (88, c_policy_Sane), (89, c_policy_fits_1), (90, c_policy_fits_2), (91, c_prefix_Has), (92, c_policy_fits_3), (93, c_policy_fits_4), (94, c_policy_fits_5), (95, c_ridgewayref10_Sane), (96, c_math_bits_Mul32), (97, c_math_bits_Mul64), (99, c_slices_IndexFunc___api_Side_api_Side), (100, c_policy_saneMatch), (101, c_policy_saneAct), (102, c_ridgewayref10_match)]
theorem tab_ok : Tab.Ok Try.prog tab := ⟨p_ridgewaylaw14_EdgeIs, p_ridgewaylaw14_awake, p_ridgewaylaw14_short, p_edge_In, p_ridgewayref14_In, p_edge_Out, p_ridgewayref14_Out, p_edge_Class, p_ridgewayref14_Class, p_ridgewayref09_Same, p_ridgewayref07_SamePath, p_conf_Sane, p_route_Sane, p_attr_Sane, p_role_In, p_policy_Pick, p_ridgewaylaw14_node, p_ridgewayref12_Few, p_edge_at, p_edge_through, p_edge_In_1, p_edge_In_2, p_slices_Contains___int_int, p_edge_In_3, p_edge_In_4, p_edge_In_5, p_edge_accepts, p_ridgewayref12_Sane, p_ridgewayref14_side, p_ridgewayref02_Sane, p_ridgewayref07_Sane, p_ridgewayref14_has, p_ridgewayref13_In, p_ridgewayref10_Pick, p_edge_Out_1, p_edge_Out_2, p_edge_longer, p_edge_Out_3, p_role_Out, p_edge_Out_4, p_ridgewayref09_Sane, p_ridgewayref13_Out, p_conf_saneNumber, p_conf_saneHold, p_conf_saneCap, p_conf_saneOwn, p_conf_saneSides, p_policy_Fits, p_prefix_Sane, p_slices_Index___int_int, p_ridgewayref12_Hold, p_ridgewayref12_owns, p_ridgewayref12_sides, p_ridgewayref02_Mask, p_ridgewayref10_Fits, p_slices_Repeat___int_int, p_slices_Contains___api_Prefix_api_Prefix, p_conf_taken, p_conf_saneRules, p_policy_fits, p_prefix_Mask, p_ridgewayref12_rules, p_ridgewayref02_size, p_ridgewayref02_Has, p_ridgewayref10_has, p_math_bits_Mul, p_slices_Index___api_Prefix_api_Prefix, p_slices_ContainsFunc___api_Side_api_Side, p_conf_taken_1, p_policy_Sane, p_policy_fits_1, p_policy_fits_2, p_prefix_Has, p_policy_fits_3, p_policy_fits_4, p_policy_fits_5, p_ridgewayref10_Sane, p_math_bits_Mul32, p_math_bits_Mul64, p_slices_IndexFunc___api_Side_api_Side, p_policy_saneMatch, p_policy_saneAct, p_ridgewayref10_match, trivial⟩
end Go.Proofs.Ytkdodhkiemfpeab
