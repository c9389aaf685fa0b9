/- Plain forms of functions. -/
import Derived.Test.YtgakgilaikgboaaAv16
import Derived.Test.YtgakgilaikgboaaProg
import Derived.KernelRfl
namespace Go.Proofs.Ytgakgilaikgboaa
set_option maxRecDepth 100000
set_option maxHeartbeats 1000000
def b_ridgewaylaw07_AttrJudges : AC :=
 (.seq
 (.reg [
 ⟨(some 2), .mv (.val (.bool false)), none, []⟩])
 (.seq
 (.reg [
 ⟨(some 10), .callS 25 [], none, []⟩,
 ⟨(some 3), .mv (.tmp 10), none, []⟩])
 (.seq
 (.seq
 (.reg [
 ⟨(some 11), .mv (.tmp 0), none, []⟩,
 ⟨(some 12), .callS 37 [(.tmp 11)], none, []⟩,
 ⟨(some 13), .un .not (.tmp 12), none, []⟩])
 (.cond (.tmp 13)
 (.seq
 (.reg [
 ⟨(some 14), .mv (.tmp 3), none, []⟩,
 ⟨(some 2), .mv (.tmp 14), none, []⟩])
 .ret)
 .skip))
 (.seq
 (.reg [
 ⟨(some 16), .mv (.tmp 0), none, []⟩,
 ⟨(some 17), .callS 38 [(.tmp 16)], none, []⟩,
 ⟨(some 15), .mv (.tmp 17), none, []⟩,
 ⟨(some 18), .ext (.tmp 15) 0, none, []⟩,
 ⟨(some 19), .ext (.tmp 15) 1, none, []⟩,
 ⟨(some 20), .ext (.tmp 15) 2, none, []⟩,
 ⟨(some 4), .box 46 4 (.val (.agg [(.int .i64 0), (.slice .full 0 []), (.int .i64 0), (.int .i64 0)])), none, []⟩,
 ⟨(some 6), .box 29 3 (.val (.agg [(.int .i64 0), (.int .i64 0), (.slice .full 0 [])])), none, []⟩,
 ⟨none, .st 4 (.tmp 4) (.tmp 18), none, []⟩,
 ⟨(some 5), .mv (.tmp 19), none, []⟩,
 ⟨none, .st 3 (.tmp 6) (.tmp 20), none, []⟩])
 (.seq
 (.reg [
 ⟨(some 22), .mv (.tmp 0), none, []⟩,
 ⟨(some 23), .callS 39 [(.tmp 22)], none, []⟩,
 ⟨(some 21), .mv (.tmp 23), none, []⟩,
 ⟨(some 24), .ext (.tmp 21) 0, none, []⟩,
 ⟨(some 25), .ext (.tmp 21) 1, none, []⟩,
 ⟨(some 26), .ext (.tmp 21) 2, none, []⟩,
 ⟨(some 7), .box 46 4 (.val (.agg [(.int .i64 0), (.slice .full 0 []), (.int .i64 0), (.int .i64 0)])), none, []⟩,
 ⟨(some 9), .box 29 3 (.val (.agg [(.int .i64 0), (.int .i64 0), (.slice .full 0 [])])), none, []⟩,
 ⟨none, .st 4 (.tmp 7) (.tmp 24), none, []⟩,
 ⟨(some 8), .mv (.tmp 25), none, []⟩,
 ⟨none, .st 3 (.tmp 9) (.tmp 26), none, []⟩])
 (.seq
 (.reg [
 ⟨(some 27), .mv (.tmp 3), none, []⟩,
 ⟨(some 28), .mv (.tmp 27), none, []⟩,
 ⟨(some 29), .mv (.tmp 5), some (28, true), []⟩,
 ⟨(some 30), .mv (.tmp 8), some (28, true), []⟩,
 ⟨(some 31), .bin .eql (.tmp 29) (.tmp 30), some (28, true), []⟩,
 ⟨(some 32), .pick (.tmp 28) (.tmp 31) (.val (.bool false)), none, []⟩,
 ⟨(some 33), .mv (.tmp 32), none, []⟩,
 ⟨(some 34), .ld (some 4) (.tmp 4), some (33, true), []⟩,
 ⟨(some 35), .ld (some 4) (.tmp 7), some (33, true), []⟩,
 ⟨(some 36), .callS 40 [(.tmp 34), (.tmp 35)], some (33, true), []⟩,
 ⟨(some 37), .pick (.tmp 33) (.tmp 36) (.val (.bool false)), none, []⟩,
 ⟨(some 38), .mv (.tmp 37), none, []⟩,
 ⟨(some 39), .ld (some 3) (.tmp 6), some (38, true), []⟩,
 ⟨(some 40), .ld (some 3) (.tmp 9), some (38, true), []⟩,
 ⟨(some 41), .callS 18 [(.tmp 39), (.tmp 40)], some (38, true), []⟩,
 ⟨(some 42), .pick (.tmp 38) (.tmp 41) (.val (.bool false)), none, []⟩,
 ⟨(some 2), .mv (.tmp 42), none, []⟩])
 .ret))))))
def c_ridgewaylaw07_AttrJudges : AF := ⟨b_ridgewaylaw07_AttrJudges, 43, [.tmp 2]⟩
theorem p_ridgewaylaw07_AttrJudges : prepFunc Try.prog 9 = some c_ridgewaylaw07_AttrJudges ∧ hasBody Try.prog 9 = true := ⟨by kernel_rfl, by kernel_rfl⟩
def b_ridgewayref03_SameNote : AC :=
 (.seq
 (.reg [
 ⟨(some 2), .box 29 3 (.tmp 0), none, []⟩,
 ⟨(some 3), .box 29 3 (.tmp 1), none, []⟩,
 ⟨(some 4), .mv (.val (.bool false)), none, []⟩])
 (.seq
 (.reg [
 ⟨(some 5), .off 0 (.tmp 2), none, []⟩,
 ⟨(some 6), .ld none (.tmp 5), none, []⟩,
 ⟨(some 7), .off 0 (.tmp 3), none, []⟩,
 ⟨(some 8), .ld none (.tmp 7), none, []⟩,
 ⟨(some 9), .bin .eql (.tmp 6) (.tmp 8), none, []⟩,
 ⟨(some 10), .mv (.tmp 9), none, []⟩,
 ⟨(some 11), .off 1 (.tmp 2), some (10, true), []⟩,
 ⟨(some 12), .ld none (.tmp 11), some (10, true), []⟩,
 ⟨(some 13), .off 1 (.tmp 3), some (10, true), []⟩,
 ⟨(some 14), .ld none (.tmp 13), some (10, true), []⟩,
 ⟨(some 15), .bin .eql (.tmp 12) (.tmp 14), some (10, true), []⟩,
 ⟨(some 16), .pick (.tmp 10) (.tmp 15) (.val (.bool false)), none, []⟩,
 ⟨(some 17), .mv (.tmp 16), none, []⟩,
 ⟨(some 18), .off 2 (.tmp 2), some (17, true), []⟩,
 ⟨(some 19), .ld none (.tmp 18), some (17, true), []⟩,
 ⟨(some 20), .b2s (.tmp 19), some (17, true), []⟩,
 ⟨(some 21), .off 2 (.tmp 3), some (17, true), []⟩,
 ⟨(some 22), .ld none (.tmp 21), some (17, true), []⟩,
 ⟨(some 23), .b2s (.tmp 22), some (17, true), []⟩,
 ⟨(some 24), .bin .eql (.tmp 20) (.tmp 23), some (17, true), []⟩,
 ⟨(some 25), .pick (.tmp 17) (.tmp 24) (.val (.bool false)), none, []⟩,
 ⟨(some 4), .mv (.tmp 25), none, []⟩])
 .ret))
def c_ridgewayref03_SameNote : AF := ⟨b_ridgewayref03_SameNote, 26, [.tmp 4]⟩
theorem p_ridgewayref03_SameNote : prepFunc Try.prog 18 = some c_ridgewayref03_SameNote ∧ hasBody Try.prog 18 = true := ⟨by kernel_rfl, by kernel_rfl⟩
def b_ridgewaylaw07_awake : AC :=
 (.seq
 (.reg [
 ⟨(some 0), .mv (.val (.bool false)), none, []⟩])
 (.seq
 (.reg [
 ⟨(some 13), .lit 3 1 [0] [(.val (.int .i64 65001)), (.val (.int .i64 7))], none, []⟩,
 ⟨(some 14), .bld [(.int .i64 0), (.slice .full 0 []), (.int .i64 0), (.int .i64 0)] [(1, 1, (.tmp 13)), (2, 1, (.val (.int .i64 167772161)))], none, []⟩,
 ⟨(some 1), .box 46 4 (.val (.agg [(.int .i64 0), (.slice .full 0 []), (.int .i64 0), (.int .i64 0)])), none, []⟩,
 ⟨none, .st 4 (.tmp 1) (.tmp 14), none, []⟩])
 (.seq
 (.reg [
 ⟨(some 15), .ld (some 4) (.tmp 1), none, []⟩,
 ⟨(some 16), .callS 35 [(.tmp 15)], none, []⟩,
 ⟨(some 2), .mv (.tmp 16), none, []⟩])
 (.seq
 (.reg [
 ⟨(some 3), .mv (.val (.slice .full 0 [])), none, []⟩])
 (.seq
 (.seq
 (.reg [
 ⟨(some 4), .mv (.val (.int .i64 0)), none, []⟩])
 (.block 0
 (.loop
 (.seq
 (.seq
 (.reg [
 ⟨(some 17), .mv (.tmp 4), none, []⟩,
 ⟨(some 18), .mv (.tmp 2), none, []⟩,
 ⟨(some 19), .len (.tmp 18), none, []⟩,
 ⟨(some 20), .bin .lss (.tmp 17) (.tmp 19), none, []⟩])
 (.cond (.tmp 20)
 .skip
 (.exit 0)))
 (.seq
 (.block 1
 (.reg [
 ⟨(some 23), .mv (.tmp 3), none, []⟩,
 ⟨(some 24), .mv (.tmp 2), none, []⟩,
 ⟨(some 25), .mv (.tmp 4), none, []⟩,
 ⟨(some 26), .idxA 3 (.tmp 24) (.tmp 25), none, []⟩,
 ⟨(some 27), .ld (some 3) (.tmp 26), none, []⟩,
 ⟨(some 28), .callS 31 [(.tmp 23), (.tmp 27)], none, []⟩,
 ⟨(some 3), .mv (.tmp 28), none, []⟩]))
 (.reg [
 ⟨(some 21), .mv (.tmp 4), none, []⟩,
 ⟨(some 22), .bin .add (.tmp 21) (.val (.int .i64 1)), none, []⟩,
 ⟨(some 4), .mv (.tmp 22), none, []⟩]))))))
 (.seq
 (.reg [
 ⟨(some 30), .mv (.tmp 3), none, []⟩,
 ⟨(some 31), .callS 28 [(.tmp 30)], none, []⟩,
 ⟨(some 29), .mv (.tmp 31), none, []⟩,
 ⟨(some 32), .ext (.tmp 29) 0, none, []⟩,
 ⟨(some 33), .ext (.tmp 29) 1, none, []⟩,
 ⟨(some 5), .mv (.tmp 32), none, []⟩,
 ⟨(some 6), .mv (.tmp 33), none, []⟩])
 (.seq
 (.reg [
 ⟨(some 35), .mv (.tmp 5), none, []⟩,
 ⟨(some 36), .callS 38 [(.tmp 35)], none, []⟩,
 ⟨(some 34), .mv (.tmp 36), none, []⟩,
 ⟨(some 37), .ext (.tmp 34) 0, none, []⟩,
 ⟨(some 38), .ext (.tmp 34) 1, none, []⟩,
 ⟨(some 39), .ext (.tmp 34) 2, none, []⟩,
 ⟨(some 7), .box 46 4 (.val (.agg [(.int .i64 0), (.slice .full 0 []), (.int .i64 0), (.int .i64 0)])), none, []⟩,
 ⟨(some 9), .box 29 3 (.val (.agg [(.int .i64 0), (.int .i64 0), (.slice .full 0 [])])), none, []⟩,
 ⟨none, .st 4 (.tmp 7) (.tmp 37), none, []⟩,
 ⟨(some 8), .mv (.tmp 38), none, []⟩,
 ⟨none, .st 3 (.tmp 9) (.tmp 39), none, []⟩])
 (.seq
 (.reg [
 ⟨(some 41), .bld [(.int .i64 0), (.int .i64 0), (.slice .full 0 [])] [(0, 1, (.val (.int .i64 64))), (1, 1, (.val (.int .i64 9)))], none, []⟩,
 ⟨(some 42), .lit 43 3 [0, 0, 1] [(.tmp 41)], none, []⟩,
 ⟨(some 43), .callS 38 [(.tmp 42)], none, []⟩,
 ⟨(some 40), .mv (.tmp 43), none, []⟩,
 ⟨(some 44), .ext (.tmp 40) 0, none, []⟩,
 ⟨(some 45), .ext (.tmp 40) 1, none, []⟩,
 ⟨(some 46), .ext (.tmp 40) 2, none, []⟩,
 ⟨(some 10), .box 46 4 (.val (.agg [(.int .i64 0), (.slice .full 0 []), (.int .i64 0), (.int .i64 0)])), none, []⟩,
 ⟨(some 12), .box 29 3 (.val (.agg [(.int .i64 0), (.int .i64 0), (.slice .full 0 [])])), none, []⟩,
 ⟨none, .st 4 (.tmp 10) (.tmp 44), none, []⟩,
 ⟨(some 11), .mv (.tmp 45), none, []⟩,
 ⟨none, .st 3 (.tmp 12) (.tmp 46), none, []⟩])
 (.seq
 (.reg [
 ⟨(some 47), .mv (.tmp 3), none, []⟩,
 ⟨(some 48), .b2s (.tmp 47), none, []⟩,
 ⟨(some 49), .bin .eql (.tmp 48) (.val (.str ⟨⟨[64, 1, 1, 0, 64, 2, 10, 2, 2, 0, 0, 253, 233, 0, 0, 0, 7, 64, 3, 4, 10, 0, 0, 1]⟩⟩)), none, []⟩,
 ⟨(some 50), .mv (.tmp 49), none, []⟩,
 ⟨(some 51), .mv (.tmp 6), some (50, true), []⟩,
 ⟨(some 52), .pick (.tmp 50) (.tmp 51) (.val (.bool false)), none, []⟩,
 ⟨(some 53), .mv (.tmp 52), none, []⟩,
 ⟨(some 54), .mv (.tmp 8), some (53, true), []⟩,
 ⟨(some 55), .bin .eql (.tmp 54) (.val (.int .i64 0)), some (53, true), []⟩,
 ⟨(some 56), .pick (.tmp 53) (.tmp 55) (.val (.bool false)), none, []⟩,
 ⟨(some 57), .mv (.tmp 56), none, []⟩,
 ⟨(some 58), .off 0 (.tmp 9), some (57, true), []⟩,
 ⟨(some 59), .ld none (.tmp 58), some (57, true), []⟩,
 ⟨(some 60), .bin .eql (.tmp 59) (.val (.int .i64 0)), some (57, true), []⟩,
 ⟨(some 61), .pick (.tmp 57) (.tmp 60) (.val (.bool false)), none, []⟩,
 ⟨(some 62), .mv (.tmp 61), none, []⟩,
 ⟨(some 63), .ld (some 4) (.tmp 1), some (62, true), []⟩,
 ⟨(some 64), .ld (some 4) (.tmp 7), some (62, true), []⟩,
 ⟨(some 65), .callS 40 [(.tmp 63), (.tmp 64)], some (62, true), []⟩,
 ⟨(some 66), .pick (.tmp 62) (.tmp 65) (.val (.bool false)), none, []⟩,
 ⟨(some 67), .mv (.tmp 66), none, []⟩,
 ⟨(some 68), .mv (.tmp 11), some (67, true), []⟩,
 ⟨(some 69), .bin .eql (.tmp 68) (.val (.int .i64 2)), some (67, true), []⟩,
 ⟨(some 70), .pick (.tmp 67) (.tmp 69) (.val (.bool false)), none, []⟩,
 ⟨(some 71), .mv (.tmp 70), none, []⟩,
 ⟨(some 72), .off 1 (.tmp 12), some (71, true), []⟩,
 ⟨(some 73), .ld none (.tmp 72), some (71, true), []⟩,
 ⟨(some 74), .bin .eql (.tmp 73) (.val (.int .i64 2)), some (71, true), []⟩,
 ⟨(some 75), .pick (.tmp 71) (.tmp 74) (.val (.bool false)), none, []⟩,
 ⟨(some 76), .mv (.tmp 75), none, []⟩,
 ⟨(some 77), .ld (some 4) (.tmp 1), some (76, true), []⟩,
 ⟨(some 78), .callS 33 [(.tmp 77)], some (76, true), []⟩,
 ⟨(some 79), .pick (.tmp 76) (.tmp 78) (.val (.bool false)), none, []⟩,
 ⟨(some 0), .mv (.tmp 79), none, []⟩])
 .ret)))))))))
def c_ridgewaylaw07_awake : AF := ⟨b_ridgewaylaw07_awake, 80, [.tmp 0]⟩
theorem p_ridgewaylaw07_awake : prepFunc Try.prog 25 = some c_ridgewaylaw07_awake ∧ hasBody Try.prog 25 = true := ⟨by kernel_rfl, by kernel_rfl⟩
def b_attr_Get : AC :=
 (.seq
 (.reg [
 ⟨(some 2), .box 43 3 (.val (.agg [(.int .i64 0), (.int .i64 0), (.slice .full 0 [])])), none, []⟩,
 ⟨(some 3), .mv (.val (.slice .full 0 [])), none, []⟩,
 ⟨(some 4), .mv (.val (.bool false)), none, []⟩])
 (.seq
 (.reg [
 ⟨(some 16), .mv (.tmp 0), none, []⟩,
 ⟨(some 17), .callS 41 [(.tmp 16), (.val (.int .i64 1))], none, []⟩,
 ⟨(some 15), .mv (.tmp 17), none, []⟩,
 ⟨(some 18), .ext (.tmp 15) 0, none, []⟩,
 ⟨(some 19), .ext (.tmp 15) 1, none, []⟩,
 ⟨(some 20), .ext (.tmp 15) 2, none, []⟩,
 ⟨(some 5), .mv (.tmp 18), none, []⟩,
 ⟨(some 0), .mv (.tmp 19), none, []⟩,
 ⟨(some 6), .mv (.tmp 20), none, []⟩])
 (.seq
 (.reg [
 ⟨(some 22), .mv (.tmp 0), none, []⟩,
 ⟨(some 23), .callS 41 [(.tmp 22), (.val (.int .i64 1))], none, []⟩,
 ⟨(some 21), .mv (.tmp 23), none, []⟩,
 ⟨(some 24), .ext (.tmp 21) 0, none, []⟩,
 ⟨(some 25), .ext (.tmp 21) 1, none, []⟩,
 ⟨(some 26), .ext (.tmp 21) 2, none, []⟩,
 ⟨(some 7), .mv (.tmp 24), none, []⟩,
 ⟨(some 0), .mv (.tmp 25), none, []⟩,
 ⟨(some 8), .mv (.tmp 26), none, []⟩])
 (.seq
 (.reg [
 ⟨(some 9), .mv (.val (.int .i64 1)), none, []⟩])
 (.seq
 (.seq
 (.reg [
 ⟨(some 27), .mv (.tmp 5), none, []⟩,
 ⟨(some 28), .bin .and (.tmp 27) (.val (.int .i64 16)), none, []⟩,
 ⟨(some 29), .bin .neq (.tmp 28) (.val (.int .i64 0)), none, []⟩])
 (.cond (.tmp 29)
 (.reg [
 ⟨(some 9), .mv (.val (.int .i64 2)), none, []⟩])
 .skip))
 (.seq
 (.reg [
 ⟨(some 31), .mv (.tmp 0), none, []⟩,
 ⟨(some 32), .mv (.tmp 9), none, []⟩,
 ⟨(some 33), .callS 41 [(.tmp 31), (.tmp 32)], none, []⟩,
 ⟨(some 30), .mv (.tmp 33), none, []⟩,
 ⟨(some 34), .ext (.tmp 30) 0, none, []⟩,
 ⟨(some 35), .ext (.tmp 30) 1, none, []⟩,
 ⟨(some 36), .ext (.tmp 30) 2, none, []⟩,
 ⟨(some 10), .mv (.tmp 34), none, []⟩,
 ⟨(some 0), .mv (.tmp 35), none, []⟩,
 ⟨(some 11), .mv (.tmp 36), none, []⟩])
 (.seq
 (.reg [
 ⟨(some 38), .mv (.tmp 0), none, []⟩,
 ⟨(some 39), .mv (.tmp 10), none, []⟩,
 ⟨(some 40), .callS 57 [(.tmp 38), (.tmp 39)], none, []⟩,
 ⟨(some 37), .mv (.tmp 40), none, []⟩,
 ⟨(some 41), .ext (.tmp 37) 0, none, []⟩,
 ⟨(some 42), .ext (.tmp 37) 1, none, []⟩,
 ⟨(some 43), .ext (.tmp 37) 2, none, []⟩,
 ⟨(some 12), .mv (.tmp 41), none, []⟩,
 ⟨(some 13), .mv (.tmp 42), none, []⟩,
 ⟨(some 14), .mv (.tmp 43), none, []⟩])
 (.seq
 (.seq
 (.reg [
 ⟨(some 44), .mv (.tmp 11), none, []⟩,
 ⟨(some 45), .un .not (.tmp 44), none, []⟩,
 ⟨(some 46), .mv (.tmp 45), none, []⟩,
 ⟨(some 47), .mv (.tmp 14), some (46, false), []⟩,
 ⟨(some 48), .un .not (.tmp 47), some (46, false), []⟩,
 ⟨(some 49), .pick (.tmp 46) (.val (.bool true)) (.tmp 48), none, []⟩])
 (.cond (.tmp 49)
 (.seq
 (.reg [
 ⟨(some 50), .bld [(.int .i64 0), (.int .i64 0), (.slice .full 0 [])] [], none, []⟩,
 ⟨none, .st 3 (.tmp 2) (.tmp 50), none, []⟩,
 ⟨(some 3), .mv (.val (.slice .full 0 [])), none, []⟩,
 ⟨(some 4), .mv (.val (.bool false)), none, []⟩])
 .ret)
 .skip))
 (.seq
 (.reg [
 ⟨(some 51), .mv (.tmp 5), none, []⟩,
 ⟨(some 52), .mv (.tmp 7), none, []⟩,
 ⟨(some 53), .mv (.tmp 12), none, []⟩,
 ⟨(some 54), .bld [(.int .i64 0), (.int .i64 0), (.slice .full 0 [])] [(0, 1, (.tmp 51)), (1, 1, (.tmp 52)), (2, 1, (.tmp 53))], none, []⟩,
 ⟨(some 55), .mv (.tmp 13), none, []⟩,
 ⟨none, .st 3 (.tmp 2) (.tmp 54), none, []⟩,
 ⟨(some 3), .mv (.tmp 55), none, []⟩,
 ⟨(some 4), .mv (.val (.bool true)), none, []⟩])
 .ret)))))))))
def c_attr_Get : AF := ⟨b_attr_Get, 56, [.cell 2 (some 3), .tmp 3, .tmp 4]⟩
theorem p_attr_Get : prepFunc Try.prog 26 = some c_attr_Get ∧ hasBody Try.prog 26 = true := ⟨by kernel_rfl, by kernel_rfl⟩
def b_attr_All : AC :=
 (.seq
 (.reg [
 ⟨(some 2), .mv (.val (.slice .full 0 [])), none, []⟩,
 ⟨(some 3), .mv (.val (.bool false)), none, []⟩])
 (.seq
 (.reg [
 ⟨(some 4), .mv (.val (.slice .full 0 [])), none, []⟩])
 (.seq
 (.block 0
 (.loop
 (.seq
 (.seq
 (.reg [
 ⟨(some 8), .mv (.tmp 0), none, []⟩,
 ⟨(some 9), .len (.tmp 8), none, []⟩,
 ⟨(some 10), .bin .gtr (.tmp 9) (.val (.int .i64 0)), none, []⟩])
 (.cond (.tmp 10)
 .skip
 (.exit 0)))
 (.block 1
 (.seq
 (.reg [
 ⟨(some 12), .mv (.tmp 0), none, []⟩,
 ⟨(some 13), .callS 26 [(.tmp 12)], none, []⟩,
 ⟨(some 11), .mv (.tmp 13), none, []⟩,
 ⟨(some 14), .ext (.tmp 11) 0, none, []⟩,
 ⟨(some 15), .ext (.tmp 11) 1, none, []⟩,
 ⟨(some 16), .ext (.tmp 11) 2, none, []⟩,
 ⟨(some 5), .box 43 3 (.val (.agg [(.int .i64 0), (.int .i64 0), (.slice .full 0 [])])), none, []⟩,
 ⟨none, .st 3 (.tmp 5) (.tmp 14), none, []⟩,
 ⟨(some 6), .mv (.tmp 15), none, []⟩,
 ⟨(some 7), .mv (.tmp 16), none, []⟩])
 (.seq
 (.seq
 (.reg [
 ⟨(some 17), .mv (.tmp 7), none, []⟩,
 ⟨(some 18), .un .not (.tmp 17), none, []⟩])
 (.cond (.tmp 18)
 (.seq
 (.reg [
 ⟨(some 2), .mv (.val (.slice .full 0 [])), none, []⟩,
 ⟨(some 3), .mv (.val (.bool false)), none, []⟩])
 .ret)
 .skip))
 (.reg [
 ⟨(some 19), .mv (.tmp 4), none, []⟩,
 ⟨(some 20), .ld (some 3) (.tmp 5), none, []⟩,
 ⟨(some 21), .lit 43 3 [0, 0, 1] [(.tmp 20)], none, []⟩,
 ⟨(some 22), .app 43 3 40 (.tmp 19) (.tmp 21), none, []⟩,
 ⟨(some 23), .mv (.tmp 6), none, []⟩,
 ⟨(some 4), .mv (.tmp 22), none, []⟩,
 ⟨(some 0), .mv (.tmp 23), none, []⟩])))))))
 (.seq
 (.reg [
 ⟨(some 24), .mv (.tmp 4), none, []⟩,
 ⟨(some 2), .mv (.tmp 24), none, []⟩,
 ⟨(some 3), .mv (.val (.bool true)), none, []⟩])
 .ret))))
def c_attr_All : AF := ⟨b_attr_All, 25, [.tmp 2, .tmp 3]⟩
theorem p_attr_All : prepFunc Try.prog 28 = some c_attr_All ∧ hasBody Try.prog 28 = true := ⟨by kernel_rfl, by kernel_rfl⟩
def b_attr_Put : AC :=
 (.seq
 (.reg [
 ⟨(some 3), .box 43 3 (.tmp 1), none, []⟩,
 ⟨(some 4), .mv (.val (.slice .full 0 [])), none, []⟩])
 (.seq
 (.seq
 (.reg [
 ⟨(some 8), .off 0 (.tmp 3), none, []⟩,
 ⟨(some 9), .ld none (.tmp 8), none, []⟩,
 ⟨(some 10), .callS 58 [(.tmp 9)], none, []⟩,
 ⟨(some 11), .un .not (.tmp 10), none, []⟩,
 ⟨(some 12), .mv (.tmp 11), none, []⟩,
 ⟨(some 13), .off 1 (.tmp 3), some (12, false), []⟩,
 ⟨(some 14), .ld none (.tmp 13), some (12, false), []⟩,
 ⟨(some 15), .callS 58 [(.tmp 14)], some (12, false), []⟩,
 ⟨(some 16), .un .not (.tmp 15), some (12, false), []⟩,
 ⟨(some 17), .pick (.tmp 12) (.val (.bool true)) (.tmp 16), none, []⟩,
 ⟨(some 18), .mv (.tmp 17), none, []⟩,
 ⟨(some 19), .off 2 (.tmp 3), some (18, false), []⟩,
 ⟨(some 20), .ld none (.tmp 19), some (18, false), []⟩,
 ⟨(some 21), .len (.tmp 20), some (18, false), []⟩,
 ⟨(some 22), .bin .gtr (.tmp 21) (.val (.int .i64 65535)), some (18, false), []⟩,
 ⟨(some 23), .pick (.tmp 18) (.val (.bool true)) (.tmp 22), none, []⟩])
 (.cond (.tmp 23)
 (.seq
 (.reg [
 ⟨(some 24), .mv (.tmp 0), none, []⟩,
 ⟨(some 4), .mv (.tmp 24), none, []⟩])
 .ret)
 .skip))
 (.seq
 (.reg [
 ⟨(some 25), .off 0 (.tmp 3), none, []⟩,
 ⟨(some 26), .ld none (.tmp 25), none, []⟩,
 ⟨(some 27), .bin .andNot (.tmp 26) (.val (.int .i64 16)), none, []⟩,
 ⟨(some 5), .mv (.tmp 27), none, []⟩,
 ⟨(some 6), .mv (.val (.int .i64 1)), none, []⟩])
 (.seq
 (.seq
 (.reg [
 ⟨(some 28), .off 2 (.tmp 3), none, []⟩,
 ⟨(some 29), .ld none (.tmp 28), none, []⟩,
 ⟨(some 30), .len (.tmp 29), none, []⟩,
 ⟨(some 31), .bin .gtr (.tmp 30) (.val (.int .i64 255)), none, []⟩])
 (.cond (.tmp 31)
 (.reg [
 ⟨(some 32), .mv (.tmp 5), none, []⟩,
 ⟨(some 33), .bin .or (.tmp 32) (.val (.int .i64 16)), none, []⟩,
 ⟨(some 5), .mv (.tmp 33), none, []⟩,
 ⟨(some 6), .mv (.val (.int .i64 2)), none, []⟩])
 .skip))
 (.seq
 (.reg [
 ⟨(some 34), .mv (.tmp 0), none, []⟩,
 ⟨(some 35), .mv (.tmp 5), none, []⟩,
 ⟨(some 36), .callS 42 [(.tmp 34), (.tmp 35), (.val (.int .i64 1))], none, []⟩,
 ⟨(some 7), .mv (.tmp 36), none, []⟩])
 (.seq
 (.reg [
 ⟨(some 37), .mv (.tmp 7), none, []⟩,
 ⟨(some 38), .off 1 (.tmp 3), none, []⟩,
 ⟨(some 39), .ld none (.tmp 38), none, []⟩,
 ⟨(some 40), .callS 42 [(.tmp 37), (.tmp 39), (.val (.int .i64 1))], none, []⟩,
 ⟨(some 7), .mv (.tmp 40), none, []⟩])
 (.seq
 (.reg [
 ⟨(some 41), .mv (.tmp 7), none, []⟩,
 ⟨(some 42), .off 2 (.tmp 3), none, []⟩,
 ⟨(some 43), .ld none (.tmp 42), none, []⟩,
 ⟨(some 44), .len (.tmp 43), none, []⟩,
 ⟨(some 45), .mv (.tmp 6), none, []⟩,
 ⟨(some 46), .callS 42 [(.tmp 41), (.tmp 44), (.tmp 45)], none, []⟩,
 ⟨(some 7), .mv (.tmp 46), none, []⟩])
 (.seq
 (.reg [
 ⟨(some 47), .mv (.tmp 7), none, []⟩,
 ⟨(some 48), .off 2 (.tmp 3), none, []⟩,
 ⟨(some 49), .ld none (.tmp 48), none, []⟩,
 ⟨(some 50), .app 5 1 1 (.tmp 47) (.tmp 49), none, []⟩,
 ⟨(some 4), .mv (.tmp 50), none, []⟩])
 .ret))))))))
def c_attr_Put : AF := ⟨b_attr_Put, 51, [.tmp 4]⟩
theorem p_attr_Put : prepFunc Try.prog 31 = some c_attr_Put ∧ hasBody Try.prog 31 = true := ⟨by kernel_rfl, by kernel_rfl⟩
def b_ridgewayref07_Put : AC :=
 (.seq
 (.reg [
 ⟨(some 3), .box 43 3 (.tmp 1), none, []⟩,
 ⟨(some 4), .mv (.val (.slice .full 0 [])), none, []⟩])
 (.seq
 (.reg [
 ⟨(some 7), .lit 5 1 [0] [], none, []⟩,
 ⟨(some 8), .mv (.tmp 0), none, []⟩,
 ⟨(some 9), .app 5 1 1 (.tmp 7) (.tmp 8), none, []⟩,
 ⟨(some 5), .mv (.tmp 9), none, []⟩])
 (.seq
 (.seq
 (.reg [
 ⟨(some 10), .ld (some 3) (.tmp 3), none, []⟩,
 ⟨(some 11), .callS 59 [(.tmp 10)], none, []⟩,
 ⟨(some 12), .un .not (.tmp 11), none, []⟩])
 (.cond (.tmp 12)
 (.seq
 (.reg [
 ⟨(some 13), .mv (.tmp 5), none, []⟩,
 ⟨(some 4), .mv (.tmp 13), none, []⟩])
 .ret)
 .skip))
 (.seq
 (.reg [
 ⟨(some 14), .off 0 (.tmp 3), none, []⟩,
 ⟨(some 15), .ld none (.tmp 14), none, []⟩,
 ⟨(some 16), .off 0 (.tmp 3), none, []⟩,
 ⟨(some 17), .ld none (.tmp 16), none, []⟩,
 ⟨(some 18), .bin .quo (.tmp 17) (.val (.int .i64 16)), none, []⟩,
 ⟨(some 19), .bin .rem (.tmp 18) (.val (.int .i64 2)), none, []⟩,
 ⟨(some 20), .bin .mul (.tmp 19) (.val (.int .i64 16)), none, []⟩,
 ⟨(some 21), .bin .sub (.tmp 15) (.tmp 20), none, []⟩,
 ⟨(some 6), .mv (.tmp 21), none, []⟩])
 (.seq
 (.seq
 (.reg [
 ⟨(some 22), .off 2 (.tmp 3), none, []⟩,
 ⟨(some 23), .ld none (.tmp 22), none, []⟩,
 ⟨(some 24), .len (.tmp 23), none, []⟩,
 ⟨(some 25), .bin .gtr (.tmp 24) (.val (.int .i64 255)), none, []⟩])
 (.cond (.tmp 25)
 (.reg [
 ⟨(some 26), .mv (.tmp 5), none, []⟩,
 ⟨(some 27), .mv (.tmp 6), none, []⟩,
 ⟨(some 28), .bin .add (.tmp 27) (.val (.int .i64 16)), none, []⟩,
 ⟨(some 29), .conv .u8 (.tmp 28), none, []⟩,
 ⟨(some 30), .off 1 (.tmp 3), none, []⟩,
 ⟨(some 31), .ld none (.tmp 30), none, []⟩,
 ⟨(some 32), .conv .u8 (.tmp 31), none, []⟩,
 ⟨(some 33), .off 2 (.tmp 3), none, []⟩,
 ⟨(some 34), .ld none (.tmp 33), none, []⟩,
 ⟨(some 35), .len (.tmp 34), none, []⟩,
 ⟨(some 36), .bin .quo (.tmp 35) (.val (.int .i64 256)), none, []⟩,
 ⟨(some 37), .conv .u8 (.tmp 36), none, []⟩,
 ⟨(some 38), .off 2 (.tmp 3), none, []⟩,
 ⟨(some 39), .ld none (.tmp 38), none, []⟩,
 ⟨(some 40), .len (.tmp 39), none, []⟩,
 ⟨(some 41), .bin .rem (.tmp 40) (.val (.int .i64 256)), none, []⟩,
 ⟨(some 42), .conv .u8 (.tmp 41), none, []⟩,
 ⟨(some 43), .lit 5 1 [0] [(.tmp 29), (.tmp 32), (.tmp 37), (.tmp 42)], none, []⟩,
 ⟨(some 44), .app 5 1 1 (.tmp 26) (.tmp 43), none, []⟩,
 ⟨(some 5), .mv (.tmp 44), none, []⟩])
 (.reg [
 ⟨(some 45), .mv (.tmp 5), none, []⟩,
 ⟨(some 46), .mv (.tmp 6), none, []⟩,
 ⟨(some 47), .conv .u8 (.tmp 46), none, []⟩,
 ⟨(some 48), .off 1 (.tmp 3), none, []⟩,
 ⟨(some 49), .ld none (.tmp 48), none, []⟩,
 ⟨(some 50), .conv .u8 (.tmp 49), none, []⟩,
 ⟨(some 51), .off 2 (.tmp 3), none, []⟩,
 ⟨(some 52), .ld none (.tmp 51), none, []⟩,
 ⟨(some 53), .len (.tmp 52), none, []⟩,
 ⟨(some 54), .conv .u8 (.tmp 53), none, []⟩,
 ⟨(some 55), .lit 5 1 [0] [(.tmp 47), (.tmp 50), (.tmp 54)], none, []⟩,
 ⟨(some 56), .app 5 1 1 (.tmp 45) (.tmp 55), none, []⟩,
 ⟨(some 5), .mv (.tmp 56), none, []⟩])))
 (.seq
 (.reg [
 ⟨(some 57), .mv (.tmp 5), none, []⟩,
 ⟨(some 58), .off 2 (.tmp 3), none, []⟩,
 ⟨(some 59), .ld none (.tmp 58), none, []⟩,
 ⟨(some 60), .app 5 1 1 (.tmp 57) (.tmp 59), none, []⟩,
 ⟨(some 4), .mv (.tmp 60), none, []⟩])
 .ret))))))
def c_ridgewayref07_Put : AF := ⟨b_ridgewayref07_Put, 61, [.tmp 4]⟩
theorem p_ridgewayref07_Put : prepFunc Try.prog 32 = some c_ridgewayref07_Put ∧ hasBody Try.prog 32 = true := ⟨by kernel_rfl, by kernel_rfl⟩
def b_attr_Sane : AC :=
 (.seq
 (.reg [
 ⟨(some 1), .box 46 4 (.tmp 0), none, []⟩,
 ⟨(some 2), .mv (.val (.bool false)), none, []⟩])
 (.seq
 (.seq
 (.reg [
 ⟨(some 5), .off 1 (.tmp 1), none, []⟩,
 ⟨(some 6), .ld none (.tmp 5), none, []⟩,
 ⟨(some 7), .len (.tmp 6), none, []⟩,
 ⟨(some 8), .mv (.val (.int .i64 0)), none, []⟩])
 (.block 0
 (.loop
 (.seq
 (.reg [
 ⟨(some 9), .bin .lss (.tmp 8) (.tmp 7), none, []⟩])
 (.seq
 (.cond (.tmp 9)
 .skip
 (.exit 0))
 (.seq
 (.block 1
 (.seq
 (.reg [
 ⟨(some 10), .idxA 1 (.tmp 6) (.tmp 8), none, []⟩,
 ⟨(some 11), .ld none (.tmp 10), none, []⟩,
 ⟨(some 4), .mv (.tmp 11), none, []⟩])
 (.seq
 (.reg [
 ⟨(some 12), .mv (.tmp 4), none, []⟩,
 ⟨(some 13), .bin .lss (.tmp 12) (.val (.int .i64 1)), none, []⟩,
 ⟨(some 14), .mv (.tmp 13), none, []⟩,
 ⟨(some 15), .mv (.tmp 4), some (14, false), []⟩,
 ⟨(some 16), .bin .gtr (.tmp 15) (.val (.int .i64 4294967295)), some (14, false), []⟩,
 ⟨(some 17), .pick (.tmp 14) (.val (.bool true)) (.tmp 16), none, []⟩])
 (.cond (.tmp 17)
 (.seq
 (.reg [
 ⟨(some 2), .mv (.val (.bool false)), none, []⟩])
 .ret)
 .skip))))
 (.reg [
 ⟨(some 18), .bin .add (.tmp 8) (.val (.int .i64 1)), none, []⟩,
 ⟨(some 8), .mv (.tmp 18), none, []⟩])))))))
 (.seq
 (.reg [
 ⟨(some 19), .off 0 (.tmp 1), none, []⟩,
 ⟨(some 20), .ld none (.tmp 19), none, []⟩,
 ⟨(some 21), .bin .geq (.tmp 20) (.val (.int .i64 0)), none, []⟩,
 ⟨(some 22), .mv (.tmp 21), none, []⟩,
 ⟨(some 23), .off 0 (.tmp 1), some (22, true), []⟩,
 ⟨(some 24), .ld none (.tmp 23), some (22, true), []⟩,
 ⟨(some 25), .bin .leq (.tmp 24) (.val (.int .i64 2)), some (22, true), []⟩,
 ⟨(some 26), .pick (.tmp 22) (.tmp 25) (.val (.bool false)), none, []⟩,
 ⟨(some 27), .mv (.tmp 26), none, []⟩,
 ⟨(some 28), .off 1 (.tmp 1), some (27, true), []⟩,
 ⟨(some 29), .ld none (.tmp 28), some (27, true), []⟩,
 ⟨(some 30), .len (.tmp 29), some (27, true), []⟩,
 ⟨(some 31), .bin .leq (.tmp 30) (.val (.int .i64 255)), some (27, true), []⟩,
 ⟨(some 32), .pick (.tmp 27) (.tmp 31) (.val (.bool false)), none, []⟩,
 ⟨(some 33), .mv (.tmp 32), none, []⟩,
 ⟨(some 34), .off 2 (.tmp 1), some (33, true), []⟩,
 ⟨(some 35), .ld none (.tmp 34), some (33, true), []⟩,
 ⟨(some 36), .bin .geq (.tmp 35) (.val (.int .i64 1)), some (33, true), []⟩,
 ⟨(some 37), .pick (.tmp 33) (.tmp 36) (.val (.bool false)), none, []⟩,
 ⟨(some 38), .mv (.tmp 37), none, []⟩,
 ⟨(some 39), .off 2 (.tmp 1), some (38, true), []⟩,
 ⟨(some 40), .ld none (.tmp 39), some (38, true), []⟩,
 ⟨(some 41), .bin .leq (.tmp 40) (.val (.int .i64 4294967295)), some (38, true), []⟩,
 ⟨(some 42), .pick (.tmp 38) (.tmp 41) (.val (.bool false)), none, []⟩,
 ⟨(some 43), .mv (.tmp 42), none, []⟩,
 ⟨(some 44), .off 3 (.tmp 1), some (43, true), []⟩,
 ⟨(some 45), .ld none (.tmp 44), some (43, true), []⟩,
 ⟨(some 46), .bin .geq (.tmp 45) (.val (.int .i64 0)), some (43, true), []⟩,
 ⟨(some 47), .pick (.tmp 43) (.tmp 46) (.val (.bool false)), none, []⟩,
 ⟨(some 48), .mv (.tmp 47), none, []⟩,
 ⟨(some 49), .off 3 (.tmp 1), some (48, true), []⟩,
 ⟨(some 50), .ld none (.tmp 49), some (48, true), []⟩,
 ⟨(some 51), .bin .leq (.tmp 50) (.val (.int .i64 4294967295)), some (48, true), []⟩,
 ⟨(some 52), .pick (.tmp 48) (.tmp 51) (.val (.bool false)), none, []⟩,
 ⟨(some 2), .mv (.tmp 52), none, []⟩])
 .ret)))
def c_attr_Sane : AF := ⟨b_attr_Sane, 53, [.tmp 2]⟩
theorem p_attr_Sane : prepFunc Try.prog 33 = some c_attr_Sane ∧ hasBody Try.prog 33 = true := ⟨by kernel_rfl, by kernel_rfl⟩
def b_attr_Of : AC :=
 (.seq
 (.reg [
 ⟨(some 1), .box 46 4 (.tmp 0), none, []⟩,
 ⟨(some 2), .mv (.val (.slice .full 0 [])), none, []⟩])
 (.seq
 (.seq
 (.reg [
 ⟨(some 4), .ld (some 4) (.tmp 1), none, []⟩,
 ⟨(some 5), .callS 33 [(.tmp 4)], none, []⟩,
 ⟨(some 6), .un .not (.tmp 5), none, []⟩])
 (.cond (.tmp 6)
 (.seq
 (.reg [
 ⟨(some 2), .mv (.val (.slice .full 0 [])), none, []⟩])
 .ret)
 .skip))
 (.seq
 (.reg [
 ⟨(some 7), .off 0 (.tmp 1), none, []⟩,
 ⟨(some 8), .ld none (.tmp 7), none, []⟩,
 ⟨(some 9), .call 42 [(.val (.slice .full 0 [])), (.tmp 8), (.val (.int .i64 1))], none, []⟩,
 ⟨(some 10), .bld [(.int .i64 0), (.int .i64 0), (.slice .full 0 [])] [(0, 1, (.val (.int .i64 64))), (1, 1, (.val (.int .i64 1))), (2, 1, (.tmp 9))], none, []⟩,
 ⟨(some 11), .off 1 (.tmp 1), none, []⟩,
 ⟨(some 12), .ld none (.tmp 11), none, []⟩,
 ⟨(some 13), .call 60 [(.tmp 12)], none, []⟩,
 ⟨(some 14), .bld [(.int .i64 0), (.int .i64 0), (.slice .full 0 [])] [(0, 1, (.val (.int .i64 64))), (1, 1, (.val (.int .i64 2))), (2, 1, (.tmp 13))], none, []⟩,
 ⟨(some 15), .off 2 (.tmp 1), none, []⟩,
 ⟨(some 16), .ld none (.tmp 15), none, []⟩,
 ⟨(some 17), .call 42 [(.val (.slice .full 0 [])), (.tmp 16), (.val (.int .i64 4))], none, []⟩,
 ⟨(some 18), .bld [(.int .i64 0), (.int .i64 0), (.slice .full 0 [])] [(0, 1, (.val (.int .i64 64))), (1, 1, (.val (.int .i64 3))), (2, 1, (.tmp 17))], none, []⟩,
 ⟨(some 19), .lit 43 3 [0, 0, 1] [(.tmp 10), (.tmp 14), (.tmp 18)], none, []⟩,
 ⟨(some 3), .mv (.tmp 19), none, []⟩])
 (.seq
 (.seq
 (.reg [
 ⟨(some 20), .off 3 (.tmp 1), none, []⟩,
 ⟨(some 21), .ld none (.tmp 20), none, []⟩,
 ⟨(some 22), .bin .neq (.tmp 21) (.val (.int .i64 0)), none, []⟩])
 (.cond (.tmp 22)
 (.reg [
 ⟨(some 23), .mv (.tmp 3), none, []⟩,
 ⟨(some 24), .off 3 (.tmp 1), none, []⟩,
 ⟨(some 25), .ld none (.tmp 24), none, []⟩,
 ⟨(some 26), .callS 42 [(.val (.slice .full 0 [])), (.tmp 25), (.val (.int .i64 4))], none, []⟩,
 ⟨(some 27), .bld [(.int .i64 0), (.int .i64 0), (.slice .full 0 [])] [(0, 1, (.val (.int .i64 192))), (1, 1, (.val (.int .i64 35))), (2, 1, (.tmp 26))], none, []⟩,
 ⟨(some 28), .lit 43 3 [0, 0, 1] [(.tmp 27)], none, []⟩,
 ⟨(some 29), .app 43 3 40 (.tmp 23) (.tmp 28), none, []⟩,
 ⟨(some 3), .mv (.tmp 29), none, []⟩])
 .skip))
 (.seq
 (.reg [
 ⟨(some 30), .mv (.tmp 3), none, []⟩,
 ⟨(some 2), .mv (.tmp 30), none, []⟩])
 .ret)))))
def c_attr_Of : AF := ⟨b_attr_Of, 31, [.tmp 2]⟩
theorem p_attr_Of : prepFunc Try.prog 35 = some c_attr_Of ∧ hasBody Try.prog 35 = true := ⟨by kernel_rfl, by kernel_rfl⟩
def b_ridgewayref07_Few : AC :=
 (.seq
 (.reg [
 ⟨(some 2), .mv (.val (.bool false)), none, []⟩])
 (.seq
 (.seq
 (.reg [
 ⟨(some 3), .mv (.val (.int .i64 0)), none, []⟩])
 (.block 0
 (.loop
 (.seq
 (.seq
 (.reg [
 ⟨(some 4), .mv (.tmp 3), none, []⟩,
 ⟨(some 5), .mv (.tmp 0), none, []⟩,
 ⟨(some 6), .len (.tmp 5), none, []⟩,
 ⟨(some 7), .bin .lss (.tmp 4) (.tmp 6), none, []⟩])
 (.cond (.tmp 7)
 .skip
 (.exit 0)))
 (.seq
 (.block 1
 (.seq
 (.reg [
 ⟨(some 10), .mv (.tmp 0), none, []⟩,
 ⟨(some 11), .mv (.tmp 3), none, []⟩,
 ⟨(some 12), .idxA 3 (.tmp 10) (.tmp 11), none, []⟩,
 ⟨(some 13), .off 2 (.tmp 12), none, []⟩,
 ⟨(some 14), .ld none (.tmp 13), none, []⟩,
 ⟨(some 15), .len (.tmp 14), none, []⟩,
 ⟨(some 16), .bin .gtr (.tmp 15) (.val (.int .i64 2000)), none, []⟩])
 (.cond (.tmp 16)
 (.seq
 (.reg [
 ⟨(some 2), .mv (.val (.bool false)), none, []⟩])
 .ret)
 .skip)))
 (.reg [
 ⟨(some 8), .mv (.tmp 3), none, []⟩,
 ⟨(some 9), .bin .add (.tmp 8) (.val (.int .i64 1)), none, []⟩,
 ⟨(some 3), .mv (.tmp 9), none, []⟩]))))))
 (.seq
 (.reg [
 ⟨(some 17), .mv (.tmp 0), none, []⟩,
 ⟨(some 18), .len (.tmp 17), none, []⟩,
 ⟨(some 19), .bin .leq (.tmp 18) (.val (.int .i64 20)), none, []⟩,
 ⟨(some 2), .mv (.tmp 19), none, []⟩])
 .ret)))
def c_ridgewayref07_Few : AF := ⟨b_ridgewayref07_Few, 20, [.tmp 2]⟩
theorem p_ridgewayref07_Few : prepFunc Try.prog 37 = some c_ridgewayref07_Few ∧ hasBody Try.prog 37 = true := ⟨by kernel_rfl, by kernel_rfl⟩
def b_attr_Judge : AC :=
 (.seq
 (.reg [
 ⟨(some 2), .box 46 4 (.val (.agg [(.int .i64 0), (.slice .full 0 []), (.int .i64 0), (.int .i64 0)])), none, []⟩,
 ⟨(some 3), .mv (.val (.int .i64 0)), none, []⟩,
 ⟨(some 4), .box 29 3 (.val (.agg [(.int .i64 0), (.int .i64 0), (.slice .full 0 [])])), none, []⟩])
 (.seq
 (.reg [
 ⟨(some 15), .prim (.mkMap 85) [], none, []⟩,
 ⟨(some 5), .mv (.tmp 15), none, []⟩])
 (.seq
 (.seq
 (.reg [
 ⟨(some 16), .mv (.tmp 0), none, []⟩,
 ⟨(some 17), .len (.tmp 16), none, []⟩,
 ⟨(some 18), .mv (.val (.int .i64 0)), none, []⟩])
 (.block 0
 (.loop
 (.seq
 (.reg [
 ⟨(some 19), .bin .lss (.tmp 18) (.tmp 17), none, []⟩])
 (.seq
 (.cond (.tmp 19)
 .skip
 (.exit 0))
 (.seq
 (.block 1
 (.seq
 (.reg [
 ⟨(some 20), .idxA 3 (.tmp 16) (.tmp 18), none, []⟩,
 ⟨(some 21), .ld (some 3) (.tmp 20), none, []⟩,
 ⟨(some 7), .box 43 3 (.val (.agg [(.int .i64 0), (.int .i64 0), (.slice .full 0 [])])), none, []⟩,
 ⟨none, .st 3 (.tmp 7) (.tmp 21), none, []⟩])
 (.seq
 (.seq
 (.reg [
 ⟨(some 23), .mv (.tmp 5), none, []⟩,
 ⟨(some 24), .off 1 (.tmp 7), none, []⟩,
 ⟨(some 25), .ld none (.tmp 24), none, []⟩,
 ⟨(some 26), .prim (.mapGet (.sc 0) (.agg [(.int .i64 0), (.int .i64 0), (.slice .full 0 [])]) true) [(.tmp 23), (.tmp 25)], none, []⟩,
 ⟨(some 22), .mv (.tmp 26), none, []⟩,
 ⟨(some 27), .ext (.tmp 22) 0, none, []⟩,
 ⟨(some 28), .ext (.tmp 22) 1, none, []⟩,
 ⟨(some 8), .box 43 3 (.val (.agg [(.int .i64 0), (.int .i64 0), (.slice .full 0 [])])), none, []⟩,
 ⟨none, .st 3 (.tmp 8) (.tmp 27), none, []⟩,
 ⟨(some 9), .mv (.tmp 28), none, []⟩])
 (.seq
 (.reg [
 ⟨(some 29), .mv (.tmp 9), none, []⟩])
 (.cond (.tmp 29)
 (.exit 1)
 .skip)))
 (.seq
 (.reg [
 ⟨(some 30), .mv (.tmp 5), none, []⟩,
 ⟨(some 31), .off 1 (.tmp 7), none, []⟩,
 ⟨(some 32), .ld none (.tmp 31), none, []⟩,
 ⟨(some 33), .ld (some 3) (.tmp 7), none, []⟩,
 ⟨none, .prim (.mapSet (.sc 0)) [(.tmp 30), (.tmp 32), (.tmp 33)], none, []⟩])
 (.seq
 (.reg [
 ⟨(some 34), .ld (some 3) (.tmp 7), none, []⟩,
 ⟨(some 35), .callS 61 [(.tmp 34)], none, []⟩])
 (.cond (.tmp 35)
 (.seq
 (.reg [
 ⟨(some 36), .bld [(.int .i64 0), (.slice .full 0 []), (.int .i64 0), (.int .i64 0)] [], none, []⟩,
 ⟨(some 37), .ld (some 3) (.tmp 7), none, []⟩,
 ⟨(some 38), .callS 31 [(.val (.slice .full 0 [])), (.tmp 37)], none, []⟩,
 ⟨(some 39), .bld [(.int .i64 0), (.int .i64 0), (.slice .full 0 [])] [(0, 1, (.val (.int .i64 3))), (1, 1, (.val (.int .i64 2))), (2, 1, (.tmp 38))], none, []⟩,
 ⟨none, .st 4 (.tmp 2) (.tmp 36), none, []⟩,
 ⟨(some 3), .mv (.val (.int .i64 2)), none, []⟩,
 ⟨none, .st 3 (.tmp 4) (.tmp 39), none, []⟩])
 .ret)
 .skip))))))
 (.reg [
 ⟨(some 40), .bin .add (.tmp 18) (.val (.int .i64 1)), none, []⟩,
 ⟨(some 18), .mv (.tmp 40), none, []⟩])))))))
 (.seq
 (.reg [
 ⟨(some 10), .box 46 4 (.val (.agg [(.int .i64 0), (.slice .full 0 []), (.int .i64 0), (.int .i64 0)])), none, []⟩])
 (.seq
 (.seq
 (.reg [
 ⟨(some 41), .callS 62 [], none, []⟩,
 ⟨(some 42), .len (.tmp 41), none, []⟩,
 ⟨(some 43), .mv (.val (.int .i64 0)), none, []⟩])
 (.block 2
 (.loop
 (.seq
 (.reg [
 ⟨(some 44), .bin .lss (.tmp 43) (.tmp 42), none, []⟩])
 (.seq
 (.cond (.tmp 44)
 .skip
 (.exit 2))
 (.seq
 (.block 3
 (.seq
 (.reg [
 ⟨(some 45), .idxA 4 (.tmp 41) (.tmp 43), none, []⟩,
 ⟨(some 46), .ld (some 4) (.tmp 45), none, []⟩,
 ⟨(some 12), .box 91 4 (.val (.agg [(.int .i64 0), (.int .i64 0), (.bool false), .nilFn])), none, []⟩,
 ⟨none, .st 4 (.tmp 12) (.tmp 46), none, []⟩])
 (.seq
 (.reg [
 ⟨(some 48), .mv (.tmp 5), none, []⟩,
 ⟨(some 49), .off 0 (.tmp 12), none, []⟩,
 ⟨(some 50), .ld none (.tmp 49), none, []⟩,
 ⟨(some 51), .prim (.mapGet (.sc 0) (.agg [(.int .i64 0), (.int .i64 0), (.slice .full 0 [])]) true) [(.tmp 48), (.tmp 50)], none, []⟩,
 ⟨(some 47), .mv (.tmp 51), none, []⟩,
 ⟨(some 52), .ext (.tmp 47) 0, none, []⟩,
 ⟨(some 53), .ext (.tmp 47) 1, none, []⟩,
 ⟨(some 13), .box 43 3 (.val (.agg [(.int .i64 0), (.int .i64 0), (.slice .full 0 [])])), none, []⟩,
 ⟨none, .st 3 (.tmp 13) (.tmp 52), none, []⟩,
 ⟨(some 14), .mv (.tmp 53), none, []⟩])
 (.seq
 (.seq
 (.reg [
 ⟨(some 54), .mv (.tmp 14), none, []⟩,
 ⟨(some 55), .un .not (.tmp 54), none, []⟩,
 ⟨(some 56), .mv (.tmp 55), none, []⟩,
 ⟨(some 57), .off 2 (.tmp 12), some (56, true), []⟩,
 ⟨(some 58), .ld none (.tmp 57), some (56, true), []⟩,
 ⟨(some 59), .un .not (.tmp 58), some (56, true), []⟩,
 ⟨(some 60), .pick (.tmp 56) (.tmp 59) (.val (.bool false)), none, []⟩])
 (.cond (.tmp 60)
 (.exit 3)
 .skip))
 (.seq
 (.reg [
 ⟨(some 61), .mv (.tmp 14), none, []⟩,
 ⟨(some 62), .un .not (.tmp 61), none, []⟩,
 ⟨(some 63), .mv (.tmp 62), none, []⟩,
 ⟨(some 64), .off 0 (.tmp 13), some (63, false), []⟩,
 ⟨(some 65), .ld none (.tmp 64), some (63, false), []⟩,
 ⟨(some 66), .bin .and (.tmp 65) (.val (.int .i64 192)), some (63, false), []⟩,
 ⟨(some 67), .off 1 (.tmp 12), some (63, false), []⟩,
 ⟨(some 68), .ld none (.tmp 67), some (63, false), []⟩,
 ⟨(some 69), .bin .neq (.tmp 66) (.tmp 68), some (63, false), []⟩,
 ⟨(some 70), .pick (.tmp 63) (.val (.bool true)) (.tmp 69), none, []⟩,
 ⟨(some 71), .mv (.tmp 70), none, []⟩,
 ⟨(some 72), .off 3 (.tmp 12), some (71, false), []⟩,
 ⟨(some 73), .ld none (.tmp 72), some (71, false), []⟩,
 ⟨(some 74), .off 2 (.tmp 13), some (71, false), []⟩,
 ⟨(some 75), .ld none (.tmp 74), some (71, false), []⟩,
 ⟨(some 76), .callvS (.tmp 73) [(.tmp 10), (.tmp 75)], some (71, false), []⟩,
 ⟨(some 77), .un .not (.tmp 76), some (71, false), []⟩,
 ⟨(some 78), .pick (.tmp 71) (.val (.bool true)) (.tmp 77), none, []⟩])
 (.cond (.tmp 78)
 (.seq
 (.reg [
 ⟨(some 79), .bld [(.int .i64 0), (.slice .full 0 []), (.int .i64 0), (.int .i64 0)] [], none, []⟩,
 ⟨(some 80), .bld [(.int .i64 0), (.int .i64 0), (.slice .full 0 [])] [], none, []⟩,
 ⟨none, .st 4 (.tmp 2) (.tmp 79), none, []⟩,
 ⟨(some 3), .mv (.val (.int .i64 1)), none, []⟩,
 ⟨none, .st 3 (.tmp 4) (.tmp 80), none, []⟩])
 .ret)
 .skip))))))
 (.reg [
 ⟨(some 81), .bin .add (.tmp 43) (.val (.int .i64 1)), none, []⟩,
 ⟨(some 43), .mv (.tmp 81), none, []⟩])))))))
 (.seq
 (.reg [
 ⟨(some 82), .ld (some 4) (.tmp 10), none, []⟩,
 ⟨(some 83), .bld [(.int .i64 0), (.int .i64 0), (.slice .full 0 [])] [], none, []⟩,
 ⟨none, .st 4 (.tmp 2) (.tmp 82), none, []⟩,
 ⟨(some 3), .mv (.val (.int .i64 0)), none, []⟩,
 ⟨none, .st 3 (.tmp 4) (.tmp 83), none, []⟩])
 .ret))))))
def c_attr_Judge : AF := ⟨b_attr_Judge, 84, [.cell 2 (some 4), .tmp 3, .cell 4 (some 3)]⟩
theorem p_attr_Judge : prepFunc Try.prog 38 = some c_attr_Judge ∧ hasBody Try.prog 38 = true := ⟨by kernel_rfl, by kernel_rfl⟩
def b_ridgewayref07_Judge : AC :=
 (.seq
 (.reg [
 ⟨(some 2), .box 46 4 (.val (.agg [(.int .i64 0), (.slice .full 0 []), (.int .i64 0), (.int .i64 0)])), none, []⟩,
 ⟨(some 3), .mv (.val (.int .i64 0)), none, []⟩,
 ⟨(some 4), .box 29 3 (.val (.agg [(.int .i64 0), (.int .i64 0), (.slice .full 0 [])])), none, []⟩])
 (.seq
 (.reg [
 ⟨(some 7), .bld [(.int .i64 0), (.slice .full 0 []), (.int .i64 0), (.int .i64 0), (.slice .full 0 []), (.bool false), (.int .i64 0), (.int .i64 0), (.slice .full 0 [])] [], none, []⟩,
 ⟨(some 8), .box 95 9 (.tmp 7), none, []⟩,
 ⟨(some 5), .mv (.tmp 8), none, []⟩])
 (.seq
 (.seq
 (.reg [
 ⟨(some 6), .mv (.val (.int .i64 0)), none, []⟩])
 (.block 0
 (.loop
 (.seq
 (.seq
 (.reg [
 ⟨(some 9), .mv (.tmp 6), none, []⟩,
 ⟨(some 10), .mv (.tmp 0), none, []⟩,
 ⟨(some 11), .len (.tmp 10), none, []⟩,
 ⟨(some 12), .bin .lss (.tmp 9) (.tmp 11), none, []⟩])
 (.cond (.tmp 12)
 .skip
 (.exit 0)))
 (.seq
 (.block 1
 (.seq
 (.reg [
 ⟨(some 15), .mv (.tmp 5), none, []⟩,
 ⟨(some 16), .mv (.tmp 0), none, []⟩,
 ⟨(some 17), .mv (.tmp 6), none, []⟩,
 ⟨(some 18), .idxA 3 (.tmp 16) (.tmp 17), none, []⟩,
 ⟨(some 19), .off 1 (.tmp 18), none, []⟩,
 ⟨(some 20), .ld none (.tmp 19), none, []⟩,
 ⟨(some 21), .callS 63 [(.tmp 15), (.tmp 20)], none, []⟩,
 ⟨(some 22), .un .not (.tmp 21), none, []⟩])
 (.cond (.tmp 22)
 (.seq
 (.reg [
 ⟨(some 24), .mv (.tmp 5), none, []⟩,
 ⟨(some 25), .nilc (.tmp 24), none, []⟩,
 ⟨(some 26), .off 4 (.tmp 25), none, []⟩,
 ⟨(some 27), .ld none (.tmp 26), none, []⟩,
 ⟨(some 28), .mv (.tmp 0), none, []⟩,
 ⟨(some 29), .mv (.tmp 6), none, []⟩,
 ⟨(some 30), .idxA 3 (.tmp 28) (.tmp 29), none, []⟩,
 ⟨(some 31), .off 1 (.tmp 30), none, []⟩,
 ⟨(some 32), .ld none (.tmp 31), none, []⟩,
 ⟨(some 33), .lit 3 1 [0] [(.tmp 32)], none, []⟩,
 ⟨(some 23), .mv (.tmp 5), none, []⟩,
 ⟨(some 34), .app 3 1 8 (.tmp 27) (.tmp 33), none, []⟩,
 ⟨(some 35), .nilc (.tmp 23), none, []⟩,
 ⟨(some 36), .off 4 (.tmp 35), none, []⟩,
 ⟨none, .st 1 (.tmp 36) (.tmp 34), none, []⟩])
 (.reg [
 ⟨(some 37), .mv (.tmp 5), none, []⟩,
 ⟨(some 38), .mv (.tmp 0), none, []⟩,
 ⟨(some 39), .mv (.tmp 6), none, []⟩,
 ⟨(some 40), .idxA 3 (.tmp 38) (.tmp 39), none, []⟩,
 ⟨(some 41), .ld (some 3) (.tmp 40), none, []⟩,
 ⟨(some 42), .callS 64 [(.tmp 37), (.tmp 41)], none, []⟩]))
 .skip)))
 (.reg [
 ⟨(some 13), .mv (.tmp 6), none, []⟩,
 ⟨(some 14), .bin .add (.tmp 13) (.val (.int .i64 1)), none, []⟩,
 ⟨(some 6), .mv (.tmp 14), none, []⟩]))))))
 (.seq
 (.seq
 (.reg [
 ⟨(some 43), .mv (.tmp 5), none, []⟩,
 ⟨(some 44), .nilc (.tmp 43), none, []⟩,
 ⟨(some 45), .off 6 (.tmp 44), none, []⟩,
 ⟨(some 46), .off 0 (.tmp 45), none, []⟩,
 ⟨(some 47), .ld none (.tmp 46), none, []⟩,
 ⟨(some 48), .bin .neq (.tmp 47) (.val (.int .i64 0)), none, []⟩])
 (.cond (.tmp 48)
 (.seq
 (.reg [
 ⟨(some 49), .bld [(.int .i64 0), (.slice .full 0 []), (.int .i64 0), (.int .i64 0)] [], none, []⟩,
 ⟨(some 50), .mv (.tmp 5), none, []⟩,
 ⟨(some 51), .nilc (.tmp 50), none, []⟩,
 ⟨(some 52), .off 6 (.tmp 51), none, []⟩,
 ⟨(some 53), .ld (some 3) (.tmp 52), none, []⟩,
 ⟨none, .st 4 (.tmp 2) (.tmp 49), none, [((some 3), (.tmp 52), 53)]⟩,
 ⟨(some 3), .mv (.val (.int .i64 2)), none, [((some 3), (.tmp 52), 53)]⟩,
 ⟨none, .st 3 (.tmp 4) (.tmp 53), none, []⟩])
 .ret)
 .skip))
 (.seq
 (.seq
 (.reg [
 ⟨(some 54), .mv (.tmp 5), none, []⟩,
 ⟨(some 55), .nilc (.tmp 54), none, []⟩,
 ⟨(some 56), .off 5 (.tmp 55), none, []⟩,
 ⟨(some 57), .ld none (.tmp 56), none, []⟩,
 ⟨(some 58), .mv (.tmp 57), none, []⟩,
 ⟨(some 59), .mv (.tmp 5), some (58, false), []⟩,
 ⟨(some 60), .callS 63 [(.tmp 59), (.val (.int .i64 1))], some (58, false), []⟩,
 ⟨(some 61), .un .not (.tmp 60), some (58, false), []⟩,
 ⟨(some 62), .pick (.tmp 58) (.val (.bool true)) (.tmp 61), none, []⟩,
 ⟨(some 63), .mv (.tmp 62), none, []⟩,
 ⟨(some 64), .mv (.tmp 5), some (63, false), []⟩,
 ⟨(some 65), .callS 63 [(.tmp 64), (.val (.int .i64 2))], some (63, false), []⟩,
 ⟨(some 66), .un .not (.tmp 65), some (63, false), []⟩,
 ⟨(some 67), .pick (.tmp 63) (.val (.bool true)) (.tmp 66), none, []⟩,
 ⟨(some 68), .mv (.tmp 67), none, []⟩,
 ⟨(some 69), .mv (.tmp 5), some (68, false), []⟩,
 ⟨(some 70), .callS 63 [(.tmp 69), (.val (.int .i64 3))], some (68, false), []⟩,
 ⟨(some 71), .un .not (.tmp 70), some (68, false), []⟩,
 ⟨(some 72), .pick (.tmp 68) (.val (.bool true)) (.tmp 71), none, []⟩])
 (.cond (.tmp 72)
 (.seq
 (.reg [
 ⟨(some 73), .bld [(.int .i64 0), (.slice .full 0 []), (.int .i64 0), (.int .i64 0)] [], none, []⟩,
 ⟨(some 74), .bld [(.int .i64 0), (.int .i64 0), (.slice .full 0 [])] [], none, []⟩,
 ⟨none, .st 4 (.tmp 2) (.tmp 73), none, []⟩,
 ⟨(some 3), .mv (.val (.int .i64 1)), none, []⟩,
 ⟨none, .st 3 (.tmp 4) (.tmp 74), none, []⟩])
 .ret)
 .skip))
 (.seq
 (.reg [
 ⟨(some 75), .mv (.tmp 5), none, []⟩,
 ⟨(some 76), .nilc (.tmp 75), none, []⟩,
 ⟨(some 77), .off 0 (.tmp 76), none, []⟩,
 ⟨(some 78), .ld (some 4) (.tmp 77), none, []⟩,
 ⟨(some 79), .bld [(.int .i64 0), (.int .i64 0), (.slice .full 0 [])] [], none, []⟩,
 ⟨none, .st 4 (.tmp 2) (.tmp 78), none, []⟩,
 ⟨(some 3), .mv (.val (.int .i64 0)), none, []⟩,
 ⟨none, .st 3 (.tmp 4) (.tmp 79), none, []⟩])
 .ret))))))
def c_ridgewayref07_Judge : AF := ⟨b_ridgewayref07_Judge, 80, [.cell 2 (some 4), .tmp 3, .cell 4 (some 3)]⟩
theorem p_ridgewayref07_Judge : prepFunc Try.prog 39 = some c_ridgewayref07_Judge ∧ hasBody Try.prog 39 = true := ⟨by kernel_rfl, by kernel_rfl⟩
def b_ridgewayref07_SamePath : AC :=
 (.seq
 (.reg [
 ⟨(some 2), .box 46 4 (.tmp 0), none, []⟩,
 ⟨(some 3), .box 46 4 (.tmp 1), none, []⟩,
 ⟨(some 4), .mv (.val (.bool false)), none, []⟩])
 (.seq
 (.seq
 (.reg [
 ⟨(some 6), .off 0 (.tmp 2), none, []⟩,
 ⟨(some 7), .ld none (.tmp 6), none, []⟩,
 ⟨(some 8), .off 0 (.tmp 3), none, []⟩,
 ⟨(some 9), .ld none (.tmp 8), none, []⟩,
 ⟨(some 10), .bin .neq (.tmp 7) (.tmp 9), none, []⟩,
 ⟨(some 11), .mv (.tmp 10), none, []⟩,
 ⟨(some 12), .off 2 (.tmp 2), some (11, false), []⟩,
 ⟨(some 13), .ld none (.tmp 12), some (11, false), []⟩,
 ⟨(some 14), .off 2 (.tmp 3), some (11, false), []⟩,
 ⟨(some 15), .ld none (.tmp 14), some (11, false), []⟩,
 ⟨(some 16), .bin .neq (.tmp 13) (.tmp 15), some (11, false), []⟩,
 ⟨(some 17), .pick (.tmp 11) (.val (.bool true)) (.tmp 16), none, []⟩,
 ⟨(some 18), .mv (.tmp 17), none, []⟩,
 ⟨(some 19), .off 3 (.tmp 2), some (18, false), []⟩,
 ⟨(some 20), .ld none (.tmp 19), some (18, false), []⟩,
 ⟨(some 21), .off 3 (.tmp 3), some (18, false), []⟩,
 ⟨(some 22), .ld none (.tmp 21), some (18, false), []⟩,
 ⟨(some 23), .bin .neq (.tmp 20) (.tmp 22), some (18, false), []⟩,
 ⟨(some 24), .pick (.tmp 18) (.val (.bool true)) (.tmp 23), none, []⟩,
 ⟨(some 25), .mv (.tmp 24), none, []⟩,
 ⟨(some 26), .off 1 (.tmp 2), some (25, false), []⟩,
 ⟨(some 27), .ld none (.tmp 26), some (25, false), []⟩,
 ⟨(some 28), .len (.tmp 27), some (25, false), []⟩,
 ⟨(some 29), .off 1 (.tmp 3), some (25, false), []⟩,
 ⟨(some 30), .ld none (.tmp 29), some (25, false), []⟩,
 ⟨(some 31), .len (.tmp 30), some (25, false), []⟩,
 ⟨(some 32), .bin .neq (.tmp 28) (.tmp 31), some (25, false), []⟩,
 ⟨(some 33), .pick (.tmp 25) (.val (.bool true)) (.tmp 32), none, []⟩])
 (.cond (.tmp 33)
 (.seq
 (.reg [
 ⟨(some 4), .mv (.val (.bool false)), none, []⟩])
 .ret)
 .skip))
 (.seq
 (.seq
 (.reg [
 ⟨(some 5), .mv (.val (.int .i64 0)), none, []⟩])
 (.block 0
 (.loop
 (.seq
 (.seq
 (.reg [
 ⟨(some 34), .mv (.tmp 5), none, []⟩,
 ⟨(some 35), .off 1 (.tmp 2), none, []⟩,
 ⟨(some 36), .ld none (.tmp 35), none, []⟩,
 ⟨(some 37), .len (.tmp 36), none, []⟩,
 ⟨(some 38), .bin .lss (.tmp 34) (.tmp 37), none, []⟩])
 (.cond (.tmp 38)
 .skip
 (.exit 0)))
 (.seq
 (.block 1
 (.seq
 (.reg [
 ⟨(some 41), .off 1 (.tmp 2), none, []⟩,
 ⟨(some 42), .ld none (.tmp 41), none, []⟩,
 ⟨(some 43), .mv (.tmp 5), none, []⟩,
 ⟨(some 44), .idxA 1 (.tmp 42) (.tmp 43), none, []⟩,
 ⟨(some 45), .ld none (.tmp 44), none, []⟩,
 ⟨(some 46), .off 1 (.tmp 3), none, []⟩,
 ⟨(some 47), .ld none (.tmp 46), none, []⟩,
 ⟨(some 48), .mv (.tmp 5), none, []⟩,
 ⟨(some 49), .idxA 1 (.tmp 47) (.tmp 48), none, []⟩,
 ⟨(some 50), .ld none (.tmp 49), none, []⟩,
 ⟨(some 51), .bin .neq (.tmp 45) (.tmp 50), none, []⟩])
 (.cond (.tmp 51)
 (.seq
 (.reg [
 ⟨(some 4), .mv (.val (.bool false)), none, []⟩])
 .ret)
 .skip)))
 (.reg [
 ⟨(some 39), .mv (.tmp 5), none, []⟩,
 ⟨(some 40), .bin .add (.tmp 39) (.val (.int .i64 1)), none, []⟩,
 ⟨(some 5), .mv (.tmp 40), none, []⟩]))))))
 (.seq
 (.reg [
 ⟨(some 4), .mv (.val (.bool true)), none, []⟩])
 .ret))))
def c_ridgewayref07_SamePath : AF := ⟨b_ridgewayref07_SamePath, 52, [.tmp 4]⟩
theorem p_ridgewayref07_SamePath : prepFunc Try.prog 40 = some c_ridgewayref07_SamePath ∧ hasBody Try.prog 40 = true := ⟨by kernel_rfl, by kernel_rfl⟩
def b_octet_Get : AC :=
 (.seq
 (.reg [
 ⟨(some 4), .mv (.val (.int .i64 0)), none, []⟩,
 ⟨(some 5), .mv (.val (.slice .full 0 [])), none, []⟩,
 ⟨(some 6), .mv (.val (.bool false)), none, []⟩])
 (.seq
 (.seq
 (.reg [
 ⟨(some 13), .mv (.tmp 1), none, []⟩,
 ⟨(some 14), .bin .lss (.tmp 13) (.val (.int .i64 1)), none, []⟩,
 ⟨(some 15), .mv (.tmp 14), none, []⟩,
 ⟨(some 16), .mv (.tmp 1), some (15, false), []⟩,
 ⟨(some 17), .bin .gtr (.tmp 16) (.val (.int .i64 4)), some (15, false), []⟩,
 ⟨(some 18), .pick (.tmp 15) (.val (.bool true)) (.tmp 17), none, []⟩])
 (.cond (.tmp 18)
 (.seq
 (.reg [
 ⟨(some 4), .mv (.val (.int .i64 0)), none, []⟩,
 ⟨(some 5), .mv (.val (.slice .full 0 [])), none, []⟩,
 ⟨(some 6), .mv (.val (.bool false)), none, []⟩])
 .ret)
 .skip))
 (.seq
 (.reg [
 ⟨(some 20), .mv (.tmp 0), none, []⟩,
 ⟨(some 21), .mv (.tmp 1), none, []⟩,
 ⟨(some 22), .callS 57 [(.tmp 20), (.tmp 21)], none, []⟩,
 ⟨(some 19), .mv (.tmp 22), none, []⟩,
 ⟨(some 23), .ext (.tmp 19) 0, none, []⟩,
 ⟨(some 24), .ext (.tmp 19) 1, none, []⟩,
 ⟨(some 25), .ext (.tmp 19) 2, none, []⟩,
 ⟨(some 7), .mv (.tmp 23), none, []⟩,
 ⟨(some 8), .mv (.tmp 24), none, []⟩,
 ⟨(some 9), .mv (.tmp 25), none, []⟩])
 (.seq
 (.reg [
 ⟨(some 10), .mv (.val (.int .i64 0)), none, []⟩])
 (.seq
 (.seq
 (.reg [
 ⟨(some 26), .mv (.tmp 7), none, []⟩,
 ⟨(some 27), .len (.tmp 26), none, []⟩,
 ⟨(some 28), .mv (.val (.int .i64 0)), none, []⟩])
 (.block 0
 (.loop
 (.seq
 (.reg [
 ⟨(some 29), .bin .lss (.tmp 28) (.tmp 27), none, []⟩])
 (.seq
 (.cond (.tmp 29)
 .skip
 (.exit 0))
 (.seq
 (.block 1
 (.seq
 (.reg [
 ⟨(some 30), .idxA 1 (.tmp 26) (.tmp 28), none, []⟩,
 ⟨(some 31), .ld none (.tmp 30), none, []⟩,
 ⟨(some 12), .mv (.tmp 31), none, []⟩])
 (.reg [
 ⟨(some 32), .mv (.tmp 10), none, []⟩,
 ⟨(some 33), .bin .shl (.tmp 32) (.val (.int .u64 8)), none, []⟩,
 ⟨(some 34), .mv (.tmp 12), none, []⟩,
 ⟨(some 35), .conv .i64 (.tmp 34), none, []⟩,
 ⟨(some 36), .bin .or (.tmp 33) (.tmp 35), none, []⟩,
 ⟨(some 10), .mv (.tmp 36), none, []⟩])))
 (.reg [
 ⟨(some 37), .bin .add (.tmp 28) (.val (.int .i64 1)), none, []⟩,
 ⟨(some 28), .mv (.tmp 37), none, []⟩])))))))
 (.seq
 (.reg [
 ⟨(some 38), .mv (.tmp 10), none, []⟩,
 ⟨(some 39), .mv (.tmp 8), none, []⟩,
 ⟨(some 40), .mv (.tmp 9), none, []⟩,
 ⟨(some 4), .mv (.tmp 38), none, []⟩,
 ⟨(some 5), .mv (.tmp 39), none, []⟩,
 ⟨(some 6), .mv (.tmp 40), none, []⟩])
 .ret))))))
def c_octet_Get : AF := ⟨b_octet_Get, 41, [.tmp 4, .tmp 5, .tmp 6]⟩
theorem p_octet_Get : prepFunc Try.prog 41 = some c_octet_Get ∧ hasBody Try.prog 41 = true := ⟨by kernel_rfl, by kernel_rfl⟩
def b_octet_Put : AC :=
 (.seq
 (.reg [
 ⟨(some 6), .mv (.val (.slice .full 0 [])), none, []⟩])
 (.seq
 (.seq
 (.reg [
 ⟨(some 9), .mv (.tmp 2), none, []⟩,
 ⟨(some 10), .bin .lss (.tmp 9) (.val (.int .i64 1)), none, []⟩,
 ⟨(some 11), .mv (.tmp 10), none, []⟩,
 ⟨(some 12), .mv (.tmp 2), some (11, false), []⟩,
 ⟨(some 13), .bin .gtr (.tmp 12) (.val (.int .i64 4)), some (11, false), []⟩,
 ⟨(some 14), .pick (.tmp 11) (.val (.bool true)) (.tmp 13), none, []⟩])
 (.cond (.tmp 14)
 (.seq
 (.reg [
 ⟨(some 15), .mv (.tmp 0), none, []⟩,
 ⟨(some 6), .mv (.tmp 15), none, []⟩])
 .ret)
 .skip))
 (.seq
 (.reg [
 ⟨(some 16), .mv (.tmp 0), none, []⟩,
 ⟨(some 17), .mv (.tmp 0), none, []⟩,
 ⟨(some 18), .len (.tmp 17), none, []⟩,
 ⟨(some 19), .mv (.tmp 0), none, []⟩,
 ⟨(some 20), .len (.tmp 19), none, []⟩,
 ⟨(some 21), .slc 1 (.tmp 16) none (some (.tmp 18)) (some (.tmp 20)), none, []⟩,
 ⟨(some 7), .mv (.tmp 21), none, []⟩])
 (.seq
 (.seq
 (.reg [
 ⟨(some 22), .mv (.tmp 2), none, []⟩,
 ⟨(some 23), .mv (.val (.int .i64 0)), none, []⟩])
 (.block 0
 (.loop
 (.seq
 (.reg [
 ⟨(some 24), .bin .lss (.tmp 23) (.tmp 22), none, []⟩])
 (.seq
 (.cond (.tmp 24)
 .skip
 (.exit 0))
 (.seq
 (.block 1
 (.seq
 (.reg [
 ⟨(some 25), .mv (.tmp 23), none, []⟩,
 ⟨(some 8), .mv (.tmp 25), none, []⟩])
 (.reg [
 ⟨(some 26), .mv (.tmp 7), none, []⟩,
 ⟨(some 27), .mv (.tmp 1), none, []⟩,
 ⟨(some 28), .mv (.tmp 2), none, []⟩,
 ⟨(some 29), .bin .sub (.tmp 28) (.val (.int .i64 1)), none, []⟩,
 ⟨(some 30), .mv (.tmp 8), none, []⟩,
 ⟨(some 31), .bin .sub (.tmp 29) (.tmp 30), none, []⟩,
 ⟨(some 32), .bin .mul (.val (.int .i64 8)) (.tmp 31), none, []⟩,
 ⟨(some 33), .bin .shr (.tmp 27) (.tmp 32), none, []⟩,
 ⟨(some 34), .conv .u8 (.tmp 33), none, []⟩,
 ⟨(some 35), .lit 5 1 [0] [(.tmp 34)], none, []⟩,
 ⟨(some 36), .app 5 1 1 (.tmp 26) (.tmp 35), none, []⟩,
 ⟨(some 7), .mv (.tmp 36), none, []⟩])))
 (.reg [
 ⟨(some 37), .bin .add (.tmp 23) (.val (.int .i64 1)), none, []⟩,
 ⟨(some 23), .mv (.tmp 37), none, []⟩])))))))
 (.seq
 (.reg [
 ⟨(some 38), .mv (.tmp 7), none, []⟩,
 ⟨(some 6), .mv (.tmp 38), none, []⟩])
 .ret)))))
def c_octet_Put : AF := ⟨b_octet_Put, 39, [.tmp 6]⟩
theorem p_octet_Put : prepFunc Try.prog 42 = some c_octet_Put ∧ hasBody Try.prog 42 = true := ⟨by kernel_rfl, by kernel_rfl⟩
def b_ridgewayref01_Get : AC :=
 (.seq
 (.reg [
 ⟨(some 4), .mv (.val (.int .i64 0)), none, []⟩,
 ⟨(some 5), .mv (.val (.slice .full 0 [])), none, []⟩,
 ⟨(some 6), .mv (.val (.bool false)), none, []⟩])
 (.seq
 (.seq
 (.reg [
 ⟨(some 9), .mv (.tmp 1), none, []⟩,
 ⟨(some 10), .bin .lss (.tmp 9) (.val (.int .i64 1)), none, []⟩,
 ⟨(some 11), .mv (.tmp 10), none, []⟩,
 ⟨(some 12), .mv (.tmp 1), some (11, false), []⟩,
 ⟨(some 13), .bin .gtr (.tmp 12) (.val (.int .i64 4)), some (11, false), []⟩,
 ⟨(some 14), .pick (.tmp 11) (.val (.bool true)) (.tmp 13), none, []⟩,
 ⟨(some 15), .mv (.tmp 14), none, []⟩,
 ⟨(some 16), .mv (.tmp 0), some (15, false), []⟩,
 ⟨(some 17), .len (.tmp 16), some (15, false), []⟩,
 ⟨(some 18), .mv (.tmp 1), some (15, false), []⟩,
 ⟨(some 19), .bin .lss (.tmp 17) (.tmp 18), some (15, false), []⟩,
 ⟨(some 20), .pick (.tmp 15) (.val (.bool true)) (.tmp 19), none, []⟩])
 (.cond (.tmp 20)
 (.seq
 (.reg [
 ⟨(some 4), .mv (.val (.int .i64 0)), none, []⟩,
 ⟨(some 5), .mv (.val (.slice .full 0 [])), none, []⟩,
 ⟨(some 6), .mv (.val (.bool false)), none, []⟩])
 .ret)
 .skip))
 (.seq
 (.reg [
 ⟨(some 7), .mv (.val (.int .i64 0)), none, []⟩])
 (.seq
 (.seq
 (.reg [
 ⟨(some 8), .mv (.val (.int .i64 0)), none, []⟩])
 (.block 0
 (.loop
 (.seq
 (.seq
 (.reg [
 ⟨(some 21), .mv (.tmp 8), none, []⟩,
 ⟨(some 22), .mv (.tmp 1), none, []⟩,
 ⟨(some 23), .bin .lss (.tmp 21) (.tmp 22), none, []⟩])
 (.cond (.tmp 23)
 .skip
 (.exit 0)))
 (.seq
 (.block 1
 (.reg [
 ⟨(some 26), .mv (.tmp 7), none, []⟩,
 ⟨(some 27), .bin .mul (.tmp 26) (.val (.int .i64 256)), none, []⟩,
 ⟨(some 28), .mv (.tmp 0), none, []⟩,
 ⟨(some 29), .mv (.tmp 8), none, []⟩,
 ⟨(some 30), .idxA 1 (.tmp 28) (.tmp 29), none, []⟩,
 ⟨(some 31), .ld none (.tmp 30), none, []⟩,
 ⟨(some 32), .conv .i64 (.tmp 31), none, []⟩,
 ⟨(some 33), .bin .add (.tmp 27) (.tmp 32), none, []⟩,
 ⟨(some 7), .mv (.tmp 33), none, []⟩]))
 (.reg [
 ⟨(some 24), .mv (.tmp 8), none, []⟩,
 ⟨(some 25), .bin .add (.tmp 24) (.val (.int .i64 1)), none, []⟩,
 ⟨(some 8), .mv (.tmp 25), none, []⟩]))))))
 (.seq
 (.reg [
 ⟨(some 34), .mv (.tmp 7), none, []⟩,
 ⟨(some 35), .mv (.tmp 0), none, []⟩,
 ⟨(some 36), .mv (.tmp 1), none, []⟩,
 ⟨(some 37), .slc 1 (.tmp 35) (some (.tmp 36)) none none, none, []⟩,
 ⟨(some 4), .mv (.tmp 34), none, []⟩,
 ⟨(some 5), .mv (.tmp 37), none, []⟩,
 ⟨(some 6), .mv (.val (.bool true)), none, []⟩])
 .ret)))))
def c_ridgewayref01_Get : AF := ⟨b_ridgewayref01_Get, 38, [.tmp 4, .tmp 5, .tmp 6]⟩
theorem p_ridgewayref01_Get : prepFunc Try.prog 48 = some c_ridgewayref01_Get ∧ hasBody Try.prog 48 = true := ⟨by kernel_rfl, by kernel_rfl⟩
def b_octet_Take : AC :=
 (.seq
 (.reg [
 ⟨(some 4), .mv (.val (.slice .full 0 [])), none, []⟩,
 ⟨(some 5), .mv (.val (.slice .full 0 [])), none, []⟩,
 ⟨(some 6), .mv (.val (.bool false)), none, []⟩])
 (.seq
 (.seq
 (.reg [
 ⟨(some 7), .mv (.tmp 1), none, []⟩,
 ⟨(some 8), .bin .lss (.tmp 7) (.val (.int .i64 0)), none, []⟩,
 ⟨(some 9), .mv (.tmp 8), none, []⟩,
 ⟨(some 10), .mv (.tmp 1), some (9, false), []⟩,
 ⟨(some 11), .mv (.tmp 0), some (9, false), []⟩,
 ⟨(some 12), .len (.tmp 11), some (9, false), []⟩,
 ⟨(some 13), .bin .gtr (.tmp 10) (.tmp 12), some (9, false), []⟩,
 ⟨(some 14), .pick (.tmp 9) (.val (.bool true)) (.tmp 13), none, []⟩])
 (.cond (.tmp 14)
 (.seq
 (.reg [
 ⟨(some 4), .mv (.val (.slice .full 0 [])), none, []⟩,
 ⟨(some 5), .mv (.val (.slice .full 0 [])), none, []⟩,
 ⟨(some 6), .mv (.val (.bool false)), none, []⟩])
 .ret)
 .skip))
 (.seq
 (.reg [
 ⟨(some 15), .mv (.tmp 0), none, []⟩,
 ⟨(some 16), .mv (.tmp 1), none, []⟩,
 ⟨(some 17), .mv (.tmp 1), none, []⟩,
 ⟨(some 18), .slc 1 (.tmp 15) none (some (.tmp 16)) (some (.tmp 17)), none, []⟩,
 ⟨(some 19), .mv (.tmp 0), none, []⟩,
 ⟨(some 20), .mv (.tmp 1), none, []⟩,
 ⟨(some 21), .slc 1 (.tmp 19) (some (.tmp 20)) none none, none, []⟩,
 ⟨(some 4), .mv (.tmp 18), none, []⟩,
 ⟨(some 5), .mv (.tmp 21), none, []⟩,
 ⟨(some 6), .mv (.val (.bool true)), none, []⟩])
 .ret)))
def c_octet_Take : AF := ⟨b_octet_Take, 22, [.tmp 4, .tmp 5, .tmp 6]⟩
theorem p_octet_Take : prepFunc Try.prog 57 = some c_octet_Take ∧ hasBody Try.prog 57 = true := ⟨by kernel_rfl, by kernel_rfl⟩
def b_attr_octetSized : AC :=
 (.seq
 (.reg [
 ⟨(some 2), .mv (.val (.bool false)), none, []⟩])
 (.seq
 (.reg [
 ⟨(some 3), .mv (.tmp 0), none, []⟩,
 ⟨(some 4), .bin .geq (.tmp 3) (.val (.int .i64 0)), none, []⟩,
 ⟨(some 5), .mv (.tmp 4), none, []⟩,
 ⟨(some 6), .mv (.tmp 0), some (5, true), []⟩,
 ⟨(some 7), .bin .leq (.tmp 6) (.val (.int .i64 255)), some (5, true), []⟩,
 ⟨(some 8), .pick (.tmp 5) (.tmp 7) (.val (.bool false)), none, []⟩,
 ⟨(some 2), .mv (.tmp 8), none, []⟩])
 .ret))
def c_attr_octetSized : AF := ⟨b_attr_octetSized, 9, [.tmp 2]⟩
theorem p_attr_octetSized : prepFunc Try.prog 58 = some c_attr_octetSized ∧ hasBody Try.prog 58 = true := ⟨by kernel_rfl, by kernel_rfl⟩
def b_ridgewayref07_right : AC :=
 (.seq
 (.reg [
 ⟨(some 1), .box 43 3 (.tmp 0), none, []⟩,
 ⟨(some 2), .mv (.val (.bool false)), none, []⟩])
 (.seq
 (.reg [
 ⟨(some 3), .off 0 (.tmp 1), none, []⟩,
 ⟨(some 4), .ld none (.tmp 3), none, []⟩,
 ⟨(some 5), .bin .geq (.tmp 4) (.val (.int .i64 0)), none, []⟩,
 ⟨(some 6), .mv (.tmp 5), none, []⟩,
 ⟨(some 7), .off 0 (.tmp 1), some (6, true), []⟩,
 ⟨(some 8), .ld none (.tmp 7), some (6, true), []⟩,
 ⟨(some 9), .bin .leq (.tmp 8) (.val (.int .i64 255)), some (6, true), []⟩,
 ⟨(some 10), .pick (.tmp 6) (.tmp 9) (.val (.bool false)), none, []⟩,
 ⟨(some 11), .mv (.tmp 10), none, []⟩,
 ⟨(some 12), .off 1 (.tmp 1), some (11, true), []⟩,
 ⟨(some 13), .ld none (.tmp 12), some (11, true), []⟩,
 ⟨(some 14), .bin .geq (.tmp 13) (.val (.int .i64 0)), some (11, true), []⟩,
 ⟨(some 15), .pick (.tmp 11) (.tmp 14) (.val (.bool false)), none, []⟩,
 ⟨(some 16), .mv (.tmp 15), none, []⟩,
 ⟨(some 17), .off 1 (.tmp 1), some (16, true), []⟩,
 ⟨(some 18), .ld none (.tmp 17), some (16, true), []⟩,
 ⟨(some 19), .bin .leq (.tmp 18) (.val (.int .i64 255)), some (16, true), []⟩,
 ⟨(some 20), .pick (.tmp 16) (.tmp 19) (.val (.bool false)), none, []⟩,
 ⟨(some 21), .mv (.tmp 20), none, []⟩,
 ⟨(some 22), .off 2 (.tmp 1), some (21, true), []⟩,
 ⟨(some 23), .ld none (.tmp 22), some (21, true), []⟩,
 ⟨(some 24), .len (.tmp 23), some (21, true), []⟩,
 ⟨(some 25), .bin .leq (.tmp 24) (.val (.int .i64 65535)), some (21, true), []⟩,
 ⟨(some 26), .pick (.tmp 21) (.tmp 25) (.val (.bool false)), none, []⟩,
 ⟨(some 2), .mv (.tmp 26), none, []⟩])
 .ret))
def c_ridgewayref07_right : AF := ⟨b_ridgewayref07_right, 27, [.tmp 2]⟩
theorem p_ridgewayref07_right : prepFunc Try.prog 59 = some c_ridgewayref07_right ∧ hasBody Try.prog 59 = true := ⟨by kernel_rfl, by kernel_rfl⟩
def b_attr_segment : AC :=
 (.seq
 (.reg [
 ⟨(some 2), .mv (.val (.slice .full 0 [])), none, []⟩])
 (.seq
 (.seq
 (.reg [
 ⟨(some 6), .mv (.tmp 0), none, []⟩,
 ⟨(some 7), .len (.tmp 6), none, []⟩,
 ⟨(some 8), .bin .eql (.tmp 7) (.val (.int .i64 0)), none, []⟩])
 (.cond (.tmp 8)
 (.seq
 (.reg [
 ⟨(some 2), .mv (.val (.slice .full 0 [])), none, []⟩])
 .ret)
 .skip))
 (.seq
 (.reg [
 ⟨(some 9), .mv (.tmp 0), none, []⟩,
 ⟨(some 10), .len (.tmp 9), none, []⟩,
 ⟨(some 11), .conv .u8 (.tmp 10), none, []⟩,
 ⟨(some 12), .lit 5 1 [0] [(.val (.int .u8 2)), (.tmp 11)], none, []⟩,
 ⟨(some 3), .mv (.tmp 12), none, []⟩])
 (.seq
 (.seq
 (.reg [
 ⟨(some 13), .mv (.tmp 0), none, []⟩,
 ⟨(some 14), .len (.tmp 13), none, []⟩,
 ⟨(some 15), .mv (.val (.int .i64 0)), none, []⟩])
 (.block 0
 (.loop
 (.seq
 (.reg [
 ⟨(some 16), .bin .lss (.tmp 15) (.tmp 14), none, []⟩])
 (.seq
 (.cond (.tmp 16)
 .skip
 (.exit 0))
 (.seq
 (.block 1
 (.seq
 (.reg [
 ⟨(some 17), .idxA 1 (.tmp 13) (.tmp 15), none, []⟩,
 ⟨(some 18), .ld none (.tmp 17), none, []⟩,
 ⟨(some 5), .mv (.tmp 18), none, []⟩])
 (.reg [
 ⟨(some 19), .mv (.tmp 3), none, []⟩,
 ⟨(some 20), .mv (.tmp 5), none, []⟩,
 ⟨(some 21), .callS 42 [(.val (.slice .full 0 [])), (.tmp 20), (.val (.int .i64 4))], none, []⟩,
 ⟨(some 22), .app 5 1 1 (.tmp 19) (.tmp 21), none, []⟩,
 ⟨(some 3), .mv (.tmp 22), none, []⟩])))
 (.reg [
 ⟨(some 23), .bin .add (.tmp 15) (.val (.int .i64 1)), none, []⟩,
 ⟨(some 15), .mv (.tmp 23), none, []⟩])))))))
 (.seq
 (.reg [
 ⟨(some 24), .mv (.tmp 3), none, []⟩,
 ⟨(some 2), .mv (.tmp 24), none, []⟩])
 .ret)))))
def c_attr_segment : AF := ⟨b_attr_segment, 25, [.tmp 2]⟩
theorem p_attr_segment : prepFunc Try.prog 60 = some c_attr_segment ∧ hasBody Try.prog 60 = true := ⟨by kernel_rfl, by kernel_rfl⟩
def b_attr_fatal : AC :=
 (.seq
 (.reg [
 ⟨(some 1), .box 43 3 (.tmp 0), none, []⟩,
 ⟨(some 2), .mv (.val (.bool false)), none, []⟩])
 (.seq
 (.reg [
 ⟨(some 4), .off 1 (.tmp 1), none, []⟩,
 ⟨(some 5), .ld none (.tmp 4), none, []⟩,
 ⟨(some 6), .bin .geq (.tmp 5) (.val (.int .i64 1)), none, []⟩,
 ⟨(some 7), .mv (.tmp 6), none, []⟩,
 ⟨(some 8), .off 1 (.tmp 1), some (7, true), []⟩,
 ⟨(some 9), .ld none (.tmp 8), some (7, true), []⟩,
 ⟨(some 10), .bin .leq (.tmp 9) (.val (.int .i64 7)), some (7, true), []⟩,
 ⟨(some 11), .pick (.tmp 7) (.tmp 10) (.val (.bool false)), none, []⟩,
 ⟨(some 12), .mv (.tmp 11), none, []⟩,
 ⟨(some 13), .off 1 (.tmp 1), some (12, false), []⟩,
 ⟨(some 14), .ld none (.tmp 13), some (12, false), []⟩,
 ⟨(some 15), .bin .eql (.tmp 14) (.val (.int .i64 35)), some (12, false), []⟩,
 ⟨(some 16), .pick (.tmp 12) (.val (.bool true)) (.tmp 15), none, []⟩,
 ⟨(some 3), .mv (.tmp 16), none, []⟩])
 (.seq
 (.reg [
 ⟨(some 17), .mv (.tmp 3), none, []⟩,
 ⟨(some 18), .un .not (.tmp 17), none, []⟩,
 ⟨(some 19), .mv (.tmp 18), none, []⟩,
 ⟨(some 20), .off 0 (.tmp 1), some (19, true), []⟩,
 ⟨(some 21), .ld none (.tmp 20), some (19, true), []⟩,
 ⟨(some 22), .bin .and (.tmp 21) (.val (.int .i64 128)), some (19, true), []⟩,
 ⟨(some 23), .bin .eql (.tmp 22) (.val (.int .i64 0)), some (19, true), []⟩,
 ⟨(some 24), .pick (.tmp 19) (.tmp 23) (.val (.bool false)), none, []⟩,
 ⟨(some 2), .mv (.tmp 24), none, []⟩])
 .ret)))
def c_attr_fatal : AF := ⟨b_attr_fatal, 25, [.tmp 2]⟩
theorem p_attr_fatal : prepFunc Try.prog 61 = some c_attr_fatal ∧ hasBody Try.prog 61 = true := ⟨by kernel_rfl, by kernel_rfl⟩
def b_attr_kinds : AC :=
 (.seq
 (.reg [
 ⟨(some 0), .mv (.val (.slice .full 0 [])), none, []⟩])
 (.seq
 (.reg [
 ⟨(some 1), .bld [(.int .i64 0), (.int .i64 0), (.bool false), .nilFn] [(0, 1, (.val (.int .i64 1))), (1, 1, (.val (.int .i64 64))), (2, 1, (.val (.bool true))), (3, 1, (.val (.fn 71 [])))], none, []⟩,
 ⟨(some 2), .bld [(.int .i64 0), (.int .i64 0), (.bool false), .nilFn] [(0, 1, (.val (.int .i64 2))), (1, 1, (.val (.int .i64 64))), (2, 1, (.val (.bool true))), (3, 1, (.val (.fn 72 [])))], none, []⟩,
 ⟨(some 3), .bld [(.int .i64 0), (.int .i64 0), (.bool false), .nilFn] [(0, 1, (.val (.int .i64 3))), (1, 1, (.val (.int .i64 64))), (2, 1, (.val (.bool true))), (3, 1, (.val (.fn 73 [])))], none, []⟩,
 ⟨(some 4), .bld [(.int .i64 0), (.int .i64 0), (.bool false), .nilFn] [(0, 1, (.val (.int .i64 4))), (1, 1, (.val (.int .i64 128))), (2, 1, (.val (.bool false))), (3, 1, (.val (.fn 74 [])))], none, []⟩,
 ⟨(some 5), .bld [(.int .i64 0), (.int .i64 0), (.bool false), .nilFn] [(0, 1, (.val (.int .i64 35))), (1, 1, (.val (.int .i64 192))), (2, 1, (.val (.bool false))), (3, 1, (.val (.fn 75 [])))], none, []⟩,
 ⟨(some 6), .lit 91 4 [0, 0, 0, 0] [(.tmp 1), (.tmp 2), (.tmp 3), (.tmp 4), (.tmp 5)], none, []⟩,
 ⟨(some 0), .mv (.tmp 6), none, []⟩])
 .ret))
def c_attr_kinds : AF := ⟨b_attr_kinds, 7, [.tmp 0]⟩
theorem p_attr_kinds : prepFunc Try.prog 62 = some c_attr_kinds ∧ hasBody Try.prog 62 = true := ⟨by kernel_rfl, by kernel_rfl⟩
def b_ridgewayref07_judge__has : AC :=
 (.seq
 (.reg [
 ⟨(some 4), .mv (.val (.bool false)), none, []⟩])
 (.seq
 (.seq
 (.reg [
 ⟨(some 5), .mv (.val (.int .i64 0)), none, []⟩])
 (.block 0
 (.loop
 (.seq
 (.seq
 (.reg [
 ⟨(some 6), .mv (.tmp 5), none, []⟩,
 ⟨(some 7), .mv (.tmp 0), none, []⟩,
 ⟨(some 8), .nilc (.tmp 7), none, []⟩,
 ⟨(some 9), .off 4 (.tmp 8), none, []⟩,
 ⟨(some 10), .ld none (.tmp 9), none, []⟩,
 ⟨(some 11), .len (.tmp 10), none, []⟩,
 ⟨(some 12), .bin .lss (.tmp 6) (.tmp 11), none, []⟩])
 (.cond (.tmp 12)
 .skip
 (.exit 0)))
 (.seq
 (.block 1
 (.seq
 (.reg [
 ⟨(some 15), .mv (.tmp 0), none, []⟩,
 ⟨(some 16), .nilc (.tmp 15), none, []⟩,
 ⟨(some 17), .off 4 (.tmp 16), none, []⟩,
 ⟨(some 18), .ld none (.tmp 17), none, []⟩,
 ⟨(some 19), .mv (.tmp 5), none, []⟩,
 ⟨(some 20), .idxA 1 (.tmp 18) (.tmp 19), none, []⟩,
 ⟨(some 21), .ld none (.tmp 20), none, []⟩,
 ⟨(some 22), .mv (.tmp 1), none, []⟩,
 ⟨(some 23), .bin .eql (.tmp 21) (.tmp 22), none, []⟩])
 (.cond (.tmp 23)
 (.seq
 (.reg [
 ⟨(some 4), .mv (.val (.bool true)), none, []⟩])
 .ret)
 .skip)))
 (.reg [
 ⟨(some 13), .mv (.tmp 5), none, []⟩,
 ⟨(some 14), .bin .add (.tmp 13) (.val (.int .i64 1)), none, []⟩,
 ⟨(some 5), .mv (.tmp 14), none, []⟩]))))))
 (.seq
 (.reg [
 ⟨(some 4), .mv (.val (.bool false)), none, []⟩])
 .ret)))
def c_ridgewayref07_judge__has : AF := ⟨b_ridgewayref07_judge__has, 24, [.tmp 4]⟩
theorem p_ridgewayref07_judge__has : prepFunc Try.prog 63 = some c_ridgewayref07_judge__has ∧ hasBody Try.prog 63 = true := ⟨by kernel_rfl, by kernel_rfl⟩
def b_ridgewayref07_judge__one : AC :=
 (.seq
 (.reg [
 ⟨(some 3), .box 43 3 (.tmp 1), none, []⟩])
 (.seq
 (.reg [
 ⟨(some 8), .off 0 (.tmp 3), none, []⟩,
 ⟨(some 9), .ld none (.tmp 8), none, []⟩,
 ⟨(some 10), .bin .and (.tmp 9) (.val (.int .i64 192)), none, []⟩,
 ⟨(some 4), .mv (.tmp 10), none, []⟩])
 (.seq
 (.reg [
 ⟨(some 11), .off 2 (.tmp 3), none, []⟩,
 ⟨(some 12), .ld none (.tmp 11), none, []⟩,
 ⟨(some 5), .mv (.tmp 12), none, []⟩])
 (.seq
 (.reg [
 ⟨(some 13), .off 1 (.tmp 3), none, []⟩,
 ⟨(some 14), .ld none (.tmp 13), none, []⟩])
 (.block 0
 (.seq
 (.reg [
 ⟨(some 34), .bin .eql (.tmp 14) (.val (.int .i64 1)), none, []⟩,
 ⟨(some 33), .mv (.tmp 34), none, []⟩])
 (.cond (.tmp 33)
 (.seq
 (.reg [
 ⟨(some 35), .mv (.tmp 0), none, []⟩,
 ⟨(some 36), .mv (.tmp 4), none, []⟩,
 ⟨(some 37), .bin .eql (.tmp 36) (.val (.int .i64 64)), none, []⟩,
 ⟨(some 38), .mv (.tmp 37), none, []⟩,
 ⟨(some 39), .mv (.tmp 5), some (38, true), []⟩,
 ⟨(some 40), .len (.tmp 39), some (38, true), []⟩,
 ⟨(some 41), .bin .eql (.tmp 40) (.val (.int .i64 1)), some (38, true), []⟩,
 ⟨(some 42), .pick (.tmp 38) (.tmp 41) (.val (.bool false)), none, []⟩,
 ⟨(some 43), .mv (.tmp 42), none, []⟩,
 ⟨(some 44), .mv (.tmp 5), some (43, true), []⟩,
 ⟨(some 45), .idxA 1 (.tmp 44) (.val (.int .i64 0)), some (43, true), []⟩,
 ⟨(some 46), .ld none (.tmp 45), some (43, true), []⟩,
 ⟨(some 47), .bin .leq (.tmp 46) (.val (.int .u8 2)), some (43, true), []⟩,
 ⟨(some 48), .pick (.tmp 43) (.tmp 47) (.val (.bool false)), none, []⟩,
 ⟨(some 49), .callS 76 [(.tmp 35), (.tmp 48)], none, []⟩])
 (.seq
 (.reg [
 ⟨(some 50), .mv (.tmp 5), none, []⟩,
 ⟨(some 51), .len (.tmp 50), none, []⟩,
 ⟨(some 52), .bin .gtr (.tmp 51) (.val (.int .i64 0)), none, []⟩])
 (.cond (.tmp 52)
 (.reg [
 ⟨(some 53), .mv (.tmp 0), none, []⟩,
 ⟨(some 54), .mv (.tmp 5), none, []⟩,
 ⟨(some 55), .idxA 1 (.tmp 54) (.val (.int .i64 0)), none, []⟩,
 ⟨(some 56), .ld none (.tmp 55), none, []⟩,
 ⟨(some 57), .conv .i64 (.tmp 56), none, []⟩,
 ⟨(some 58), .nilc (.tmp 53), none, []⟩,
 ⟨(some 59), .off 0 (.tmp 58), none, []⟩,
 ⟨(some 60), .off 0 (.tmp 59), none, []⟩,
 ⟨none, .st 1 (.tmp 60) (.tmp 57), none, []⟩])
 .skip)))
 (.seq
 (.reg [
 ⟨(some 62), .bin .eql (.tmp 14) (.val (.int .i64 2)), none, []⟩,
 ⟨(some 61), .mv (.tmp 62), none, []⟩])
 (.cond (.tmp 61)
 (.seq
 (.reg [
 ⟨(some 64), .mv (.tmp 5), none, []⟩,
 ⟨(some 65), .callS 77 [(.tmp 64)], none, []⟩,
 ⟨(some 63), .mv (.tmp 65), none, []⟩,
 ⟨(some 66), .ext (.tmp 63) 0, none, []⟩,
 ⟨(some 67), .ext (.tmp 63) 1, none, []⟩,
 ⟨(some 6), .mv (.tmp 66), none, []⟩,
 ⟨(some 7), .mv (.tmp 67), none, []⟩])
 (.seq
 (.reg [
 ⟨(some 68), .mv (.tmp 0), none, []⟩,
 ⟨(some 69), .mv (.tmp 4), none, []⟩,
 ⟨(some 70), .bin .eql (.tmp 69) (.val (.int .i64 64)), none, []⟩,
 ⟨(some 71), .mv (.tmp 70), none, []⟩,
 ⟨(some 72), .mv (.tmp 7), some (71, true), []⟩,
 ⟨(some 73), .pick (.tmp 71) (.tmp 72) (.val (.bool false)), none, []⟩,
 ⟨(some 74), .callS 76 [(.tmp 68), (.tmp 73)], none, []⟩])
 (.reg [
 ⟨(some 75), .mv (.tmp 0), none, []⟩,
 ⟨(some 76), .mv (.tmp 6), none, []⟩,
 ⟨(some 77), .nilc (.tmp 75), none, []⟩,
 ⟨(some 78), .off 0 (.tmp 77), none, []⟩,
 ⟨(some 79), .off 1 (.tmp 78), none, []⟩,
 ⟨none, .st 1 (.tmp 79) (.tmp 76), none, []⟩])))
 (.seq
 (.reg [
 ⟨(some 81), .bin .eql (.tmp 14) (.val (.int .i64 3)), none, []⟩,
 ⟨(some 80), .mv (.tmp 81), none, []⟩])
 (.cond (.tmp 80)
 (.seq
 (.reg [
 ⟨(some 82), .mv (.tmp 0), none, []⟩,
 ⟨(some 83), .mv (.tmp 4), none, []⟩,
 ⟨(some 84), .bin .eql (.tmp 83) (.val (.int .i64 64)), none, []⟩,
 ⟨(some 85), .mv (.tmp 84), none, []⟩,
 ⟨(some 86), .mv (.tmp 5), some (85, true), []⟩,
 ⟨(some 87), .callS 78 [(.tmp 86)], some (85, true), []⟩,
 ⟨(some 88), .bin .gtr (.tmp 87) (.val (.int .i64 0)), some (85, true), []⟩,
 ⟨(some 89), .pick (.tmp 85) (.tmp 88) (.val (.bool false)), none, []⟩,
 ⟨(some 90), .callS 76 [(.tmp 82), (.tmp 89)], none, []⟩])
 (.reg [
 ⟨(some 91), .mv (.tmp 0), none, []⟩,
 ⟨(some 92), .mv (.tmp 5), none, []⟩,
 ⟨(some 93), .callS 78 [(.tmp 92)], none, []⟩,
 ⟨(some 94), .nilc (.tmp 91), none, []⟩,
 ⟨(some 95), .off 0 (.tmp 94), none, []⟩,
 ⟨(some 96), .off 2 (.tmp 95), none, []⟩,
 ⟨none, .st 1 (.tmp 96) (.tmp 93), none, []⟩]))
 (.seq
 (.reg [
 ⟨(some 98), .bin .eql (.tmp 14) (.val (.int .i64 4)), none, []⟩,
 ⟨(some 97), .mv (.tmp 98), none, []⟩])
 (.cond (.tmp 97)
 (.reg [
 ⟨(some 99), .mv (.tmp 0), none, []⟩,
 ⟨(some 100), .mv (.tmp 4), none, []⟩,
 ⟨(some 101), .bin .eql (.tmp 100) (.val (.int .i64 128)), none, []⟩,
 ⟨(some 102), .mv (.tmp 101), none, []⟩,
 ⟨(some 103), .mv (.tmp 5), some (102, true), []⟩,
 ⟨(some 104), .len (.tmp 103), some (102, true), []⟩,
 ⟨(some 105), .bin .eql (.tmp 104) (.val (.int .i64 4)), some (102, true), []⟩,
 ⟨(some 106), .pick (.tmp 102) (.tmp 105) (.val (.bool false)), none, []⟩,
 ⟨(some 107), .callS 76 [(.tmp 99), (.tmp 106)], none, []⟩])
 (.seq
 (.reg [
 ⟨(some 109), .bin .eql (.tmp 14) (.val (.int .i64 35)), none, []⟩,
 ⟨(some 108), .mv (.tmp 109), none, []⟩])
 (.cond (.tmp 108)
 (.seq
 (.reg [
 ⟨(some 110), .mv (.tmp 0), none, []⟩,
 ⟨(some 111), .mv (.tmp 4), none, []⟩,
 ⟨(some 112), .bin .eql (.tmp 111) (.val (.int .i64 192)), none, []⟩,
 ⟨(some 113), .mv (.tmp 112), none, []⟩,
 ⟨(some 114), .mv (.tmp 5), some (113, true), []⟩,
 ⟨(some 115), .callS 78 [(.tmp 114)], some (113, true), []⟩,
 ⟨(some 116), .bin .gtr (.tmp 115) (.val (.int .i64 0)), some (113, true), []⟩,
 ⟨(some 117), .pick (.tmp 113) (.tmp 116) (.val (.bool false)), none, []⟩,
 ⟨(some 118), .callS 76 [(.tmp 110), (.tmp 117)], none, []⟩])
 (.reg [
 ⟨(some 119), .mv (.tmp 0), none, []⟩,
 ⟨(some 120), .mv (.tmp 5), none, []⟩,
 ⟨(some 121), .callS 78 [(.tmp 120)], none, []⟩,
 ⟨(some 122), .nilc (.tmp 119), none, []⟩,
 ⟨(some 123), .off 0 (.tmp 122), none, []⟩,
 ⟨(some 124), .off 3 (.tmp 123), none, []⟩,
 ⟨none, .st 1 (.tmp 124) (.tmp 121), none, []⟩]))
 (.seq
 (.seq
 (.reg [
 ⟨(some 126), .bin .eql (.tmp 14) (.val (.int .i64 5)), none, []⟩,
 ⟨(some 125), .mv (.tmp 126), none, []⟩])
 (.cond (.tmp 125)
 .skip
 (.seq
 (.reg [
 ⟨(some 127), .bin .eql (.tmp 14) (.val (.int .i64 6)), none, []⟩,
 ⟨(some 125), .mv (.tmp 127), none, []⟩])
 (.cond (.tmp 125)
 .skip
 (.reg [
 ⟨(some 128), .bin .eql (.tmp 14) (.val (.int .i64 7)), none, []⟩,
 ⟨(some 125), .mv (.tmp 128), none, []⟩])))))
 (.cond (.tmp 125)
 .skip
 (.seq
 (.reg [
 ⟨(some 15), .off 0 (.tmp 3), none, []⟩,
 ⟨(some 16), .ld none (.tmp 15), none, []⟩,
 ⟨(some 17), .bin .and (.tmp 16) (.val (.int .i64 128)), none, []⟩,
 ⟨(some 18), .bin .eql (.tmp 17) (.val (.int .i64 0)), none, []⟩,
 ⟨(some 19), .mv (.tmp 18), none, []⟩,
 ⟨(some 20), .mv (.tmp 0), some (19, true), []⟩,
 ⟨(some 21), .nilc (.tmp 20), some (19, true), []⟩,
 ⟨(some 22), .off 6 (.tmp 21), some (19, true), []⟩,
 ⟨(some 23), .off 0 (.tmp 22), some (19, true), []⟩,
 ⟨(some 24), .ld none (.tmp 23), some (19, true), []⟩,
 ⟨(some 25), .bin .eql (.tmp 24) (.val (.int .i64 0)), some (19, true), []⟩,
 ⟨(some 26), .pick (.tmp 19) (.tmp 25) (.val (.bool false)), none, []⟩])
 (.cond (.tmp 26)
 (.reg [
 ⟨(some 27), .mv (.tmp 0), none, []⟩,
 ⟨(some 28), .ld (some 3) (.tmp 3), none, []⟩,
 ⟨(some 29), .callS 32 [(.val (.slice .full 0 [])), (.tmp 28)], none, []⟩,
 ⟨(some 30), .bld [(.int .i64 0), (.int .i64 0), (.slice .full 0 [])] [(0, 1, (.val (.int .i64 3))), (1, 1, (.val (.int .i64 2))), (2, 1, (.tmp 29))], none, []⟩,
 ⟨(some 31), .nilc (.tmp 27), none, []⟩,
 ⟨(some 32), .off 6 (.tmp 31), none, []⟩,
 ⟨none, .st 3 (.tmp 32) (.tmp 30), none, []⟩])
 .skip)))))))))))))))))))
def c_ridgewayref07_judge__one : AF := ⟨b_ridgewayref07_judge__one, 129, []⟩
theorem p_ridgewayref07_judge__one : prepFunc Try.prog 64 = some c_ridgewayref07_judge__one ∧ hasBody Try.prog 64 = true := ⟨by kernel_rfl, by kernel_rfl⟩
def b_attr_readOrigin : AC :=
 (.seq
 (.reg [
 ⟨(some 4), .mv (.val (.bool false)), none, []⟩])
 (.seq
 (.seq
 (.reg [
 ⟨(some 5), .mv (.tmp 1), none, []⟩,
 ⟨(some 6), .len (.tmp 5), none, []⟩,
 ⟨(some 7), .bin .neq (.tmp 6) (.val (.int .i64 1)), none, []⟩,
 ⟨(some 8), .mv (.tmp 7), none, []⟩,
 ⟨(some 9), .mv (.tmp 1), some (8, false), []⟩,
 ⟨(some 10), .idxA 1 (.tmp 9) (.val (.int .i64 0)), some (8, false), []⟩,
 ⟨(some 11), .ld none (.tmp 10), some (8, false), []⟩,
 ⟨(some 12), .bin .gtr (.tmp 11) (.val (.int .u8 2)), some (8, false), []⟩,
 ⟨(some 13), .pick (.tmp 8) (.val (.bool true)) (.tmp 12), none, []⟩])
 (.cond (.tmp 13)
 (.seq
 (.reg [
 ⟨(some 4), .mv (.val (.bool false)), none, []⟩])
 .ret)
 .skip))
 (.seq
 (.reg [
 ⟨(some 14), .mv (.tmp 0), none, []⟩,
 ⟨(some 15), .mv (.tmp 1), none, []⟩,
 ⟨(some 16), .idxA 1 (.tmp 15) (.val (.int .i64 0)), none, []⟩,
 ⟨(some 17), .ld none (.tmp 16), none, []⟩,
 ⟨(some 18), .conv .i64 (.tmp 17), none, []⟩,
 ⟨(some 19), .nilc (.tmp 14), none, []⟩,
 ⟨(some 20), .off 0 (.tmp 19), none, []⟩,
 ⟨none, .st 1 (.tmp 20) (.tmp 18), none, []⟩])
 (.seq
 (.reg [
 ⟨(some 4), .mv (.val (.bool true)), none, []⟩])
 .ret))))
def c_attr_readOrigin : AF := ⟨b_attr_readOrigin, 21, [.tmp 4]⟩
theorem p_attr_readOrigin : prepFunc Try.prog 71 = some c_attr_readOrigin ∧ hasBody Try.prog 71 = true := ⟨by kernel_rfl, by kernel_rfl⟩
def b_attr_readAs : AC :=
 (.seq
 (.reg [
 ⟨(some 4), .mv (.val (.bool false)), none, []⟩])
 (.seq
 (.block 0
 (.loop
 (.seq
 (.seq
 (.reg [
 ⟨(some 13), .mv (.tmp 1), none, []⟩,
 ⟨(some 14), .len (.tmp 13), none, []⟩,
 ⟨(some 15), .bin .gtr (.tmp 14) (.val (.int .i64 0)), none, []⟩])
 (.cond (.tmp 15)
 .skip
 (.exit 0)))
 (.block 1
 (.seq
 (.reg [
 ⟨(some 17), .mv (.tmp 1), none, []⟩,
 ⟨(some 18), .callS 41 [(.tmp 17), (.val (.int .i64 1))], none, []⟩,
 ⟨(some 16), .mv (.tmp 18), none, []⟩,
 ⟨(some 19), .ext (.tmp 16) 0, none, []⟩,
 ⟨(some 20), .ext (.tmp 16) 1, none, []⟩,
 ⟨(some 21), .ext (.tmp 16) 2, none, []⟩,
 ⟨(some 5), .mv (.tmp 19), none, []⟩,
 ⟨(some 6), .mv (.tmp 20), none, []⟩,
 ⟨(some 7), .mv (.tmp 21), none, []⟩])
 (.seq
 (.reg [
 ⟨(some 23), .mv (.tmp 6), none, []⟩,
 ⟨(some 24), .callS 41 [(.tmp 23), (.val (.int .i64 1))], none, []⟩,
 ⟨(some 22), .mv (.tmp 24), none, []⟩,
 ⟨(some 25), .ext (.tmp 22) 0, none, []⟩,
 ⟨(some 26), .ext (.tmp 22) 1, none, []⟩,
 ⟨(some 27), .ext (.tmp 22) 2, none, []⟩,
 ⟨(some 8), .mv (.tmp 25), none, []⟩,
 ⟨(some 6), .mv (.tmp 26), none, []⟩,
 ⟨(some 9), .mv (.tmp 27), none, []⟩])
 (.seq
 (.seq
 (.reg [
 ⟨(some 28), .mv (.tmp 5), none, []⟩,
 ⟨(some 29), .bin .neq (.tmp 28) (.val (.int .i64 2)), none, []⟩,
 ⟨(some 30), .mv (.tmp 29), none, []⟩,
 ⟨(some 31), .mv (.tmp 8), some (30, false), []⟩,
 ⟨(some 32), .bin .eql (.tmp 31) (.val (.int .i64 0)), some (30, false), []⟩,
 ⟨(some 33), .pick (.tmp 30) (.val (.bool true)) (.tmp 32), none, []⟩])
 (.cond (.tmp 33)
 (.seq
 (.reg [
 ⟨(some 4), .mv (.val (.bool false)), none, []⟩])
 .ret)
 .skip))
 (.seq
 (.seq
 (.reg [
 ⟨(some 34), .mv (.tmp 8), none, []⟩,
 ⟨(some 35), .mv (.val (.int .i64 0)), none, []⟩])
 (.block 2
 (.loop
 (.seq
 (.reg [
 ⟨(some 36), .bin .lss (.tmp 35) (.tmp 34), none, []⟩])
 (.seq
 (.cond (.tmp 36)
 .skip
 (.exit 2))
 (.seq
 (.block 3
 (.seq
 (.reg [
 ⟨(some 38), .mv (.tmp 6), none, []⟩,
 ⟨(some 39), .callS 41 [(.tmp 38), (.val (.int .i64 4))], none, []⟩,
 ⟨(some 37), .mv (.tmp 39), none, []⟩,
 ⟨(some 40), .ext (.tmp 37) 0, none, []⟩,
 ⟨(some 41), .ext (.tmp 37) 1, none, []⟩,
 ⟨(some 42), .ext (.tmp 37) 2, none, []⟩,
 ⟨(some 10), .mv (.tmp 40), none, []⟩,
 ⟨(some 11), .mv (.tmp 41), none, []⟩,
 ⟨(some 12), .mv (.tmp 42), none, []⟩])
 (.seq
 (.seq
 (.reg [
 ⟨(some 43), .mv (.tmp 10), none, []⟩,
 ⟨(some 44), .bin .eql (.tmp 43) (.val (.int .i64 0)), none, []⟩])
 (.cond (.tmp 44)
 (.seq
 (.reg [
 ⟨(some 4), .mv (.val (.bool false)), none, []⟩])
 .ret)
 .skip))
 (.reg [
 ⟨(some 45), .mv (.tmp 0), none, []⟩,
 ⟨(some 46), .mv (.tmp 0), none, []⟩,
 ⟨(some 47), .nilc (.tmp 46), none, []⟩,
 ⟨(some 48), .off 1 (.tmp 47), none, []⟩,
 ⟨(some 49), .ld none (.tmp 48), none, []⟩,
 ⟨(some 50), .mv (.tmp 10), none, []⟩,
 ⟨(some 51), .lit 3 1 [0] [(.tmp 50)], none, []⟩,
 ⟨(some 52), .app 3 1 8 (.tmp 49) (.tmp 51), none, []⟩,
 ⟨(some 53), .mv (.tmp 11), none, []⟩,
 ⟨(some 54), .nilc (.tmp 45), none, []⟩,
 ⟨(some 55), .off 1 (.tmp 54), none, []⟩,
 ⟨none, .st 1 (.tmp 55) (.tmp 52), none, []⟩,
 ⟨(some 6), .mv (.tmp 53), none, []⟩]))))
 (.reg [
 ⟨(some 56), .bin .add (.tmp 35) (.val (.int .i64 1)), none, []⟩,
 ⟨(some 35), .mv (.tmp 56), none, []⟩])))))))
 (.reg [
 ⟨(some 57), .mv (.tmp 6), none, []⟩,
 ⟨(some 1), .mv (.tmp 57), none, []⟩])))))))))
 (.seq
 (.reg [
 ⟨(some 4), .mv (.val (.bool true)), none, []⟩])
 .ret)))
def c_attr_readAs : AF := ⟨b_attr_readAs, 58, [.tmp 4]⟩
theorem p_attr_readAs : prepFunc Try.prog 72 = some c_attr_readAs ∧ hasBody Try.prog 72 = true := ⟨by kernel_rfl, by kernel_rfl⟩
def b_attr_readHop : AC :=
 (.seq
 (.reg [
 ⟨(some 4), .mv (.val (.bool false)), none, []⟩])
 (.seq
 (.reg [
 ⟨(some 6), .mv (.tmp 0), none, []⟩,
 ⟨(some 7), .mv (.tmp 1), none, []⟩,
 ⟨(some 8), .callS 81 [(.tmp 7)], none, []⟩,
 ⟨(some 5), .mv (.tmp 8), none, []⟩,
 ⟨(some 9), .ext (.tmp 5) 0, none, []⟩,
 ⟨(some 10), .ext (.tmp 5) 1, none, []⟩,
 ⟨(some 11), .nilc (.tmp 6), none, []⟩,
 ⟨(some 12), .off 2 (.tmp 11), none, []⟩,
 ⟨none, .st 1 (.tmp 12) (.tmp 9), none, []⟩,
 ⟨(some 4), .mv (.tmp 10), none, []⟩])
 (.seq
 (.reg [
 ⟨(some 13), .mv (.tmp 4), none, []⟩,
 ⟨(some 4), .mv (.tmp 13), none, []⟩])
 .ret)))
def c_attr_readHop : AF := ⟨b_attr_readHop, 14, [.tmp 4]⟩
theorem p_attr_readHop : prepFunc Try.prog 73 = some c_attr_readHop ∧ hasBody Try.prog 73 = true := ⟨by kernel_rfl, by kernel_rfl⟩
def b_attr_readMed : AC :=
 (.seq
 (.reg [
 ⟨(some 4), .mv (.val (.bool false)), none, []⟩])
 (.seq
 (.reg [
 ⟨(some 5), .mv (.tmp 1), none, []⟩,
 ⟨(some 6), .len (.tmp 5), none, []⟩,
 ⟨(some 7), .bin .eql (.tmp 6) (.val (.int .i64 4)), none, []⟩,
 ⟨(some 4), .mv (.tmp 7), none, []⟩])
 .ret))
def c_attr_readMed : AF := ⟨b_attr_readMed, 8, [.tmp 4]⟩
theorem p_attr_readMed : prepFunc Try.prog 74 = some c_attr_readMed ∧ hasBody Try.prog 74 = true := ⟨by kernel_rfl, by kernel_rfl⟩
def b_attr_readOtc : AC :=
 (.seq
 (.reg [
 ⟨(some 4), .mv (.val (.bool false)), none, []⟩])
 (.seq
 (.reg [
 ⟨(some 6), .mv (.tmp 0), none, []⟩,
 ⟨(some 7), .mv (.tmp 1), none, []⟩,
 ⟨(some 8), .callS 81 [(.tmp 7)], none, []⟩,
 ⟨(some 5), .mv (.tmp 8), none, []⟩,
 ⟨(some 9), .ext (.tmp 5) 0, none, []⟩,
 ⟨(some 10), .ext (.tmp 5) 1, none, []⟩,
 ⟨(some 11), .nilc (.tmp 6), none, []⟩,
 ⟨(some 12), .off 3 (.tmp 11), none, []⟩,
 ⟨none, .st 1 (.tmp 12) (.tmp 9), none, []⟩,
 ⟨(some 4), .mv (.tmp 10), none, []⟩])
 (.seq
 (.reg [
 ⟨(some 13), .mv (.tmp 4), none, []⟩,
 ⟨(some 4), .mv (.tmp 13), none, []⟩])
 .ret)))
def c_attr_readOtc : AF := ⟨b_attr_readOtc, 14, [.tmp 4]⟩
theorem p_attr_readOtc : prepFunc Try.prog 75 = some c_attr_readOtc ∧ hasBody Try.prog 75 = true := ⟨by kernel_rfl, by kernel_rfl⟩
def b_ridgewayref07_judge__need : AC :=
 (.seq
 (.reg [
 ⟨(some 4), .mv (.tmp 1), none, []⟩,
 ⟨(some 5), .un .not (.tmp 4), none, []⟩])
 (.cond (.tmp 5)
 (.reg [
 ⟨(some 6), .mv (.tmp 0), none, []⟩,
 ⟨(some 7), .nilc (.tmp 6), none, []⟩,
 ⟨(some 8), .off 5 (.tmp 7), none, []⟩,
 ⟨none, .st 1 (.tmp 8) (.val (.bool true)), none, []⟩])
 .skip))
def c_ridgewayref07_judge__need : AF := ⟨b_ridgewayref07_judge__need, 9, []⟩
theorem p_ridgewayref07_judge__need : prepFunc Try.prog 76 = some c_ridgewayref07_judge__need ∧ hasBody Try.prog 76 = true := ⟨by kernel_rfl, by kernel_rfl⟩
def b_ridgewayref07_ases : AC :=
 (.seq
 (.reg [
 ⟨(some 2), .mv (.val (.slice .full 0 [])), none, []⟩,
 ⟨(some 3), .mv (.val (.bool false)), none, []⟩])
 (.seq
 (.reg [
 ⟨(some 4), .mv (.val (.slice .full 0 [])), none, []⟩])
 (.seq
 (.block 0
 (.loop
 (.seq
 (.seq
 (.reg [
 ⟨(some 7), .mv (.tmp 0), none, []⟩,
 ⟨(some 8), .len (.tmp 7), none, []⟩,
 ⟨(some 9), .bin .gtr (.tmp 8) (.val (.int .i64 0)), none, []⟩])
 (.cond (.tmp 9)
 .skip
 (.exit 0)))
 (.block 1
 (.seq
 (.seq
 (.reg [
 ⟨(some 10), .mv (.tmp 0), none, []⟩,
 ⟨(some 11), .len (.tmp 10), none, []⟩,
 ⟨(some 12), .bin .lss (.tmp 11) (.val (.int .i64 2)), none, []⟩,
 ⟨(some 13), .mv (.tmp 12), none, []⟩,
 ⟨(some 14), .mv (.tmp 0), some (13, false), []⟩,
 ⟨(some 15), .idxA 1 (.tmp 14) (.val (.int .i64 0)), some (13, false), []⟩,
 ⟨(some 16), .ld none (.tmp 15), some (13, false), []⟩,
 ⟨(some 17), .bin .neq (.tmp 16) (.val (.int .u8 2)), some (13, false), []⟩,
 ⟨(some 18), .pick (.tmp 13) (.val (.bool true)) (.tmp 17), none, []⟩,
 ⟨(some 19), .mv (.tmp 18), none, []⟩,
 ⟨(some 20), .mv (.tmp 0), some (19, false), []⟩,
 ⟨(some 21), .idxA 1 (.tmp 20) (.val (.int .i64 1)), some (19, false), []⟩,
 ⟨(some 22), .ld none (.tmp 21), some (19, false), []⟩,
 ⟨(some 23), .bin .eql (.tmp 22) (.val (.int .u8 0)), some (19, false), []⟩,
 ⟨(some 24), .pick (.tmp 19) (.val (.bool true)) (.tmp 23), none, []⟩,
 ⟨(some 25), .mv (.tmp 24), none, []⟩,
 ⟨(some 26), .mv (.tmp 0), some (25, false), []⟩,
 ⟨(some 27), .len (.tmp 26), some (25, false), []⟩,
 ⟨(some 28), .mv (.tmp 0), some (25, false), []⟩,
 ⟨(some 29), .idxA 1 (.tmp 28) (.val (.int .i64 1)), some (25, false), []⟩,
 ⟨(some 30), .ld none (.tmp 29), some (25, false), []⟩,
 ⟨(some 31), .conv .i64 (.tmp 30), some (25, false), []⟩,
 ⟨(some 32), .bin .mul (.val (.int .i64 4)) (.tmp 31), some (25, false), []⟩,
 ⟨(some 33), .bin .add (.val (.int .i64 2)) (.tmp 32), some (25, false), []⟩,
 ⟨(some 34), .bin .lss (.tmp 27) (.tmp 33), some (25, false), []⟩,
 ⟨(some 35), .pick (.tmp 25) (.val (.bool true)) (.tmp 34), none, []⟩])
 (.cond (.tmp 35)
 (.seq
 (.reg [
 ⟨(some 2), .mv (.val (.slice .full 0 [])), none, []⟩,
 ⟨(some 3), .mv (.val (.bool false)), none, []⟩])
 .ret)
 .skip))
 (.seq
 (.seq
 (.reg [
 ⟨(some 5), .mv (.val (.int .i64 0)), none, []⟩])
 (.block 2
 (.loop
 (.seq
 (.seq
 (.reg [
 ⟨(some 36), .mv (.tmp 5), none, []⟩,
 ⟨(some 37), .mv (.tmp 0), none, []⟩,
 ⟨(some 38), .idxA 1 (.tmp 37) (.val (.int .i64 1)), none, []⟩,
 ⟨(some 39), .ld none (.tmp 38), none, []⟩,
 ⟨(some 40), .conv .i64 (.tmp 39), none, []⟩,
 ⟨(some 41), .bin .lss (.tmp 36) (.tmp 40), none, []⟩])
 (.cond (.tmp 41)
 .skip
 (.exit 2)))
 (.seq
 (.block 3
 (.seq
 (.reg [
 ⟨(some 44), .mv (.tmp 0), none, []⟩,
 ⟨(some 45), .mv (.tmp 5), none, []⟩,
 ⟨(some 46), .bin .mul (.val (.int .i64 4)) (.tmp 45), none, []⟩,
 ⟨(some 47), .bin .add (.val (.int .i64 2)) (.tmp 46), none, []⟩,
 ⟨(some 48), .mv (.tmp 5), none, []⟩,
 ⟨(some 49), .bin .mul (.val (.int .i64 4)) (.tmp 48), none, []⟩,
 ⟨(some 50), .bin .add (.val (.int .i64 6)) (.tmp 49), none, []⟩,
 ⟨(some 51), .slc 1 (.tmp 44) (some (.tmp 47)) (some (.tmp 50)) none, none, []⟩,
 ⟨(some 52), .callS 78 [(.tmp 51)], none, []⟩,
 ⟨(some 6), .mv (.tmp 52), none, []⟩])
 (.seq
 (.seq
 (.reg [
 ⟨(some 53), .mv (.tmp 6), none, []⟩,
 ⟨(some 54), .bin .eql (.tmp 53) (.val (.int .i64 0)), none, []⟩])
 (.cond (.tmp 54)
 (.seq
 (.reg [
 ⟨(some 2), .mv (.val (.slice .full 0 [])), none, []⟩,
 ⟨(some 3), .mv (.val (.bool false)), none, []⟩])
 .ret)
 .skip))
 (.reg [
 ⟨(some 55), .mv (.tmp 4), none, []⟩,
 ⟨(some 56), .mv (.tmp 6), none, []⟩,
 ⟨(some 57), .lit 3 1 [0] [(.tmp 56)], none, []⟩,
 ⟨(some 58), .app 3 1 8 (.tmp 55) (.tmp 57), none, []⟩,
 ⟨(some 4), .mv (.tmp 58), none, []⟩]))))
 (.reg [
 ⟨(some 42), .mv (.tmp 5), none, []⟩,
 ⟨(some 43), .bin .add (.tmp 42) (.val (.int .i64 1)), none, []⟩,
 ⟨(some 5), .mv (.tmp 43), none, []⟩]))))))
 (.reg [
 ⟨(some 59), .mv (.tmp 0), none, []⟩,
 ⟨(some 60), .mv (.tmp 0), none, []⟩,
 ⟨(some 61), .idxA 1 (.tmp 60) (.val (.int .i64 1)), none, []⟩,
 ⟨(some 62), .ld none (.tmp 61), none, []⟩,
 ⟨(some 63), .conv .i64 (.tmp 62), none, []⟩,
 ⟨(some 64), .bin .mul (.val (.int .i64 4)) (.tmp 63), none, []⟩,
 ⟨(some 65), .bin .add (.val (.int .i64 2)) (.tmp 64), none, []⟩,
 ⟨(some 66), .slc 1 (.tmp 59) (some (.tmp 65)) none none, none, []⟩,
 ⟨(some 0), .mv (.tmp 66), none, []⟩])))))))
 (.seq
 (.reg [
 ⟨(some 67), .mv (.tmp 4), none, []⟩,
 ⟨(some 2), .mv (.tmp 67), none, []⟩,
 ⟨(some 3), .mv (.val (.bool true)), none, []⟩])
 .ret))))
def c_ridgewayref07_ases : AF := ⟨b_ridgewayref07_ases, 68, [.tmp 2, .tmp 3]⟩
theorem p_ridgewayref07_ases : prepFunc Try.prog 77 = some c_ridgewayref07_ases ∧ hasBody Try.prog 77 = true := ⟨by kernel_rfl, by kernel_rfl⟩
def b_ridgewayref07_four : AC :=
 (.seq
 (.reg [
 ⟨(some 2), .mv (.val (.int .i64 0)), none, []⟩])
 (.seq
 (.seq
 (.reg [
 ⟨(some 6), .mv (.tmp 0), none, []⟩,
 ⟨(some 7), .len (.tmp 6), none, []⟩,
 ⟨(some 8), .bin .neq (.tmp 7) (.val (.int .i64 4)), none, []⟩])
 (.cond (.tmp 8)
 (.seq
 (.reg [
 ⟨(some 2), .mv (.val (.int .i64 0)), none, []⟩])
 .ret)
 .skip))
 (.seq
 (.reg [
 ⟨(some 10), .mv (.tmp 0), none, []⟩,
 ⟨(some 11), .callS 48 [(.tmp 10), (.val (.int .i64 4))], none, []⟩,
 ⟨(some 9), .mv (.tmp 11), none, []⟩,
 ⟨(some 12), .ext (.tmp 9) 0, none, []⟩,
 ⟨(some 13), .ext (.tmp 9) 1, none, []⟩,
 ⟨(some 14), .ext (.tmp 9) 2, none, []⟩,
 ⟨(some 3), .mv (.tmp 12), none, []⟩,
 ⟨(some 4), .mv (.tmp 13), none, []⟩,
 ⟨(some 5), .mv (.tmp 14), none, []⟩])
 (.seq
 (.reg [
 ⟨(some 15), .mv (.tmp 3), none, []⟩,
 ⟨(some 2), .mv (.tmp 15), none, []⟩])
 .ret))))
def c_ridgewayref07_four : AF := ⟨b_ridgewayref07_four, 16, [.tmp 2]⟩
theorem p_ridgewayref07_four : prepFunc Try.prog 78 = some c_ridgewayref07_four ∧ hasBody Try.prog 78 = true := ⟨by kernel_rfl, by kernel_rfl⟩
def b_attr_number : AC :=
 (.seq
 (.reg [
 ⟨(some 2), .mv (.val (.int .i64 0)), none, []⟩,
 ⟨(some 3), .mv (.val (.bool false)), none, []⟩])
 (.seq
 (.reg [
 ⟨(some 8), .mv (.tmp 0), none, []⟩,
 ⟨(some 9), .callS 41 [(.tmp 8), (.val (.int .i64 4))], none, []⟩,
 ⟨(some 7), .mv (.tmp 9), none, []⟩,
 ⟨(some 10), .ext (.tmp 7) 0, none, []⟩,
 ⟨(some 11), .ext (.tmp 7) 1, none, []⟩,
 ⟨(some 12), .ext (.tmp 7) 2, none, []⟩,
 ⟨(some 4), .mv (.tmp 10), none, []⟩,
 ⟨(some 5), .mv (.tmp 11), none, []⟩,
 ⟨(some 6), .mv (.tmp 12), none, []⟩])
 (.seq
 (.reg [
 ⟨(some 13), .mv (.tmp 4), none, []⟩,
 ⟨(some 14), .mv (.tmp 4), none, []⟩,
 ⟨(some 15), .bin .neq (.tmp 14) (.val (.int .i64 0)), none, []⟩,
 ⟨(some 16), .mv (.tmp 15), none, []⟩,
 ⟨(some 17), .mv (.tmp 5), some (16, true), []⟩,
 ⟨(some 18), .len (.tmp 17), some (16, true), []⟩,
 ⟨(some 19), .bin .eql (.tmp 18) (.val (.int .i64 0)), some (16, true), []⟩,
 ⟨(some 20), .pick (.tmp 16) (.tmp 19) (.val (.bool false)), none, []⟩,
 ⟨(some 2), .mv (.tmp 13), none, []⟩,
 ⟨(some 3), .mv (.tmp 20), none, []⟩])
 .ret)))
def c_attr_number : AF := ⟨b_attr_number, 21, [.tmp 2, .tmp 3]⟩
theorem p_attr_number : prepFunc Try.prog 81 = some c_attr_number ∧ hasBody Try.prog 81 = true := ⟨by kernel_rfl, by kernel_rfl⟩
def tab : Tab := [(9, c_ridgewaylaw07_AttrJudges), (18, c_ridgewayref03_SameNote), (25, c_ridgewaylaw07_awake), (26, c_attr_Get), (28, c_attr_All), (31, c_attr_Put), (32, c_ridgewayref07_Put), (33, c_attr_Sane), (35, c_attr_Of), (37, c_ridgewayref07_Few), (38, c_attr_Judge), (39, c_ridgewayref07_Judge), (40, c_ridgewayref07_SamePath), (41, c_octet_Get), (42, c_octet_Put), (48, c_ridgewayref01_Get), (57, c_octet_Take), (58, c_attr_octetSized), (59, c_ridgewayref07_right), (60, c_attr_segment), (61, c_attr_fatal), (62, c_attr_kinds), (63, c_ridgewayref07_judge__has), (64, c_ridgewayref07_judge__one), (71, c_attr_readOrigin), (72, c_attr_readAs), (73, c_attr_readHop), (74, c_attr_readMed), (75, c_attr_readOtc), (76, c_ridgewayref07_judge__need), (77, c_ridgewayref07_ases), (78, c_ridgewayref07_four), (81, c_attr_number)]
theorem tab_ok : Tab.Ok Try.prog tab := ⟨p_ridgewaylaw07_AttrJudges, p_ridgewayref03_SameNote, p_ridgewaylaw07_awake, p_attr_Get, p_attr_All, p_attr_Put, p_ridgewayref07_Put, p_attr_Sane, p_attr_Of, p_ridgewayref07_Few, p_attr_Judge, p_ridgewayref07_Judge, p_ridgewayref07_SamePath, p_octet_Get, p_octet_Put, p_ridgewayref01_Get, p_octet_Take, p_attr_octetSized, p_ridgewayref07_right, p_attr_segment, p_attr_fatal, p_attr_kinds, p_ridgewayref07_judge__has, p_ridgewayref07_judge__one, p_attr_readOrigin, p_attr_readAs, p_attr_readHop, p_attr_readMed, p_attr_readOtc, p_ridgewayref07_judge__need, p_ridgewayref07_ases, p_ridgewayref07_four, p_attr_number, trivial⟩
end Go.Proofs.Ytgakgilaikgboaa
