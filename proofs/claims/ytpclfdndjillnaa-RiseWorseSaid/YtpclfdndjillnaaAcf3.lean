/- Plain forms of functions. -/
import Derived.Test.YtpclfdndjillnaaAv16
import Derived.Test.YtpclfdndjillnaaProg
import Derived.KernelRfl
namespace Go.Proofs.Ytpclfdndjillnaa
set_option maxRecDepth 100000
set_option maxHeartbeats 1000000
def b_ridgewaylaw15_RiseWorse : AC :=
 (.seq
 (.reg [
 ⟨(some 6), .box 25 6 (.tmp 0), none, []⟩,
 ⟨(some 7), .box 25 6 (.tmp 1), none, []⟩,
 ⟨(some 9), .box 27 2 (.tmp 3), none, []⟩,
 ⟨(some 10), .box 30 4 (.tmp 4), none, []⟩,
 ⟨(some 12), .mv (.val (.bool false)), none, []⟩])
 (.seq
 (.reg [
 ⟨(some 24), .callS 14 [], none, []⟩,
 ⟨(some 13), .mv (.tmp 24), none, []⟩])
 (.seq
 (.seq
 (.reg [
 ⟨(some 25), .ld (some 6) (.tmp 6), none, []⟩,
 ⟨(some 26), .callS 15 [(.tmp 25)], none, []⟩,
 ⟨(some 27), .un .not (.tmp 26), none, []⟩,
 ⟨(some 28), .mv (.tmp 27), none, []⟩,
 ⟨(some 29), .ld (some 6) (.tmp 7), some (28, false), []⟩,
 ⟨(some 30), .callS 15 [(.tmp 29)], some (28, false), []⟩,
 ⟨(some 31), .un .not (.tmp 30), some (28, false), []⟩,
 ⟨(some 32), .pick (.tmp 28) (.val (.bool true)) (.tmp 31), none, []⟩,
 ⟨(some 33), .mv (.tmp 32), none, []⟩,
 ⟨(some 34), .off 1 (.tmp 10), some (33, false), []⟩,
 ⟨(some 35), .ld none (.tmp 34), some (33, false), []⟩,
 ⟨(some 36), .len (.tmp 35), some (33, false), []⟩,
 ⟨(some 37), .bin .gtr (.tmp 36) (.val (.int .i64 100)), some (33, false), []⟩,
 ⟨(some 38), .pick (.tmp 33) (.val (.bool true)) (.tmp 37), none, []⟩,
 ⟨(some 39), .mv (.tmp 38), none, []⟩,
 ⟨(some 40), .ld (some 6) (.tmp 6), some (39, false), []⟩,
 ⟨(some 41), .ld (some 6) (.tmp 7), some (39, false), []⟩,
 ⟨(some 42), .callS 22 [(.tmp 40), (.tmp 41)], some (39, false), []⟩,
 ⟨(some 43), .un .not (.tmp 42), some (39, false), []⟩,
 ⟨(some 44), .pick (.tmp 39) (.val (.bool true)) (.tmp 43), none, []⟩])
 (.cond (.tmp 44)
 (.seq
 (.reg [
 ⟨(some 45), .mv (.tmp 13), none, []⟩,
 ⟨(some 12), .mv (.tmp 45), none, []⟩])
 .ret)
 .skip))
 (.seq
 (.reg [
 ⟨(some 47), .ld (some 6) (.tmp 6), none, []⟩,
 ⟨(some 48), .off 0 (.tmp 7), none, []⟩,
 ⟨(some 49), .ld none (.tmp 48), none, []⟩,
 ⟨(some 50), .callS 23 [(.tmp 47), (.tmp 49)], none, []⟩,
 ⟨(some 46), .mv (.tmp 50), none, []⟩,
 ⟨(some 51), .ext (.tmp 46) 0, none, []⟩,
 ⟨(some 52), .ext (.tmp 46) 1, none, []⟩,
 ⟨(some 14), .mv (.tmp 51), none, []⟩,
 ⟨(some 15), .mv (.tmp 52), none, []⟩])
 (.seq
 (.reg [
 ⟨(some 54), .ld (some 6) (.tmp 7), none, []⟩,
 ⟨(some 55), .off 0 (.tmp 6), none, []⟩,
 ⟨(some 56), .ld none (.tmp 55), none, []⟩,
 ⟨(some 57), .callS 23 [(.tmp 54), (.tmp 56)], none, []⟩,
 ⟨(some 53), .mv (.tmp 57), none, []⟩,
 ⟨(some 58), .ext (.tmp 53) 0, none, []⟩,
 ⟨(some 59), .ext (.tmp 53) 1, none, []⟩,
 ⟨(some 16), .mv (.tmp 58), none, []⟩,
 ⟨(some 17), .mv (.tmp 59), none, []⟩])
 (.seq
 (.reg [
 ⟨(some 61), .ld (some 6) (.tmp 6), none, []⟩,
 ⟨(some 62), .mv (.tmp 2), none, []⟩,
 ⟨(some 63), .ld (some 2) (.tmp 9), none, []⟩,
 ⟨(some 64), .ld (some 4) (.tmp 10), none, []⟩,
 ⟨(some 65), .callS 16 [(.tmp 61), (.tmp 62), (.tmp 63), (.tmp 64)], none, []⟩,
 ⟨(some 60), .mv (.tmp 65), none, []⟩,
 ⟨(some 66), .ext (.tmp 60) 0, none, []⟩,
 ⟨(some 67), .ext (.tmp 60) 1, none, []⟩,
 ⟨(some 18), .box 34 6 (.val (.agg [(.int .i64 0), (.int .i64 0), (.slice .full 0 []), (.int .i64 0), (.int .i64 0), (.int .i64 0)])), none, []⟩,
 ⟨none, .st 6 (.tmp 18) (.tmp 66), none, []⟩,
 ⟨(some 19), .mv (.tmp 67), none, []⟩])
 (.seq
 (.seq
 (.reg [
 ⟨(some 68), .mv (.tmp 5), none, []⟩])
 (.cond (.tmp 68)
 (.seq
 (.reg [
 ⟨(some 69), .off 1 (.tmp 6), none, []⟩,
 ⟨(some 70), .ld none (.tmp 69), none, []⟩,
 ⟨(some 71), .callS 24 [(.tmp 70)], none, []⟩,
 ⟨none, .st 6 (.tmp 18) (.tmp 71), none, []⟩])
 (.reg [
 ⟨(some 19), .mv (.val (.bool true)), none, []⟩]))
 .skip))
 (.seq
 (.reg [
 ⟨(some 73), .ld (some 6) (.tmp 6), none, []⟩,
 ⟨(some 74), .mv (.tmp 14), none, []⟩,
 ⟨(some 75), .ld (some 2) (.tmp 9), none, []⟩,
 ⟨(some 76), .ld (some 6) (.tmp 18), none, []⟩,
 ⟨(some 77), .callS 20 [(.tmp 73), (.tmp 74), (.tmp 75), (.tmp 76)], none, []⟩,
 ⟨(some 72), .mv (.tmp 77), none, []⟩,
 ⟨(some 78), .ext (.tmp 72) 0, none, []⟩,
 ⟨(some 79), .ext (.tmp 72) 1, none, []⟩,
 ⟨(some 20), .box 30 4 (.val (.agg [(.int .i64 0), (.slice .full 0 []), (.int .i64 0), (.int .i64 0)])), none, []⟩,
 ⟨none, .st 4 (.tmp 20) (.tmp 78), none, []⟩,
 ⟨(some 21), .mv (.tmp 79), none, []⟩])
 (.seq
 (.reg [
 ⟨(some 81), .ld (some 6) (.tmp 7), none, []⟩,
 ⟨(some 82), .mv (.tmp 16), none, []⟩,
 ⟨(some 83), .ld (some 2) (.tmp 9), none, []⟩,
 ⟨(some 84), .ld (some 4) (.tmp 20), none, []⟩,
 ⟨(some 85), .callS 16 [(.tmp 81), (.tmp 82), (.tmp 83), (.tmp 84)], none, []⟩,
 ⟨(some 80), .mv (.tmp 85), none, []⟩,
 ⟨(some 86), .ext (.tmp 80) 0, none, []⟩,
 ⟨(some 87), .ext (.tmp 80) 1, none, []⟩,
 ⟨(some 22), .box 34 6 (.val (.agg [(.int .i64 0), (.int .i64 0), (.slice .full 0 []), (.int .i64 0), (.int .i64 0), (.int .i64 0)])), none, []⟩,
 ⟨none, .st 6 (.tmp 22) (.tmp 86), none, []⟩,
 ⟨(some 23), .mv (.tmp 87), none, []⟩])
 (.seq
 (.seq
 (.reg [
 ⟨(some 88), .mv (.tmp 15), none, []⟩,
 ⟨(some 89), .un .not (.tmp 88), none, []⟩,
 ⟨(some 90), .mv (.tmp 89), none, []⟩,
 ⟨(some 91), .mv (.tmp 17), some (90, false), []⟩,
 ⟨(some 92), .un .not (.tmp 91), some (90, false), []⟩,
 ⟨(some 93), .pick (.tmp 90) (.val (.bool true)) (.tmp 92), none, []⟩])
 (.cond (.tmp 93)
 (.seq
 (.reg [
 ⟨(some 12), .mv (.val (.bool false)), none, []⟩])
 .ret)
 .skip))
 (.seq
 (.reg [
 ⟨(some 94), .mv (.tmp 13), none, []⟩,
 ⟨(some 95), .mv (.tmp 94), none, []⟩,
 ⟨(some 96), .mv (.tmp 19), some (95, true), []⟩,
 ⟨(some 97), .un .not (.tmp 96), some (95, true), []⟩,
 ⟨(some 98), .mv (.tmp 97), some (95, true), []⟩,
 ⟨(some 99), .mv (.tmp 21), some (98, false), []⟩,
 ⟨(some 100), .un .not (.tmp 99), some (98, false), []⟩,
 ⟨(some 101), .pick (.tmp 98) (.val (.bool true)) (.tmp 100), some (95, true), []⟩,
 ⟨(some 102), .mv (.tmp 101), some (95, true), []⟩,
 ⟨(some 103), .mv (.tmp 23), some (102, false), []⟩,
 ⟨(some 104), .un .not (.tmp 103), some (102, false), []⟩,
 ⟨(some 105), .pick (.tmp 102) (.val (.bool true)) (.tmp 104), some (95, true), []⟩,
 ⟨(some 106), .mv (.tmp 105), some (95, true), []⟩,
 ⟨(some 107), .ld (some 6) (.tmp 18), some (106, false), []⟩,
 ⟨(some 108), .ld (some 6) (.tmp 22), some (106, false), []⟩,
 ⟨(some 109), .callS 25 [(.tmp 107), (.tmp 108)], some (106, false), []⟩,
 ⟨(some 110), .bin .lss (.tmp 109) (.val (.int .i64 0)), some (106, false), []⟩,
 ⟨(some 111), .pick (.tmp 106) (.val (.bool true)) (.tmp 110), some (95, true), []⟩,
 ⟨(some 112), .pick (.tmp 95) (.tmp 111) (.val (.bool false)), none, []⟩,
 ⟨(some 12), .mv (.tmp 112), none, []⟩])
 .ret)))))))))))
def c_ridgewaylaw15_RiseWorse : AF := ⟨b_ridgewaylaw15_RiseWorse, 113, [.tmp 12]⟩
theorem p_ridgewaylaw15_RiseWorse : prepFunc Try.prog 4 = some c_ridgewaylaw15_RiseWorse ∧ hasBody Try.prog 4 = true := ⟨by kernel_rfl, by kernel_rfl⟩
def b_ridgewaylaw15_awake : AC :=
 (.seq
 (.reg [
 ⟨(some 0), .mv (.val (.bool false)), none, []⟩])
 (.seq
 (.reg [
 ⟨(some 8), .callS 41 [(.val (.int .i64 1)), (.val (.int .i64 5)), (.val (.int .i64 2)), (.val (.int .i64 3)), (.val (.int .i64 100))], none, []⟩,
 ⟨(some 1), .box 25 6 (.val (.agg [(.int .i64 0), (.int .i64 0), (.int .i64 0), (.int .i64 0), (.slice .full 0 []), (.slice .full 0 [])])), none, []⟩,
 ⟨none, .st 6 (.tmp 1) (.tmp 8), none, []⟩])
 (.seq
 (.reg [
 ⟨(some 10), .ld (some 6) (.tmp 1), none, []⟩,
 ⟨(some 11), .callS 18 [(.tmp 10), (.val (.int .i64 1))], none, []⟩,
 ⟨(some 9), .mv (.tmp 11), none, []⟩,
 ⟨(some 12), .ext (.tmp 9) 0, none, []⟩,
 ⟨(some 13), .ext (.tmp 9) 1, none, []⟩,
 ⟨(some 2), .mv (.tmp 12), none, []⟩,
 ⟨(some 3), .mv (.tmp 13), none, []⟩])
 (.seq
 (.reg [
 ⟨(some 15), .ld (some 6) (.tmp 1), none, []⟩,
 ⟨(some 16), .callS 19 [(.tmp 15), (.val (.int .i64 1))], none, []⟩,
 ⟨(some 14), .mv (.tmp 16), none, []⟩,
 ⟨(some 17), .ext (.tmp 14) 0, none, []⟩,
 ⟨(some 18), .ext (.tmp 14) 1, none, []⟩,
 ⟨(some 4), .mv (.tmp 17), none, []⟩,
 ⟨(some 5), .mv (.tmp 18), none, []⟩])
 (.seq
 (.reg [
 ⟨(some 20), .ld (some 6) (.tmp 1), none, []⟩,
 ⟨(some 21), .callS 23 [(.tmp 20), (.val (.int .i64 2))], none, []⟩,
 ⟨(some 19), .mv (.tmp 21), none, []⟩,
 ⟨(some 22), .ext (.tmp 19) 0, none, []⟩,
 ⟨(some 23), .ext (.tmp 19) 1, none, []⟩,
 ⟨(some 6), .mv (.tmp 22), none, []⟩,
 ⟨(some 7), .mv (.tmp 23), none, []⟩])
 (.seq
 (.reg [
 ⟨(some 24), .ld (some 6) (.tmp 1), none, []⟩,
 ⟨(some 25), .call 41 [(.val (.int .i64 2)), (.val (.int .i64 6)), (.val (.int .i64 1)), (.val (.int .i64 1)), (.val (.int .i64 300))], none, []⟩,
 ⟨(some 26), .call 22 [(.tmp 24), (.tmp 25)], none, []⟩,
 ⟨(some 27), .mv (.tmp 26), none, []⟩,
 ⟨(some 28), .ld (some 6) (.tmp 1), some (27, true), []⟩,
 ⟨(some 29), .call 41 [(.val (.int .i64 2)), (.val (.int .i64 6)), (.val (.int .i64 1)), (.val (.int .i64 1)), (.val (.int .i64 310))], some (27, true), []⟩,
 ⟨(some 30), .callS 22 [(.tmp 28), (.tmp 29)], some (27, true), []⟩,
 ⟨(some 31), .un .not (.tmp 30), some (27, true), []⟩,
 ⟨(some 32), .pick (.tmp 27) (.tmp 31) (.val (.bool false)), none, []⟩,
 ⟨(some 33), .mv (.tmp 32), none, []⟩,
 ⟨(some 34), .mv (.tmp 3), some (33, true), []⟩,
 ⟨(some 35), .pick (.tmp 33) (.tmp 34) (.val (.bool false)), none, []⟩,
 ⟨(some 36), .mv (.tmp 35), none, []⟩,
 ⟨(some 37), .mv (.tmp 2), some (36, true), []⟩,
 ⟨(some 38), .bin .eql (.tmp 37) (.val (.int .i64 300)), some (36, true), []⟩,
 ⟨(some 39), .pick (.tmp 36) (.tmp 38) (.val (.bool false)), none, []⟩,
 ⟨(some 40), .mv (.tmp 39), none, []⟩,
 ⟨(some 41), .mv (.tmp 5), some (40, true), []⟩,
 ⟨(some 42), .pick (.tmp 40) (.tmp 41) (.val (.bool false)), none, []⟩,
 ⟨(some 43), .mv (.tmp 42), none, []⟩,
 ⟨(some 44), .mv (.tmp 4), some (43, true), []⟩,
 ⟨(some 45), .bin .eql (.tmp 44) (.val (.int .i64 100)), some (43, true), []⟩,
 ⟨(some 46), .pick (.tmp 43) (.tmp 45) (.val (.bool false)), none, []⟩,
 ⟨(some 47), .mv (.tmp 46), none, []⟩,
 ⟨(some 48), .mv (.tmp 7), some (47, true), []⟩,
 ⟨(some 49), .pick (.tmp 47) (.tmp 48) (.val (.bool false)), none, []⟩,
 ⟨(some 50), .mv (.tmp 49), none, []⟩,
 ⟨(some 51), .mv (.tmp 6), some (50, true), []⟩,
 ⟨(some 52), .bin .eql (.tmp 51) (.val (.int .i64 1)), some (50, true), []⟩,
 ⟨(some 53), .pick (.tmp 50) (.tmp 52) (.val (.bool false)), none, []⟩,
 ⟨(some 54), .mv (.tmp 53), none, []⟩,
 ⟨(some 55), .ld (some 6) (.tmp 1), some (54, true), []⟩,
 ⟨(some 56), .callS 21 [(.tmp 55), (.val (.int .i64 1)), (.val (.int .i64 0))], some (54, true), []⟩,
 ⟨(some 57), .pick (.tmp 54) (.tmp 56) (.val (.bool false)), none, []⟩,
 ⟨(some 58), .mv (.tmp 57), none, []⟩,
 ⟨(some 59), .ld (some 6) (.tmp 1), some (58, true), []⟩,
 ⟨(some 60), .callS 21 [(.tmp 59), (.val (.int .i64 0)), (.val (.int .i64 0))], some (58, true), []⟩,
 ⟨(some 61), .un .not (.tmp 60), some (58, true), []⟩,
 ⟨(some 62), .pick (.tmp 58) (.tmp 61) (.val (.bool false)), none, []⟩,
 ⟨(some 0), .mv (.tmp 62), none, []⟩])
 .ret))))))
def c_ridgewaylaw15_awake : AF := ⟨b_ridgewaylaw15_awake, 63, [.tmp 0]⟩
theorem p_ridgewaylaw15_awake : prepFunc Try.prog 14 = some c_ridgewaylaw15_awake ∧ hasBody Try.prog 14 = true := ⟨by kernel_rfl, by kernel_rfl⟩
def b_ridgewayref12_Few : AC :=
 (.seq
 (.reg [
 ⟨(some 1), .box 25 6 (.tmp 0), none, []⟩,
 ⟨(some 2), .mv (.val (.bool false)), none, []⟩])
 (.seq
 (.seq
 (.reg [
 ⟨(some 3), .mv (.val (.int .i64 0)), none, []⟩])
 (.block 0
 (.loop
 (.seq
 (.seq
 (.reg [
 ⟨(some 4), .mv (.tmp 3), none, []⟩,
 ⟨(some 5), .off 5 (.tmp 1), none, []⟩,
 ⟨(some 6), .ld none (.tmp 5), none, []⟩,
 ⟨(some 7), .len (.tmp 6), none, []⟩,
 ⟨(some 8), .bin .lss (.tmp 4) (.tmp 7), none, []⟩])
 (.cond (.tmp 8)
 .skip
 (.exit 0)))
 (.seq
 (.block 1
 (.seq
 (.reg [
 ⟨(some 11), .off 5 (.tmp 1), none, []⟩,
 ⟨(some 12), .ld none (.tmp 11), none, []⟩,
 ⟨(some 13), .mv (.tmp 3), none, []⟩,
 ⟨(some 14), .idxA 4 (.tmp 12) (.tmp 13), none, []⟩,
 ⟨(some 15), .off 2 (.tmp 14), none, []⟩,
 ⟨(some 16), .ld none (.tmp 15), none, []⟩,
 ⟨(some 17), .len (.tmp 16), none, []⟩,
 ⟨(some 18), .bin .gtr (.tmp 17) (.val (.int .i64 20)), none, []⟩,
 ⟨(some 19), .mv (.tmp 18), none, []⟩,
 ⟨(some 20), .off 5 (.tmp 1), some (19, false), []⟩,
 ⟨(some 21), .ld none (.tmp 20), some (19, false), []⟩,
 ⟨(some 22), .mv (.tmp 3), some (19, false), []⟩,
 ⟨(some 23), .idxA 4 (.tmp 21) (.tmp 22), some (19, false), []⟩,
 ⟨(some 24), .off 3 (.tmp 23), some (19, false), []⟩,
 ⟨(some 25), .ld none (.tmp 24), some (19, false), []⟩,
 ⟨(some 26), .len (.tmp 25), some (19, false), []⟩,
 ⟨(some 27), .bin .gtr (.tmp 26) (.val (.int .i64 20)), some (19, false), []⟩,
 ⟨(some 28), .pick (.tmp 19) (.val (.bool true)) (.tmp 27), none, []⟩])
 (.cond (.tmp 28)
 (.seq
 (.reg [
 ⟨(some 2), .mv (.val (.bool false)), none, []⟩])
 .ret)
 .skip)))
 (.reg [
 ⟨(some 9), .mv (.tmp 3), none, []⟩,
 ⟨(some 10), .bin .add (.tmp 9) (.val (.int .i64 1)), none, []⟩,
 ⟨(some 3), .mv (.tmp 10), none, []⟩]))))))
 (.seq
 (.reg [
 ⟨(some 29), .off 4 (.tmp 1), none, []⟩,
 ⟨(some 30), .ld none (.tmp 29), none, []⟩,
 ⟨(some 31), .len (.tmp 30), none, []⟩,
 ⟨(some 32), .bin .leq (.tmp 31) (.val (.int .i64 20)), none, []⟩,
 ⟨(some 33), .mv (.tmp 32), none, []⟩,
 ⟨(some 34), .off 5 (.tmp 1), some (33, true), []⟩,
 ⟨(some 35), .ld none (.tmp 34), some (33, true), []⟩,
 ⟨(some 36), .len (.tmp 35), some (33, true), []⟩,
 ⟨(some 37), .bin .leq (.tmp 36) (.val (.int .i64 20)), some (33, true), []⟩,
 ⟨(some 38), .pick (.tmp 33) (.tmp 37) (.val (.bool false)), none, []⟩,
 ⟨(some 2), .mv (.tmp 38), none, []⟩])
 .ret)))
def c_ridgewayref12_Few : AF := ⟨b_ridgewayref12_Few, 39, [.tmp 2]⟩
theorem p_ridgewayref12_Few : prepFunc Try.prog 15 = some c_ridgewayref12_Few ∧ hasBody Try.prog 15 = true := ⟨by kernel_rfl, by kernel_rfl⟩
def b_edge_In : AC :=
 (.seq
 (.reg [
 ⟨(some 4), .box 25 6 (.tmp 0), none, []⟩,
 ⟨(some 6), .box 27 2 (.tmp 2), none, []⟩,
 ⟨(some 7), .box 30 4 (.tmp 3), none, []⟩,
 ⟨(some 8), .box 34 6 (.val (.agg [(.int .i64 0), (.int .i64 0), (.slice .full 0 []), (.int .i64 0), (.int .i64 0), (.int .i64 0)])), none, []⟩,
 ⟨(some 9), .mv (.val (.bool false)), none, []⟩])
 (.seq
 (.seq
 (.reg [
 ⟨(some 14), .ld (some 6) (.tmp 4), none, []⟩,
 ⟨(some 15), .mv (.tmp 1), none, []⟩,
 ⟨(some 16), .ld (some 2) (.tmp 6), none, []⟩,
 ⟨(some 17), .callS 42 [(.tmp 14), (.tmp 15), (.tmp 16)], none, []⟩,
 ⟨(some 18), .un .not (.tmp 17), none, []⟩,
 ⟨(some 19), .mv (.tmp 18), none, []⟩,
 ⟨(some 20), .ld (some 4) (.tmp 7), some (19, false), []⟩,
 ⟨(some 21), .callS 43 [(.tmp 20)], some (19, false), []⟩,
 ⟨(some 22), .un .not (.tmp 21), some (19, false), []⟩,
 ⟨(some 23), .pick (.tmp 19) (.val (.bool true)) (.tmp 22), none, []⟩])
 (.cond (.tmp 23)
 (.seq
 (.reg [
 ⟨(some 24), .bld [(.int .i64 0), (.int .i64 0), (.slice .full 0 []), (.int .i64 0), (.int .i64 0), (.int .i64 0)] [], none, []⟩,
 ⟨none, .st 6 (.tmp 8) (.tmp 24), none, []⟩,
 ⟨(some 9), .mv (.val (.bool false)), none, []⟩])
 .ret)
 .skip))
 (.seq
 (.reg [
 ⟨(some 25), .off 5 (.tmp 4), none, []⟩,
 ⟨(some 26), .ld none (.tmp 25), none, []⟩,
 ⟨(some 27), .mv (.tmp 1), none, []⟩,
 ⟨(some 28), .idxA 4 (.tmp 26) (.tmp 27), none, []⟩,
 ⟨(some 29), .ld (some 4) (.tmp 28), none, []⟩,
 ⟨(some 10), .box 50 4 (.val (.agg [(.int .i64 0), (.int .i64 0), (.slice .full 0 []), (.slice .full 0 [])])), none, []⟩,
 ⟨none, .st 4 (.tmp 10) (.tmp 29), none, []⟩])
 (.seq
 (.reg [
 ⟨(some 11), .box 52 6 (.val (.agg [(.int .i64 0), (.int .i64 0), (.int .i64 0), (.int .i64 0), (.int .i64 0), (.int .i64 0)])), none, []⟩])
 (.seq
 (.reg [
 ⟨(some 12), .box 3 1 (.val (.int .i64 0)), none, []⟩])
 (.seq
 (.reg [
 ⟨(some 30), .mkclo 45 [(.tmp 7), (.tmp 10)], none, []⟩,
 ⟨(some 31), .mkclo 46 [(.tmp 7), (.tmp 4)], none, []⟩,
 ⟨(some 32), .mkclo 48 [(.tmp 7)], none, []⟩,
 ⟨(some 33), .mkclo 49 [(.tmp 10), (.tmp 7), (.tmp 12)], none, []⟩,
 ⟨(some 34), .mkclo 51 [(.tmp 10), (.tmp 6), (.tmp 7), (.tmp 11)], none, []⟩,
 ⟨(some 35), .lit 31 1 [0] [(.tmp 30), (.tmp 31), (.tmp 32), (.tmp 33), (.tmp 34)], none, []⟩,
 ⟨(some 36), .callS 44 [(.tmp 35)], none, []⟩,
 ⟨(some 13), .mv (.tmp 36), none, []⟩])
 (.seq
 (.seq
 (.reg [
 ⟨(some 37), .mv (.tmp 13), none, []⟩,
 ⟨(some 38), .un .not (.tmp 37), none, []⟩])
 (.cond (.tmp 38)
 (.seq
 (.reg [
 ⟨(some 39), .bld [(.int .i64 0), (.int .i64 0), (.slice .full 0 []), (.int .i64 0), (.int .i64 0), (.int .i64 0)] [], none, []⟩,
 ⟨none, .st 6 (.tmp 8) (.tmp 39), none, []⟩,
 ⟨(some 9), .mv (.val (.bool false)), none, []⟩])
 .ret)
 .skip))
 (.seq
 (.reg [
 ⟨(some 40), .ld none (.tmp 12), none, []⟩,
 ⟨(some 41), .off 3 (.tmp 7), none, []⟩,
 ⟨none, .st 1 (.tmp 41) (.tmp 40), none, []⟩])
 (.seq
 (.reg [
 ⟨(some 42), .off 5 (.tmp 11), none, []⟩,
 ⟨(some 43), .ld none (.tmp 42), none, []⟩,
 ⟨(some 44), .ld (some 4) (.tmp 7), none, []⟩,
 ⟨(some 45), .mv (.tmp 1), none, []⟩,
 ⟨(some 46), .bld [(.int .i64 0), (.int .i64 0), (.slice .full 0 []), (.int .i64 0), (.int .i64 0), (.int .i64 0)] [(0, 1, (.tmp 43)), (1, 4, (.tmp 44)), (5, 1, (.tmp 45))], none, []⟩,
 ⟨none, .st 6 (.tmp 8) (.tmp 46), none, []⟩,
 ⟨(some 9), .mv (.val (.bool true)), none, []⟩])
 .ret)))))))))
def c_edge_In : AF := ⟨b_edge_In, 47, [.cell 8 (some 6), .tmp 9]⟩
theorem p_edge_In : prepFunc Try.prog 16 = some c_edge_In ∧ hasBody Try.prog 16 = true := ⟨by kernel_rfl, by kernel_rfl⟩
def b_edge_Class : AC :=
 (.seq
 (.reg [
 ⟨(some 2), .box 25 6 (.tmp 0), none, []⟩,
 ⟨(some 4), .mv (.val (.int .i64 0)), none, []⟩])
 (.seq
 (.seq
 (.reg [
 ⟨(some 5), .mv (.tmp 1), none, []⟩,
 ⟨(some 6), .bin .lss (.tmp 5) (.val (.int .i64 0)), none, []⟩,
 ⟨(some 7), .mv (.tmp 6), none, []⟩,
 ⟨(some 8), .mv (.tmp 1), some (7, false), []⟩,
 ⟨(some 9), .off 5 (.tmp 2), some (7, false), []⟩,
 ⟨(some 10), .ld none (.tmp 9), some (7, false), []⟩,
 ⟨(some 11), .len (.tmp 10), some (7, false), []⟩,
 ⟨(some 12), .bin .geq (.tmp 8) (.tmp 11), some (7, false), []⟩,
 ⟨(some 13), .pick (.tmp 7) (.val (.bool true)) (.tmp 12), none, []⟩])
 (.cond (.tmp 13)
 (.seq
 (.reg [
 ⟨(some 4), .mv (.val (.int .i64 0)), none, []⟩])
 .ret)
 .skip))
 (.seq
 (.reg [
 ⟨(some 14), .off 5 (.tmp 2), none, []⟩,
 ⟨(some 15), .ld none (.tmp 14), none, []⟩,
 ⟨(some 16), .mv (.tmp 1), none, []⟩,
 ⟨(some 17), .idxA 4 (.tmp 15) (.tmp 16), none, []⟩,
 ⟨(some 18), .off 1 (.tmp 17), none, []⟩,
 ⟨(some 19), .ld none (.tmp 18), none, []⟩,
 ⟨(some 4), .mv (.tmp 19), none, []⟩])
 .ret)))
def c_edge_Class : AF := ⟨b_edge_Class, 20, [.tmp 4]⟩
theorem p_edge_Class : prepFunc Try.prog 17 = some c_edge_Class ∧ hasBody Try.prog 17 = true := ⟨by kernel_rfl, by kernel_rfl⟩
def b_rise_Low : AC :=
 (.seq
 (.reg [
 ⟨(some 2), .box 25 6 (.tmp 0), none, []⟩,
 ⟨(some 4), .mv (.val (.int .i64 0)), none, []⟩,
 ⟨(some 5), .mv (.val (.bool false)), none, []⟩])
 (.seq
 (.seq
 (.reg [
 ⟨(some 9), .mv (.tmp 1), none, []⟩,
 ⟨(some 10), .bin .eql (.tmp 9) (.val (.int .i64 0)), none, []⟩])
 (.cond (.tmp 10)
 (.seq
 (.reg [
 ⟨(some 4), .mv (.val (.int .i64 400)), none, []⟩,
 ⟨(some 5), .mv (.val (.bool true)), none, []⟩])
 .ret)
 .skip))
 (.seq
 (.reg [
 ⟨(some 6), .mv (.val (.slice .full 0 [])), none, []⟩])
 (.seq
 (.seq
 (.reg [
 ⟨(some 11), .off 5 (.tmp 2), none, []⟩,
 ⟨(some 12), .ld none (.tmp 11), none, []⟩,
 ⟨(some 13), .len (.tmp 12), none, []⟩,
 ⟨(some 14), .mv (.val (.int .i64 0)), none, []⟩])
 (.block 0
 (.loop
 (.seq
 (.reg [
 ⟨(some 15), .bin .lss (.tmp 14) (.tmp 13), none, []⟩])
 (.seq
 (.cond (.tmp 15)
 .skip
 (.exit 0))
 (.seq
 (.block 1
 (.seq
 (.reg [
 ⟨(some 16), .idxA 4 (.tmp 12) (.tmp 14), none, []⟩,
 ⟨(some 17), .ld (some 4) (.tmp 16), none, []⟩,
 ⟨(some 8), .box 50 4 (.val (.agg [(.int .i64 0), (.int .i64 0), (.slice .full 0 []), (.slice .full 0 [])])), none, []⟩,
 ⟨none, .st 4 (.tmp 8) (.tmp 17), none, []⟩])
 (.seq
 (.reg [
 ⟨(some 18), .off 1 (.tmp 8), none, []⟩,
 ⟨(some 19), .ld none (.tmp 18), none, []⟩,
 ⟨(some 20), .mv (.tmp 1), none, []⟩,
 ⟨(some 21), .bin .eql (.tmp 19) (.tmp 20), none, []⟩])
 (.cond (.tmp 21)
 (.reg [
 ⟨(some 22), .mv (.tmp 6), none, []⟩,
 ⟨(some 23), .ld (some 4) (.tmp 8), none, []⟩,
 ⟨(some 24), .mv (.tmp 1), none, []⟩,
 ⟨(some 25), .callS 54 [(.tmp 23), (.tmp 24)], none, []⟩,
 ⟨(some 26), .app 3 1 8 (.tmp 22) (.tmp 25), none, []⟩,
 ⟨(some 6), .mv (.tmp 26), none, []⟩])
 .skip))))
 (.reg [
 ⟨(some 27), .bin .add (.tmp 14) (.val (.int .i64 1)), none, []⟩,
 ⟨(some 14), .mv (.tmp 27), none, []⟩])))))))
 (.seq
 (.seq
 (.reg [
 ⟨(some 28), .mv (.tmp 6), none, []⟩,
 ⟨(some 29), .len (.tmp 28), none, []⟩,
 ⟨(some 30), .bin .eql (.tmp 29) (.val (.int .i64 0)), none, []⟩])
 (.cond (.tmp 30)
 (.seq
 (.reg [
 ⟨(some 4), .mv (.val (.int .i64 0)), none, []⟩,
 ⟨(some 5), .mv (.val (.bool false)), none, []⟩])
 .ret)
 .skip))
 (.seq
 (.reg [
 ⟨(some 31), .mv (.tmp 6), none, []⟩,
 ⟨(some 32), .callS 55 [(.tmp 31)], none, []⟩,
 ⟨(some 4), .mv (.tmp 32), none, []⟩,
 ⟨(some 5), .mv (.val (.bool true)), none, []⟩])
 .ret))))))
def c_rise_Low : AF := ⟨b_rise_Low, 33, [.tmp 4, .tmp 5]⟩
theorem p_rise_Low : prepFunc Try.prog 18 = some c_rise_Low ∧ hasBody Try.prog 18 = true := ⟨by kernel_rfl, by kernel_rfl⟩
def b_rise_High : AC :=
 (.seq
 (.reg [
 ⟨(some 2), .box 25 6 (.tmp 0), none, []⟩,
 ⟨(some 4), .mv (.val (.int .i64 0)), none, []⟩,
 ⟨(some 5), .mv (.val (.bool false)), none, []⟩])
 (.seq
 (.seq
 (.reg [
 ⟨(some 7), .mv (.tmp 1), none, []⟩,
 ⟨(some 8), .bin .lss (.tmp 7) (.val (.int .i64 0)), none, []⟩,
 ⟨(some 9), .mv (.tmp 8), none, []⟩,
 ⟨(some 10), .mv (.tmp 1), some (9, false), []⟩,
 ⟨(some 11), .off 5 (.tmp 2), some (9, false), []⟩,
 ⟨(some 12), .ld none (.tmp 11), some (9, false), []⟩,
 ⟨(some 13), .len (.tmp 12), some (9, false), []⟩,
 ⟨(some 14), .bin .geq (.tmp 10) (.tmp 13), some (9, false), []⟩,
 ⟨(some 15), .pick (.tmp 9) (.val (.bool true)) (.tmp 14), none, []⟩])
 (.cond (.tmp 15)
 (.seq
 (.reg [
 ⟨(some 4), .mv (.val (.int .i64 0)), none, []⟩,
 ⟨(some 5), .mv (.val (.bool false)), none, []⟩])
 .ret)
 .skip))
 (.seq
 (.reg [
 ⟨(some 16), .off 5 (.tmp 2), none, []⟩,
 ⟨(some 17), .ld none (.tmp 16), none, []⟩,
 ⟨(some 18), .mv (.tmp 1), none, []⟩,
 ⟨(some 19), .idxA 4 (.tmp 17) (.tmp 18), none, []⟩,
 ⟨(some 20), .ld (some 4) (.tmp 19), none, []⟩,
 ⟨(some 21), .off 5 (.tmp 2), none, []⟩,
 ⟨(some 22), .ld none (.tmp 21), none, []⟩,
 ⟨(some 23), .mv (.tmp 1), none, []⟩,
 ⟨(some 24), .idxA 4 (.tmp 22) (.tmp 23), none, []⟩,
 ⟨(some 25), .off 1 (.tmp 24), none, []⟩,
 ⟨(some 26), .ld none (.tmp 25), none, []⟩,
 ⟨(some 27), .callS 54 [(.tmp 20), (.tmp 26)], none, []⟩,
 ⟨(some 6), .mv (.tmp 27), none, []⟩])
 (.seq
 (.seq
 (.reg [
 ⟨(some 28), .mv (.tmp 6), none, []⟩,
 ⟨(some 29), .len (.tmp 28), none, []⟩,
 ⟨(some 30), .bin .eql (.tmp 29) (.val (.int .i64 0)), none, []⟩])
 (.cond (.tmp 30)
 (.seq
 (.reg [
 ⟨(some 4), .mv (.val (.int .i64 0)), none, []⟩,
 ⟨(some 5), .mv (.val (.bool false)), none, []⟩])
 .ret)
 .skip))
 (.seq
 (.reg [
 ⟨(some 31), .mv (.tmp 6), none, []⟩,
 ⟨(some 32), .callS 56 [(.tmp 31)], none, []⟩,
 ⟨(some 4), .mv (.tmp 32), none, []⟩,
 ⟨(some 5), .mv (.val (.bool true)), none, []⟩])
 .ret)))))
def c_rise_High : AF := ⟨b_rise_High, 33, [.tmp 4, .tmp 5]⟩
theorem p_rise_High : prepFunc Try.prog 19 = some c_rise_High ∧ hasBody Try.prog 19 = true := ⟨by kernel_rfl, by kernel_rfl⟩
def b_edge_Out : AC :=
 (.seq
 (.reg [
 ⟨(some 4), .box 25 6 (.tmp 0), none, []⟩,
 ⟨(some 5), .box 3 1 (.tmp 1), none, []⟩,
 ⟨(some 6), .box 27 2 (.tmp 2), none, []⟩,
 ⟨(some 7), .box 34 6 (.tmp 3), none, []⟩,
 ⟨(some 8), .box 30 4 (.val (.agg [(.int .i64 0), (.slice .full 0 []), (.int .i64 0), (.int .i64 0)])), none, []⟩,
 ⟨(some 9), .mv (.val (.bool false)), none, []⟩])
 (.seq
 (.seq
 (.reg [
 ⟨(some 14), .ld (some 6) (.tmp 4), none, []⟩,
 ⟨(some 15), .ld none (.tmp 5), none, []⟩,
 ⟨(some 16), .ld (some 2) (.tmp 6), none, []⟩,
 ⟨(some 17), .callS 42 [(.tmp 14), (.tmp 15), (.tmp 16)], none, []⟩,
 ⟨(some 18), .un .not (.tmp 17), none, []⟩,
 ⟨(some 19), .mv (.tmp 18), none, []⟩,
 ⟨(some 20), .ld (some 6) (.tmp 7), some (19, false), []⟩,
 ⟨(some 21), .callS 57 [(.tmp 20)], some (19, false), []⟩,
 ⟨(some 22), .un .not (.tmp 21), some (19, false), []⟩,
 ⟨(some 23), .pick (.tmp 19) (.val (.bool true)) (.tmp 22), none, []⟩])
 (.cond (.tmp 23)
 (.seq
 (.reg [
 ⟨(some 24), .bld [(.int .i64 0), (.slice .full 0 []), (.int .i64 0), (.int .i64 0)] [], none, []⟩,
 ⟨none, .st 4 (.tmp 8) (.tmp 24), none, []⟩,
 ⟨(some 9), .mv (.val (.bool false)), none, []⟩])
 .ret)
 .skip))
 (.seq
 (.reg [
 ⟨(some 25), .off 5 (.tmp 4), none, []⟩,
 ⟨(some 26), .ld none (.tmp 25), none, []⟩,
 ⟨(some 27), .ld none (.tmp 5), none, []⟩,
 ⟨(some 28), .idxA 4 (.tmp 26) (.tmp 27), none, []⟩,
 ⟨(some 29), .ld (some 4) (.tmp 28), none, []⟩,
 ⟨(some 10), .box 50 4 (.val (.agg [(.int .i64 0), (.int .i64 0), (.slice .full 0 []), (.slice .full 0 [])])), none, []⟩,
 ⟨none, .st 4 (.tmp 10) (.tmp 29), none, []⟩])
 (.seq
 (.reg [
 ⟨(some 11), .box 28 1 (.val (.slice .full 0 [])), none, []⟩])
 (.seq
 (.reg [
 ⟨(some 12), .box 3 1 (.val (.int .i64 0)), none, []⟩])
 (.seq
 (.reg [
 ⟨(some 30), .mkclo 58 [(.tmp 7), (.tmp 5), (.tmp 4)], none, []⟩,
 ⟨(some 31), .mkclo 59 [(.tmp 10), (.tmp 6), (.tmp 7), (.tmp 4), (.tmp 11)], none, []⟩,
 ⟨(some 32), .mkclo 61 [(.tmp 10), (.tmp 4), (.tmp 7), (.tmp 12)], none, []⟩,
 ⟨(some 33), .mkclo 63 [(.tmp 11)], none, []⟩,
 ⟨(some 34), .lit 31 1 [0] [(.tmp 30), (.tmp 31), (.tmp 32), (.tmp 33)], none, []⟩,
 ⟨(some 35), .callS 44 [(.tmp 34)], none, []⟩,
 ⟨(some 13), .mv (.tmp 35), none, []⟩])
 (.seq
 (.seq
 (.reg [
 ⟨(some 36), .mv (.tmp 13), none, []⟩,
 ⟨(some 37), .un .not (.tmp 36), none, []⟩])
 (.cond (.tmp 37)
 (.seq
 (.reg [
 ⟨(some 38), .bld [(.int .i64 0), (.slice .full 0 []), (.int .i64 0), (.int .i64 0)] [], none, []⟩,
 ⟨none, .st 4 (.tmp 8) (.tmp 38), none, []⟩,
 ⟨(some 9), .mv (.val (.bool false)), none, []⟩])
 .ret)
 .skip))
 (.seq
 (.reg [
 ⟨(some 39), .off 1 (.tmp 7), none, []⟩,
 ⟨(some 40), .off 0 (.tmp 39), none, []⟩,
 ⟨(some 41), .ld none (.tmp 40), none, []⟩,
 ⟨(some 42), .ld none (.tmp 11), none, []⟩,
 ⟨(some 43), .off 1 (.tmp 4), none, []⟩,
 ⟨(some 44), .ld none (.tmp 43), none, []⟩,
 ⟨(some 45), .ld none (.tmp 12), none, []⟩,
 ⟨(some 46), .bld [(.int .i64 0), (.slice .full 0 []), (.int .i64 0), (.int .i64 0)] [(0, 1, (.tmp 41)), (1, 1, (.tmp 42)), (2, 1, (.tmp 44)), (3, 1, (.tmp 45))], none, []⟩,
 ⟨none, .st 4 (.tmp 8) (.tmp 46), none, []⟩,
 ⟨(some 9), .mv (.val (.bool true)), none, []⟩])
 .ret))))))))
def c_edge_Out : AF := ⟨b_edge_Out, 47, [.cell 8 (some 4), .tmp 9]⟩
theorem p_edge_Out : prepFunc Try.prog 20 = some c_edge_Out ∧ hasBody Try.prog 20 = true := ⟨by kernel_rfl, by kernel_rfl⟩
def b_rise_Tells : AC :=
 (.seq
 (.reg [
 ⟨(some 3), .box 25 6 (.tmp 0), none, []⟩,
 ⟨(some 6), .mv (.val (.bool false)), none, []⟩])
 (.seq
 (.seq
 (.reg [
 ⟨(some 8), .mv (.tmp 1), none, []⟩,
 ⟨(some 9), .bin .lss (.tmp 8) (.val (.int .i64 0)), none, []⟩,
 ⟨(some 10), .mv (.tmp 9), none, []⟩,
 ⟨(some 11), .mv (.tmp 1), some (10, false), []⟩,
 ⟨(some 12), .off 5 (.tmp 3), some (10, false), []⟩,
 ⟨(some 13), .ld none (.tmp 12), some (10, false), []⟩,
 ⟨(some 14), .len (.tmp 13), some (10, false), []⟩,
 ⟨(some 15), .bin .geq (.tmp 11) (.tmp 14), some (10, false), []⟩,
 ⟨(some 16), .pick (.tmp 10) (.val (.bool true)) (.tmp 15), none, []⟩])
 (.cond (.tmp 16)
 (.seq
 (.reg [
 ⟨(some 6), .mv (.val (.bool false)), none, []⟩])
 .ret)
 .skip))
 (.seq
 (.reg [
 ⟨(some 7), .mv (.val (.fn 64 [])), none, []⟩])
 (.seq
 (.reg [
 ⟨(some 17), .off 5 (.tmp 3), none, []⟩,
 ⟨(some 18), .ld none (.tmp 17), none, []⟩,
 ⟨(some 19), .mv (.tmp 1), none, []⟩,
 ⟨(some 20), .idxA 4 (.tmp 18) (.tmp 19), none, []⟩,
 ⟨(some 21), .off 3 (.tmp 20), none, []⟩,
 ⟨(some 22), .ld none (.tmp 21), none, []⟩,
 ⟨(some 23), .mv (.tmp 2), none, []⟩,
 ⟨(some 24), .callS 66 [(.tmp 22), (.tmp 23)], none, []⟩,
 ⟨(some 25), .mv (.tmp 7), none, []⟩,
 ⟨(some 26), .callS 65 [(.tmp 24), (.tmp 25)], none, []⟩,
 ⟨(some 6), .mv (.tmp 26), none, []⟩])
 .ret))))
def c_rise_Tells : AF := ⟨b_rise_Tells, 27, [.tmp 6]⟩
theorem p_rise_Tells : prepFunc Try.prog 21 = some c_rise_Tells ∧ hasBody Try.prog 21 = true := ⟨by kernel_rfl, by kernel_rfl⟩
def b_rise_Rises : AC :=
 (.seq
 (.reg [
 ⟨(some 2), .box 25 6 (.tmp 0), none, []⟩,
 ⟨(some 3), .box 25 6 (.tmp 1), none, []⟩,
 ⟨(some 4), .mv (.val (.bool false)), none, []⟩])
 (.seq
 (.reg [
 ⟨(some 13), .ld (some 6) (.tmp 2), none, []⟩,
 ⟨(some 14), .off 0 (.tmp 3), none, []⟩,
 ⟨(some 15), .ld none (.tmp 14), none, []⟩,
 ⟨(some 16), .callS 23 [(.tmp 13), (.tmp 15)], none, []⟩,
 ⟨(some 12), .mv (.tmp 16), none, []⟩,
 ⟨(some 17), .ext (.tmp 12) 0, none, []⟩,
 ⟨(some 18), .ext (.tmp 12) 1, none, []⟩,
 ⟨(some 5), .box 3 1 (.val (.int .i64 0)), none, []⟩,
 ⟨none, .st 1 (.tmp 5) (.tmp 17), none, []⟩,
 ⟨(some 6), .mv (.tmp 18), none, []⟩])
 (.seq
 (.reg [
 ⟨(some 20), .ld (some 6) (.tmp 3), none, []⟩,
 ⟨(some 21), .off 0 (.tmp 2), none, []⟩,
 ⟨(some 22), .ld none (.tmp 21), none, []⟩,
 ⟨(some 23), .callS 23 [(.tmp 20), (.tmp 22)], none, []⟩,
 ⟨(some 19), .mv (.tmp 23), none, []⟩,
 ⟨(some 24), .ext (.tmp 19) 0, none, []⟩,
 ⟨(some 25), .ext (.tmp 19) 1, none, []⟩,
 ⟨(some 7), .mv (.tmp 24), none, []⟩,
 ⟨(some 8), .mv (.tmp 25), none, []⟩])
 (.seq
 (.seq
 (.reg [
 ⟨(some 26), .mv (.tmp 6), none, []⟩,
 ⟨(some 27), .un .not (.tmp 26), none, []⟩,
 ⟨(some 28), .mv (.tmp 27), none, []⟩,
 ⟨(some 29), .mv (.tmp 8), some (28, false), []⟩,
 ⟨(some 30), .un .not (.tmp 29), some (28, false), []⟩,
 ⟨(some 31), .pick (.tmp 28) (.val (.bool true)) (.tmp 30), none, []⟩,
 ⟨(some 32), .mv (.tmp 31), none, []⟩,
 ⟨(some 33), .ld (some 6) (.tmp 2), some (32, false), []⟩,
 ⟨(some 34), .callS 39 [(.tmp 33)], some (32, false), []⟩,
 ⟨(some 35), .un .not (.tmp 34), some (32, false), []⟩,
 ⟨(some 36), .pick (.tmp 32) (.val (.bool true)) (.tmp 35), none, []⟩,
 ⟨(some 37), .mv (.tmp 36), none, []⟩,
 ⟨(some 38), .ld (some 6) (.tmp 3), some (37, false), []⟩,
 ⟨(some 39), .callS 39 [(.tmp 38)], some (37, false), []⟩,
 ⟨(some 40), .un .not (.tmp 39), some (37, false), []⟩,
 ⟨(some 41), .pick (.tmp 37) (.val (.bool true)) (.tmp 40), none, []⟩])
 (.cond (.tmp 41)
 (.seq
 (.reg [
 ⟨(some 4), .mv (.val (.bool false)), none, []⟩])
 .ret)
 .skip))
 (.seq
 (.reg [
 ⟨(some 43), .ld (some 6) (.tmp 3), none, []⟩,
 ⟨(some 44), .mv (.tmp 7), none, []⟩,
 ⟨(some 45), .callS 19 [(.tmp 43), (.tmp 44)], none, []⟩,
 ⟨(some 42), .mv (.tmp 45), none, []⟩,
 ⟨(some 46), .ext (.tmp 42) 0, none, []⟩,
 ⟨(some 47), .ext (.tmp 42) 1, none, []⟩,
 ⟨(some 9), .box 3 1 (.val (.int .i64 0)), none, []⟩,
 ⟨(some 10), .box 4 1 (.val (.bool false)), none, []⟩,
 ⟨none, .st 1 (.tmp 9) (.tmp 46), none, []⟩,
 ⟨none, .st 1 (.tmp 10) (.tmp 47), none, []⟩])
 (.seq
 (.reg [
 ⟨(some 48), .mkclo 67 [(.tmp 2), (.tmp 10), (.tmp 5), (.tmp 9)], none, []⟩,
 ⟨(some 11), .mv (.tmp 48), none, []⟩])
 (.seq
 (.reg [
 ⟨(some 49), .lit 3 1 [0] [(.val (.int .i64 0)), (.val (.int .i64 1)), (.val (.int .i64 2)), (.val (.int .i64 3))], none, []⟩,
 ⟨(some 50), .mv (.tmp 11), none, []⟩,
 ⟨(some 51), .callS 68 [(.tmp 49), (.tmp 50)], none, []⟩,
 ⟨(some 52), .un .not (.tmp 51), none, []⟩,
 ⟨(some 4), .mv (.tmp 52), none, []⟩])
 .ret)))))))
def c_rise_Rises : AF := ⟨b_rise_Rises, 53, [.tmp 4]⟩
theorem p_rise_Rises : prepFunc Try.prog 22 = some c_rise_Rises ∧ hasBody Try.prog 22 = true := ⟨by kernel_rfl, by kernel_rfl⟩
def b_rise_Side : AC :=
 (.seq
 (.reg [
 ⟨(some 2), .box 25 6 (.tmp 0), none, []⟩,
 ⟨(some 3), .box 3 1 (.tmp 1), none, []⟩,
 ⟨(some 4), .mv (.val (.int .i64 0)), none, []⟩,
 ⟨(some 5), .mv (.val (.bool false)), none, []⟩])
 (.seq
 (.reg [
 ⟨(some 7), .off 5 (.tmp 2), none, []⟩,
 ⟨(some 8), .ld none (.tmp 7), none, []⟩,
 ⟨(some 9), .mkclo 70 [(.tmp 3)], none, []⟩,
 ⟨(some 10), .callS 69 [(.tmp 8), (.tmp 9)], none, []⟩,
 ⟨(some 6), .mv (.tmp 10), none, []⟩])
 (.seq
 (.reg [
 ⟨(some 11), .mv (.tmp 6), none, []⟩,
 ⟨(some 12), .mx (.tmp 11) (.val (.int .i64 0)), none, []⟩,
 ⟨(some 13), .mv (.tmp 6), none, []⟩,
 ⟨(some 14), .bin .geq (.tmp 13) (.val (.int .i64 0)), none, []⟩,
 ⟨(some 4), .mv (.tmp 12), none, []⟩,
 ⟨(some 5), .mv (.tmp 14), none, []⟩])
 .ret)))
def c_rise_Side : AF := ⟨b_rise_Side, 15, [.tmp 4, .tmp 5]⟩
theorem p_rise_Side : prepFunc Try.prog 23 = some c_rise_Side ∧ hasBody Try.prog 23 = true := ⟨by kernel_rfl, by kernel_rfl⟩
def b_route_Own : AC :=
 (.seq
 (.reg [
 ⟨(some 2), .box 34 6 (.val (.agg [(.int .i64 0), (.int .i64 0), (.slice .full 0 []), (.int .i64 0), (.int .i64 0), (.int .i64 0)])), none, []⟩])
 (.seq
 (.reg [
 ⟨(some 3), .mv (.tmp 0), none, []⟩,
 ⟨(some 4), .bld [(.int .i64 0), (.slice .full 0 []), (.int .i64 0), (.int .i64 0)] [(2, 1, (.tmp 3))], none, []⟩,
 ⟨(some 5), .bld [(.int .i64 0), (.int .i64 0), (.slice .full 0 []), (.int .i64 0), (.int .i64 0), (.int .i64 0)] [(0, 1, (.val (.int .i64 400))), (1, 4, (.tmp 4)), (5, 1, (.val (.int .i64 (-1))))], none, []⟩,
 ⟨none, .st 6 (.tmp 2) (.tmp 5), none, []⟩])
 .ret))
def c_route_Own : AF := ⟨b_route_Own, 6, [.cell 2 (some 6)]⟩
theorem p_route_Own : prepFunc Try.prog 24 = some c_route_Own ∧ hasBody Try.prog 24 = true := ⟨by kernel_rfl, by kernel_rfl⟩
def b_route_Compare : AC :=
 (.seq
 (.reg [
 ⟨(some 2), .box 34 6 (.tmp 0), none, []⟩,
 ⟨(some 3), .box 34 6 (.tmp 1), none, []⟩,
 ⟨(some 4), .mv (.val (.int .i64 0)), none, []⟩])
 (.seq
 (.reg [
 ⟨(some 9), .ld (some 6) (.tmp 2), none, []⟩,
 ⟨(some 10), .ld (some 6) (.tmp 3), none, []⟩,
 ⟨(some 11), .bld [(.int .i64 0), (.int .i64 0), (.slice .full 0 []), (.int .i64 0), (.int .i64 0), (.int .i64 0), (.int .i64 0), (.int .i64 0), (.slice .full 0 []), (.int .i64 0), (.int .i64 0), (.int .i64 0)] [(0, 6, (.tmp 9)), (6, 6, (.tmp 10))], none, []⟩,
 ⟨(some 5), .box 95 12 (.val (.agg [(.int .i64 0), (.int .i64 0), (.slice .full 0 []), (.int .i64 0), (.int .i64 0), (.int .i64 0), (.int .i64 0), (.int .i64 0), (.slice .full 0 []), (.int .i64 0), (.int .i64 0), (.int .i64 0)])), none, []⟩,
 ⟨none, .st 12 (.tmp 5) (.tmp 11), none, []⟩])
 (.seq
 (.seq
 (.reg [
 ⟨(some 12), .ld (some 12) (.tmp 5), none, []⟩,
 ⟨(some 13), .mkfn 71 [(.tmp 12)], none, []⟩,
 ⟨(some 14), .ld (some 12) (.tmp 5), none, []⟩,
 ⟨(some 15), .mkfn 72 [(.tmp 14)], none, []⟩,
 ⟨(some 16), .ld (some 12) (.tmp 5), none, []⟩,
 ⟨(some 17), .mkfn 73 [(.tmp 16)], none, []⟩,
 ⟨(some 18), .ld (some 12) (.tmp 5), none, []⟩,
 ⟨(some 19), .mkfn 74 [(.tmp 18)], none, []⟩,
 ⟨(some 20), .ld (some 12) (.tmp 5), none, []⟩,
 ⟨(some 21), .mkfn 75 [(.tmp 20)], none, []⟩,
 ⟨(some 22), .ld (some 12) (.tmp 5), none, []⟩,
 ⟨(some 23), .mkfn 76 [(.tmp 22)], none, []⟩,
 ⟨(some 24), .ld (some 12) (.tmp 5), none, []⟩,
 ⟨(some 25), .mkfn 77 [(.tmp 24)], none, []⟩,
 ⟨(some 26), .lit 96 1 [0] [(.tmp 13), (.tmp 15), (.tmp 17), (.tmp 19), (.tmp 21), (.tmp 23), (.tmp 25)], none, []⟩,
 ⟨(some 27), .len (.tmp 26), none, []⟩,
 ⟨(some 28), .mv (.val (.int .i64 0)), none, []⟩])
 (.block 0
 (.loop
 (.seq
 (.reg [
 ⟨(some 29), .bin .lss (.tmp 28) (.tmp 27), none, []⟩])
 (.seq
 (.cond (.tmp 29)
 .skip
 (.exit 0))
 (.seq
 (.block 1
 (.seq
 (.reg [
 ⟨(some 30), .idxA 1 (.tmp 26) (.tmp 28), none, []⟩,
 ⟨(some 31), .ld none (.tmp 30), none, []⟩,
 ⟨(some 7), .mv (.tmp 31), none, []⟩])
 (.seq
 (.reg [
 ⟨(some 32), .mv (.tmp 7), none, []⟩,
 ⟨(some 33), .callvS (.tmp 32) [], none, []⟩,
 ⟨(some 8), .mv (.tmp 33), none, []⟩])
 (.seq
 (.reg [
 ⟨(some 34), .mv (.tmp 8), none, []⟩,
 ⟨(some 35), .bin .neq (.tmp 34) (.val (.int .i64 0)), none, []⟩])
 (.cond (.tmp 35)
 (.seq
 (.reg [
 ⟨(some 36), .mv (.tmp 8), none, []⟩,
 ⟨(some 4), .mv (.tmp 36), none, []⟩])
 .ret)
 .skip)))))
 (.reg [
 ⟨(some 37), .bin .add (.tmp 28) (.val (.int .i64 1)), none, []⟩,
 ⟨(some 28), .mv (.tmp 37), none, []⟩])))))))
 (.seq
 (.reg [
 ⟨(some 4), .mv (.val (.int .i64 0)), none, []⟩])
 .ret))))
def c_route_Compare : AF := ⟨b_route_Compare, 38, [.tmp 4]⟩
theorem p_route_Compare : prepFunc Try.prog 25 = some c_route_Compare ∧ hasBody Try.prog 25 = true := ⟨by kernel_rfl, by kernel_rfl⟩
def b_conf_Sane : AC :=
 (.seq
 (.reg [
 ⟨(some 1), .box 25 6 (.tmp 0), none, []⟩,
 ⟨(some 2), .mv (.val (.bool false)), none, []⟩])
 (.seq
 (.reg [
 ⟨(some 3), .off 0 (.tmp 1), none, []⟩,
 ⟨(some 4), .ld none (.tmp 3), none, []⟩,
 ⟨(some 5), .callS 93 [(.tmp 4)], none, []⟩,
 ⟨(some 6), .mv (.tmp 5), none, []⟩,
 ⟨(some 7), .off 1 (.tmp 1), some (6, true), []⟩,
 ⟨(some 8), .ld none (.tmp 7), some (6, true), []⟩,
 ⟨(some 9), .callS 93 [(.tmp 8)], some (6, true), []⟩,
 ⟨(some 10), .pick (.tmp 6) (.tmp 9) (.val (.bool false)), none, []⟩,
 ⟨(some 11), .mv (.tmp 10), none, []⟩,
 ⟨(some 12), .off 2 (.tmp 1), some (11, true), []⟩,
 ⟨(some 13), .ld none (.tmp 12), some (11, true), []⟩,
 ⟨(some 14), .callS 94 [(.tmp 13)], some (11, true), []⟩,
 ⟨(some 15), .pick (.tmp 11) (.tmp 14) (.val (.bool false)), none, []⟩,
 ⟨(some 16), .mv (.tmp 15), none, []⟩,
 ⟨(some 17), .off 3 (.tmp 1), some (16, true), []⟩,
 ⟨(some 18), .ld none (.tmp 17), some (16, true), []⟩,
 ⟨(some 19), .callS 95 [(.tmp 18)], some (16, true), []⟩,
 ⟨(some 20), .pick (.tmp 16) (.tmp 19) (.val (.bool false)), none, []⟩,
 ⟨(some 21), .mv (.tmp 20), none, []⟩,
 ⟨(some 22), .off 4 (.tmp 1), some (21, true), []⟩,
 ⟨(some 23), .ld none (.tmp 22), some (21, true), []⟩,
 ⟨(some 24), .callS 96 [(.tmp 23)], some (21, true), []⟩,
 ⟨(some 25), .pick (.tmp 21) (.tmp 24) (.val (.bool false)), none, []⟩,
 ⟨(some 26), .mv (.tmp 25), none, []⟩,
 ⟨(some 27), .ld (some 6) (.tmp 1), some (26, true), []⟩,
 ⟨(some 28), .callS 97 [(.tmp 27)], some (26, true), []⟩,
 ⟨(some 29), .pick (.tmp 26) (.tmp 28) (.val (.bool false)), none, []⟩,
 ⟨(some 2), .mv (.tmp 29), none, []⟩])
 .ret))
def c_conf_Sane : AF := ⟨b_conf_Sane, 30, [.tmp 2]⟩
theorem p_conf_Sane : prepFunc Try.prog 39 = some c_conf_Sane ∧ hasBody Try.prog 39 = true := ⟨by kernel_rfl, by kernel_rfl⟩
def b_ridgewaylaw15_node : AC :=
 (.seq
 (.reg [
 ⟨(some 10), .box 25 6 (.val (.agg [(.int .i64 0), (.int .i64 0), (.int .i64 0), (.int .i64 0), (.slice .full 0 []), (.slice .full 0 [])])), none, []⟩])
 (.seq
 (.reg [
 ⟨(some 11), .mv (.tmp 0), none, []⟩,
 ⟨(some 12), .mv (.tmp 0), none, []⟩,
 ⟨(some 13), .mv (.tmp 1), none, []⟩,
 ⟨(some 14), .bld [(.int .i64 0), (.int .i64 0), (.int .i64 0), (.int .i64 0), (.int .i64 0), (.int .i64 0)] [(4, 1, (.val (.int .i64 2))), (5, 1, (.val (.int .i64 300)))], none, []⟩,
 ⟨(some 15), .lit 52 6 [0, 0, 0, 0, 0, 0] [(.tmp 14)], none, []⟩,
 ⟨(some 16), .bld [(.int .i64 0), (.int .i64 0), (.slice .full 0 []), (.slice .full 0 [])] [(0, 1, (.tmp 13)), (1, 1, (.val (.int .i64 1))), (2, 1, (.tmp 15))], none, []⟩,
 ⟨(some 17), .mv (.tmp 2), none, []⟩,
 ⟨(some 18), .mv (.tmp 3), none, []⟩,
 ⟨(some 19), .mv (.tmp 4), none, []⟩,
 ⟨(some 20), .bld [(.int .i64 0), (.int .i64 0), (.int .i64 0), (.int .i64 0), (.int .i64 0), (.int .i64 0)] [(4, 1, (.val (.int .i64 2))), (5, 1, (.tmp 19))], none, []⟩,
 ⟨(some 21), .lit 52 6 [0, 0, 0, 0, 0, 0] [(.tmp 20)], none, []⟩,
 ⟨(some 22), .bld [(.int .i64 0), (.int .i64 0), (.int .i64 0), (.int .i64 0), (.int .i64 0), (.int .i64 0)] [(0, 1, (.val (.int .i64 4))), (3, 1, (.val (.int .i64 0))), (4, 1, (.val (.int .i64 1)))], none, []⟩,
 ⟨(some 23), .bld [(.int .i64 0), (.int .i64 0), (.int .i64 0), (.int .i64 0), (.int .i64 0), (.int .i64 0)] [(0, 1, (.val (.int .i64 4))), (3, 1, (.val (.int .i64 1))), (4, 1, (.val (.int .i64 1)))], none, []⟩,
 ⟨(some 24), .lit 52 6 [0, 0, 0, 0, 0, 0] [(.tmp 22), (.tmp 23)], none, []⟩,
 ⟨(some 25), .bld [(.int .i64 0), (.int .i64 0), (.slice .full 0 []), (.slice .full 0 [])] [(0, 1, (.tmp 17)), (1, 1, (.tmp 18)), (2, 1, (.tmp 21)), (3, 1, (.tmp 24))], none, []⟩,
 ⟨(some 26), .lit 50 4 [0, 0, 6, 6] [(.tmp 16), (.tmp 25)], none, []⟩,
 ⟨(some 27), .bld [(.int .i64 0), (.int .i64 0), (.int .i64 0), (.int .i64 0), (.slice .full 0 []), (.slice .full 0 [])] [(0, 1, (.tmp 11)), (1, 1, (.tmp 12)), (3, 1, (.val (.int .i64 9))), (5, 1, (.tmp 26))], none, []⟩,
 ⟨none, .st 6 (.tmp 10) (.tmp 27), none, []⟩])
 .ret))
def c_ridgewaylaw15_node : AF := ⟨b_ridgewaylaw15_node, 28, [.cell 10 (some 6)]⟩
theorem p_ridgewaylaw15_node : prepFunc Try.prog 41 = some c_ridgewaylaw15_node ∧ hasBody Try.prog 41 = true := ⟨by kernel_rfl, by kernel_rfl⟩
def b_edge_at : AC :=
 (.seq
 (.reg [
 ⟨(some 3), .box 25 6 (.tmp 0), none, []⟩,
 ⟨(some 5), .box 27 2 (.tmp 2), none, []⟩,
 ⟨(some 6), .mv (.val (.bool false)), none, []⟩])
 (.seq
 (.reg [
 ⟨(some 7), .mv (.tmp 1), none, []⟩,
 ⟨(some 8), .bin .geq (.tmp 7) (.val (.int .i64 0)), none, []⟩,
 ⟨(some 9), .mv (.tmp 8), none, []⟩,
 ⟨(some 10), .mv (.tmp 1), some (9, true), []⟩,
 ⟨(some 11), .off 5 (.tmp 3), some (9, true), []⟩,
 ⟨(some 12), .ld none (.tmp 11), some (9, true), []⟩,
 ⟨(some 13), .len (.tmp 12), some (9, true), []⟩,
 ⟨(some 14), .bin .lss (.tmp 10) (.tmp 13), some (9, true), []⟩,
 ⟨(some 15), .pick (.tmp 9) (.tmp 14) (.val (.bool false)), none, []⟩,
 ⟨(some 16), .mv (.tmp 15), none, []⟩,
 ⟨(some 17), .ld (some 2) (.tmp 5), some (16, true), []⟩,
 ⟨(some 18), .callS 87 [(.tmp 17)], some (16, true), []⟩,
 ⟨(some 19), .pick (.tmp 16) (.tmp 18) (.val (.bool false)), none, []⟩,
 ⟨(some 20), .mv (.tmp 19), none, []⟩,
 ⟨(some 21), .ld (some 6) (.tmp 3), some (20, true), []⟩,
 ⟨(some 22), .callS 39 [(.tmp 21)], some (20, true), []⟩,
 ⟨(some 23), .pick (.tmp 20) (.tmp 22) (.val (.bool false)), none, []⟩,
 ⟨(some 6), .mv (.tmp 23), none, []⟩])
 .ret))
def c_edge_at : AF := ⟨b_edge_at, 24, [.tmp 6]⟩
theorem p_edge_at : prepFunc Try.prog 42 = some c_edge_at ∧ hasBody Try.prog 42 = true := ⟨by kernel_rfl, by kernel_rfl⟩
def b_attr_Sane : AC :=
 (.seq
 (.reg [
 ⟨(some 1), .box 30 4 (.tmp 0), none, []⟩,
 ⟨(some 2), .mv (.val (.bool false)), none, []⟩])
 (.seq
 (.seq
 (.reg [
 ⟨(some 5), .off 1 (.tmp 1), none, []⟩,
 ⟨(some 6), .ld none (.tmp 5), none, []⟩,
 ⟨(some 7), .len (.tmp 6), none, []⟩,
 ⟨(some 8), .mv (.val (.int .i64 0)), none, []⟩])
 (.block 0
 (.loop
 (.seq
 (.reg [
 ⟨(some 9), .bin .lss (.tmp 8) (.tmp 7), none, []⟩])
 (.seq
 (.cond (.tmp 9)
 .skip
 (.exit 0))
 (.seq
 (.block 1
 (.seq
 (.reg [
 ⟨(some 10), .idxA 1 (.tmp 6) (.tmp 8), none, []⟩,
 ⟨(some 11), .ld none (.tmp 10), none, []⟩,
 ⟨(some 4), .mv (.tmp 11), none, []⟩])
 (.seq
 (.reg [
 ⟨(some 12), .mv (.tmp 4), none, []⟩,
 ⟨(some 13), .bin .lss (.tmp 12) (.val (.int .i64 1)), none, []⟩,
 ⟨(some 14), .mv (.tmp 13), none, []⟩,
 ⟨(some 15), .mv (.tmp 4), some (14, false), []⟩,
 ⟨(some 16), .bin .gtr (.tmp 15) (.val (.int .i64 4294967295)), some (14, false), []⟩,
 ⟨(some 17), .pick (.tmp 14) (.val (.bool true)) (.tmp 16), none, []⟩])
 (.cond (.tmp 17)
 (.seq
 (.reg [
 ⟨(some 2), .mv (.val (.bool false)), none, []⟩])
 .ret)
 .skip))))
 (.reg [
 ⟨(some 18), .bin .add (.tmp 8) (.val (.int .i64 1)), none, []⟩,
 ⟨(some 8), .mv (.tmp 18), none, []⟩])))))))
 (.seq
 (.reg [
 ⟨(some 19), .off 0 (.tmp 1), none, []⟩,
 ⟨(some 20), .ld none (.tmp 19), none, []⟩,
 ⟨(some 21), .bin .geq (.tmp 20) (.val (.int .i64 0)), none, []⟩,
 ⟨(some 22), .mv (.tmp 21), none, []⟩,
 ⟨(some 23), .off 0 (.tmp 1), some (22, true), []⟩,
 ⟨(some 24), .ld none (.tmp 23), some (22, true), []⟩,
 ⟨(some 25), .bin .leq (.tmp 24) (.val (.int .i64 2)), some (22, true), []⟩,
 ⟨(some 26), .pick (.tmp 22) (.tmp 25) (.val (.bool false)), none, []⟩,
 ⟨(some 27), .mv (.tmp 26), none, []⟩,
 ⟨(some 28), .off 1 (.tmp 1), some (27, true), []⟩,
 ⟨(some 29), .ld none (.tmp 28), some (27, true), []⟩,
 ⟨(some 30), .len (.tmp 29), some (27, true), []⟩,
 ⟨(some 31), .bin .leq (.tmp 30) (.val (.int .i64 255)), some (27, true), []⟩,
 ⟨(some 32), .pick (.tmp 27) (.tmp 31) (.val (.bool false)), none, []⟩,
 ⟨(some 33), .mv (.tmp 32), none, []⟩,
 ⟨(some 34), .off 2 (.tmp 1), some (33, true), []⟩,
 ⟨(some 35), .ld none (.tmp 34), some (33, true), []⟩,
 ⟨(some 36), .bin .geq (.tmp 35) (.val (.int .i64 1)), some (33, true), []⟩,
 ⟨(some 37), .pick (.tmp 33) (.tmp 36) (.val (.bool false)), none, []⟩,
 ⟨(some 38), .mv (.tmp 37), none, []⟩,
 ⟨(some 39), .off 2 (.tmp 1), some (38, true), []⟩,
 ⟨(some 40), .ld none (.tmp 39), some (38, true), []⟩,
 ⟨(some 41), .bin .leq (.tmp 40) (.val (.int .i64 4294967295)), some (38, true), []⟩,
 ⟨(some 42), .pick (.tmp 38) (.tmp 41) (.val (.bool false)), none, []⟩,
 ⟨(some 43), .mv (.tmp 42), none, []⟩,
 ⟨(some 44), .off 3 (.tmp 1), some (43, true), []⟩,
 ⟨(some 45), .ld none (.tmp 44), some (43, true), []⟩,
 ⟨(some 46), .bin .geq (.tmp 45) (.val (.int .i64 0)), some (43, true), []⟩,
 ⟨(some 47), .pick (.tmp 43) (.tmp 46) (.val (.bool false)), none, []⟩,
 ⟨(some 48), .mv (.tmp 47), none, []⟩,
 ⟨(some 49), .off 3 (.tmp 1), some (48, true), []⟩,
 ⟨(some 50), .ld none (.tmp 49), some (48, true), []⟩,
 ⟨(some 51), .bin .leq (.tmp 50) (.val (.int .i64 4294967295)), some (48, true), []⟩,
 ⟨(some 52), .pick (.tmp 48) (.tmp 51) (.val (.bool false)), none, []⟩,
 ⟨(some 2), .mv (.tmp 52), none, []⟩])
 .ret)))
def c_attr_Sane : AF := ⟨b_attr_Sane, 53, [.tmp 2]⟩
theorem p_attr_Sane : prepFunc Try.prog 43 = some c_attr_Sane ∧ hasBody Try.prog 43 = true := ⟨by kernel_rfl, by kernel_rfl⟩
def b_edge_through : AC :=
 (.seq
 (.reg [
 ⟨(some 2), .mv (.val (.bool false)), none, []⟩])
 (.seq
 (.seq
 (.reg [
 ⟨(some 5), .mv (.tmp 0), none, []⟩,
 ⟨(some 6), .len (.tmp 5), none, []⟩,
 ⟨(some 7), .mv (.val (.int .i64 0)), none, []⟩])
 (.block 0
 (.loop
 (.seq
 (.reg [
 ⟨(some 8), .bin .lss (.tmp 7) (.tmp 6), none, []⟩])
 (.seq
 (.cond (.tmp 8)
 .skip
 (.exit 0))
 (.seq
 (.block 1
 (.seq
 (.reg [
 ⟨(some 9), .idxA 1 (.tmp 5) (.tmp 7), none, []⟩,
 ⟨(some 10), .ld none (.tmp 9), none, []⟩,
 ⟨(some 4), .mv (.tmp 10), none, []⟩])
 (.seq
 (.reg [
 ⟨(some 11), .mv (.tmp 4), none, []⟩,
 ⟨(some 12), .callvS (.tmp 11) [], none, []⟩,
 ⟨(some 13), .un .not (.tmp 12), none, []⟩])
 (.cond (.tmp 13)
 (.seq
 (.reg [
 ⟨(some 2), .mv (.val (.bool false)), none, []⟩])
 .ret)
 .skip))))
 (.reg [
 ⟨(some 14), .bin .add (.tmp 7) (.val (.int .i64 1)), none, []⟩,
 ⟨(some 7), .mv (.tmp 14), none, []⟩])))))))
 (.seq
 (.reg [
 ⟨(some 2), .mv (.val (.bool true)), none, []⟩])
 .ret)))
def c_edge_through : AF := ⟨b_edge_through, 15, [.tmp 2]⟩
theorem p_edge_through : prepFunc Try.prog 44 = some c_edge_through ∧ hasBody Try.prog 44 = true := ⟨by kernel_rfl, by kernel_rfl⟩
def b_edge_In_1 : AC :=
 (.seq
 (.reg [
 ⟨(some 2), .mv (.val (.bool false)), none, []⟩])
 (.seq
 (.reg [
 ⟨(some 3), .off 1 (.tmp 0), none, []⟩,
 ⟨(some 4), .ld none (.tmp 3), none, []⟩,
 ⟨(some 5), .len (.tmp 4), none, []⟩,
 ⟨(some 6), .bin .gtr (.tmp 5) (.val (.int .i64 0)), none, []⟩,
 ⟨(some 7), .mv (.tmp 6), none, []⟩,
 ⟨(some 8), .off 1 (.tmp 0), some (7, true), []⟩,
 ⟨(some 9), .ld none (.tmp 8), some (7, true), []⟩,
 ⟨(some 10), .idxA 1 (.tmp 9) (.val (.int .i64 0)), some (7, true), []⟩,
 ⟨(some 11), .ld none (.tmp 10), some (7, true), []⟩,
 ⟨(some 12), .off 0 (.tmp 1), some (7, true), []⟩,
 ⟨(some 13), .ld none (.tmp 12), some (7, true), []⟩,
 ⟨(some 14), .bin .eql (.tmp 11) (.tmp 13), some (7, true), []⟩,
 ⟨(some 15), .pick (.tmp 7) (.tmp 14) (.val (.bool false)), none, []⟩,
 ⟨(some 2), .mv (.tmp 15), none, []⟩])
 .ret))
def c_edge_In_1 : AF := ⟨b_edge_In_1, 16, [.tmp 2]⟩
theorem p_edge_In_1 : prepFunc Try.prog 45 = some c_edge_In_1 ∧ hasBody Try.prog 45 = true := ⟨by kernel_rfl, by kernel_rfl⟩
def b_edge_In_2 : AC :=
 (.seq
 (.reg [
 ⟨(some 2), .mv (.val (.bool false)), none, []⟩])
 (.seq
 (.reg [
 ⟨(some 3), .off 1 (.tmp 0), none, []⟩,
 ⟨(some 4), .ld none (.tmp 3), none, []⟩,
 ⟨(some 5), .off 0 (.tmp 1), none, []⟩,
 ⟨(some 6), .ld none (.tmp 5), none, []⟩,
 ⟨(some 7), .callS 47 [(.tmp 4), (.tmp 6)], none, []⟩,
 ⟨(some 8), .un .not (.tmp 7), none, []⟩,
 ⟨(some 2), .mv (.tmp 8), none, []⟩])
 .ret))
def c_edge_In_2 : AF := ⟨b_edge_In_2, 9, [.tmp 2]⟩
theorem p_edge_In_2 : prepFunc Try.prog 46 = some c_edge_In_2 ∧ hasBody Try.prog 46 = true := ⟨by kernel_rfl, by kernel_rfl⟩
def b_slices_Contains___int_int : AC :=
 (.seq
 (.reg [
 ⟨(some 4), .mv (.val (.bool false)), none, []⟩])
 (.seq
 (.reg [
 ⟨(some 5), .mv (.tmp 0), none, []⟩,
 ⟨(some 6), .mv (.tmp 1), none, []⟩,
 ⟨(some 7), .callS 98 [(.tmp 5), (.tmp 6)], none, []⟩,
 ⟨(some 8), .bin .geq (.tmp 7) (.val (.int .i64 0)), none, []⟩,
 ⟨(some 4), .mv (.tmp 8), none, []⟩])
 .ret))
def c_slices_Contains___int_int : AF := ⟨b_slices_Contains___int_int, 9, [.tmp 4]⟩
theorem p_slices_Contains___int_int : prepFunc Try.prog 47 = some c_slices_Contains___int_int ∧ hasBody Try.prog 47 = true := ⟨by kernel_rfl, by kernel_rfl⟩
def b_edge_In_3 : AC :=
 (.seq
 (.reg [
 ⟨(some 1), .mv (.val (.bool false)), none, []⟩])
 (.seq
 (.reg [
 ⟨(some 2), .off 1 (.tmp 0), none, []⟩,
 ⟨(some 3), .ld none (.tmp 2), none, []⟩,
 ⟨(some 4), .len (.tmp 3), none, []⟩,
 ⟨(some 5), .bin .leq (.tmp 4) (.val (.int .i64 32)), none, []⟩,
 ⟨(some 1), .mv (.tmp 5), none, []⟩])
 .ret))
def c_edge_In_3 : AF := ⟨b_edge_In_3, 6, [.tmp 1]⟩
theorem p_edge_In_3 : prepFunc Try.prog 48 = some c_edge_In_3 ∧ hasBody Try.prog 48 = true := ⟨by kernel_rfl, by kernel_rfl⟩
def b_edge_In_4 : AC :=
 (.seq
 (.reg [
 ⟨(some 3), .mv (.val (.bool false)), none, []⟩])
 (.seq
 (.reg [
 ⟨(some 5), .off 1 (.tmp 0), none, []⟩,
 ⟨(some 6), .ld none (.tmp 5), none, []⟩,
 ⟨(some 7), .off 0 (.tmp 0), none, []⟩,
 ⟨(some 8), .ld none (.tmp 7), none, []⟩,
 ⟨(some 9), .off 3 (.tmp 1), none, []⟩,
 ⟨(some 10), .ld none (.tmp 9), none, []⟩,
 ⟨(some 11), .callS 50 [(.tmp 6), (.tmp 8), (.tmp 10)], none, []⟩,
 ⟨(some 4), .mv (.tmp 11), none, []⟩,
 ⟨(some 12), .ext (.tmp 4) 0, none, []⟩,
 ⟨(some 13), .ext (.tmp 4) 1, none, []⟩,
 ⟨none, .st 1 (.tmp 2) (.tmp 12), none, []⟩,
 ⟨(some 3), .mv (.tmp 13), none, []⟩])
 (.seq
 (.reg [
 ⟨(some 14), .mv (.tmp 3), none, []⟩,
 ⟨(some 3), .mv (.tmp 14), none, []⟩])
 .ret)))
def c_edge_In_4 : AF := ⟨b_edge_In_4, 15, [.tmp 3]⟩
theorem p_edge_In_4 : prepFunc Try.prog 49 = some c_edge_In_4 ∧ hasBody Try.prog 49 = true := ⟨by kernel_rfl, by kernel_rfl⟩
def b_role_In : AC :=
 (.seq
 (.reg [
 ⟨(some 6), .mv (.val (.int .i64 0)), none, []⟩,
 ⟨(some 7), .mv (.val (.bool false)), none, []⟩])
 (.seq
 (.block 0
 (.seq
 (.reg [
 ⟨(some 9), .mv (.tmp 0), none, []⟩,
 ⟨(some 10), .bin .eql (.tmp 9) (.val (.int .i64 1)), none, []⟩,
 ⟨(some 11), .mv (.tmp 10), none, []⟩,
 ⟨(some 12), .mv (.tmp 2), some (11, true), []⟩,
 ⟨(some 13), .bin .eql (.tmp 12) (.val (.int .i64 0)), some (11, true), []⟩,
 ⟨(some 14), .pick (.tmp 11) (.tmp 13) (.val (.bool false)), none, []⟩,
 ⟨(some 8), .mv (.tmp 14), none, []⟩])
 (.cond (.tmp 8)
 (.seq
 (.reg [
 ⟨(some 6), .mv (.val (.int .i64 0)), none, []⟩,
 ⟨(some 7), .mv (.val (.bool true)), none, []⟩])
 .ret)
 (.seq
 (.seq
 (.reg [
 ⟨(some 16), .mv (.tmp 0), none, []⟩,
 ⟨(some 17), .bin .eql (.tmp 16) (.val (.int .i64 2)), none, []⟩,
 ⟨(some 18), .mv (.tmp 17), none, []⟩,
 ⟨(some 19), .mv (.tmp 2), some (18, true), []⟩,
 ⟨(some 20), .bin .eql (.tmp 19) (.val (.int .i64 0)), some (18, true), []⟩,
 ⟨(some 21), .mv (.tmp 20), some (18, true), []⟩,
 ⟨(some 22), .mv (.tmp 2), some (21, false), []⟩,
 ⟨(some 23), .mv (.tmp 1), some (21, false), []⟩,
 ⟨(some 24), .bin .eql (.tmp 22) (.tmp 23), some (21, false), []⟩,
 ⟨(some 25), .pick (.tmp 21) (.val (.bool true)) (.tmp 24), some (18, true), []⟩,
 ⟨(some 26), .pick (.tmp 18) (.tmp 25) (.val (.bool false)), none, []⟩,
 ⟨(some 15), .mv (.tmp 26), none, []⟩])
 (.cond (.tmp 15)
 .skip
 (.reg [
 ⟨(some 27), .mv (.tmp 0), none, []⟩,
 ⟨(some 28), .bin .eql (.tmp 27) (.val (.int .i64 3)), none, []⟩,
 ⟨(some 29), .mv (.tmp 28), none, []⟩,
 ⟨(some 30), .mv (.tmp 2), some (29, true), []⟩,
 ⟨(some 31), .bin .eql (.tmp 30) (.val (.int .i64 0)), some (29, true), []⟩,
 ⟨(some 32), .pick (.tmp 29) (.tmp 31) (.val (.bool false)), none, []⟩,
 ⟨(some 15), .mv (.tmp 32), none, []⟩])))
 (.cond (.tmp 15)
 (.seq
 (.reg [
 ⟨(some 33), .mv (.tmp 1), none, []⟩,
 ⟨(some 6), .mv (.tmp 33), none, []⟩,
 ⟨(some 7), .mv (.val (.bool true)), none, []⟩])
 .ret)
 (.seq
 (.reg [
 ⟨(some 35), .mv (.tmp 0), none, []⟩,
 ⟨(some 36), .bin .eql (.tmp 35) (.val (.int .i64 3)), none, []⟩,
 ⟨(some 34), .mv (.tmp 36), none, []⟩])
 (.cond (.tmp 34)
 (.seq
 (.reg [
 ⟨(some 37), .mv (.tmp 2), none, []⟩,
 ⟨(some 6), .mv (.tmp 37), none, []⟩,
 ⟨(some 7), .mv (.val (.bool true)), none, []⟩])
 .ret)
 .skip)))))))
 (.seq
 (.reg [
 ⟨(some 6), .mv (.val (.int .i64 0)), none, []⟩,
 ⟨(some 7), .mv (.val (.bool false)), none, []⟩])
 .ret)))
def c_role_In : AF := ⟨b_role_In, 38, [.tmp 6, .tmp 7]⟩
theorem p_role_In : prepFunc Try.prog 50 = some c_role_In ∧ hasBody Try.prog 50 = true := ⟨by kernel_rfl, by kernel_rfl⟩
def b_edge_In_5 : AC :=
 (.seq
 (.reg [
 ⟨(some 4), .mv (.val (.bool false)), none, []⟩])
 (.seq
 (.reg [
 ⟨(some 6), .off 2 (.tmp 0), none, []⟩,
 ⟨(some 7), .ld none (.tmp 6), none, []⟩,
 ⟨(some 8), .ld (some 2) (.tmp 1), none, []⟩,
 ⟨(some 9), .off 1 (.tmp 2), none, []⟩,
 ⟨(some 10), .ld none (.tmp 9), none, []⟩,
 ⟨(some 11), .off 1 (.tmp 0), none, []⟩,
 ⟨(some 12), .ld none (.tmp 11), none, []⟩,
 ⟨(some 13), .bld [(.int .i64 0), (.int .i64 0), (.slice .full 0 []), (.int .i64 0)] [(0, 2, (.tmp 8)), (2, 1, (.tmp 10)), (3, 1, (.tmp 12))], none, []⟩,
 ⟨(some 14), .callS 52 [(.tmp 7), (.tmp 13)], none, []⟩,
 ⟨(some 5), .mv (.tmp 14), none, []⟩,
 ⟨(some 15), .ext (.tmp 5) 0, none, []⟩,
 ⟨(some 16), .ext (.tmp 5) 1, none, []⟩,
 ⟨none, .st 6 (.tmp 3) (.tmp 15), none, []⟩,
 ⟨(some 4), .mv (.tmp 16), none, []⟩])
 (.seq
 (.reg [
 ⟨(some 17), .ld (some 6) (.tmp 3), none, []⟩,
 ⟨(some 18), .mv (.tmp 4), none, []⟩,
 ⟨(some 19), .callS 53 [(.tmp 17), (.tmp 18)], none, []⟩,
 ⟨(some 4), .mv (.tmp 19), none, []⟩])
 .ret)))
def c_edge_In_5 : AF := ⟨b_edge_In_5, 20, [.tmp 4]⟩
theorem p_edge_In_5 : prepFunc Try.prog 51 = some c_edge_In_5 ∧ hasBody Try.prog 51 = true := ⟨by kernel_rfl, by kernel_rfl⟩
def b_policy_Pick : AC :=
 (.seq
 (.reg [
 ⟨(some 3), .box 82 4 (.tmp 1), none, []⟩,
 ⟨(some 4), .box 52 6 (.val (.agg [(.int .i64 0), (.int .i64 0), (.int .i64 0), (.int .i64 0), (.int .i64 0), (.int .i64 0)])), none, []⟩,
 ⟨(some 5), .mv (.val (.bool false)), none, []⟩])
 (.seq
 (.seq
 (.reg [
 ⟨(some 8), .mv (.tmp 0), none, []⟩,
 ⟨(some 9), .len (.tmp 8), none, []⟩,
 ⟨(some 10), .mv (.val (.int .i64 0)), none, []⟩])
 (.block 0
 (.loop
 (.seq
 (.reg [
 ⟨(some 11), .bin .lss (.tmp 10) (.tmp 9), none, []⟩])
 (.seq
 (.cond (.tmp 11)
 .skip
 (.exit 0))
 (.seq
 (.block 1
 (.seq
 (.reg [
 ⟨(some 12), .idxA 6 (.tmp 8) (.tmp 10), none, []⟩,
 ⟨(some 13), .ld (some 6) (.tmp 12), none, []⟩,
 ⟨(some 7), .box 52 6 (.val (.agg [(.int .i64 0), (.int .i64 0), (.int .i64 0), (.int .i64 0), (.int .i64 0), (.int .i64 0)])), none, []⟩,
 ⟨none, .st 6 (.tmp 7) (.tmp 13), none, []⟩])
 (.seq
 (.reg [
 ⟨(some 14), .ld (some 6) (.tmp 7), none, []⟩,
 ⟨(some 15), .ld (some 4) (.tmp 3), none, []⟩,
 ⟨(some 16), .callS 99 [(.tmp 14), (.tmp 15)], none, []⟩])
 (.cond (.tmp 16)
 (.seq
 (.reg [
 ⟨(some 17), .ld (some 6) (.tmp 7), none, []⟩,
 ⟨none, .st 6 (.tmp 4) (.tmp 17), none, []⟩,
 ⟨(some 5), .mv (.val (.bool true)), none, []⟩])
 .ret)
 .skip))))
 (.reg [
 ⟨(some 18), .bin .add (.tmp 10) (.val (.int .i64 1)), none, []⟩,
 ⟨(some 10), .mv (.tmp 18), none, []⟩])))))))
 (.seq
 (.reg [
 ⟨(some 19), .bld [(.int .i64 0), (.int .i64 0), (.int .i64 0), (.int .i64 0), (.int .i64 0), (.int .i64 0)] [], none, []⟩,
 ⟨none, .st 6 (.tmp 4) (.tmp 19), none, []⟩,
 ⟨(some 5), .mv (.val (.bool false)), none, []⟩])
 .ret)))
def c_policy_Pick : AF := ⟨b_policy_Pick, 20, [.cell 4 (some 6), .tmp 5]⟩
theorem p_policy_Pick : prepFunc Try.prog 52 = some c_policy_Pick ∧ hasBody Try.prog 52 = true := ⟨by kernel_rfl, by kernel_rfl⟩
def b_edge_accepts : AC :=
 (.seq
 (.reg [
 ⟨(some 2), .box 52 6 (.tmp 0), none, []⟩,
 ⟨(some 4), .mv (.val (.bool false)), none, []⟩])
 (.seq
 (.reg [
 ⟨(some 5), .mv (.tmp 1), none, []⟩,
 ⟨(some 6), .mv (.tmp 5), none, []⟩,
 ⟨(some 7), .off 4 (.tmp 2), some (6, true), []⟩,
 ⟨(some 8), .ld none (.tmp 7), some (6, true), []⟩,
 ⟨(some 9), .bin .neq (.tmp 8) (.val (.int .i64 0)), some (6, true), []⟩,
 ⟨(some 10), .pick (.tmp 6) (.tmp 9) (.val (.bool false)), none, []⟩,
 ⟨(some 4), .mv (.tmp 10), none, []⟩])
 .ret))
def c_edge_accepts : AF := ⟨b_edge_accepts, 11, [.tmp 4]⟩
theorem p_edge_accepts : prepFunc Try.prog 53 = some c_edge_accepts ∧ hasBody Try.prog 53 = true := ⟨by kernel_rfl, by kernel_rfl⟩
def b_rise_prefs : AC :=
 (.seq
 (.reg [
 ⟨(some 2), .box 50 4 (.tmp 0), none, []⟩,
 ⟨(some 4), .mv (.val (.slice .full 0 [])), none, []⟩])
 (.seq
 (.reg [
 ⟨(some 5), .mv (.val (.slice .full 0 [])), none, []⟩])
 (.seq
 (.seq
 (.reg [
 ⟨(some 8), .off 2 (.tmp 2), none, []⟩,
 ⟨(some 9), .ld none (.tmp 8), none, []⟩,
 ⟨(some 10), .mv (.tmp 1), none, []⟩,
 ⟨(some 11), .callS 66 [(.tmp 9), (.tmp 10)], none, []⟩,
 ⟨(some 12), .len (.tmp 11), none, []⟩,
 ⟨(some 13), .mv (.val (.int .i64 0)), none, []⟩])
 (.block 0
 (.loop
 (.seq
 (.reg [
 ⟨(some 14), .bin .lss (.tmp 13) (.tmp 12), none, []⟩])
 (.seq
 (.cond (.tmp 14)
 .skip
 (.exit 0))
 (.seq
 (.block 1
 (.seq
 (.reg [
 ⟨(some 15), .idxA 6 (.tmp 11) (.tmp 13), none, []⟩,
 ⟨(some 16), .ld (some 6) (.tmp 15), none, []⟩,
 ⟨(some 7), .box 52 6 (.val (.agg [(.int .i64 0), (.int .i64 0), (.int .i64 0), (.int .i64 0), (.int .i64 0), (.int .i64 0)])), none, []⟩,
 ⟨none, .st 6 (.tmp 7) (.tmp 16), none, []⟩])
 (.seq
 (.reg [
 ⟨(some 17), .off 4 (.tmp 7), none, []⟩,
 ⟨(some 18), .ld none (.tmp 17), none, []⟩,
 ⟨(some 19), .bin .eql (.tmp 18) (.val (.int .i64 2)), none, []⟩])
 (.cond (.tmp 19)
 (.reg [
 ⟨(some 20), .mv (.tmp 5), none, []⟩,
 ⟨(some 21), .off 5 (.tmp 7), none, []⟩,
 ⟨(some 22), .ld none (.tmp 21), none, []⟩,
 ⟨(some 23), .lit 3 1 [0] [(.tmp 22)], none, []⟩,
 ⟨(some 24), .app 3 1 8 (.tmp 20) (.tmp 23), none, []⟩,
 ⟨(some 5), .mv (.tmp 24), none, []⟩])
 .skip))))
 (.reg [
 ⟨(some 25), .bin .add (.tmp 13) (.val (.int .i64 1)), none, []⟩,
 ⟨(some 13), .mv (.tmp 25), none, []⟩])))))))
 (.seq
 (.reg [
 ⟨(some 26), .mv (.tmp 5), none, []⟩,
 ⟨(some 4), .mv (.tmp 26), none, []⟩])
 .ret))))
def c_rise_prefs : AF := ⟨b_rise_prefs, 27, [.tmp 4]⟩
theorem p_rise_prefs : prepFunc Try.prog 54 = some c_rise_prefs ∧ hasBody Try.prog 54 = true := ⟨by kernel_rfl, by kernel_rfl⟩
def b_slices_Min___int_int : AC :=
 (.seq
 (.reg [
 ⟨(some 2), .mv (.val (.int .i64 0)), none, []⟩])
 (.seq
 (.seq
 (.reg [
 ⟨(some 5), .mv (.tmp 0), none, []⟩,
 ⟨(some 6), .len (.tmp 5), none, []⟩,
 ⟨(some 7), .bin .lss (.tmp 6) (.val (.int .i64 1)), none, []⟩])
 (.cond (.tmp 7)
 (.reg [
 ⟨(some 8), .mkif 9 (.val (.str ⟨⟨[115, 108, 105, 99, 101, 115, 46, 77, 105, 110, 58, 32, 101, 109, 112, 116, 121, 32, 108, 105, 115, 116]⟩⟩)), none, []⟩,
 ⟨none, .bad, none, []⟩])
 .skip))
 (.seq
 (.reg [
 ⟨(some 9), .mv (.tmp 0), none, []⟩,
 ⟨(some 10), .idxA 1 (.tmp 9) (.val (.int .i64 0)), none, []⟩,
 ⟨(some 11), .ld none (.tmp 10), none, []⟩,
 ⟨(some 3), .mv (.tmp 11), none, []⟩])
 (.seq
 (.seq
 (.reg [
 ⟨(some 4), .mv (.val (.int .i64 1)), none, []⟩])
 (.block 0
 (.loop
 (.seq
 (.seq
 (.reg [
 ⟨(some 12), .mv (.tmp 4), none, []⟩,
 ⟨(some 13), .mv (.tmp 0), none, []⟩,
 ⟨(some 14), .len (.tmp 13), none, []⟩,
 ⟨(some 15), .bin .lss (.tmp 12) (.tmp 14), none, []⟩])
 (.cond (.tmp 15)
 .skip
 (.exit 0)))
 (.seq
 (.block 1
 (.reg [
 ⟨(some 18), .mv (.tmp 3), none, []⟩,
 ⟨(some 19), .mv (.tmp 0), none, []⟩,
 ⟨(some 20), .mv (.tmp 4), none, []⟩,
 ⟨(some 21), .idxA 1 (.tmp 19) (.tmp 20), none, []⟩,
 ⟨(some 22), .ld none (.tmp 21), none, []⟩,
 ⟨(some 23), .mn (.tmp 18) (.tmp 22), none, []⟩,
 ⟨(some 3), .mv (.tmp 23), none, []⟩]))
 (.reg [
 ⟨(some 16), .mv (.tmp 4), none, []⟩,
 ⟨(some 17), .bin .add (.tmp 16) (.val (.int .i64 1)), none, []⟩,
 ⟨(some 4), .mv (.tmp 17), none, []⟩]))))))
 (.seq
 (.reg [
 ⟨(some 24), .mv (.tmp 3), none, []⟩,
 ⟨(some 2), .mv (.tmp 24), none, []⟩])
 .ret)))))
def c_slices_Min___int_int : AF := ⟨b_slices_Min___int_int, 25, [.tmp 2]⟩
theorem p_slices_Min___int_int : prepFunc Try.prog 55 = some c_slices_Min___int_int ∧ hasBody Try.prog 55 = true := ⟨by kernel_rfl, by kernel_rfl⟩
def b_slices_Max___int_int : AC :=
 (.seq
 (.reg [
 ⟨(some 2), .mv (.val (.int .i64 0)), none, []⟩])
 (.seq
 (.seq
 (.reg [
 ⟨(some 5), .mv (.tmp 0), none, []⟩,
 ⟨(some 6), .len (.tmp 5), none, []⟩,
 ⟨(some 7), .bin .lss (.tmp 6) (.val (.int .i64 1)), none, []⟩])
 (.cond (.tmp 7)
 (.reg [
 ⟨(some 8), .mkif 9 (.val (.str ⟨⟨[115, 108, 105, 99, 101, 115, 46, 77, 97, 120, 58, 32, 101, 109, 112, 116, 121, 32, 108, 105, 115, 116]⟩⟩)), none, []⟩,
 ⟨none, .bad, none, []⟩])
 .skip))
 (.seq
 (.reg [
 ⟨(some 9), .mv (.tmp 0), none, []⟩,
 ⟨(some 10), .idxA 1 (.tmp 9) (.val (.int .i64 0)), none, []⟩,
 ⟨(some 11), .ld none (.tmp 10), none, []⟩,
 ⟨(some 3), .mv (.tmp 11), none, []⟩])
 (.seq
 (.seq
 (.reg [
 ⟨(some 4), .mv (.val (.int .i64 1)), none, []⟩])
 (.block 0
 (.loop
 (.seq
 (.seq
 (.reg [
 ⟨(some 12), .mv (.tmp 4), none, []⟩,
 ⟨(some 13), .mv (.tmp 0), none, []⟩,
 ⟨(some 14), .len (.tmp 13), none, []⟩,
 ⟨(some 15), .bin .lss (.tmp 12) (.tmp 14), none, []⟩])
 (.cond (.tmp 15)
 .skip
 (.exit 0)))
 (.seq
 (.block 1
 (.reg [
 ⟨(some 18), .mv (.tmp 3), none, []⟩,
 ⟨(some 19), .mv (.tmp 0), none, []⟩,
 ⟨(some 20), .mv (.tmp 4), none, []⟩,
 ⟨(some 21), .idxA 1 (.tmp 19) (.tmp 20), none, []⟩,
 ⟨(some 22), .ld none (.tmp 21), none, []⟩,
 ⟨(some 23), .mx (.tmp 18) (.tmp 22), none, []⟩,
 ⟨(some 3), .mv (.tmp 23), none, []⟩]))
 (.reg [
 ⟨(some 16), .mv (.tmp 4), none, []⟩,
 ⟨(some 17), .bin .add (.tmp 16) (.val (.int .i64 1)), none, []⟩,
 ⟨(some 4), .mv (.tmp 17), none, []⟩]))))))
 (.seq
 (.reg [
 ⟨(some 24), .mv (.tmp 3), none, []⟩,
 ⟨(some 2), .mv (.tmp 24), none, []⟩])
 .ret)))))
def c_slices_Max___int_int : AF := ⟨b_slices_Max___int_int, 25, [.tmp 2]⟩
theorem p_slices_Max___int_int : prepFunc Try.prog 56 = some c_slices_Max___int_int ∧ hasBody Try.prog 56 = true := ⟨by kernel_rfl, by kernel_rfl⟩
def b_route_Sane : AC :=
 (.seq
 (.reg [
 ⟨(some 1), .box 34 6 (.tmp 0), none, []⟩,
 ⟨(some 2), .mv (.val (.bool false)), none, []⟩])
 (.seq
 (.seq
 (.reg [
 ⟨(some 3), .off 1 (.tmp 1), none, []⟩,
 ⟨(some 4), .ld (some 4) (.tmp 3), none, []⟩,
 ⟨(some 5), .callS 43 [(.tmp 4)], none, []⟩,
 ⟨(some 6), .un .not (.tmp 5), none, []⟩,
 ⟨(some 7), .mv (.tmp 6), none, []⟩,
 ⟨(some 8), .off 1 (.tmp 1), some (7, false), []⟩,
 ⟨(some 9), .off 1 (.tmp 8), some (7, false), []⟩,
 ⟨(some 10), .ld none (.tmp 9), some (7, false), []⟩,
 ⟨(some 11), .len (.tmp 10), some (7, false), []⟩,
 ⟨(some 12), .bin .gtr (.tmp 11) (.val (.int .i64 32)), some (7, false), []⟩,
 ⟨(some 13), .pick (.tmp 7) (.val (.bool true)) (.tmp 12), none, []⟩])
 (.cond (.tmp 13)
 (.seq
 (.reg [
 ⟨(some 2), .mv (.val (.bool false)), none, []⟩])
 .ret)
 .skip))
 (.seq
 (.seq
 (.reg [
 ⟨(some 14), .off 5 (.tmp 1), none, []⟩,
 ⟨(some 15), .ld none (.tmp 14), none, []⟩,
 ⟨(some 16), .bin .eql (.tmp 15) (.val (.int .i64 (-1))), none, []⟩])
 (.cond (.tmp 16)
 (.seq
 (.reg [
 ⟨(some 17), .off 0 (.tmp 1), none, []⟩,
 ⟨(some 18), .ld none (.tmp 17), none, []⟩,
 ⟨(some 19), .bin .eql (.tmp 18) (.val (.int .i64 400)), none, []⟩,
 ⟨(some 20), .mv (.tmp 19), none, []⟩,
 ⟨(some 21), .off 1 (.tmp 1), some (20, true), []⟩,
 ⟨(some 22), .off 1 (.tmp 21), some (20, true), []⟩,
 ⟨(some 23), .ld none (.tmp 22), some (20, true), []⟩,
 ⟨(some 24), .len (.tmp 23), some (20, true), []⟩,
 ⟨(some 25), .bin .eql (.tmp 24) (.val (.int .i64 0)), some (20, true), []⟩,
 ⟨(some 26), .pick (.tmp 20) (.tmp 25) (.val (.bool false)), none, []⟩,
 ⟨(some 27), .mv (.tmp 26), none, []⟩,
 ⟨(some 28), .off 1 (.tmp 1), some (27, true), []⟩,
 ⟨(some 29), .off 0 (.tmp 28), some (27, true), []⟩,
 ⟨(some 30), .ld none (.tmp 29), some (27, true), []⟩,
 ⟨(some 31), .bin .eql (.tmp 30) (.val (.int .i64 0)), some (27, true), []⟩,
 ⟨(some 32), .pick (.tmp 27) (.tmp 31) (.val (.bool false)), none, []⟩,
 ⟨(some 33), .mv (.tmp 32), none, []⟩,
 ⟨(some 34), .off 1 (.tmp 1), some (33, true), []⟩,
 ⟨(some 35), .off 3 (.tmp 34), some (33, true), []⟩,
 ⟨(some 36), .ld none (.tmp 35), some (33, true), []⟩,
 ⟨(some 37), .bin .eql (.tmp 36) (.val (.int .i64 0)), some (33, true), []⟩,
 ⟨(some 38), .pick (.tmp 33) (.tmp 37) (.val (.bool false)), none, []⟩,
 ⟨(some 2), .mv (.tmp 38), none, []⟩])
 .ret)
 .skip))
 (.seq
 (.reg [
 ⟨(some 39), .off 5 (.tmp 1), none, []⟩,
 ⟨(some 40), .ld none (.tmp 39), none, []⟩,
 ⟨(some 41), .bin .geq (.tmp 40) (.val (.int .i64 0)), none, []⟩,
 ⟨(some 42), .mv (.tmp 41), none, []⟩,
 ⟨(some 43), .off 5 (.tmp 1), some (42, true), []⟩,
 ⟨(some 44), .ld none (.tmp 43), some (42, true), []⟩,
 ⟨(some 45), .bin .lss (.tmp 44) (.val (.int .i64 8)), some (42, true), []⟩,
 ⟨(some 46), .pick (.tmp 42) (.tmp 45) (.val (.bool false)), none, []⟩,
 ⟨(some 47), .mv (.tmp 46), none, []⟩,
 ⟨(some 48), .off 0 (.tmp 1), some (47, true), []⟩,
 ⟨(some 49), .ld none (.tmp 48), some (47, true), []⟩,
 ⟨(some 50), .bin .geq (.tmp 49) (.val (.int .i64 1)), some (47, true), []⟩,
 ⟨(some 51), .pick (.tmp 47) (.tmp 50) (.val (.bool false)), none, []⟩,
 ⟨(some 52), .mv (.tmp 51), none, []⟩,
 ⟨(some 53), .off 0 (.tmp 1), some (52, true), []⟩,
 ⟨(some 54), .ld none (.tmp 53), some (52, true), []⟩,
 ⟨(some 55), .bin .lss (.tmp 54) (.val (.int .i64 400)), some (52, true), []⟩,
 ⟨(some 56), .pick (.tmp 52) (.tmp 55) (.val (.bool false)), none, []⟩,
 ⟨(some 2), .mv (.tmp 56), none, []⟩])
 .ret))))
def c_route_Sane : AF := ⟨b_route_Sane, 57, [.tmp 2]⟩
theorem p_route_Sane : prepFunc Try.prog 57 = some c_route_Sane ∧ hasBody Try.prog 57 = true := ⟨by kernel_rfl, by kernel_rfl⟩
def b_edge_Out_1 : AC :=
 (.seq
 (.reg [
 ⟨(some 3), .mv (.val (.bool false)), none, []⟩])
 (.seq
 (.reg [
 ⟨(some 4), .off 5 (.tmp 0), none, []⟩,
 ⟨(some 5), .ld none (.tmp 4), none, []⟩,
 ⟨(some 6), .ld none (.tmp 1), none, []⟩,
 ⟨(some 7), .bin .neq (.tmp 5) (.tmp 6), none, []⟩,
 ⟨(some 8), .mv (.tmp 7), none, []⟩,
 ⟨(some 9), .off 5 (.tmp 0), some (8, true), []⟩,
 ⟨(some 10), .ld none (.tmp 9), some (8, true), []⟩,
 ⟨(some 11), .off 5 (.tmp 2), some (8, true), []⟩,
 ⟨(some 12), .ld none (.tmp 11), some (8, true), []⟩,
 ⟨(some 13), .len (.tmp 12), some (8, true), []⟩,
 ⟨(some 14), .bin .lss (.tmp 10) (.tmp 13), some (8, true), []⟩,
 ⟨(some 15), .pick (.tmp 8) (.tmp 14) (.val (.bool false)), none, []⟩,
 ⟨(some 3), .mv (.tmp 15), none, []⟩])
 .ret))
def c_edge_Out_1 : AF := ⟨b_edge_Out_1, 16, [.tmp 3]⟩
theorem p_edge_Out_1 : prepFunc Try.prog 58 = some c_edge_Out_1 ∧ hasBody Try.prog 58 = true := ⟨by kernel_rfl, by kernel_rfl⟩
def b_edge_Out_2 : AC :=
 (.seq
 (.reg [
 ⟨(some 5), .mv (.val (.bool false)), none, []⟩])
 (.seq
 (.reg [
 ⟨(some 9), .off 3 (.tmp 0), none, []⟩,
 ⟨(some 10), .ld none (.tmp 9), none, []⟩,
 ⟨(some 11), .ld (some 2) (.tmp 1), none, []⟩,
 ⟨(some 12), .off 1 (.tmp 2), none, []⟩,
 ⟨(some 13), .off 1 (.tmp 12), none, []⟩,
 ⟨(some 14), .ld none (.tmp 13), none, []⟩,
 ⟨(some 15), .ld (some 6) (.tmp 3), none, []⟩,
 ⟨(some 16), .off 5 (.tmp 2), none, []⟩,
 ⟨(some 17), .ld none (.tmp 16), none, []⟩,
 ⟨(some 18), .call 17 [(.tmp 15), (.tmp 17)], none, []⟩,
 ⟨(some 19), .bld [(.int .i64 0), (.int .i64 0), (.slice .full 0 []), (.int .i64 0)] [(0, 2, (.tmp 11)), (2, 1, (.tmp 14)), (3, 1, (.tmp 18))], none, []⟩,
 ⟨(some 20), .call 52 [(.tmp 10), (.tmp 19)], none, []⟩,
 ⟨(some 8), .mv (.tmp 20), none, []⟩,
 ⟨(some 21), .ext (.tmp 8) 0, none, []⟩,
 ⟨(some 6), .box 52 6 (.val (.agg [(.int .i64 0), (.int .i64 0), (.int .i64 0), (.int .i64 0), (.int .i64 0), (.int .i64 0)])), none, []⟩,
 ⟨(some 22), .ext (.tmp 8) 1, none, []⟩,
 ⟨none, .st 6 (.tmp 6) (.tmp 21), none, []⟩,
 ⟨(some 7), .mv (.tmp 22), none, []⟩])
 (.seq
 (.reg [
 ⟨(some 23), .off 0 (.tmp 3), none, []⟩,
 ⟨(some 24), .ld none (.tmp 23), none, []⟩,
 ⟨(some 25), .ld (some 6) (.tmp 6), none, []⟩,
 ⟨(some 26), .off 1 (.tmp 2), none, []⟩,
 ⟨(some 27), .off 1 (.tmp 26), none, []⟩,
 ⟨(some 28), .ld none (.tmp 27), none, []⟩,
 ⟨(some 29), .callS 60 [(.tmp 24), (.tmp 25), (.tmp 28)], none, []⟩,
 ⟨none, .st 1 (.tmp 4) (.tmp 29), none, []⟩])
 (.seq
 (.reg [
 ⟨(some 30), .ld (some 6) (.tmp 6), none, []⟩,
 ⟨(some 31), .mv (.tmp 7), none, []⟩,
 ⟨(some 32), .callS 53 [(.tmp 30), (.tmp 31)], none, []⟩,
 ⟨(some 5), .mv (.tmp 32), none, []⟩])
 .ret))))
def c_edge_Out_2 : AF := ⟨b_edge_Out_2, 33, [.tmp 5]⟩
theorem p_edge_Out_2 : prepFunc Try.prog 59 = some c_edge_Out_2 ∧ hasBody Try.prog 59 = true := ⟨by kernel_rfl, by kernel_rfl⟩
def b_edge_longer : AC :=
 (.seq
 (.reg [
 ⟨(some 4), .box 52 6 (.tmp 1), none, []⟩,
 ⟨(some 6), .mv (.val (.slice .full 0 [])), none, []⟩])
 (.seq
 (.reg [
 ⟨(some 8), .mv (.tmp 0), none, []⟩,
 ⟨(some 9), .lit 3 1 [0] [(.tmp 8)], none, []⟩,
 ⟨(some 7), .mv (.tmp 9), none, []⟩])
 (.seq
 (.seq
 (.reg [
 ⟨(some 10), .off 4 (.tmp 4), none, []⟩,
 ⟨(some 11), .ld none (.tmp 10), none, []⟩,
 ⟨(some 12), .bin .eql (.tmp 11) (.val (.int .i64 3)), none, []⟩])
 (.cond (.tmp 12)
 (.reg [
 ⟨(some 13), .mv (.tmp 7), none, []⟩,
 ⟨(some 14), .off 5 (.tmp 4), none, []⟩,
 ⟨(some 15), .ld none (.tmp 14), none, []⟩,
 ⟨(some 16), .bin .add (.val (.int .i64 1)) (.tmp 15), none, []⟩,
 ⟨(some 17), .callS 100 [(.tmp 13), (.tmp 16)], none, []⟩,
 ⟨(some 7), .mv (.tmp 17), none, []⟩])
 .skip))
 (.seq
 (.reg [
 ⟨(some 18), .mv (.tmp 7), none, []⟩,
 ⟨(some 19), .mv (.tmp 2), none, []⟩,
 ⟨(some 20), .app 3 1 8 (.tmp 18) (.tmp 19), none, []⟩,
 ⟨(some 6), .mv (.tmp 20), none, []⟩])
 .ret))))
def c_edge_longer : AF := ⟨b_edge_longer, 21, [.tmp 6]⟩
theorem p_edge_longer : prepFunc Try.prog 60 = some c_edge_longer ∧ hasBody Try.prog 60 = true := ⟨by kernel_rfl, by kernel_rfl⟩
def b_edge_Out_3 : AC :=
 (.seq
 (.reg [
 ⟨(some 4), .mv (.val (.bool false)), none, []⟩])
 (.seq
 (.reg [
 ⟨(some 6), .off 1 (.tmp 0), none, []⟩,
 ⟨(some 7), .ld none (.tmp 6), none, []⟩,
 ⟨(some 8), .off 0 (.tmp 1), none, []⟩,
 ⟨(some 9), .ld none (.tmp 8), none, []⟩,
 ⟨(some 10), .off 1 (.tmp 2), none, []⟩,
 ⟨(some 11), .off 3 (.tmp 10), none, []⟩,
 ⟨(some 12), .ld none (.tmp 11), none, []⟩,
 ⟨(some 13), .callS 62 [(.tmp 7), (.tmp 9), (.tmp 12)], none, []⟩,
 ⟨(some 5), .mv (.tmp 13), none, []⟩,
 ⟨(some 14), .ext (.tmp 5) 0, none, []⟩,
 ⟨(some 15), .ext (.tmp 5) 1, none, []⟩,
 ⟨none, .st 1 (.tmp 3) (.tmp 14), none, []⟩,
 ⟨(some 4), .mv (.tmp 15), none, []⟩])
 (.seq
 (.reg [
 ⟨(some 16), .mv (.tmp 4), none, []⟩,
 ⟨(some 4), .mv (.tmp 16), none, []⟩])
 .ret)))
def c_edge_Out_3 : AF := ⟨b_edge_Out_3, 17, [.tmp 4]⟩
theorem p_edge_Out_3 : prepFunc Try.prog 61 = some c_edge_Out_3 ∧ hasBody Try.prog 61 = true := ⟨by kernel_rfl, by kernel_rfl⟩
def b_role_Out : AC :=
 (.seq
 (.reg [
 ⟨(some 6), .mv (.val (.int .i64 0)), none, []⟩,
 ⟨(some 7), .mv (.val (.bool false)), none, []⟩])
 (.seq
 (.block 0
 (.seq
 (.reg [
 ⟨(some 9), .mv (.tmp 0), none, []⟩,
 ⟨(some 10), .bin .eql (.tmp 9) (.val (.int .i64 1)), none, []⟩,
 ⟨(some 11), .mv (.tmp 10), none, []⟩,
 ⟨(some 12), .mv (.tmp 2), some (11, true), []⟩,
 ⟨(some 13), .bin .neq (.tmp 12) (.val (.int .i64 0)), some (11, true), []⟩,
 ⟨(some 14), .pick (.tmp 11) (.tmp 13) (.val (.bool false)), none, []⟩,
 ⟨(some 8), .mv (.tmp 14), none, []⟩])
 (.cond (.tmp 8)
 (.seq
 (.reg [
 ⟨(some 15), .mv (.tmp 2), none, []⟩,
 ⟨(some 6), .mv (.tmp 15), none, []⟩,
 ⟨(some 7), .mv (.val (.bool true)), none, []⟩])
 .ret)
 (.seq
 (.reg [
 ⟨(some 17), .mv (.tmp 0), none, []⟩,
 ⟨(some 18), .bin .eql (.tmp 17) (.val (.int .i64 1)), none, []⟩,
 ⟨(some 19), .mv (.tmp 18), none, []⟩,
 ⟨(some 20), .mv (.tmp 0), some (19, false), []⟩,
 ⟨(some 21), .bin .eql (.tmp 20) (.val (.int .i64 2)), some (19, false), []⟩,
 ⟨(some 22), .pick (.tmp 19) (.val (.bool true)) (.tmp 21), none, []⟩,
 ⟨(some 23), .mv (.tmp 22), none, []⟩,
 ⟨(some 24), .mv (.tmp 2), some (23, true), []⟩,
 ⟨(some 25), .bin .eql (.tmp 24) (.val (.int .i64 0)), some (23, true), []⟩,
 ⟨(some 26), .pick (.tmp 23) (.tmp 25) (.val (.bool false)), none, []⟩,
 ⟨(some 16), .mv (.tmp 26), none, []⟩])
 (.cond (.tmp 16)
 (.seq
 (.reg [
 ⟨(some 27), .mv (.tmp 1), none, []⟩,
 ⟨(some 6), .mv (.tmp 27), none, []⟩,
 ⟨(some 7), .mv (.val (.bool true)), none, []⟩])
 .ret)
 (.seq
 (.reg [
 ⟨(some 29), .mv (.tmp 0), none, []⟩,
 ⟨(some 30), .bin .eql (.tmp 29) (.val (.int .i64 3)), none, []⟩,
 ⟨(some 31), .mv (.tmp 30), none, []⟩,
 ⟨(some 32), .mv (.tmp 2), some (31, true), []⟩,
 ⟨(some 33), .bin .eql (.tmp 32) (.val (.int .i64 0)), some (31, true), []⟩,
 ⟨(some 34), .pick (.tmp 31) (.tmp 33) (.val (.bool false)), none, []⟩,
 ⟨(some 28), .mv (.tmp 34), none, []⟩])
 (.cond (.tmp 28)
 (.seq
 (.reg [
 ⟨(some 6), .mv (.val (.int .i64 0)), none, []⟩,
 ⟨(some 7), .mv (.val (.bool true)), none, []⟩])
 .ret)
 .skip)))))))
 (.seq
 (.reg [
 ⟨(some 6), .mv (.val (.int .i64 0)), none, []⟩,
 ⟨(some 7), .mv (.val (.bool false)), none, []⟩])
 .ret)))
def c_role_Out : AF := ⟨b_role_Out, 35, [.tmp 6, .tmp 7]⟩
theorem p_role_Out : prepFunc Try.prog 62 = some c_role_Out ∧ hasBody Try.prog 62 = true := ⟨by kernel_rfl, by kernel_rfl⟩
def b_edge_Out_4 : AC :=
 (.seq
 (.reg [
 ⟨(some 1), .mv (.val (.bool false)), none, []⟩])
 (.seq
 (.reg [
 ⟨(some 2), .ld none (.tmp 0), none, []⟩,
 ⟨(some 3), .len (.tmp 2), none, []⟩,
 ⟨(some 4), .bin .leq (.tmp 3) (.val (.int .i64 32)), none, []⟩,
 ⟨(some 1), .mv (.tmp 4), none, []⟩])
 .ret))
def c_edge_Out_4 : AF := ⟨b_edge_Out_4, 5, [.tmp 1]⟩
theorem p_edge_Out_4 : prepFunc Try.prog 63 = some c_edge_Out_4 ∧ hasBody Try.prog 63 = true := ⟨by kernel_rfl, by kernel_rfl⟩
def b_rise_Tells_1 : AC :=
 (.seq
 (.reg [
 ⟨(some 1), .box 52 6 (.tmp 0), none, []⟩,
 ⟨(some 2), .mv (.val (.bool false)), none, []⟩])
 (.seq
 (.reg [
 ⟨(some 3), .off 4 (.tmp 1), none, []⟩,
 ⟨(some 4), .ld none (.tmp 3), none, []⟩,
 ⟨(some 5), .bin .neq (.tmp 4) (.val (.int .i64 0)), none, []⟩,
 ⟨(some 2), .mv (.tmp 5), none, []⟩])
 .ret))
def c_rise_Tells_1 : AF := ⟨b_rise_Tells_1, 6, [.tmp 2]⟩
theorem p_rise_Tells_1 : prepFunc Try.prog 64 = some c_rise_Tells_1 ∧ hasBody Try.prog 64 = true := ⟨by kernel_rfl, by kernel_rfl⟩
def b_slices_ContainsFunc___api_Rule_api_Rule : AC :=
 (.seq
 (.reg [
 ⟨(some 4), .mv (.val (.bool false)), none, []⟩])
 (.seq
 (.reg [
 ⟨(some 5), .mv (.tmp 0), none, []⟩,
 ⟨(some 6), .mv (.tmp 1), none, []⟩,
 ⟨(some 7), .callS 101 [(.tmp 5), (.tmp 6)], none, []⟩,
 ⟨(some 8), .bin .geq (.tmp 7) (.val (.int .i64 0)), none, []⟩,
 ⟨(some 4), .mv (.tmp 8), none, []⟩])
 .ret))
def c_slices_ContainsFunc___api_Rule_api_Rule : AF := ⟨b_slices_ContainsFunc___api_Rule_api_Rule, 9, [.tmp 4]⟩
theorem p_slices_ContainsFunc___api_Rule_api_Rule : prepFunc Try.prog 65 = some c_slices_ContainsFunc___api_Rule_api_Rule ∧ hasBody Try.prog 65 = true := ⟨by kernel_rfl, by kernel_rfl⟩
def b_policy_Reach : AC :=
 (.seq
 (.reg [
 ⟨(some 4), .mv (.val (.slice .full 0 [])), none, []⟩])
 (.seq
 (.reg [
 ⟨(some 5), .mv (.val (.slice .full 0 [])), none, []⟩])
 (.seq
 (.seq
 (.reg [
 ⟨(some 8), .mv (.tmp 0), none, []⟩,
 ⟨(some 9), .len (.tmp 8), none, []⟩,
 ⟨(some 10), .mv (.val (.int .i64 0)), none, []⟩])
 (.block 0
 (.loop
 (.seq
 (.reg [
 ⟨(some 11), .bin .lss (.tmp 10) (.tmp 9), none, []⟩])
 (.seq
 (.cond (.tmp 11)
 .skip
 (.exit 0))
 (.seq
 (.block 1
 (.seq
 (.reg [
 ⟨(some 12), .idxA 6 (.tmp 8) (.tmp 10), none, []⟩,
 ⟨(some 13), .ld (some 6) (.tmp 12), none, []⟩,
 ⟨(some 7), .box 52 6 (.val (.agg [(.int .i64 0), (.int .i64 0), (.int .i64 0), (.int .i64 0), (.int .i64 0), (.int .i64 0)])), none, []⟩,
 ⟨none, .st 6 (.tmp 7) (.tmp 13), none, []⟩])
 (.seq
 (.seq
 (.reg [
 ⟨(some 14), .off 0 (.tmp 7), none, []⟩,
 ⟨(some 15), .ld none (.tmp 14), none, []⟩,
 ⟨(some 16), .bin .eql (.tmp 15) (.val (.int .i64 4)), none, []⟩,
 ⟨(some 17), .mv (.tmp 16), none, []⟩,
 ⟨(some 18), .off 3 (.tmp 7), some (17, true), []⟩,
 ⟨(some 19), .ld none (.tmp 18), some (17, true), []⟩,
 ⟨(some 20), .mv (.tmp 1), some (17, true), []⟩,
 ⟨(some 21), .bin .neq (.tmp 19) (.tmp 20), some (17, true), []⟩,
 ⟨(some 22), .pick (.tmp 17) (.tmp 21) (.val (.bool false)), none, []⟩])
 (.cond (.tmp 22)
 (.exit 1)
 .skip))
 (.seq
 (.reg [
 ⟨(some 23), .mv (.tmp 5), none, []⟩,
 ⟨(some 24), .ld (some 6) (.tmp 7), none, []⟩,
 ⟨(some 25), .lit 52 6 [0, 0, 0, 0, 0, 0] [(.tmp 24)], none, []⟩,
 ⟨(some 26), .app 52 6 48 (.tmp 23) (.tmp 25), none, []⟩,
 ⟨(some 5), .mv (.tmp 26), none, []⟩])
 (.seq
 (.reg [
 ⟨(some 27), .ld (some 6) (.tmp 7), none, []⟩,
 ⟨(some 28), .mv (.tmp 1), none, []⟩,
 ⟨(some 29), .callS 102 [(.tmp 27), (.tmp 28)], none, []⟩])
 (.cond (.tmp 29)
 (.exit 0)
 .skip))))))
 (.reg [
 ⟨(some 30), .bin .add (.tmp 10) (.val (.int .i64 1)), none, []⟩,
 ⟨(some 10), .mv (.tmp 30), none, []⟩])))))))
 (.seq
 (.reg [
 ⟨(some 31), .mv (.tmp 5), none, []⟩,
 ⟨(some 4), .mv (.tmp 31), none, []⟩])
 .ret))))
def c_policy_Reach : AF := ⟨b_policy_Reach, 32, [.tmp 4]⟩
theorem p_policy_Reach : prepFunc Try.prog 66 = some c_policy_Reach ∧ hasBody Try.prog 66 = true := ⟨by kernel_rfl, by kernel_rfl⟩
def b_rise_Rises_1 : AC :=
 (.seq
 (.reg [
 ⟨(some 6), .mv (.val (.bool false)), none, []⟩])
 (.seq
 (.reg [
 ⟨(some 10), .ld (some 6) (.tmp 1), none, []⟩,
 ⟨(some 11), .mv (.tmp 0), none, []⟩,
 ⟨(some 12), .callS 18 [(.tmp 10), (.tmp 11)], none, []⟩,
 ⟨(some 9), .mv (.tmp 12), none, []⟩,
 ⟨(some 13), .ext (.tmp 9) 0, none, []⟩,
 ⟨(some 14), .ext (.tmp 9) 1, none, []⟩,
 ⟨(some 7), .mv (.tmp 13), none, []⟩,
 ⟨(some 8), .mv (.tmp 14), none, []⟩])
 (.seq
 (.reg [
 ⟨(some 15), .mv (.tmp 8), none, []⟩,
 ⟨(some 16), .mv (.tmp 15), none, []⟩,
 ⟨(some 17), .ld none (.tmp 2), some (16, true), []⟩,
 ⟨(some 18), .pick (.tmp 16) (.tmp 17) (.val (.bool false)), none, []⟩,
 ⟨(some 19), .mv (.tmp 18), none, []⟩,
 ⟨(some 20), .ld (some 6) (.tmp 1), some (19, true), []⟩,
 ⟨(some 21), .ld none (.tmp 3), some (19, true), []⟩,
 ⟨(some 22), .mv (.tmp 0), some (19, true), []⟩,
 ⟨(some 23), .callS 21 [(.tmp 20), (.tmp 21), (.tmp 22)], some (19, true), []⟩,
 ⟨(some 24), .pick (.tmp 19) (.tmp 23) (.val (.bool false)), none, []⟩,
 ⟨(some 25), .mv (.tmp 24), none, []⟩,
 ⟨(some 26), .ld none (.tmp 4), some (25, true), []⟩,
 ⟨(some 27), .mv (.tmp 7), some (25, true), []⟩,
 ⟨(some 28), .bin .gtr (.tmp 26) (.tmp 27), some (25, true), []⟩,
 ⟨(some 29), .pick (.tmp 25) (.tmp 28) (.val (.bool false)), none, []⟩,
 ⟨(some 6), .mv (.tmp 29), none, []⟩])
 .ret)))
def c_rise_Rises_1 : AF := ⟨b_rise_Rises_1, 30, [.tmp 6]⟩
theorem p_rise_Rises_1 : prepFunc Try.prog 67 = some c_rise_Rises_1 ∧ hasBody Try.prog 67 = true := ⟨by kernel_rfl, by kernel_rfl⟩
def b_slices_ContainsFunc___int_int : AC :=
 (.seq
 (.reg [
 ⟨(some 4), .mv (.val (.bool false)), none, []⟩])
 (.seq
 (.reg [
 ⟨(some 5), .mv (.tmp 0), none, []⟩,
 ⟨(some 6), .mv (.tmp 1), none, []⟩,
 ⟨(some 7), .callS 103 [(.tmp 5), (.tmp 6)], none, []⟩,
 ⟨(some 8), .bin .geq (.tmp 7) (.val (.int .i64 0)), none, []⟩,
 ⟨(some 4), .mv (.tmp 8), none, []⟩])
 .ret))
def c_slices_ContainsFunc___int_int : AF := ⟨b_slices_ContainsFunc___int_int, 9, [.tmp 4]⟩
theorem p_slices_ContainsFunc___int_int : prepFunc Try.prog 68 = some c_slices_ContainsFunc___int_int ∧ hasBody Try.prog 68 = true := ⟨by kernel_rfl, by kernel_rfl⟩
def b_slices_IndexFunc___api_Side_api_Side : AC :=
 (.seq
 (.reg [
 ⟨(some 4), .mv (.val (.int .i64 0)), none, []⟩])
 (.seq
 (.seq
 (.reg [
 ⟨(some 6), .mv (.tmp 0), none, []⟩,
 ⟨(some 7), .len (.tmp 6), none, []⟩,
 ⟨(some 8), .mv (.val (.int .i64 0)), none, []⟩])
 (.block 0
 (.loop
 (.seq
 (.reg [
 ⟨(some 9), .bin .lss (.tmp 8) (.tmp 7), none, []⟩])
 (.seq
 (.cond (.tmp 9)
 .skip
 (.exit 0))
 (.seq
 (.block 1
 (.seq
 (.reg [
 ⟨(some 10), .mv (.tmp 8), none, []⟩,
 ⟨(some 5), .mv (.tmp 10), none, []⟩])
 (.seq
 (.reg [
 ⟨(some 11), .mv (.tmp 1), none, []⟩,
 ⟨(some 12), .mv (.tmp 0), none, []⟩,
 ⟨(some 13), .mv (.tmp 5), none, []⟩,
 ⟨(some 14), .idxA 4 (.tmp 12) (.tmp 13), none, []⟩,
 ⟨(some 15), .ld (some 4) (.tmp 14), none, []⟩,
 ⟨(some 16), .callvS (.tmp 11) [(.tmp 15)], none, []⟩])
 (.cond (.tmp 16)
 (.seq
 (.reg [
 ⟨(some 17), .mv (.tmp 5), none, []⟩,
 ⟨(some 4), .mv (.tmp 17), none, []⟩])
 .ret)
 .skip))))
 (.reg [
 ⟨(some 18), .bin .add (.tmp 8) (.val (.int .i64 1)), none, []⟩,
 ⟨(some 8), .mv (.tmp 18), none, []⟩])))))))
 (.seq
 (.reg [
 ⟨(some 4), .mv (.val (.int .i64 (-1))), none, []⟩])
 .ret)))
def c_slices_IndexFunc___api_Side_api_Side : AF := ⟨b_slices_IndexFunc___api_Side_api_Side, 19, [.tmp 4]⟩
theorem p_slices_IndexFunc___api_Side_api_Side : prepFunc Try.prog 69 = some c_slices_IndexFunc___api_Side_api_Side ∧ hasBody Try.prog 69 = true := ⟨by kernel_rfl, by kernel_rfl⟩
def b_rise_Side_1 : AC :=
 (.seq
 (.reg [
 ⟨(some 2), .box 50 4 (.tmp 0), none, []⟩,
 ⟨(some 3), .mv (.val (.bool false)), none, []⟩])
 (.seq
 (.reg [
 ⟨(some 4), .off 0 (.tmp 2), none, []⟩,
 ⟨(some 5), .ld none (.tmp 4), none, []⟩,
 ⟨(some 6), .ld none (.tmp 1), none, []⟩,
 ⟨(some 7), .bin .eql (.tmp 5) (.tmp 6), none, []⟩,
 ⟨(some 3), .mv (.tmp 7), none, []⟩])
 .ret))
def c_rise_Side_1 : AF := ⟨b_rise_Side_1, 8, [.tmp 3]⟩
theorem p_rise_Side_1 : prepFunc Try.prog 70 = some c_rise_Side_1 ∧ hasBody Try.prog 70 = true := ⟨by kernel_rfl, by kernel_rfl⟩
def b_route_pair__pref : AC :=
 (.seq
 (.reg [
 ⟨(some 1), .box 95 12 (.tmp 0), none, []⟩,
 ⟨(some 2), .mv (.val (.int .i64 0)), none, []⟩])
 (.seq
 (.reg [
 ⟨(some 3), .off 6 (.tmp 1), none, []⟩,
 ⟨(some 4), .off 0 (.tmp 3), none, []⟩,
 ⟨(some 5), .ld none (.tmp 4), none, []⟩,
 ⟨(some 6), .off 0 (.tmp 1), none, []⟩,
 ⟨(some 7), .off 0 (.tmp 6), none, []⟩,
 ⟨(some 8), .ld none (.tmp 7), none, []⟩,
 ⟨(some 9), .callS 104 [(.tmp 5), (.tmp 8)], none, []⟩,
 ⟨(some 2), .mv (.tmp 9), none, []⟩])
 .ret))
def c_route_pair__pref : AF := ⟨b_route_pair__pref, 10, [.tmp 2]⟩
theorem p_route_pair__pref : prepFunc Try.prog 71 = some c_route_pair__pref ∧ hasBody Try.prog 71 = true := ⟨by kernel_rfl, by kernel_rfl⟩
def b_route_pair__length : AC :=
 (.seq
 (.reg [
 ⟨(some 1), .box 95 12 (.tmp 0), none, []⟩,
 ⟨(some 2), .mv (.val (.int .i64 0)), none, []⟩])
 (.seq
 (.reg [
 ⟨(some 3), .off 0 (.tmp 1), none, []⟩,
 ⟨(some 4), .off 1 (.tmp 3), none, []⟩,
 ⟨(some 5), .off 1 (.tmp 4), none, []⟩,
 ⟨(some 6), .ld none (.tmp 5), none, []⟩,
 ⟨(some 7), .len (.tmp 6), none, []⟩,
 ⟨(some 8), .off 6 (.tmp 1), none, []⟩,
 ⟨(some 9), .off 1 (.tmp 8), none, []⟩,
 ⟨(some 10), .off 1 (.tmp 9), none, []⟩,
 ⟨(some 11), .ld none (.tmp 10), none, []⟩,
 ⟨(some 12), .len (.tmp 11), none, []⟩,
 ⟨(some 13), .callS 104 [(.tmp 7), (.tmp 12)], none, []⟩,
 ⟨(some 2), .mv (.tmp 13), none, []⟩])
 .ret))
def c_route_pair__length : AF := ⟨b_route_pair__length, 14, [.tmp 2]⟩
theorem p_route_pair__length : prepFunc Try.prog 72 = some c_route_pair__length ∧ hasBody Try.prog 72 = true := ⟨by kernel_rfl, by kernel_rfl⟩
def b_route_pair__origin : AC :=
 (.seq
 (.reg [
 ⟨(some 1), .box 95 12 (.tmp 0), none, []⟩,
 ⟨(some 2), .mv (.val (.int .i64 0)), none, []⟩])
 (.seq
 (.reg [
 ⟨(some 3), .off 0 (.tmp 1), none, []⟩,
 ⟨(some 4), .off 1 (.tmp 3), none, []⟩,
 ⟨(some 5), .off 0 (.tmp 4), none, []⟩,
 ⟨(some 6), .ld none (.tmp 5), none, []⟩,
 ⟨(some 7), .off 6 (.tmp 1), none, []⟩,
 ⟨(some 8), .off 1 (.tmp 7), none, []⟩,
 ⟨(some 9), .off 0 (.tmp 8), none, []⟩,
 ⟨(some 10), .ld none (.tmp 9), none, []⟩,
 ⟨(some 11), .callS 104 [(.tmp 6), (.tmp 10)], none, []⟩,
 ⟨(some 2), .mv (.tmp 11), none, []⟩])
 .ret))
def c_route_pair__origin : AF := ⟨b_route_pair__origin, 12, [.tmp 2]⟩
theorem p_route_pair__origin : prepFunc Try.prog 73 = some c_route_pair__origin ∧ hasBody Try.prog 73 = true := ⟨by kernel_rfl, by kernel_rfl⟩
def b_route_pair__as : AC :=
 (.seq
 (.reg [
 ⟨(some 1), .box 95 12 (.tmp 0), none, []⟩,
 ⟨(some 2), .mv (.val (.int .i64 0)), none, []⟩])
 (.seq
 (.reg [
 ⟨(some 3), .off 0 (.tmp 1), none, []⟩,
 ⟨(some 4), .off 1 (.tmp 3), none, []⟩,
 ⟨(some 5), .off 1 (.tmp 4), none, []⟩,
 ⟨(some 6), .ld none (.tmp 5), none, []⟩,
 ⟨(some 7), .off 6 (.tmp 1), none, []⟩,
 ⟨(some 8), .off 1 (.tmp 7), none, []⟩,
 ⟨(some 9), .off 1 (.tmp 8), none, []⟩,
 ⟨(some 10), .ld none (.tmp 9), none, []⟩,
 ⟨(some 11), .callS 105 [(.tmp 6), (.tmp 10)], none, []⟩,
 ⟨(some 2), .mv (.tmp 11), none, []⟩])
 .ret))
def c_route_pair__as : AF := ⟨b_route_pair__as, 12, [.tmp 2]⟩
theorem p_route_pair__as : prepFunc Try.prog 74 = some c_route_pair__as ∧ hasBody Try.prog 74 = true := ⟨by kernel_rfl, by kernel_rfl⟩
def b_route_pair__hop : AC :=
 (.seq
 (.reg [
 ⟨(some 1), .box 95 12 (.tmp 0), none, []⟩,
 ⟨(some 2), .mv (.val (.int .i64 0)), none, []⟩])
 (.seq
 (.reg [
 ⟨(some 3), .off 0 (.tmp 1), none, []⟩,
 ⟨(some 4), .off 1 (.tmp 3), none, []⟩,
 ⟨(some 5), .off 2 (.tmp 4), none, []⟩,
 ⟨(some 6), .ld none (.tmp 5), none, []⟩,
 ⟨(some 7), .off 6 (.tmp 1), none, []⟩,
 ⟨(some 8), .off 1 (.tmp 7), none, []⟩,
 ⟨(some 9), .off 2 (.tmp 8), none, []⟩,
 ⟨(some 10), .ld none (.tmp 9), none, []⟩,
 ⟨(some 11), .callS 104 [(.tmp 6), (.tmp 10)], none, []⟩,
 ⟨(some 2), .mv (.tmp 11), none, []⟩])
 .ret))
def c_route_pair__hop : AF := ⟨b_route_pair__hop, 12, [.tmp 2]⟩
theorem p_route_pair__hop : prepFunc Try.prog 75 = some c_route_pair__hop ∧ hasBody Try.prog 75 = true := ⟨by kernel_rfl, by kernel_rfl⟩
def b_route_pair__otc : AC :=
 (.seq
 (.reg [
 ⟨(some 1), .box 95 12 (.tmp 0), none, []⟩,
 ⟨(some 2), .mv (.val (.int .i64 0)), none, []⟩])
 (.seq
 (.reg [
 ⟨(some 3), .off 0 (.tmp 1), none, []⟩,
 ⟨(some 4), .off 1 (.tmp 3), none, []⟩,
 ⟨(some 5), .off 3 (.tmp 4), none, []⟩,
 ⟨(some 6), .ld none (.tmp 5), none, []⟩,
 ⟨(some 7), .off 6 (.tmp 1), none, []⟩,
 ⟨(some 8), .off 1 (.tmp 7), none, []⟩,
 ⟨(some 9), .off 3 (.tmp 8), none, []⟩,
 ⟨(some 10), .ld none (.tmp 9), none, []⟩,
 ⟨(some 11), .callS 104 [(.tmp 6), (.tmp 10)], none, []⟩,
 ⟨(some 2), .mv (.tmp 11), none, []⟩])
 .ret))
def c_route_pair__otc : AF := ⟨b_route_pair__otc, 12, [.tmp 2]⟩
theorem p_route_pair__otc : prepFunc Try.prog 76 = some c_route_pair__otc ∧ hasBody Try.prog 76 = true := ⟨by kernel_rfl, by kernel_rfl⟩
def b_route_pair__from : AC :=
 (.seq
 (.reg [
 ⟨(some 1), .box 95 12 (.tmp 0), none, []⟩,
 ⟨(some 2), .mv (.val (.int .i64 0)), none, []⟩])
 (.seq
 (.reg [
 ⟨(some 3), .off 0 (.tmp 1), none, []⟩,
 ⟨(some 4), .off 5 (.tmp 3), none, []⟩,
 ⟨(some 5), .ld none (.tmp 4), none, []⟩,
 ⟨(some 6), .off 6 (.tmp 1), none, []⟩,
 ⟨(some 7), .off 5 (.tmp 6), none, []⟩,
 ⟨(some 8), .ld none (.tmp 7), none, []⟩,
 ⟨(some 9), .callS 104 [(.tmp 5), (.tmp 8)], none, []⟩,
 ⟨(some 2), .mv (.tmp 9), none, []⟩])
 .ret))
def c_route_pair__from : AF := ⟨b_route_pair__from, 10, [.tmp 2]⟩
theorem p_route_pair__from : prepFunc Try.prog 77 = some c_route_pair__from ∧ hasBody Try.prog 77 = true := ⟨by kernel_rfl, by kernel_rfl⟩
def b_prefix_Sane : AC :=
 (.seq
 (.reg [
 ⟨(some 1), .box 27 2 (.tmp 0), none, []⟩,
 ⟨(some 2), .mv (.val (.bool false)), none, []⟩])
 (.seq
 (.reg [
 ⟨(some 3), .off 1 (.tmp 1), none, []⟩,
 ⟨(some 4), .ld none (.tmp 3), none, []⟩,
 ⟨(some 5), .bin .geq (.tmp 4) (.val (.int .i64 0)), none, []⟩,
 ⟨(some 6), .mv (.tmp 5), none, []⟩,
 ⟨(some 7), .off 1 (.tmp 1), some (6, true), []⟩,
 ⟨(some 8), .ld none (.tmp 7), some (6, true), []⟩,
 ⟨(some 9), .bin .leq (.tmp 8) (.val (.int .i64 32)), some (6, true), []⟩,
 ⟨(some 10), .pick (.tmp 6) (.tmp 9) (.val (.bool false)), none, []⟩,
 ⟨(some 11), .mv (.tmp 10), none, []⟩,
 ⟨(some 12), .off 0 (.tmp 1), some (11, true), []⟩,
 ⟨(some 13), .ld none (.tmp 12), some (11, true), []⟩,
 ⟨(some 14), .off 1 (.tmp 1), some (11, true), []⟩,
 ⟨(some 15), .ld none (.tmp 14), some (11, true), []⟩,
 ⟨(some 16), .call 120 [(.tmp 13), (.tmp 15)], some (11, true), []⟩,
 ⟨(some 17), .off 0 (.tmp 1), some (11, true), []⟩,
 ⟨(some 18), .ld none (.tmp 17), some (11, true), []⟩,
 ⟨(some 19), .bin .eql (.tmp 16) (.tmp 18), some (11, true), []⟩,
 ⟨(some 20), .pick (.tmp 11) (.tmp 19) (.val (.bool false)), none, []⟩,
 ⟨(some 2), .mv (.tmp 20), none, []⟩])
 .ret))
def c_prefix_Sane : AF := ⟨b_prefix_Sane, 21, [.tmp 2]⟩
theorem p_prefix_Sane : prepFunc Try.prog 87 = some c_prefix_Sane ∧ hasBody Try.prog 87 = true := ⟨by kernel_rfl, by kernel_rfl⟩
def b_conf_saneNumber : AC :=
 (.seq
 (.reg [
 ⟨(some 2), .mv (.val (.bool false)), none, []⟩])
 (.seq
 (.reg [
 ⟨(some 3), .mv (.tmp 0), none, []⟩,
 ⟨(some 4), .bin .geq (.tmp 3) (.val (.int .i64 1)), none, []⟩,
 ⟨(some 5), .mv (.tmp 4), none, []⟩,
 ⟨(some 6), .mv (.tmp 0), some (5, true), []⟩,
 ⟨(some 7), .bin .leq (.tmp 6) (.val (.int .i64 4294967295)), some (5, true), []⟩,
 ⟨(some 8), .pick (.tmp 5) (.tmp 7) (.val (.bool false)), none, []⟩,
 ⟨(some 2), .mv (.tmp 8), none, []⟩])
 .ret))
def c_conf_saneNumber : AF := ⟨b_conf_saneNumber, 9, [.tmp 2]⟩
theorem p_conf_saneNumber : prepFunc Try.prog 93 = some c_conf_saneNumber ∧ hasBody Try.prog 93 = true := ⟨by kernel_rfl, by kernel_rfl⟩
def b_conf_saneHold : AC :=
 (.seq
 (.reg [
 ⟨(some 2), .mv (.val (.bool false)), none, []⟩])
 (.seq
 (.reg [
 ⟨(some 3), .mv (.tmp 0), none, []⟩,
 ⟨(some 4), .bin .eql (.tmp 3) (.val (.int .i64 0)), none, []⟩,
 ⟨(some 5), .mv (.tmp 4), none, []⟩,
 ⟨(some 6), .mv (.tmp 0), some (5, false), []⟩,
 ⟨(some 7), .bin .geq (.tmp 6) (.val (.int .i64 3)), some (5, false), []⟩,
 ⟨(some 8), .mv (.tmp 7), some (5, false), []⟩,
 ⟨(some 9), .mv (.tmp 0), some (8, true), []⟩,
 ⟨(some 10), .bin .leq (.tmp 9) (.val (.int .i64 65535)), some (8, true), []⟩,
 ⟨(some 11), .pick (.tmp 8) (.tmp 10) (.val (.bool false)), some (5, false), []⟩,
 ⟨(some 12), .pick (.tmp 5) (.val (.bool true)) (.tmp 11), none, []⟩,
 ⟨(some 2), .mv (.tmp 12), none, []⟩])
 .ret))
def c_conf_saneHold : AF := ⟨b_conf_saneHold, 13, [.tmp 2]⟩
theorem p_conf_saneHold : prepFunc Try.prog 94 = some c_conf_saneHold ∧ hasBody Try.prog 94 = true := ⟨by kernel_rfl, by kernel_rfl⟩
def b_conf_saneCap : AC :=
 (.seq
 (.reg [
 ⟨(some 2), .mv (.val (.bool false)), none, []⟩])
 (.seq
 (.reg [
 ⟨(some 3), .mv (.tmp 0), none, []⟩,
 ⟨(some 4), .bin .geq (.tmp 3) (.val (.int .i64 1)), none, []⟩,
 ⟨(some 5), .mv (.tmp 4), none, []⟩,
 ⟨(some 6), .mv (.tmp 0), some (5, true), []⟩,
 ⟨(some 7), .bin .leq (.tmp 6) (.val (.int .i64 1000)), some (5, true), []⟩,
 ⟨(some 8), .pick (.tmp 5) (.tmp 7) (.val (.bool false)), none, []⟩,
 ⟨(some 2), .mv (.tmp 8), none, []⟩])
 .ret))
def c_conf_saneCap : AF := ⟨b_conf_saneCap, 9, [.tmp 2]⟩
theorem p_conf_saneCap : prepFunc Try.prog 95 = some c_conf_saneCap ∧ hasBody Try.prog 95 = true := ⟨by kernel_rfl, by kernel_rfl⟩
def b_conf_saneOwn : AC :=
 (.seq
 (.reg [
 ⟨(some 2), .mv (.val (.bool false)), none, []⟩])
 (.seq
 (.seq
 (.reg [
 ⟨(some 5), .mv (.tmp 0), none, []⟩,
 ⟨(some 6), .len (.tmp 5), none, []⟩,
 ⟨(some 7), .bin .gtr (.tmp 6) (.val (.int .i64 8)), none, []⟩])
 (.cond (.tmp 7)
 (.seq
 (.reg [
 ⟨(some 2), .mv (.val (.bool false)), none, []⟩])
 .ret)
 .skip))
 (.seq
 (.seq
 (.reg [
 ⟨(some 8), .mv (.tmp 0), none, []⟩,
 ⟨(some 9), .len (.tmp 8), none, []⟩,
 ⟨(some 10), .mv (.val (.int .i64 0)), none, []⟩])
 (.block 0
 (.loop
 (.seq
 (.reg [
 ⟨(some 11), .bin .lss (.tmp 10) (.tmp 9), none, []⟩])
 (.seq
 (.cond (.tmp 11)
 .skip
 (.exit 0))
 (.seq
 (.block 1
 (.seq
 (.reg [
 ⟨(some 12), .mv (.tmp 10), none, []⟩,
 ⟨(some 13), .idxA 2 (.tmp 8) (.tmp 10), none, []⟩,
 ⟨(some 14), .ld (some 2) (.tmp 13), none, []⟩,
 ⟨(some 4), .box 27 2 (.val (.agg [(.int .i64 0), (.int .i64 0)])), none, []⟩,
 ⟨(some 3), .mv (.tmp 12), none, []⟩,
 ⟨none, .st 2 (.tmp 4) (.tmp 14), none, []⟩])
 (.seq
 (.reg [
 ⟨(some 15), .ld (some 2) (.tmp 4), none, []⟩,
 ⟨(some 16), .call 87 [(.tmp 15)], none, []⟩,
 ⟨(some 17), .un .not (.tmp 16), none, []⟩,
 ⟨(some 18), .mv (.tmp 17), none, []⟩,
 ⟨(some 19), .mv (.tmp 0), some (18, false), []⟩,
 ⟨(some 20), .mv (.tmp 3), some (18, false), []⟩,
 ⟨(some 21), .slc 2 (.tmp 19) none (some (.tmp 20)) none, some (18, false), []⟩,
 ⟨(some 22), .ld (some 2) (.tmp 4), some (18, false), []⟩,
 ⟨(some 23), .callS 123 [(.tmp 21), (.tmp 22)], some (18, false), []⟩,
 ⟨(some 24), .pick (.tmp 18) (.val (.bool true)) (.tmp 23), none, []⟩])
 (.cond (.tmp 24)
 (.seq
 (.reg [
 ⟨(some 2), .mv (.val (.bool false)), none, []⟩])
 .ret)
 .skip))))
 (.reg [
 ⟨(some 25), .bin .add (.tmp 10) (.val (.int .i64 1)), none, []⟩,
 ⟨(some 10), .mv (.tmp 25), none, []⟩])))))))
 (.seq
 (.reg [
 ⟨(some 2), .mv (.val (.bool true)), none, []⟩])
 .ret))))
def c_conf_saneOwn : AF := ⟨b_conf_saneOwn, 26, [.tmp 2]⟩
theorem p_conf_saneOwn : prepFunc Try.prog 96 = some c_conf_saneOwn ∧ hasBody Try.prog 96 = true := ⟨by kernel_rfl, by kernel_rfl⟩
def b_conf_saneSides : AC :=
 (.seq
 (.reg [
 ⟨(some 1), .box 25 6 (.tmp 0), none, []⟩,
 ⟨(some 2), .mv (.val (.bool false)), none, []⟩])
 (.seq
 (.seq
 (.reg [
 ⟨(some 5), .off 5 (.tmp 1), none, []⟩,
 ⟨(some 6), .ld none (.tmp 5), none, []⟩,
 ⟨(some 7), .len (.tmp 6), none, []⟩,
 ⟨(some 8), .bin .gtr (.tmp 7) (.val (.int .i64 8)), none, []⟩])
 (.cond (.tmp 8)
 (.seq
 (.reg [
 ⟨(some 2), .mv (.val (.bool false)), none, []⟩])
 .ret)
 .skip))
 (.seq
 (.seq
 (.reg [
 ⟨(some 9), .off 5 (.tmp 1), none, []⟩,
 ⟨(some 10), .ld none (.tmp 9), none, []⟩,
 ⟨(some 11), .len (.tmp 10), none, []⟩,
 ⟨(some 12), .mv (.val (.int .i64 0)), none, []⟩])
 (.block 0
 (.loop
 (.seq
 (.reg [
 ⟨(some 13), .bin .lss (.tmp 12) (.tmp 11), none, []⟩])
 (.seq
 (.cond (.tmp 13)
 .skip
 (.exit 0))
 (.seq
 (.block 1
 (.seq
 (.reg [
 ⟨(some 14), .mv (.tmp 12), none, []⟩,
 ⟨(some 15), .idxA 4 (.tmp 10) (.tmp 12), none, []⟩,
 ⟨(some 16), .ld (some 4) (.tmp 15), none, []⟩,
 ⟨(some 4), .box 50 4 (.val (.agg [(.int .i64 0), (.int .i64 0), (.slice .full 0 []), (.slice .full 0 [])])), none, []⟩,
 ⟨(some 3), .mv (.tmp 14), none, []⟩,
 ⟨none, .st 4 (.tmp 4) (.tmp 16), none, []⟩])
 (.seq
 (.seq
 (.reg [
 ⟨(some 17), .off 0 (.tmp 4), none, []⟩,
 ⟨(some 18), .ld none (.tmp 17), none, []⟩,
 ⟨(some 19), .call 93 [(.tmp 18)], none, []⟩,
 ⟨(some 20), .un .not (.tmp 19), none, []⟩,
 ⟨(some 21), .mv (.tmp 20), none, []⟩,
 ⟨(some 22), .off 0 (.tmp 1), some (21, false), []⟩,
 ⟨(some 23), .ld none (.tmp 22), some (21, false), []⟩,
 ⟨(some 24), .off 5 (.tmp 1), some (21, false), []⟩,
 ⟨(some 25), .ld none (.tmp 24), some (21, false), []⟩,
 ⟨(some 26), .mv (.tmp 3), some (21, false), []⟩,
 ⟨(some 27), .slc 4 (.tmp 25) none (some (.tmp 26)) none, some (21, false), []⟩,
 ⟨(some 28), .off 0 (.tmp 4), some (21, false), []⟩,
 ⟨(some 29), .ld none (.tmp 28), some (21, false), []⟩,
 ⟨(some 30), .callS 124 [(.tmp 23), (.tmp 27), (.tmp 29)], some (21, false), []⟩,
 ⟨(some 31), .pick (.tmp 21) (.val (.bool true)) (.tmp 30), none, []⟩,
 ⟨(some 32), .mv (.tmp 31), none, []⟩,
 ⟨(some 33), .off 1 (.tmp 4), some (32, false), []⟩,
 ⟨(some 34), .ld none (.tmp 33), some (32, false), []⟩,
 ⟨(some 35), .bin .lss (.tmp 34) (.val (.int .i64 1)), some (32, false), []⟩,
 ⟨(some 36), .pick (.tmp 32) (.val (.bool true)) (.tmp 35), none, []⟩,
 ⟨(some 37), .mv (.tmp 36), none, []⟩,
 ⟨(some 38), .off 1 (.tmp 4), some (37, false), []⟩,
 ⟨(some 39), .ld none (.tmp 38), some (37, false), []⟩,
 ⟨(some 40), .bin .gtr (.tmp 39) (.val (.int .i64 3)), some (37, false), []⟩,
 ⟨(some 41), .pick (.tmp 37) (.val (.bool true)) (.tmp 40), none, []⟩])
 (.cond (.tmp 41)
 (.seq
 (.reg [
 ⟨(some 2), .mv (.val (.bool false)), none, []⟩])
 .ret)
 .skip))
 (.seq
 (.reg [
 ⟨(some 42), .off 2 (.tmp 4), none, []⟩,
 ⟨(some 43), .ld none (.tmp 42), none, []⟩,
 ⟨(some 44), .callS 125 [(.tmp 43), (.val (.bool true))], none, []⟩,
 ⟨(some 45), .un .not (.tmp 44), none, []⟩,
 ⟨(some 46), .mv (.tmp 45), none, []⟩,
 ⟨(some 47), .off 3 (.tmp 4), some (46, false), []⟩,
 ⟨(some 48), .ld none (.tmp 47), some (46, false), []⟩,
 ⟨(some 49), .callS 125 [(.tmp 48), (.val (.bool false))], some (46, false), []⟩,
 ⟨(some 50), .un .not (.tmp 49), some (46, false), []⟩,
 ⟨(some 51), .pick (.tmp 46) (.val (.bool true)) (.tmp 50), none, []⟩])
 (.cond (.tmp 51)
 (.seq
 (.reg [
 ⟨(some 2), .mv (.val (.bool false)), none, []⟩])
 .ret)
 .skip)))))
 (.reg [
 ⟨(some 52), .bin .add (.tmp 12) (.val (.int .i64 1)), none, []⟩,
 ⟨(some 12), .mv (.tmp 52), none, []⟩])))))))
 (.seq
 (.reg [
 ⟨(some 2), .mv (.val (.bool true)), none, []⟩])
 .ret))))
def c_conf_saneSides : AF := ⟨b_conf_saneSides, 53, [.tmp 2]⟩
theorem p_conf_saneSides : prepFunc Try.prog 97 = some c_conf_saneSides ∧ hasBody Try.prog 97 = true := ⟨by kernel_rfl, by kernel_rfl⟩
def b_slices_Index___int_int : AC :=
 (.seq
 (.reg [
 ⟨(some 4), .mv (.val (.int .i64 0)), none, []⟩])
 (.seq
 (.seq
 (.reg [
 ⟨(some 6), .mv (.tmp 0), none, []⟩,
 ⟨(some 7), .len (.tmp 6), none, []⟩,
 ⟨(some 8), .mv (.val (.int .i64 0)), none, []⟩])
 (.block 0
 (.loop
 (.seq
 (.reg [
 ⟨(some 9), .bin .lss (.tmp 8) (.tmp 7), none, []⟩])
 (.seq
 (.cond (.tmp 9)
 .skip
 (.exit 0))
 (.seq
 (.block 1
 (.seq
 (.reg [
 ⟨(some 10), .mv (.tmp 8), none, []⟩,
 ⟨(some 5), .mv (.tmp 10), none, []⟩])
 (.seq
 (.reg [
 ⟨(some 11), .mv (.tmp 1), none, []⟩,
 ⟨(some 12), .mv (.tmp 0), none, []⟩,
 ⟨(some 13), .mv (.tmp 5), none, []⟩,
 ⟨(some 14), .idxA 1 (.tmp 12) (.tmp 13), none, []⟩,
 ⟨(some 15), .ld none (.tmp 14), none, []⟩,
 ⟨(some 16), .bin .eql (.tmp 11) (.tmp 15), none, []⟩])
 (.cond (.tmp 16)
 (.seq
 (.reg [
 ⟨(some 17), .mv (.tmp 5), none, []⟩,
 ⟨(some 4), .mv (.tmp 17), none, []⟩])
 .ret)
 .skip))))
 (.reg [
 ⟨(some 18), .bin .add (.tmp 8) (.val (.int .i64 1)), none, []⟩,
 ⟨(some 8), .mv (.tmp 18), none, []⟩])))))))
 (.seq
 (.reg [
 ⟨(some 4), .mv (.val (.int .i64 (-1))), none, []⟩])
 .ret)))
def c_slices_Index___int_int : AF := ⟨b_slices_Index___int_int, 19, [.tmp 4]⟩
theorem p_slices_Index___int_int : prepFunc Try.prog 98 = some c_slices_Index___int_int ∧ hasBody Try.prog 98 = true := ⟨by kernel_rfl, by kernel_rfl⟩
def b_policy_Fits : AC :=
 (.seq
 (.reg [
 ⟨(some 2), .box 52 6 (.tmp 0), none, []⟩,
 ⟨(some 3), .box 82 4 (.tmp 1), none, []⟩,
 ⟨(some 4), .mv (.val (.bool false)), none, []⟩])
 (.seq
 (.seq
 (.reg [
 ⟨(some 5), .off 0 (.tmp 2), none, []⟩,
 ⟨(some 6), .ld none (.tmp 5), none, []⟩,
 ⟨(some 7), .bin .lss (.tmp 6) (.val (.int .i64 0)), none, []⟩,
 ⟨(some 8), .mv (.tmp 7), none, []⟩,
 ⟨(some 9), .off 0 (.tmp 2), some (8, false), []⟩,
 ⟨(some 10), .ld none (.tmp 9), some (8, false), []⟩,
 ⟨(some 11), .bin .geq (.tmp 10) (.val (.int .i64 5)), some (8, false), []⟩,
 ⟨(some 12), .pick (.tmp 8) (.val (.bool true)) (.tmp 11), none, []⟩])
 (.cond (.tmp 12)
 (.seq
 (.reg [
 ⟨(some 4), .mv (.val (.bool false)), none, []⟩])
 .ret)
 .skip))
 (.seq
 (.reg [
 ⟨(some 13), .call 126 [], none, []⟩,
 ⟨(some 14), .off 0 (.tmp 2), none, []⟩,
 ⟨(some 15), .ld none (.tmp 14), none, []⟩,
 ⟨(some 16), .prt none 5 1 0 (.tmp 13) (.tmp 15), none, []⟩,
 ⟨(some 17), .ld (some 6) (.tmp 2), none, []⟩,
 ⟨(some 18), .ld (some 4) (.tmp 3), none, []⟩,
 ⟨(some 19), .callvS (.tmp 16) [(.tmp 17), (.tmp 18)], none, []⟩,
 ⟨(some 4), .mv (.tmp 19), none, []⟩])
 .ret)))
def c_policy_Fits : AF := ⟨b_policy_Fits, 20, [.tmp 4]⟩
theorem p_policy_Fits : prepFunc Try.prog 99 = some c_policy_Fits ∧ hasBody Try.prog 99 = true := ⟨by kernel_rfl, by kernel_rfl⟩
def b_slices_Repeat___int_int : AC :=
 (.seq
 (.reg [
 ⟨(some 4), .mv (.val (.slice .full 0 [])), none, []⟩])
 (.seq
 (.seq
 (.reg [
 ⟨(some 9), .mv (.tmp 1), none, []⟩,
 ⟨(some 10), .bin .lss (.tmp 9) (.val (.int .i64 0)), none, []⟩])
 (.cond (.tmp 10)
 (.reg [
 ⟨(some 11), .mkif 9 (.val (.str ⟨⟨[99, 97, 110, 110, 111, 116, 32, 98, 101, 32, 110, 101, 103, 97, 116, 105, 118, 101]⟩⟩)), none, []⟩,
 ⟨none, .bad, none, []⟩])
 .skip))
 (.seq
 (.reg [
 ⟨(some 13), .mv (.tmp 0), none, []⟩,
 ⟨(some 14), .len (.tmp 13), none, []⟩,
 ⟨(some 15), .conv .u64 (.tmp 14), none, []⟩,
 ⟨(some 16), .mv (.tmp 1), none, []⟩,
 ⟨(some 17), .conv .u64 (.tmp 16), none, []⟩,
 ⟨(some 18), .callS 127 [(.tmp 15), (.tmp 17)], none, []⟩,
 ⟨(some 12), .mv (.tmp 18), none, []⟩,
 ⟨(some 19), .ext (.tmp 12) 0, none, []⟩,
 ⟨(some 20), .ext (.tmp 12) 1, none, []⟩,
 ⟨(some 5), .mv (.tmp 19), none, []⟩,
 ⟨(some 6), .mv (.tmp 20), none, []⟩])
 (.seq
 (.seq
 (.reg [
 ⟨(some 21), .mv (.tmp 5), none, []⟩,
 ⟨(some 22), .bin .gtr (.tmp 21) (.val (.int .u64 0)), none, []⟩,
 ⟨(some 23), .mv (.tmp 22), none, []⟩,
 ⟨(some 24), .mv (.tmp 6), some (23, false), []⟩,
 ⟨(some 25), .bin .gtr (.tmp 24) (.val (.int .u64 9223372036854775807)), some (23, false), []⟩,
 ⟨(some 26), .pick (.tmp 23) (.val (.bool true)) (.tmp 25), none, []⟩])
 (.cond (.tmp 26)
 (.reg [
 ⟨(some 27), .mkif 9 (.val (.str ⟨⟨[116, 104, 101, 32, 114, 101, 115, 117, 108, 116, 32, 111, 102, 32, 40, 108, 101, 110, 40, 120, 41, 32, 42, 32, 99, 111, 117, 110, 116, 41, 32, 111, 118, 101, 114, 102, 108, 111, 119, 115]⟩⟩)), none, []⟩,
 ⟨none, .bad, none, []⟩])
 .skip))
 (.seq
 (.reg [
 ⟨(some 28), .mv (.tmp 6), none, []⟩,
 ⟨(some 29), .conv .i64 (.tmp 28), none, []⟩,
 ⟨(some 30), .prim (.mkSl 3 1 8 [(.int .i64 0)]) [(.tmp 29), (.tmp 29)], none, []⟩,
 ⟨(some 7), .mv (.tmp 30), none, []⟩])
 (.seq
 (.reg [
 ⟨(some 31), .mv (.tmp 7), none, []⟩,
 ⟨(some 32), .mv (.tmp 0), none, []⟩,
 ⟨(some 33), .prim (.copy 1) [(.tmp 31), (.tmp 32)], none, []⟩,
 ⟨(some 8), .mv (.tmp 33), none, []⟩])
 (.seq
 (.block 0
 (.loop
 (.seq
 (.seq
 (.reg [
 ⟨(some 34), .mv (.tmp 8), none, []⟩,
 ⟨(some 35), .mv (.tmp 7), none, []⟩,
 ⟨(some 36), .len (.tmp 35), none, []⟩,
 ⟨(some 37), .bin .lss (.tmp 34) (.tmp 36), none, []⟩])
 (.cond (.tmp 37)
 .skip
 (.exit 0)))
 (.block 1
 (.reg [
 ⟨(some 39), .mv (.tmp 7), none, []⟩,
 ⟨(some 40), .mv (.tmp 8), none, []⟩,
 ⟨(some 41), .slc 1 (.tmp 39) (some (.tmp 40)) none none, none, []⟩,
 ⟨(some 42), .mv (.tmp 7), none, []⟩,
 ⟨(some 43), .mv (.tmp 8), none, []⟩,
 ⟨(some 44), .slc 1 (.tmp 42) none (some (.tmp 43)) none, none, []⟩,
 ⟨(some 38), .mv (.tmp 8), none, []⟩,
 ⟨(some 45), .prim (.copy 1) [(.tmp 41), (.tmp 44)], none, []⟩,
 ⟨(some 46), .bin .add (.tmp 38) (.tmp 45), none, []⟩,
 ⟨(some 8), .mv (.tmp 46), none, []⟩])))))
 (.seq
 (.reg [
 ⟨(some 47), .mv (.tmp 7), none, []⟩,
 ⟨(some 4), .mv (.tmp 47), none, []⟩])
 .ret))))))))
def c_slices_Repeat___int_int : AF := ⟨b_slices_Repeat___int_int, 48, [.tmp 4]⟩
theorem p_slices_Repeat___int_int : prepFunc Try.prog 100 = some c_slices_Repeat___int_int ∧ hasBody Try.prog 100 = true := ⟨by kernel_rfl, by kernel_rfl⟩
def b_slices_IndexFunc___api_Rule_api_Rule : AC :=
 (.seq
 (.reg [
 ⟨(some 4), .mv (.val (.int .i64 0)), none, []⟩])
 (.seq
 (.seq
 (.reg [
 ⟨(some 6), .mv (.tmp 0), none, []⟩,
 ⟨(some 7), .len (.tmp 6), none, []⟩,
 ⟨(some 8), .mv (.val (.int .i64 0)), none, []⟩])
 (.block 0
 (.loop
 (.seq
 (.reg [
 ⟨(some 9), .bin .lss (.tmp 8) (.tmp 7), none, []⟩])
 (.seq
 (.cond (.tmp 9)
 .skip
 (.exit 0))
 (.seq
 (.block 1
 (.seq
 (.reg [
 ⟨(some 10), .mv (.tmp 8), none, []⟩,
 ⟨(some 5), .mv (.tmp 10), none, []⟩])
 (.seq
 (.reg [
 ⟨(some 11), .mv (.tmp 1), none, []⟩,
 ⟨(some 12), .mv (.tmp 0), none, []⟩,
 ⟨(some 13), .mv (.tmp 5), none, []⟩,
 ⟨(some 14), .idxA 6 (.tmp 12) (.tmp 13), none, []⟩,
 ⟨(some 15), .ld (some 6) (.tmp 14), none, []⟩,
 ⟨(some 16), .callvS (.tmp 11) [(.tmp 15)], none, []⟩])
 (.cond (.tmp 16)
 (.seq
 (.reg [
 ⟨(some 17), .mv (.tmp 5), none, []⟩,
 ⟨(some 4), .mv (.tmp 17), none, []⟩])
 .ret)
 .skip))))
 (.reg [
 ⟨(some 18), .bin .add (.tmp 8) (.val (.int .i64 1)), none, []⟩,
 ⟨(some 8), .mv (.tmp 18), none, []⟩])))))))
 (.seq
 (.reg [
 ⟨(some 4), .mv (.val (.int .i64 (-1))), none, []⟩])
 .ret)))
def c_slices_IndexFunc___api_Rule_api_Rule : AF := ⟨b_slices_IndexFunc___api_Rule_api_Rule, 19, [.tmp 4]⟩
theorem p_slices_IndexFunc___api_Rule_api_Rule : prepFunc Try.prog 101 = some c_slices_IndexFunc___api_Rule_api_Rule ∧ hasBody Try.prog 101 = true := ⟨by kernel_rfl, by kernel_rfl⟩
def b_policy_Total : AC :=
 (.seq
 (.reg [
 ⟨(some 2), .box 52 6 (.tmp 0), none, []⟩,
 ⟨(some 4), .mv (.val (.bool false)), none, []⟩])
 (.seq
 (.reg [
 ⟨(some 5), .off 0 (.tmp 2), none, []⟩,
 ⟨(some 6), .ld none (.tmp 5), none, []⟩,
 ⟨(some 7), .bin .eql (.tmp 6) (.val (.int .i64 0)), none, []⟩,
 ⟨(some 8), .mv (.tmp 7), none, []⟩,
 ⟨(some 9), .off 0 (.tmp 2), some (8, false), []⟩,
 ⟨(some 10), .ld none (.tmp 9), some (8, false), []⟩,
 ⟨(some 11), .bin .eql (.tmp 10) (.val (.int .i64 4)), some (8, false), []⟩,
 ⟨(some 12), .mv (.tmp 11), some (8, false), []⟩,
 ⟨(some 13), .off 3 (.tmp 2), some (12, true), []⟩,
 ⟨(some 14), .ld none (.tmp 13), some (12, true), []⟩,
 ⟨(some 15), .mv (.tmp 1), some (12, true), []⟩,
 ⟨(some 16), .bin .eql (.tmp 14) (.tmp 15), some (12, true), []⟩,
 ⟨(some 17), .pick (.tmp 12) (.tmp 16) (.val (.bool false)), some (8, false), []⟩,
 ⟨(some 18), .pick (.tmp 8) (.val (.bool true)) (.tmp 17), none, []⟩,
 ⟨(some 4), .mv (.tmp 18), none, []⟩])
 .ret))
def c_policy_Total : AF := ⟨b_policy_Total, 19, [.tmp 4]⟩
theorem p_policy_Total : prepFunc Try.prog 102 = some c_policy_Total ∧ hasBody Try.prog 102 = true := ⟨by kernel_rfl, by kernel_rfl⟩
def b_slices_IndexFunc___int_int : AC :=
 (.seq
 (.reg [
 ⟨(some 4), .mv (.val (.int .i64 0)), none, []⟩])
 (.seq
 (.seq
 (.reg [
 ⟨(some 6), .mv (.tmp 0), none, []⟩,
 ⟨(some 7), .len (.tmp 6), none, []⟩,
 ⟨(some 8), .mv (.val (.int .i64 0)), none, []⟩])
 (.block 0
 (.loop
 (.seq
 (.reg [
 ⟨(some 9), .bin .lss (.tmp 8) (.tmp 7), none, []⟩])
 (.seq
 (.cond (.tmp 9)
 .skip
 (.exit 0))
 (.seq
 (.block 1
 (.seq
 (.reg [
 ⟨(some 10), .mv (.tmp 8), none, []⟩,
 ⟨(some 5), .mv (.tmp 10), none, []⟩])
 (.seq
 (.reg [
 ⟨(some 11), .mv (.tmp 1), none, []⟩,
 ⟨(some 12), .mv (.tmp 0), none, []⟩,
 ⟨(some 13), .mv (.tmp 5), none, []⟩,
 ⟨(some 14), .idxA 1 (.tmp 12) (.tmp 13), none, []⟩,
 ⟨(some 15), .ld none (.tmp 14), none, []⟩,
 ⟨(some 16), .callvS (.tmp 11) [(.tmp 15)], none, []⟩])
 (.cond (.tmp 16)
 (.seq
 (.reg [
 ⟨(some 17), .mv (.tmp 5), none, []⟩,
 ⟨(some 4), .mv (.tmp 17), none, []⟩])
 .ret)
 .skip))))
 (.reg [
 ⟨(some 18), .bin .add (.tmp 8) (.val (.int .i64 1)), none, []⟩,
 ⟨(some 8), .mv (.tmp 18), none, []⟩])))))))
 (.seq
 (.reg [
 ⟨(some 4), .mv (.val (.int .i64 (-1))), none, []⟩])
 .ret)))
def c_slices_IndexFunc___int_int : AF := ⟨b_slices_IndexFunc___int_int, 19, [.tmp 4]⟩
theorem p_slices_IndexFunc___int_int : prepFunc Try.prog 103 = some c_slices_IndexFunc___int_int ∧ hasBody Try.prog 103 = true := ⟨by kernel_rfl, by kernel_rfl⟩
def b_cmp_Compare_int : AC :=
 (.seq
 (.reg [
 ⟨(some 4), .mv (.val (.int .i64 0)), none, []⟩])
 (.seq
 (.reg [
 ⟨(some 7), .mv (.tmp 0), none, []⟩,
 ⟨(some 8), .callS 128 [(.tmp 7)], none, []⟩,
 ⟨(some 5), .mv (.tmp 8), none, []⟩])
 (.seq
 (.reg [
 ⟨(some 9), .mv (.tmp 1), none, []⟩,
 ⟨(some 10), .callS 128 [(.tmp 9)], none, []⟩,
 ⟨(some 6), .mv (.tmp 10), none, []⟩])
 (.seq
 (.seq
 (.reg [
 ⟨(some 11), .mv (.tmp 5), none, []⟩])
 (.cond (.tmp 11)
 (.seq
 (.seq
 (.reg [
 ⟨(some 12), .mv (.tmp 6), none, []⟩])
 (.cond (.tmp 12)
 (.seq
 (.reg [
 ⟨(some 4), .mv (.val (.int .i64 0)), none, []⟩])
 .ret)
 .skip))
 (.seq
 (.reg [
 ⟨(some 4), .mv (.val (.int .i64 (-1))), none, []⟩])
 .ret))
 .skip))
 (.seq
 (.seq
 (.reg [
 ⟨(some 13), .mv (.tmp 6), none, []⟩])
 (.cond (.tmp 13)
 (.seq
 (.reg [
 ⟨(some 4), .mv (.val (.int .i64 1)), none, []⟩])
 .ret)
 .skip))
 (.seq
 (.seq
 (.reg [
 ⟨(some 14), .mv (.tmp 0), none, []⟩,
 ⟨(some 15), .mv (.tmp 1), none, []⟩,
 ⟨(some 16), .bin .lss (.tmp 14) (.tmp 15), none, []⟩])
 (.cond (.tmp 16)
 (.seq
 (.reg [
 ⟨(some 4), .mv (.val (.int .i64 (-1))), none, []⟩])
 .ret)
 .skip))
 (.seq
 (.seq
 (.reg [
 ⟨(some 17), .mv (.tmp 0), none, []⟩,
 ⟨(some 18), .mv (.tmp 1), none, []⟩,
 ⟨(some 19), .bin .gtr (.tmp 17) (.tmp 18), none, []⟩])
 (.cond (.tmp 19)
 (.seq
 (.reg [
 ⟨(some 4), .mv (.val (.int .i64 1)), none, []⟩])
 .ret)
 .skip))
 (.seq
 (.reg [
 ⟨(some 4), .mv (.val (.int .i64 0)), none, []⟩])
 .ret))))))))
def c_cmp_Compare_int : AF := ⟨b_cmp_Compare_int, 20, [.tmp 4]⟩
theorem p_cmp_Compare_int : prepFunc Try.prog 104 = some c_cmp_Compare_int ∧ hasBody Try.prog 104 = true := ⟨by kernel_rfl, by kernel_rfl⟩
def b_slices_Compare___int_int : AC :=
 (.seq
 (.reg [
 ⟨(some 4), .mv (.val (.int .i64 0)), none, []⟩])
 (.seq
 (.seq
 (.reg [
 ⟨(some 9), .mv (.tmp 0), none, []⟩,
 ⟨(some 10), .len (.tmp 9), none, []⟩,
 ⟨(some 11), .mv (.val (.int .i64 0)), none, []⟩])
 (.block 0
 (.loop
 (.seq
 (.reg [
 ⟨(some 12), .bin .lss (.tmp 11) (.tmp 10), none, []⟩])
 (.seq
 (.cond (.tmp 12)
 .skip
 (.exit 0))
 (.seq
 (.block 1
 (.seq
 (.reg [
 ⟨(some 13), .mv (.tmp 11), none, []⟩,
 ⟨(some 14), .idxA 1 (.tmp 9) (.tmp 11), none, []⟩,
 ⟨(some 15), .ld none (.tmp 14), none, []⟩,
 ⟨(some 5), .mv (.tmp 13), none, []⟩,
 ⟨(some 6), .mv (.tmp 15), none, []⟩])
 (.seq
 (.seq
 (.reg [
 ⟨(some 16), .mv (.tmp 5), none, []⟩,
 ⟨(some 17), .mv (.tmp 1), none, []⟩,
 ⟨(some 18), .len (.tmp 17), none, []⟩,
 ⟨(some 19), .bin .geq (.tmp 16) (.tmp 18), none, []⟩])
 (.cond (.tmp 19)
 (.seq
 (.reg [
 ⟨(some 4), .mv (.val (.int .i64 1)), none, []⟩])
 .ret)
 .skip))
 (.seq
 (.reg [
 ⟨(some 20), .mv (.tmp 1), none, []⟩,
 ⟨(some 21), .mv (.tmp 5), none, []⟩,
 ⟨(some 22), .idxA 1 (.tmp 20) (.tmp 21), none, []⟩,
 ⟨(some 23), .ld none (.tmp 22), none, []⟩,
 ⟨(some 7), .mv (.tmp 23), none, []⟩])
 (.seq
 (.reg [
 ⟨(some 24), .mv (.tmp 6), none, []⟩,
 ⟨(some 25), .mv (.tmp 7), none, []⟩,
 ⟨(some 26), .callS 104 [(.tmp 24), (.tmp 25)], none, []⟩,
 ⟨(some 8), .mv (.tmp 26), none, []⟩])
 (.seq
 (.reg [
 ⟨(some 27), .mv (.tmp 8), none, []⟩,
 ⟨(some 28), .bin .neq (.tmp 27) (.val (.int .i64 0)), none, []⟩])
 (.cond (.tmp 28)
 (.seq
 (.reg [
 ⟨(some 29), .mv (.tmp 8), none, []⟩,
 ⟨(some 4), .mv (.tmp 29), none, []⟩])
 .ret)
 .skip)))))))
 (.reg [
 ⟨(some 30), .bin .add (.tmp 11) (.val (.int .i64 1)), none, []⟩,
 ⟨(some 11), .mv (.tmp 30), none, []⟩])))))))
 (.seq
 (.seq
 (.reg [
 ⟨(some 31), .mv (.tmp 0), none, []⟩,
 ⟨(some 32), .len (.tmp 31), none, []⟩,
 ⟨(some 33), .mv (.tmp 1), none, []⟩,
 ⟨(some 34), .len (.tmp 33), none, []⟩,
 ⟨(some 35), .bin .lss (.tmp 32) (.tmp 34), none, []⟩])
 (.cond (.tmp 35)
 (.seq
 (.reg [
 ⟨(some 4), .mv (.val (.int .i64 (-1))), none, []⟩])
 .ret)
 .skip))
 (.seq
 (.reg [
 ⟨(some 4), .mv (.val (.int .i64 0)), none, []⟩])
 .ret))))
def c_slices_Compare___int_int : AF := ⟨b_slices_Compare___int_int, 36, [.tmp 4]⟩
theorem p_slices_Compare___int_int : prepFunc Try.prog 105 = some c_slices_Compare___int_int ∧ hasBody Try.prog 105 = true := ⟨by kernel_rfl, by kernel_rfl⟩
def b_prefix_Mask : AC :=
 (.seq
 (.reg [
 ⟨(some 4), .mv (.val (.int .i64 0)), none, []⟩])
 (.seq
 (.reg [
 ⟨(some 6), .mv (.tmp 1), none, []⟩,
 ⟨(some 7), .mx (.tmp 6) (.val (.int .i64 0)), none, []⟩,
 ⟨(some 8), .mn (.tmp 7) (.val (.int .i64 32)), none, []⟩,
 ⟨(some 9), .bin .sub (.val (.int .i64 32)) (.tmp 8), none, []⟩,
 ⟨(some 5), .mv (.tmp 9), none, []⟩])
 (.seq
 (.reg [
 ⟨(some 10), .mv (.tmp 0), none, []⟩,
 ⟨(some 11), .bin .and (.tmp 10) (.val (.int .i64 4294967295)), none, []⟩,
 ⟨(some 12), .mv (.tmp 5), none, []⟩,
 ⟨(some 13), .bin .shr (.tmp 11) (.tmp 12), none, []⟩,
 ⟨(some 14), .mv (.tmp 5), none, []⟩,
 ⟨(some 15), .bin .shl (.tmp 13) (.tmp 14), none, []⟩,
 ⟨(some 4), .mv (.tmp 15), none, []⟩])
 .ret)))
def c_prefix_Mask : AF := ⟨b_prefix_Mask, 16, [.tmp 4]⟩
theorem p_prefix_Mask : prepFunc Try.prog 120 = some c_prefix_Mask ∧ hasBody Try.prog 120 = true := ⟨by kernel_rfl, by kernel_rfl⟩
def b_slices_Contains___api_Prefix_api_Prefix : AC :=
 (.seq
 (.reg [
 ⟨(some 3), .box 27 2 (.tmp 1), none, []⟩,
 ⟨(some 4), .mv (.val (.bool false)), none, []⟩])
 (.seq
 (.reg [
 ⟨(some 5), .mv (.tmp 0), none, []⟩,
 ⟨(some 6), .ld (some 2) (.tmp 3), none, []⟩,
 ⟨(some 7), .callS 138 [(.tmp 5), (.tmp 6)], none, []⟩,
 ⟨(some 8), .bin .geq (.tmp 7) (.val (.int .i64 0)), none, []⟩,
 ⟨(some 4), .mv (.tmp 8), none, []⟩])
 .ret))
def c_slices_Contains___api_Prefix_api_Prefix : AF := ⟨b_slices_Contains___api_Prefix_api_Prefix, 9, [.tmp 4]⟩
theorem p_slices_Contains___api_Prefix_api_Prefix : prepFunc Try.prog 123 = some c_slices_Contains___api_Prefix_api_Prefix ∧ hasBody Try.prog 123 = true := ⟨by kernel_rfl, by kernel_rfl⟩
def b_conf_taken : AC :=
 (.seq
 (.reg [
 ⟨(some 5), .box 3 1 (.tmp 2), none, []⟩,
 ⟨(some 6), .mv (.val (.bool false)), none, []⟩])
 (.seq
 (.reg [
 ⟨(some 7), .ld none (.tmp 5), none, []⟩,
 ⟨(some 8), .mv (.tmp 0), none, []⟩,
 ⟨(some 9), .bin .eql (.tmp 7) (.tmp 8), none, []⟩,
 ⟨(some 10), .mv (.tmp 9), none, []⟩,
 ⟨(some 11), .mv (.tmp 1), some (10, false), []⟩,
 ⟨(some 12), .mkclo 140 [(.tmp 5)], some (10, false), []⟩,
 ⟨(some 13), .callS 139 [(.tmp 11), (.tmp 12)], some (10, false), []⟩,
 ⟨(some 14), .pick (.tmp 10) (.val (.bool true)) (.tmp 13), none, []⟩,
 ⟨(some 6), .mv (.tmp 14), none, []⟩])
 .ret))
def c_conf_taken : AF := ⟨b_conf_taken, 15, [.tmp 6]⟩
theorem p_conf_taken : prepFunc Try.prog 124 = some c_conf_taken ∧ hasBody Try.prog 124 = true := ⟨by kernel_rfl, by kernel_rfl⟩
def b_conf_saneRules : AC :=
 (.seq
 (.reg [
 ⟨(some 4), .mv (.val (.bool false)), none, []⟩])
 (.seq
 (.seq
 (.reg [
 ⟨(some 7), .mv (.tmp 0), none, []⟩,
 ⟨(some 8), .len (.tmp 7), none, []⟩,
 ⟨(some 9), .bin .gtr (.tmp 8) (.val (.int .i64 8)), none, []⟩])
 (.cond (.tmp 9)
 (.seq
 (.reg [
 ⟨(some 4), .mv (.val (.bool false)), none, []⟩])
 .ret)
 .skip))
 (.seq
 (.seq
 (.reg [
 ⟨(some 10), .mv (.tmp 0), none, []⟩,
 ⟨(some 11), .len (.tmp 10), none, []⟩,
 ⟨(some 12), .mv (.val (.int .i64 0)), none, []⟩])
 (.block 0
 (.loop
 (.seq
 (.reg [
 ⟨(some 13), .bin .lss (.tmp 12) (.tmp 11), none, []⟩])
 (.seq
 (.cond (.tmp 13)
 .skip
 (.exit 0))
 (.seq
 (.block 1
 (.seq
 (.reg [
 ⟨(some 14), .idxA 6 (.tmp 10) (.tmp 12), none, []⟩,
 ⟨(some 15), .ld (some 6) (.tmp 14), none, []⟩,
 ⟨(some 6), .box 52 6 (.val (.agg [(.int .i64 0), (.int .i64 0), (.int .i64 0), (.int .i64 0), (.int .i64 0), (.int .i64 0)])), none, []⟩,
 ⟨none, .st 6 (.tmp 6) (.tmp 15), none, []⟩])
 (.seq
 (.reg [
 ⟨(some 16), .ld (some 6) (.tmp 6), none, []⟩,
 ⟨(some 17), .mv (.tmp 1), none, []⟩,
 ⟨(some 18), .callS 141 [(.tmp 16), (.tmp 17)], none, []⟩,
 ⟨(some 19), .un .not (.tmp 18), none, []⟩])
 (.cond (.tmp 19)
 (.seq
 (.reg [
 ⟨(some 4), .mv (.val (.bool false)), none, []⟩])
 .ret)
 .skip))))
 (.reg [
 ⟨(some 20), .bin .add (.tmp 12) (.val (.int .i64 1)), none, []⟩,
 ⟨(some 12), .mv (.tmp 20), none, []⟩])))))))
 (.seq
 (.reg [
 ⟨(some 4), .mv (.val (.bool true)), none, []⟩])
 .ret))))
def c_conf_saneRules : AF := ⟨b_conf_saneRules, 21, [.tmp 4]⟩
theorem p_conf_saneRules : prepFunc Try.prog 125 = some c_conf_saneRules ∧ hasBody Try.prog 125 = true := ⟨by kernel_rfl, by kernel_rfl⟩
def b_policy_fits : AC :=
 (.seq
 (.reg [
 ⟨(some 0), .box 132 5 (.val (.agg [.nilFn, .nilFn, .nilFn, .nilFn, .nilFn])), none, []⟩])
 (.seq
 (.reg [
 ⟨(some 1), .bld [.nilFn, .nilFn, .nilFn, .nilFn, .nilFn] [(0, 1, (.val (.fn 142 []))), (1, 1, (.val (.fn 143 []))), (2, 1, (.val (.fn 145 []))), (3, 1, (.val (.fn 146 []))), (4, 1, (.val (.fn 147 [])))], none, []⟩,
 ⟨none, .st 5 (.tmp 0) (.tmp 1), none, []⟩])
 .ret))
def c_policy_fits : AF := ⟨b_policy_fits, 2, [.cell 0 (some 5)]⟩
theorem p_policy_fits : prepFunc Try.prog 126 = some c_policy_fits ∧ hasBody Try.prog 126 = true := ⟨by kernel_rfl, by kernel_rfl⟩
def b_math_bits_Mul : AC :=
 (.seq
 (.reg [
 ⟨(some 4), .mv (.val (.int .u64 0)), none, []⟩,
 ⟨(some 5), .mv (.val (.int .u64 0)), none, []⟩])
 (.seq
 (.cond (.val (.bool false))
 (.seq
 (.reg [
 ⟨(some 11), .mv (.tmp 0), none, []⟩,
 ⟨(some 12), .conv .u32 (.tmp 11), none, []⟩,
 ⟨(some 13), .mv (.tmp 1), none, []⟩,
 ⟨(some 14), .conv .u32 (.tmp 13), none, []⟩,
 ⟨(some 15), .callS 148 [(.tmp 12), (.tmp 14)], none, []⟩,
 ⟨(some 10), .mv (.tmp 15), none, []⟩,
 ⟨(some 16), .ext (.tmp 10) 0, none, []⟩,
 ⟨(some 17), .ext (.tmp 10) 1, none, []⟩,
 ⟨(some 6), .mv (.tmp 16), none, []⟩,
 ⟨(some 7), .mv (.tmp 17), none, []⟩])
 (.seq
 (.reg [
 ⟨(some 18), .mv (.tmp 6), none, []⟩,
 ⟨(some 19), .conv .u64 (.tmp 18), none, []⟩,
 ⟨(some 20), .mv (.tmp 7), none, []⟩,
 ⟨(some 21), .conv .u64 (.tmp 20), none, []⟩,
 ⟨(some 4), .mv (.tmp 19), none, []⟩,
 ⟨(some 5), .mv (.tmp 21), none, []⟩])
 .ret))
 .skip)
 (.seq
 (.reg [
 ⟨(some 23), .mv (.tmp 0), none, []⟩,
 ⟨(some 24), .mv (.tmp 1), none, []⟩,
 ⟨(some 25), .callS 149 [(.tmp 23), (.tmp 24)], none, []⟩,
 ⟨(some 22), .mv (.tmp 25), none, []⟩,
 ⟨(some 26), .ext (.tmp 22) 0, none, []⟩,
 ⟨(some 27), .ext (.tmp 22) 1, none, []⟩,
 ⟨(some 8), .mv (.tmp 26), none, []⟩,
 ⟨(some 9), .mv (.tmp 27), none, []⟩])
 (.seq
 (.reg [
 ⟨(some 28), .mv (.tmp 8), none, []⟩,
 ⟨(some 29), .mv (.tmp 9), none, []⟩,
 ⟨(some 4), .mv (.tmp 28), none, []⟩,
 ⟨(some 5), .mv (.tmp 29), none, []⟩])
 .ret))))
def c_math_bits_Mul : AF := ⟨b_math_bits_Mul, 30, [.tmp 4, .tmp 5]⟩
theorem p_math_bits_Mul : prepFunc Try.prog 127 = some c_math_bits_Mul ∧ hasBody Try.prog 127 = true := ⟨by kernel_rfl, by kernel_rfl⟩
def b_cmp_isNaN_int : AC :=
 (.seq
 (.reg [
 ⟨(some 2), .mv (.val (.bool false)), none, []⟩])
 (.seq
 (.reg [
 ⟨(some 3), .mv (.tmp 0), none, []⟩,
 ⟨(some 4), .mv (.tmp 0), none, []⟩,
 ⟨(some 5), .bin .neq (.tmp 3) (.tmp 4), none, []⟩,
 ⟨(some 2), .mv (.tmp 5), none, []⟩])
 .ret))
def c_cmp_isNaN_int : AF := ⟨b_cmp_isNaN_int, 6, [.tmp 2]⟩
theorem p_cmp_isNaN_int : prepFunc Try.prog 128 = some c_cmp_isNaN_int ∧ hasBody Try.prog 128 = true := ⟨by kernel_rfl, by kernel_rfl⟩
def b_slices_Index___api_Prefix_api_Prefix : AC :=
 (.seq
 (.reg [
 ⟨(some 3), .box 27 2 (.tmp 1), none, []⟩,
 ⟨(some 4), .mv (.val (.int .i64 0)), none, []⟩])
 (.seq
 (.seq
 (.reg [
 ⟨(some 6), .mv (.tmp 0), none, []⟩,
 ⟨(some 7), .len (.tmp 6), none, []⟩,
 ⟨(some 8), .mv (.val (.int .i64 0)), none, []⟩])
 (.block 0
 (.loop
 (.seq
 (.reg [
 ⟨(some 9), .bin .lss (.tmp 8) (.tmp 7), none, []⟩])
 (.seq
 (.cond (.tmp 9)
 .skip
 (.exit 0))
 (.seq
 (.block 1
 (.seq
 (.reg [
 ⟨(some 10), .mv (.tmp 8), none, []⟩,
 ⟨(some 5), .mv (.tmp 10), none, []⟩])
 (.seq
 (.reg [
 ⟨(some 11), .ld (some 2) (.tmp 3), none, []⟩,
 ⟨(some 12), .mv (.tmp 0), none, []⟩,
 ⟨(some 13), .mv (.tmp 5), none, []⟩,
 ⟨(some 14), .idxA 2 (.tmp 12) (.tmp 13), none, []⟩,
 ⟨(some 15), .ld (some 2) (.tmp 14), none, []⟩,
 ⟨(some 16), .eqA false 2 [(0, 0), (1, 0)] (.tmp 11) (.tmp 15), none, []⟩])
 (.cond (.tmp 16)
 (.seq
 (.reg [
 ⟨(some 17), .mv (.tmp 5), none, []⟩,
 ⟨(some 4), .mv (.tmp 17), none, []⟩])
 .ret)
 .skip))))
 (.reg [
 ⟨(some 18), .bin .add (.tmp 8) (.val (.int .i64 1)), none, []⟩,
 ⟨(some 8), .mv (.tmp 18), none, []⟩])))))))
 (.seq
 (.reg [
 ⟨(some 4), .mv (.val (.int .i64 (-1))), none, []⟩])
 .ret)))
def c_slices_Index___api_Prefix_api_Prefix : AF := ⟨b_slices_Index___api_Prefix_api_Prefix, 19, [.tmp 4]⟩
theorem p_slices_Index___api_Prefix_api_Prefix : prepFunc Try.prog 138 = some c_slices_Index___api_Prefix_api_Prefix ∧ hasBody Try.prog 138 = true := ⟨by kernel_rfl, by kernel_rfl⟩
def b_slices_ContainsFunc___api_Side_api_Side : AC :=
 (.seq
 (.reg [
 ⟨(some 4), .mv (.val (.bool false)), none, []⟩])
 (.seq
 (.reg [
 ⟨(some 5), .mv (.tmp 0), none, []⟩,
 ⟨(some 6), .mv (.tmp 1), none, []⟩,
 ⟨(some 7), .callS 69 [(.tmp 5), (.tmp 6)], none, []⟩,
 ⟨(some 8), .bin .geq (.tmp 7) (.val (.int .i64 0)), none, []⟩,
 ⟨(some 4), .mv (.tmp 8), none, []⟩])
 .ret))
def c_slices_ContainsFunc___api_Side_api_Side : AF := ⟨b_slices_ContainsFunc___api_Side_api_Side, 9, [.tmp 4]⟩
theorem p_slices_ContainsFunc___api_Side_api_Side : prepFunc Try.prog 139 = some c_slices_ContainsFunc___api_Side_api_Side ∧ hasBody Try.prog 139 = true := ⟨by kernel_rfl, by kernel_rfl⟩
def b_conf_taken_1 : AC :=
 (.seq
 (.reg [
 ⟨(some 2), .box 50 4 (.tmp 0), none, []⟩,
 ⟨(some 3), .mv (.val (.bool false)), none, []⟩])
 (.seq
 (.reg [
 ⟨(some 4), .off 0 (.tmp 2), none, []⟩,
 ⟨(some 5), .ld none (.tmp 4), none, []⟩,
 ⟨(some 6), .ld none (.tmp 1), none, []⟩,
 ⟨(some 7), .bin .eql (.tmp 5) (.tmp 6), none, []⟩,
 ⟨(some 3), .mv (.tmp 7), none, []⟩])
 .ret))
def c_conf_taken_1 : AF := ⟨b_conf_taken_1, 8, [.tmp 3]⟩
theorem p_conf_taken_1 : prepFunc Try.prog 140 = some c_conf_taken_1 ∧ hasBody Try.prog 140 = true := ⟨by kernel_rfl, by kernel_rfl⟩
def b_policy_Sane : AC :=
 (.seq
 (.reg [
 ⟨(some 2), .box 52 6 (.tmp 0), none, []⟩,
 ⟨(some 4), .mv (.val (.bool false)), none, []⟩])
 (.seq
 (.reg [
 ⟨(some 5), .ld (some 6) (.tmp 2), none, []⟩,
 ⟨(some 6), .mv (.tmp 1), none, []⟩,
 ⟨(some 7), .callS 153 [(.tmp 5), (.tmp 6)], none, []⟩,
 ⟨(some 8), .mv (.tmp 7), none, []⟩,
 ⟨(some 9), .ld (some 6) (.tmp 2), some (8, true), []⟩,
 ⟨(some 10), .mv (.tmp 1), some (8, true), []⟩,
 ⟨(some 11), .callS 154 [(.tmp 9), (.tmp 10)], some (8, true), []⟩,
 ⟨(some 12), .pick (.tmp 8) (.tmp 11) (.val (.bool false)), none, []⟩,
 ⟨(some 4), .mv (.tmp 12), none, []⟩])
 .ret))
def c_policy_Sane : AF := ⟨b_policy_Sane, 13, [.tmp 4]⟩
theorem p_policy_Sane : prepFunc Try.prog 141 = some c_policy_Sane ∧ hasBody Try.prog 141 = true := ⟨by kernel_rfl, by kernel_rfl⟩
def b_policy_fits_1 : AC :=
 (.seq
 (.reg [
 ⟨(some 2), .box 52 6 (.tmp 0), none, []⟩,
 ⟨(some 3), .box 82 4 (.tmp 1), none, []⟩,
 ⟨(some 4), .mv (.val (.bool false)), none, []⟩])
 (.seq
 (.reg [
 ⟨(some 4), .mv (.val (.bool true)), none, []⟩])
 .ret))
def c_policy_fits_1 : AF := ⟨b_policy_fits_1, 5, [.tmp 4]⟩
theorem p_policy_fits_1 : prepFunc Try.prog 142 = some c_policy_fits_1 ∧ hasBody Try.prog 142 = true := ⟨by kernel_rfl, by kernel_rfl⟩
def b_policy_fits_2 : AC :=
 (.seq
 (.reg [
 ⟨(some 2), .box 52 6 (.tmp 0), none, []⟩,
 ⟨(some 3), .box 82 4 (.tmp 1), none, []⟩,
 ⟨(some 4), .mv (.val (.bool false)), none, []⟩])
 (.seq
 (.reg [
 ⟨(some 5), .off 1 (.tmp 2), none, []⟩,
 ⟨(some 6), .ld (some 2) (.tmp 5), none, []⟩,
 ⟨(some 7), .off 0 (.tmp 3), none, []⟩,
 ⟨(some 8), .ld (some 2) (.tmp 7), none, []⟩,
 ⟨(some 9), .callS 144 [(.tmp 6), (.tmp 8)], none, []⟩,
 ⟨(some 4), .mv (.tmp 9), none, []⟩])
 .ret))
def c_policy_fits_2 : AF := ⟨b_policy_fits_2, 10, [.tmp 4]⟩
theorem p_policy_fits_2 : prepFunc Try.prog 143 = some c_policy_fits_2 ∧ hasBody Try.prog 143 = true := ⟨by kernel_rfl, by kernel_rfl⟩
def b_prefix_Has : AC :=
 (.seq
 (.reg [
 ⟨(some 2), .box 27 2 (.tmp 0), none, []⟩,
 ⟨(some 3), .box 27 2 (.tmp 1), none, []⟩,
 ⟨(some 4), .mv (.val (.bool false)), none, []⟩])
 (.seq
 (.reg [
 ⟨(some 5), .ld (some 2) (.tmp 2), none, []⟩,
 ⟨(some 6), .call 87 [(.tmp 5)], none, []⟩,
 ⟨(some 7), .mv (.tmp 6), none, []⟩,
 ⟨(some 8), .ld (some 2) (.tmp 3), some (7, true), []⟩,
 ⟨(some 9), .call 87 [(.tmp 8)], some (7, true), []⟩,
 ⟨(some 10), .pick (.tmp 7) (.tmp 9) (.val (.bool false)), none, []⟩,
 ⟨(some 11), .mv (.tmp 10), none, []⟩,
 ⟨(some 12), .off 1 (.tmp 3), some (11, true), []⟩,
 ⟨(some 13), .ld none (.tmp 12), some (11, true), []⟩,
 ⟨(some 14), .off 1 (.tmp 2), some (11, true), []⟩,
 ⟨(some 15), .ld none (.tmp 14), some (11, true), []⟩,
 ⟨(some 16), .bin .geq (.tmp 13) (.tmp 15), some (11, true), []⟩,
 ⟨(some 17), .pick (.tmp 11) (.tmp 16) (.val (.bool false)), none, []⟩,
 ⟨(some 18), .mv (.tmp 17), none, []⟩,
 ⟨(some 19), .off 0 (.tmp 3), some (18, true), []⟩,
 ⟨(some 20), .ld none (.tmp 19), some (18, true), []⟩,
 ⟨(some 21), .off 1 (.tmp 2), some (18, true), []⟩,
 ⟨(some 22), .ld none (.tmp 21), some (18, true), []⟩,
 ⟨(some 23), .call 120 [(.tmp 20), (.tmp 22)], some (18, true), []⟩,
 ⟨(some 24), .off 0 (.tmp 2), some (18, true), []⟩,
 ⟨(some 25), .ld none (.tmp 24), some (18, true), []⟩,
 ⟨(some 26), .bin .eql (.tmp 23) (.tmp 25), some (18, true), []⟩,
 ⟨(some 27), .pick (.tmp 18) (.tmp 26) (.val (.bool false)), none, []⟩,
 ⟨(some 4), .mv (.tmp 27), none, []⟩])
 .ret))
def c_prefix_Has : AF := ⟨b_prefix_Has, 28, [.tmp 4]⟩
theorem p_prefix_Has : prepFunc Try.prog 144 = some c_prefix_Has ∧ hasBody Try.prog 144 = true := ⟨by kernel_rfl, by kernel_rfl⟩
def b_policy_fits_3 : AC :=
 (.seq
 (.reg [
 ⟨(some 2), .box 52 6 (.tmp 0), none, []⟩,
 ⟨(some 3), .box 82 4 (.tmp 1), none, []⟩,
 ⟨(some 4), .mv (.val (.bool false)), none, []⟩])
 (.seq
 (.reg [
 ⟨(some 5), .off 2 (.tmp 3), none, []⟩,
 ⟨(some 6), .ld none (.tmp 5), none, []⟩,
 ⟨(some 7), .off 3 (.tmp 2), none, []⟩,
 ⟨(some 8), .ld none (.tmp 7), none, []⟩,
 ⟨(some 9), .callS 47 [(.tmp 6), (.tmp 8)], none, []⟩,
 ⟨(some 4), .mv (.tmp 9), none, []⟩])
 .ret))
def c_policy_fits_3 : AF := ⟨b_policy_fits_3, 10, [.tmp 4]⟩
theorem p_policy_fits_3 : prepFunc Try.prog 145 = some c_policy_fits_3 ∧ hasBody Try.prog 145 = true := ⟨by kernel_rfl, by kernel_rfl⟩
def b_policy_fits_4 : AC :=
 (.seq
 (.reg [
 ⟨(some 2), .box 52 6 (.tmp 0), none, []⟩,
 ⟨(some 3), .box 82 4 (.tmp 1), none, []⟩,
 ⟨(some 4), .mv (.val (.bool false)), none, []⟩])
 (.seq
 (.reg [
 ⟨(some 5), .off 2 (.tmp 3), none, []⟩,
 ⟨(some 6), .ld none (.tmp 5), none, []⟩,
 ⟨(some 7), .len (.tmp 6), none, []⟩,
 ⟨(some 8), .off 3 (.tmp 2), none, []⟩,
 ⟨(some 9), .ld none (.tmp 8), none, []⟩,
 ⟨(some 10), .bin .gtr (.tmp 7) (.tmp 9), none, []⟩,
 ⟨(some 4), .mv (.tmp 10), none, []⟩])
 .ret))
def c_policy_fits_4 : AF := ⟨b_policy_fits_4, 11, [.tmp 4]⟩
theorem p_policy_fits_4 : prepFunc Try.prog 146 = some c_policy_fits_4 ∧ hasBody Try.prog 146 = true := ⟨by kernel_rfl, by kernel_rfl⟩
def b_policy_fits_5 : AC :=
 (.seq
 (.reg [
 ⟨(some 2), .box 52 6 (.tmp 0), none, []⟩,
 ⟨(some 3), .box 82 4 (.tmp 1), none, []⟩,
 ⟨(some 4), .mv (.val (.bool false)), none, []⟩])
 (.seq
 (.reg [
 ⟨(some 5), .off 3 (.tmp 3), none, []⟩,
 ⟨(some 6), .ld none (.tmp 5), none, []⟩,
 ⟨(some 7), .off 3 (.tmp 2), none, []⟩,
 ⟨(some 8), .ld none (.tmp 7), none, []⟩,
 ⟨(some 9), .bin .eql (.tmp 6) (.tmp 8), none, []⟩,
 ⟨(some 4), .mv (.tmp 9), none, []⟩])
 .ret))
def c_policy_fits_5 : AF := ⟨b_policy_fits_5, 10, [.tmp 4]⟩
theorem p_policy_fits_5 : prepFunc Try.prog 147 = some c_policy_fits_5 ∧ hasBody Try.prog 147 = true := ⟨by kernel_rfl, by kernel_rfl⟩
def b_math_bits_Mul32 : AC :=
 (.seq
 (.reg [
 ⟨(some 4), .mv (.val (.int .u32 0)), none, []⟩,
 ⟨(some 5), .mv (.val (.int .u32 0)), none, []⟩])
 (.seq
 (.reg [
 ⟨(some 7), .mv (.tmp 0), none, []⟩,
 ⟨(some 8), .conv .u64 (.tmp 7), none, []⟩,
 ⟨(some 9), .mv (.tmp 1), none, []⟩,
 ⟨(some 10), .conv .u64 (.tmp 9), none, []⟩,
 ⟨(some 11), .bin .mul (.tmp 8) (.tmp 10), none, []⟩,
 ⟨(some 6), .mv (.tmp 11), none, []⟩])
 (.seq
 (.reg [
 ⟨(some 12), .mv (.tmp 6), none, []⟩,
 ⟨(some 13), .bin .shr (.tmp 12) (.val (.int .u64 32)), none, []⟩,
 ⟨(some 14), .conv .u32 (.tmp 13), none, []⟩,
 ⟨(some 15), .mv (.tmp 6), none, []⟩,
 ⟨(some 16), .conv .u32 (.tmp 15), none, []⟩,
 ⟨(some 4), .mv (.tmp 14), none, []⟩,
 ⟨(some 5), .mv (.tmp 16), none, []⟩])
 .ret)))
def c_math_bits_Mul32 : AF := ⟨b_math_bits_Mul32, 17, [.tmp 4, .tmp 5]⟩
theorem p_math_bits_Mul32 : prepFunc Try.prog 148 = some c_math_bits_Mul32 ∧ hasBody Try.prog 148 = true := ⟨by kernel_rfl, by kernel_rfl⟩
def b_math_bits_Mul64 : AC :=
 (.seq
 (.reg [
 ⟨(some 4), .mv (.val (.int .u64 0)), none, []⟩,
 ⟨(some 5), .mv (.val (.int .u64 0)), none, []⟩])
 (.seq
 (.reg [
 ⟨(some 14), .mv (.tmp 0), none, []⟩,
 ⟨(some 15), .bin .and (.tmp 14) (.val (.int .u64 4294967295)), none, []⟩,
 ⟨(some 6), .mv (.tmp 15), none, []⟩])
 (.seq
 (.reg [
 ⟨(some 16), .mv (.tmp 0), none, []⟩,
 ⟨(some 17), .bin .shr (.tmp 16) (.val (.int .u64 32)), none, []⟩,
 ⟨(some 7), .mv (.tmp 17), none, []⟩])
 (.seq
 (.reg [
 ⟨(some 18), .mv (.tmp 1), none, []⟩,
 ⟨(some 19), .bin .and (.tmp 18) (.val (.int .u64 4294967295)), none, []⟩,
 ⟨(some 8), .mv (.tmp 19), none, []⟩])
 (.seq
 (.reg [
 ⟨(some 20), .mv (.tmp 1), none, []⟩,
 ⟨(some 21), .bin .shr (.tmp 20) (.val (.int .u64 32)), none, []⟩,
 ⟨(some 9), .mv (.tmp 21), none, []⟩])
 (.seq
 (.reg [
 ⟨(some 22), .mv (.tmp 6), none, []⟩,
 ⟨(some 23), .mv (.tmp 8), none, []⟩,
 ⟨(some 24), .bin .mul (.tmp 22) (.tmp 23), none, []⟩,
 ⟨(some 10), .mv (.tmp 24), none, []⟩])
 (.seq
 (.reg [
 ⟨(some 25), .mv (.tmp 7), none, []⟩,
 ⟨(some 26), .mv (.tmp 8), none, []⟩,
 ⟨(some 27), .bin .mul (.tmp 25) (.tmp 26), none, []⟩,
 ⟨(some 28), .mv (.tmp 10), none, []⟩,
 ⟨(some 29), .bin .shr (.tmp 28) (.val (.int .u64 32)), none, []⟩,
 ⟨(some 30), .bin .add (.tmp 27) (.tmp 29), none, []⟩,
 ⟨(some 11), .mv (.tmp 30), none, []⟩])
 (.seq
 (.reg [
 ⟨(some 31), .mv (.tmp 11), none, []⟩,
 ⟨(some 32), .bin .and (.tmp 31) (.val (.int .u64 4294967295)), none, []⟩,
 ⟨(some 12), .mv (.tmp 32), none, []⟩])
 (.seq
 (.reg [
 ⟨(some 33), .mv (.tmp 11), none, []⟩,
 ⟨(some 34), .bin .shr (.tmp 33) (.val (.int .u64 32)), none, []⟩,
 ⟨(some 13), .mv (.tmp 34), none, []⟩])
 (.seq
 (.reg [
 ⟨(some 35), .mv (.tmp 12), none, []⟩,
 ⟨(some 36), .mv (.tmp 6), none, []⟩,
 ⟨(some 37), .mv (.tmp 9), none, []⟩,
 ⟨(some 38), .bin .mul (.tmp 36) (.tmp 37), none, []⟩,
 ⟨(some 39), .bin .add (.tmp 35) (.tmp 38), none, []⟩,
 ⟨(some 12), .mv (.tmp 39), none, []⟩])
 (.seq
 (.reg [
 ⟨(some 40), .mv (.tmp 7), none, []⟩,
 ⟨(some 41), .mv (.tmp 9), none, []⟩,
 ⟨(some 42), .bin .mul (.tmp 40) (.tmp 41), none, []⟩,
 ⟨(some 43), .mv (.tmp 13), none, []⟩,
 ⟨(some 44), .bin .add (.tmp 42) (.tmp 43), none, []⟩,
 ⟨(some 45), .mv (.tmp 12), none, []⟩,
 ⟨(some 46), .bin .shr (.tmp 45) (.val (.int .u64 32)), none, []⟩,
 ⟨(some 47), .bin .add (.tmp 44) (.tmp 46), none, []⟩,
 ⟨(some 4), .mv (.tmp 47), none, []⟩])
 (.seq
 (.reg [
 ⟨(some 48), .mv (.tmp 0), none, []⟩,
 ⟨(some 49), .mv (.tmp 1), none, []⟩,
 ⟨(some 50), .bin .mul (.tmp 48) (.tmp 49), none, []⟩,
 ⟨(some 5), .mv (.tmp 50), none, []⟩])
 .ret))))))))))))
def c_math_bits_Mul64 : AF := ⟨b_math_bits_Mul64, 51, [.tmp 4, .tmp 5]⟩
theorem p_math_bits_Mul64 : prepFunc Try.prog 149 = some c_math_bits_Mul64 ∧ hasBody Try.prog 149 = true := ⟨by kernel_rfl, by kernel_rfl⟩
def b_policy_saneMatch : AC :=
 (.seq
 (.reg [
 ⟨(some 2), .box 52 6 (.tmp 0), none, []⟩,
 ⟨(some 4), .mv (.val (.bool false)), none, []⟩])
 (.seq
 (.seq
 (.reg [
 ⟨(some 5), .off 0 (.tmp 2), none, []⟩,
 ⟨(some 6), .ld none (.tmp 5), none, []⟩,
 ⟨(some 7), .bin .eql (.tmp 6) (.val (.int .i64 1)), none, []⟩])
 (.cond (.tmp 7)
 (.seq
 (.reg [
 ⟨(some 8), .off 1 (.tmp 2), none, []⟩,
 ⟨(some 9), .ld (some 2) (.tmp 8), none, []⟩,
 ⟨(some 10), .callS 87 [(.tmp 9)], none, []⟩,
 ⟨(some 11), .mv (.tmp 10), none, []⟩,
 ⟨(some 12), .off 3 (.tmp 2), some (11, true), []⟩,
 ⟨(some 13), .ld none (.tmp 12), some (11, true), []⟩,
 ⟨(some 14), .bin .eql (.tmp 13) (.val (.int .i64 0)), some (11, true), []⟩,
 ⟨(some 15), .pick (.tmp 11) (.tmp 14) (.val (.bool false)), none, []⟩,
 ⟨(some 4), .mv (.tmp 15), none, []⟩])
 .ret)
 .skip))
 (.seq
 (.seq
 (.reg [
 ⟨(some 16), .off 1 (.tmp 2), none, []⟩,
 ⟨(some 17), .ld (some 2) (.tmp 16), none, []⟩,
 ⟨(some 18), .bld [(.int .i64 0), (.int .i64 0)] [], none, []⟩,
 ⟨(some 19), .eqA true 2 [(0, 0), (1, 0)] (.tmp 17) (.tmp 18), none, []⟩])
 (.cond (.tmp 19)
 (.seq
 (.reg [
 ⟨(some 4), .mv (.val (.bool false)), none, []⟩])
 .ret)
 .skip))
 (.seq
 (.seq
 (.reg [
 ⟨(some 20), .off 0 (.tmp 2), none, []⟩,
 ⟨(some 21), .ld none (.tmp 20), none, []⟩])
 (.block 0
 (.seq
 (.reg [
 ⟨(some 23), .bin .eql (.tmp 21) (.val (.int .i64 0)), none, []⟩,
 ⟨(some 22), .mv (.tmp 23), none, []⟩])
 (.cond (.tmp 22)
 (.seq
 (.reg [
 ⟨(some 24), .off 3 (.tmp 2), none, []⟩,
 ⟨(some 25), .ld none (.tmp 24), none, []⟩,
 ⟨(some 26), .bin .eql (.tmp 25) (.val (.int .i64 0)), none, []⟩,
 ⟨(some 4), .mv (.tmp 26), none, []⟩])
 .ret)
 (.seq
 (.reg [
 ⟨(some 28), .bin .eql (.tmp 21) (.val (.int .i64 2)), none, []⟩,
 ⟨(some 27), .mv (.tmp 28), none, []⟩])
 (.cond (.tmp 27)
 (.seq
 (.reg [
 ⟨(some 29), .off 3 (.tmp 2), none, []⟩,
 ⟨(some 30), .ld none (.tmp 29), none, []⟩,
 ⟨(some 31), .bin .geq (.tmp 30) (.val (.int .i64 1)), none, []⟩,
 ⟨(some 32), .mv (.tmp 31), none, []⟩,
 ⟨(some 33), .off 3 (.tmp 2), some (32, true), []⟩,
 ⟨(some 34), .ld none (.tmp 33), some (32, true), []⟩,
 ⟨(some 35), .bin .leq (.tmp 34) (.val (.int .i64 4294967295)), some (32, true), []⟩,
 ⟨(some 36), .pick (.tmp 32) (.tmp 35) (.val (.bool false)), none, []⟩,
 ⟨(some 4), .mv (.tmp 36), none, []⟩])
 .ret)
 (.seq
 (.reg [
 ⟨(some 38), .bin .eql (.tmp 21) (.val (.int .i64 3)), none, []⟩,
 ⟨(some 37), .mv (.tmp 38), none, []⟩])
 (.cond (.tmp 37)
 (.seq
 (.reg [
 ⟨(some 39), .off 3 (.tmp 2), none, []⟩,
 ⟨(some 40), .ld none (.tmp 39), none, []⟩,
 ⟨(some 41), .bin .geq (.tmp 40) (.val (.int .i64 0)), none, []⟩,
 ⟨(some 42), .mv (.tmp 41), none, []⟩,
 ⟨(some 43), .off 3 (.tmp 2), some (42, true), []⟩,
 ⟨(some 44), .ld none (.tmp 43), some (42, true), []⟩,
 ⟨(some 45), .bin .leq (.tmp 44) (.val (.int .i64 32)), some (42, true), []⟩,
 ⟨(some 46), .pick (.tmp 42) (.tmp 45) (.val (.bool false)), none, []⟩,
 ⟨(some 4), .mv (.tmp 46), none, []⟩])
 .ret)
 (.seq
 (.reg [
 ⟨(some 48), .bin .eql (.tmp 21) (.val (.int .i64 4)), none, []⟩,
 ⟨(some 47), .mv (.tmp 48), none, []⟩])
 (.cond (.tmp 47)
 (.seq
 (.reg [
 ⟨(some 49), .mv (.tmp 1), none, []⟩,
 ⟨(some 50), .un .not (.tmp 49), none, []⟩,
 ⟨(some 51), .mv (.tmp 50), none, []⟩,
 ⟨(some 52), .off 3 (.tmp 2), some (51, true), []⟩,
 ⟨(some 53), .ld none (.tmp 52), some (51, true), []⟩,
 ⟨(some 54), .bin .geq (.tmp 53) (.val (.int .i64 0)), some (51, true), []⟩,
 ⟨(some 55), .pick (.tmp 51) (.tmp 54) (.val (.bool false)), none, []⟩,
 ⟨(some 56), .mv (.tmp 55), none, []⟩,
 ⟨(some 57), .off 3 (.tmp 2), some (56, true), []⟩,
 ⟨(some 58), .ld none (.tmp 57), some (56, true), []⟩,
 ⟨(some 59), .bin .leq (.tmp 58) (.val (.int .i64 3)), some (56, true), []⟩,
 ⟨(some 60), .pick (.tmp 56) (.tmp 59) (.val (.bool false)), none, []⟩,
 ⟨(some 4), .mv (.tmp 60), none, []⟩])
 .ret)
 .skip))))))))))
 (.seq
 (.reg [
 ⟨(some 4), .mv (.val (.bool false)), none, []⟩])
 .ret)))))
def c_policy_saneMatch : AF := ⟨b_policy_saneMatch, 61, [.tmp 4]⟩
theorem p_policy_saneMatch : prepFunc Try.prog 153 = some c_policy_saneMatch ∧ hasBody Try.prog 153 = true := ⟨by kernel_rfl, by kernel_rfl⟩
def b_policy_saneAct : AC :=
 (.seq
 (.reg [
 ⟨(some 2), .box 52 6 (.tmp 0), none, []⟩,
 ⟨(some 4), .mv (.val (.bool false)), none, []⟩])
 (.seq
 (.seq
 (.reg [
 ⟨(some 5), .off 4 (.tmp 2), none, []⟩,
 ⟨(some 6), .ld none (.tmp 5), none, []⟩])
 (.block 0
 (.seq
 (.reg [
 ⟨(some 8), .bin .eql (.tmp 6) (.val (.int .i64 0)), none, []⟩,
 ⟨(some 7), .mv (.tmp 8), none, []⟩])
 (.cond (.tmp 7)
 (.seq
 (.reg [
 ⟨(some 9), .off 5 (.tmp 2), none, []⟩,
 ⟨(some 10), .ld none (.tmp 9), none, []⟩,
 ⟨(some 11), .bin .eql (.tmp 10) (.val (.int .i64 0)), none, []⟩,
 ⟨(some 4), .mv (.tmp 11), none, []⟩])
 .ret)
 (.seq
 (.reg [
 ⟨(some 13), .bin .eql (.tmp 6) (.val (.int .i64 1)), none, []⟩,
 ⟨(some 12), .mv (.tmp 13), none, []⟩])
 (.cond (.tmp 12)
 (.seq
 (.reg [
 ⟨(some 14), .mv (.tmp 1), none, []⟩,
 ⟨(some 15), .un .not (.tmp 14), none, []⟩,
 ⟨(some 16), .mv (.tmp 15), none, []⟩,
 ⟨(some 17), .off 5 (.tmp 2), some (16, true), []⟩,
 ⟨(some 18), .ld none (.tmp 17), some (16, true), []⟩,
 ⟨(some 19), .bin .eql (.tmp 18) (.val (.int .i64 0)), some (16, true), []⟩,
 ⟨(some 20), .pick (.tmp 16) (.tmp 19) (.val (.bool false)), none, []⟩,
 ⟨(some 4), .mv (.tmp 20), none, []⟩])
 .ret)
 (.seq
 (.reg [
 ⟨(some 22), .bin .eql (.tmp 6) (.val (.int .i64 2)), none, []⟩,
 ⟨(some 21), .mv (.tmp 22), none, []⟩])
 (.cond (.tmp 21)
 (.seq
 (.reg [
 ⟨(some 23), .mv (.tmp 1), none, []⟩,
 ⟨(some 24), .mv (.tmp 23), none, []⟩,
 ⟨(some 25), .off 5 (.tmp 2), some (24, true), []⟩,
 ⟨(some 26), .ld none (.tmp 25), some (24, true), []⟩,
 ⟨(some 27), .bin .geq (.tmp 26) (.val (.int .i64 1)), some (24, true), []⟩,
 ⟨(some 28), .pick (.tmp 24) (.tmp 27) (.val (.bool false)), none, []⟩,
 ⟨(some 29), .mv (.tmp 28), none, []⟩,
 ⟨(some 30), .off 5 (.tmp 2), some (29, true), []⟩,
 ⟨(some 31), .ld none (.tmp 30), some (29, true), []⟩,
 ⟨(some 32), .bin .lss (.tmp 31) (.val (.int .i64 400)), some (29, true), []⟩,
 ⟨(some 33), .pick (.tmp 29) (.tmp 32) (.val (.bool false)), none, []⟩,
 ⟨(some 4), .mv (.tmp 33), none, []⟩])
 .ret)
 (.seq
 (.reg [
 ⟨(some 35), .bin .eql (.tmp 6) (.val (.int .i64 3)), none, []⟩,
 ⟨(some 34), .mv (.tmp 35), none, []⟩])
 (.cond (.tmp 34)
 (.seq
 (.reg [
 ⟨(some 36), .mv (.tmp 1), none, []⟩,
 ⟨(some 37), .un .not (.tmp 36), none, []⟩,
 ⟨(some 38), .mv (.tmp 37), none, []⟩,
 ⟨(some 39), .off 5 (.tmp 2), some (38, true), []⟩,
 ⟨(some 40), .ld none (.tmp 39), some (38, true), []⟩,
 ⟨(some 41), .bin .geq (.tmp 40) (.val (.int .i64 1)), some (38, true), []⟩,
 ⟨(some 42), .pick (.tmp 38) (.tmp 41) (.val (.bool false)), none, []⟩,
 ⟨(some 43), .mv (.tmp 42), none, []⟩,
 ⟨(some 44), .off 5 (.tmp 2), some (43, true), []⟩,
 ⟨(some 45), .ld none (.tmp 44), some (43, true), []⟩,
 ⟨(some 46), .bin .leq (.tmp 45) (.val (.int .i64 8)), some (43, true), []⟩,
 ⟨(some 47), .pick (.tmp 43) (.tmp 46) (.val (.bool false)), none, []⟩,
 ⟨(some 4), .mv (.tmp 47), none, []⟩])
 .ret)
 .skip))))))))))
 (.seq
 (.reg [
 ⟨(some 4), .mv (.val (.bool false)), none, []⟩])
 .ret)))
def c_policy_saneAct : AF := ⟨b_policy_saneAct, 48, [.tmp 4]⟩
theorem p_policy_saneAct : prepFunc Try.prog 154 = some c_policy_saneAct ∧ hasBody Try.prog 154 = true := ⟨by kernel_rfl, by kernel_rfl⟩
def tab : Tab := [(4, c_ridgewaylaw15_RiseWorse), (14, c_ridgewaylaw15_awake), (15, c_ridgewayref12_Few), (16, c_edge_In), (17, c_edge_Class), (18, c_rise_Low), (19, c_rise_High), (20, c_edge_Out), (21, c_rise_Tells), (22, c_rise_Rises), (23, c_rise_Side), (24, c_route_Own), (25, c_route_Compare), (39, c_conf_Sane), (41, c_ridgewaylaw15_node), (42, c_edge_at), (43, c_attr_Sane), (44, c_edge_through), (45, c_edge_In_1), (46, c_edge_In_2), (47, c_slices_Contains___int_int), (48, c_edge_In_3), (49, c_edge_In_4), (50, c_role_In), (51, c_edge_In_5), (52, c_policy_Pick), (53, c_edge_accepts), (54, c_rise_prefs), (55, c_slices_Min___int_int), (56, c_slices_Max___int_int), (57, c_route_Sane), (58, c_edge_Out_1), (59, c_edge_Out_2), (60, c_edge_longer), (61, c_edge_Out_3), (62, c_role_Out), (63, c_edge_Out_4), (64, c_rise_Tells_1), (65, c_slices_ContainsFunc___api_Rule_api_Rule), (66, c_policy_Reach), (67, c_rise_Rises_1), (68, c_slices_ContainsFunc___int_int), (69, c_slices_IndexFunc___api_Side_api_Side), (70, c_rise_Side_1), (71, c_route_pair__pref), (72, c_route_pair__length), (73, c_route_pair__origin), (74, c_route_pair__as), (75, c_route_pair__hop), (76, c_route_pair__otc), (77, c_route_pair__from), (87, c_prefix_Sane), (93, c_conf_saneNumber), (94, c_conf_saneHold), (95, c_conf_saneCap), (96, c_conf_saneOwn), (97, c_conf_saneSides), (98, c_slices_Index___int_int), (99, c_policy_Fits), (100, c_slices_Repeat___int_int), (101, c_slices_IndexFunc___api_Rule_api_Rule), (102, c_policy_Total), (103, c_slices_IndexFunc___int_int), (104, c_cmp_Compare_int), (105, c_slices_Compare___int_int), (120, c_prefix_Mask), (123, c_slices_Contains___api_Prefix_api_Prefix), (124, c_conf_taken), (125, c_conf_saneRules), (126, c_policy_fits), (127, c_math_bits_Mul), (128, c_cmp_isNaN_int), (138, c_slices_Index___api_Prefix_api_Prefix), (139, c_slices_ContainsFunc___api_Side_api_Side), (140, c_conf_taken_1), (141, c_policy_Sane), (142, c_policy_fits_1), (143, c_policy_fits_2), (144, c_prefix_Has), (145, c_policy_fits_3), (146, c_policy_fits_4), (147, c_policy_fits_5), (148, c_math_bits_Mul32), (149, c_math_bits_Mul64), (153, c_policy_saneMatch), (154, c_policy_saneAct)]
theorem tab_ok : Tab.Ok Try.prog tab := ⟨p_ridgewaylaw15_RiseWorse, p_ridgewaylaw15_awake, p_ridgewayref12_Few, p_edge_In, p_edge_Class, p_rise_Low, p_rise_High, p_edge_Out, p_rise_Tells, p_rise_Rises, p_rise_Side, p_route_Own, p_route_Compare, p_conf_Sane, p_ridgewaylaw15_node, p_edge_at, p_attr_Sane, p_edge_through, p_edge_In_1, p_edge_In_2, p_slices_Contains___int_int, p_edge_In_3, p_edge_In_4, p_role_In, p_edge_In_5, p_policy_Pick, p_edge_accepts, p_rise_prefs, p_slices_Min___int_int, p_slices_Max___int_int, p_route_Sane, p_edge_Out_1, p_edge_Out_2, p_edge_longer, p_edge_Out_3, p_role_Out, p_edge_Out_4, p_rise_Tells_1, p_slices_ContainsFunc___api_Rule_api_Rule, p_policy_Reach, p_rise_Rises_1, p_slices_ContainsFunc___int_int, p_slices_IndexFunc___api_Side_api_Side, p_rise_Side_1, p_route_pair__pref, p_route_pair__length, p_route_pair__origin, p_route_pair__as, p_route_pair__hop, p_route_pair__otc, p_route_pair__from, p_prefix_Sane, p_conf_saneNumber, p_conf_saneHold, p_conf_saneCap, p_conf_saneOwn, p_conf_saneSides, p_slices_Index___int_int, p_policy_Fits, p_slices_Repeat___int_int, p_slices_IndexFunc___api_Rule_api_Rule, p_policy_Total, p_slices_IndexFunc___int_int, p_cmp_Compare_int, p_slices_Compare___int_int, p_prefix_Mask, p_slices_Contains___api_Prefix_api_Prefix, p_conf_taken, p_conf_saneRules, p_policy_fits, p_math_bits_Mul, p_cmp_isNaN_int, p_slices_Index___api_Prefix_api_Prefix, p_slices_ContainsFunc___api_Side_api_Side, p_conf_taken_1, p_policy_Sane, p_policy_fits_1, p_policy_fits_2, p_prefix_Has, p_policy_fits_3, p_policy_fits_4, p_policy_fits_5, p_math_bits_Mul32, p_math_bits_Mul64, p_policy_saneMatch, p_policy_saneAct, trivial⟩
end Go.Proofs.Ytpclfdndjillnaa
