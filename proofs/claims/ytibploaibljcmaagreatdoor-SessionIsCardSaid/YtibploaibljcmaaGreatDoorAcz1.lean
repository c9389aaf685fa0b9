import Derived.Test.YtibploaibljcmaaGreatDoorAv16
import Derived.Test.YtibploaibljcmaaGreatDoorProg
import Derived.KernelRfl
namespace Go.Proofs.YtibploaibljcmaaGreatDoor
set_option maxRecDepth 100000
set_option maxHeartbeats 1000000
def b_ridgewaylaw17_SessionIs : AC :=
 (.seq
 (.reg [⟨some 5, .box 23 4 (.tmp 0), none, []⟩,⟨some 6, .box 27 6 (.tmp 1), none, []⟩,⟨some 8, .box 30 2 (.tmp 3), none, []⟩,⟨some 10, .mv (.val (.bool false)), none, []⟩])
 (.seq
 (.reg [⟨some 31, .callS 4 [], none, []⟩,⟨some 11, .mv (.tmp 31), none, []⟩])
 (.seq
 (.seq
 (.reg [⟨some 32, .ld (some 6) (.tmp 6), none, []⟩,⟨some 33, .ld (some 2) (.tmp 8), none, []⟩,⟨some 34, .callS 5 [(.tmp 32), (.tmp 33)], none, []⟩,⟨some 35, .un .not (.tmp 34), none, []⟩])
 (.cond (.tmp 35)
 (.seq
 (.reg [⟨some 36, .mv (.tmp 11), none, []⟩,⟨some 10, .mv (.tmp 36), none, []⟩])
 .ret)
 .skip)) (.seq (.reg [⟨some 37, .mv (.tmp 4), none, []⟩,⟨some 38, .mv (.tmp 2), none, []⟩,⟨some 39, .bld [(.int .i64 0), (.int .i64 0), (.slice .full 0 [])] [(0, 1, (.tmp 37)), (1, 1, (.tmp 38))], none, []⟩,⟨some 12, .box 34 3 (.val (.agg [(.int .i64 0), (.int .i64 0), (.slice .full 0 [])])), none, []⟩,⟨none, .st 3 (.tmp 12) (.tmp 39), none, []⟩]) (.seq (.reg [⟨some 41, .ld (some 4) (.tmp 5), none, []⟩,⟨some 42, .ld (some 6) (.tmp 6), none, []⟩,⟨some 43, .mv (.tmp 2), none, []⟩,⟨some 44, .callS 6 [(.tmp 41), (.tmp 42), (.tmp 43)], none, []⟩,⟨some 40, .mv (.tmp 44), none, []⟩,⟨some 45, .ext (.tmp 40) 0, none, []⟩,⟨some 46, .ext (.tmp 40) 1, none, []⟩,⟨some 13, .box 23 4 (.val (.agg [(.int .i64 0), (.int .i64 0), (.int .i64 0), (.int .i64 0)])), none, []⟩,⟨none, .st 4 (.tmp 13) (.tmp 45), none, []⟩,⟨some 14, .mv (.tmp 46), none, []⟩]) (.seq (.reg [⟨some 48, .ld (some 4) (.tmp 5), none, []⟩,⟨some 49, .ld (some 6) (.tmp 6), none, []⟩,⟨some 50, .mv (.tmp 2), none, []⟩,⟨some 51, .callS 7 [(.tmp 48), (.tmp 49), (.tmp 50)], none, []⟩,⟨some 47, .mv (.tmp 51), none, []⟩,⟨some 52, .ext (.tmp 47) 0, none, []⟩,⟨some 53, .ext (.tmp 47) 1, none, []⟩,⟨some 15, .box 23 4 (.val (.agg [(.int .i64 0), (.int .i64 0), (.int .i64 0), (.int .i64 0)])), none, []⟩,⟨none, .st 4 (.tmp 15) (.tmp 52), none, []⟩,⟨some 16, .mv (.tmp 53), none, []⟩])
 (.seq (.reg [⟨some 55, .ld (some 4) (.tmp 5), none, []⟩,⟨some 56, .ld (some 6) (.tmp 6), none, []⟩,⟨some 57, .mv (.tmp 2), none, []⟩,⟨some 58, .ld (some 2) (.tmp 8), none, []⟩,⟨some 59, .callS 8 [(.tmp 55), (.tmp 56), (.tmp 57), (.tmp 58)], none, []⟩,⟨some 54, .mv (.tmp 59), none, []⟩,⟨some 60, .ext (.tmp 54) 0, none, []⟩,⟨some 61, .ext (.tmp 54) 1, none, []⟩,⟨some 62, .ext (.tmp 54) 2, none, []⟩,⟨some 17, .box 23 4 (.val (.agg [(.int .i64 0), (.int .i64 0), (.int .i64 0), (.int .i64 0)])), none, []⟩,⟨none, .st 4 (.tmp 17) (.tmp 60), none, []⟩,⟨some 18, .mv (.tmp 61), none, []⟩,⟨some 19, .mv (.tmp 62), none, []⟩]) (.seq (.reg [⟨some 64, .ld (some 4) (.tmp 5), none, []⟩,⟨some 65, .ld (some 6) (.tmp 6), none, []⟩,⟨some 66, .mv (.tmp 2), none, []⟩,⟨some 67, .ld (some 2) (.tmp 8), none, []⟩,⟨some 68, .callS 9 [(.tmp 64), (.tmp 65), (.tmp 66), (.tmp 67)], none, []⟩,⟨some 63, .mv (.tmp 68), none, []⟩,⟨some 69, .ext (.tmp 63) 0, none, []⟩,⟨some 70, .ext (.tmp 63) 1, none, []⟩,⟨some 71, .ext (.tmp 63) 2, none, []⟩,⟨some 20, .box 23 4 (.val (.agg [(.int .i64 0), (.int .i64 0), (.int .i64 0), (.int .i64 0)])), none, []⟩,⟨none, .st 4 (.tmp 20) (.tmp 69), none, []⟩,⟨some 21, .mv (.tmp 70), none, []⟩,⟨some 22, .mv (.tmp 71), none, []⟩])
 (.seq (.reg [⟨some 73, .ld (some 4) (.tmp 5), none, []⟩,⟨some 74, .mv (.tmp 4), none, []⟩,⟨some 75, .callS 10 [(.tmp 73), (.tmp 74)], none, []⟩,⟨some 72, .mv (.tmp 75), none, []⟩,⟨some 76, .ext (.tmp 72) 0, none, []⟩,⟨some 77, .ext (.tmp 72) 1, none, []⟩,⟨some 23, .box 23 4 (.val (.agg [(.int .i64 0), (.int .i64 0), (.int .i64 0), (.int .i64 0)])), none, []⟩,⟨none, .st 4 (.tmp 23) (.tmp 76), none, []⟩,⟨some 24, .mv (.tmp 77), none, []⟩]) (.seq (.reg [⟨some 79, .ld (some 4) (.tmp 5), none, []⟩,⟨some 80, .mv (.tmp 4), none, []⟩,⟨some 81, .callS 11 [(.tmp 79), (.tmp 80)], none, []⟩,⟨some 78, .mv (.tmp 81), none, []⟩,⟨some 82, .ext (.tmp 78) 0, none, []⟩,⟨some 83, .ext (.tmp 78) 1, none, []⟩,⟨some 25, .box 23 4 (.val (.agg [(.int .i64 0), (.int .i64 0), (.int .i64 0), (.int .i64 0)])), none, []⟩,⟨none, .st 4 (.tmp 25) (.tmp 82), none, []⟩,⟨some 26, .mv (.tmp 83), none, []⟩]) (.seq (.reg [⟨some 85, .ld (some 4) (.tmp 5), none, []⟩,⟨some 86, .ld (some 3) (.tmp 12), none, []⟩,⟨some 87, .callS 12 [(.tmp 85), (.tmp 86)], none, []⟩,⟨some 84, .mv (.tmp 87), none, []⟩,⟨some 88, .ext (.tmp 84) 0, none, []⟩,⟨some 89, .ext (.tmp 84) 1, none, []⟩,⟨some 27, .box 23 4 (.val (.agg [(.int .i64 0), (.int .i64 0), (.int .i64 0), (.int .i64 0)])), none, []⟩,⟨none, .st 4 (.tmp 27) (.tmp 88), none, []⟩,⟨some 28, .mv (.tmp 89), none, []⟩])
 (.seq (.reg [⟨some 91, .ld (some 4) (.tmp 5), none, []⟩,⟨some 92, .ld (some 3) (.tmp 12), none, []⟩,⟨some 93, .callS 13 [(.tmp 91), (.tmp 92)], none, []⟩,⟨some 90, .mv (.tmp 93), none, []⟩,⟨some 94, .ext (.tmp 90) 0, none, []⟩,⟨some 95, .ext (.tmp 90) 1, none, []⟩,⟨some 29, .box 23 4 (.val (.agg [(.int .i64 0), (.int .i64 0), (.int .i64 0), (.int .i64 0)])), none, []⟩,⟨none, .st 4 (.tmp 29) (.tmp 94), none, []⟩,⟨some 30, .mv (.tmp 95), none, []⟩]) (.seq (.seq (.reg [⟨some 96, .ld (some 4) (.tmp 13), none, []⟩,⟨some 97, .ld (some 4) (.tmp 15), none, []⟩,⟨some 98, .eqA true 4 [(0, 0), (1, 0), (2, 0), (3, 0)] (.tmp 96) (.tmp 97), none, []⟩,⟨some 99, .mv (.tmp 98), none, []⟩,⟨some 100, .ld (some 4) (.tmp 17), some (99, false), []⟩,⟨some 101, .ld (some 4) (.tmp 20), some (99, false), []⟩,⟨some 102, .eqA true 4 [(0, 0), (1, 0), (2, 0), (3, 0)] (.tmp 100) (.tmp 101), some (99, false), []⟩,⟨some 103, .pick (.tmp 99) (.val (.bool true)) (.tmp 102), none, []⟩,⟨some 104, .mv (.tmp 103), none, []⟩,⟨some 105, .ld (some 4) (.tmp 23), some (104, false), []⟩,⟨some 106, .ld (some 4) (.tmp 25), some (104, false), []⟩,⟨some 107, .eqA true 4 [(0, 0), (1, 0), (2, 0), (3, 0)] (.tmp 105) (.tmp 106), some (104, false), []⟩,⟨some 108, .pick (.tmp 104) (.val (.bool true)) (.tmp 107), none, []⟩,⟨some 109, .mv (.tmp 108), none, []⟩,⟨some 110, .ld (some 4) (.tmp 27), some (109, false), []⟩,⟨some 111, .ld (some 4) (.tmp 29), some (109, false), []⟩,⟨some 112, .eqA true 4 [(0, 0), (1, 0), (2, 0), (3, 0)] (.tmp 110) (.tmp 111), some (109, false), []⟩,⟨some 113, .pick (.tmp 109) (.val (.bool true)) (.tmp 112), none, []⟩,⟨some 114, .mv (.tmp 113), none, []⟩,⟨some 115, .mv (.tmp 19), some (114, false), []⟩,⟨some 116, .mv (.tmp 22), some (114, false), []⟩,⟨some 117, .eqB true (.tmp 115) (.tmp 116), some (114, false), []⟩,⟨some 118, .pick (.tmp 114) (.val (.bool true)) (.tmp 117), none, []⟩,⟨some 119, .mv (.tmp 118), none, []⟩,⟨some 120, .mv (.tmp 14), some (119, false), []⟩,⟨some 121, .mv (.tmp 16), some (119, false), []⟩,⟨some 122, .callS 14 [(.tmp 120), (.tmp 121)], some (119, false), []⟩,⟨some 123, .un .not (.tmp 122), some (119, false), []⟩,⟨some 124, .pick (.tmp 119) (.val (.bool true)) (.tmp 123), none, []⟩,⟨some 125, .mv (.tmp 124), none, []⟩,⟨some 126, .mv (.tmp 18), some (125, false), []⟩,⟨some 127, .mv (.tmp 21), some (125, false), []⟩,⟨some 128, .callS 14 [(.tmp 126), (.tmp 127)], some (125, false), []⟩,⟨some 129, .un .not (.tmp 128), some (125, false), []⟩,⟨some 130, .pick (.tmp 125) (.val (.bool true)) (.tmp 129), none, []⟩])
 (.cond (.tmp 130) (.seq (.reg [⟨some 10, .mv (.val (.bool false)), none, []⟩])
 .ret)
 .skip)) (.seq (.reg [⟨some 131, .mv (.tmp 11), none, []⟩,⟨some 132, .mv (.tmp 131), none, []⟩,⟨some 133, .mv (.tmp 24), some (132, true), []⟩,⟨some 134, .mv (.tmp 26), some (132, true), []⟩,⟨some 135, .call 14 [(.tmp 133), (.tmp 134)], some (132, true), []⟩,⟨some 136, .pick (.tmp 132) (.tmp 135) (.val (.bool false)), none, []⟩,⟨some 137, .mv (.tmp 136), none, []⟩,⟨some 138, .mv (.tmp 28), some (137, true), []⟩,⟨some 139, .mv (.tmp 30), some (137, true), []⟩,⟨some 140, .call 14 [(.tmp 138), (.tmp 139)], some (137, true), []⟩,⟨some 141, .pick (.tmp 137) (.tmp 140) (.val (.bool false)), none, []⟩,⟨some 142, .mv (.tmp 141), none, []⟩,⟨some 143, .ld (some 4) (.tmp 5), some (142, true), []⟩,⟨some 144, .call 15 [(.tmp 143)], some (142, true), []⟩,⟨some 145, .ld (some 4) (.tmp 5), some (142, true), []⟩,⟨some 146, .call 16 [(.tmp 145)], some (142, true), []⟩,⟨some 147, .eqB false (.tmp 144) (.tmp 146), some (142, true), []⟩,⟨some 148, .pick (.tmp 142) (.tmp 147) (.val (.bool false)), none, []⟩,⟨some 149, .mv (.tmp 148), none, []⟩,⟨some 150, .ld (some 6) (.tmp 6), some (149, true), []⟩,⟨some 151, .mv (.tmp 2), some (149, true), []⟩,⟨some 152, .call 17 [(.tmp 150), (.tmp 151)], some (149, true), []⟩,⟨some 153, .ld (some 6) (.tmp 6), some (149, true), []⟩,⟨some 154, .mv (.tmp 2), some (149, true), []⟩,⟨some 155, .callS 18 [(.tmp 153), (.tmp 154)], some (149, true), []⟩,⟨some 156, .eqA false 4 [(0, 0), (1, 0), (2, 0), (3, 0)] (.tmp 152) (.tmp 155), some (149, true), []⟩,⟨some 157, .pick (.tmp 149) (.tmp 156) (.val (.bool false)), none, []⟩,⟨some 10, .mv (.tmp 157), none, []⟩])
 .ret))))))))))))))
def c_ridgewaylaw17_SessionIs : AF := ⟨b_ridgewaylaw17_SessionIs, 158, [.tmp 10]⟩
theorem p_ridgewaylaw17_SessionIs : prepFunc Tryz.prog 3 = some c_ridgewaylaw17_SessionIs ∧ hasBody Tryz.prog 3 = true := ⟨by kernel_rfl, by kernel_rfl⟩
def b_ridgewaylaw17_awake : AC :=
 (.seq
 (.reg [⟨some 0, .mv (.val (.bool false)), none, []⟩])
 (.seq
 (.reg [⟨some 15, .callS 19 [(.val (.int .i64 1)), (.val (.int .i64 2)), (.val (.int .i64 1)), (.val (.int .i64 90))], none, []⟩,⟨some 1, .box 27 6 (.val (.agg [(.int .i64 0), (.int .i64 0), (.int .i64 0), (.int .i64 0), (.slice .full 0 []), (.slice .full 0 [])])), none, []⟩,⟨none, .st 6 (.tmp 1) (.tmp 15), none, []⟩])
 (.seq
 (.reg [⟨some 16, .callS 19 [(.val (.int .i64 2)), (.val (.int .i64 1)), (.val (.int .i64 3)), (.val (.int .i64 9))], none, []⟩,⟨some 2, .box 27 6 (.val (.agg [(.int .i64 0), (.int .i64 0), (.int .i64 0), (.int .i64 0), (.slice .full 0 []), (.slice .full 0 [])])), none, []⟩,⟨none, .st 6 (.tmp 2) (.tmp 16), none, []⟩])
 (.seq
 (.reg [⟨some 18, .bld [(.int .i64 0), (.int .i64 0), (.int .i64 0), (.int .i64 0)] [], none, []⟩,⟨some 19, .ld (some 6) (.tmp 1), none, []⟩,⟨some 20, .callS 6 [(.tmp 18), (.tmp 19), (.val (.int .i64 0))], none, []⟩,⟨some 17, .mv (.tmp 20), none, []⟩,⟨some 21, .ext (.tmp 17) 0, none, []⟩,⟨some 22, .ext (.tmp 17) 1, none, []⟩,⟨some 3, .box 23 4 (.val (.agg [(.int .i64 0), (.int .i64 0), (.int .i64 0), (.int .i64 0)])), none, []⟩,⟨none, .st 4 (.tmp 3) (.tmp 21), none, []⟩,⟨some 4, .mv (.tmp 22), none, []⟩])
 (.seq (.reg [⟨some 24, .bld [(.int .i64 0), (.int .i64 0), (.int .i64 0), (.int .i64 0)] [], none, []⟩,⟨some 25, .ld (some 6) (.tmp 2), none, []⟩,⟨some 26, .callS 6 [(.tmp 24), (.tmp 25), (.val (.int .i64 0))], none, []⟩,⟨some 23, .mv (.tmp 26), none, []⟩,⟨some 27, .ext (.tmp 23) 0, none, []⟩,⟨some 28, .ext (.tmp 23) 1, none, []⟩,⟨some 5, .box 23 4 (.val (.agg [(.int .i64 0), (.int .i64 0), (.int .i64 0), (.int .i64 0)])), none, []⟩,⟨none, .st 4 (.tmp 5) (.tmp 27), none, []⟩,⟨some 6, .mv (.tmp 28), none, []⟩]) (.seq (.reg [⟨some 30, .ld (some 4) (.tmp 3), none, []⟩,⟨some 31, .ld (some 6) (.tmp 1), none, []⟩,⟨some 32, .mv (.tmp 6), none, []⟩,⟨some 33, .callS 20 [(.tmp 30), (.tmp 31), (.val (.int .i64 0)), (.tmp 32)], none, []⟩,⟨some 29, .mv (.tmp 33), none, []⟩,⟨some 34, .ext (.tmp 29) 0, none, []⟩,⟨some 35, .ext (.tmp 29) 1, none, []⟩,⟨some 7, .box 23 4 (.val (.agg [(.int .i64 0), (.int .i64 0), (.int .i64 0), (.int .i64 0)])), none, []⟩,⟨none, .st 4 (.tmp 7) (.tmp 34), none, []⟩,⟨some 8, .mv (.tmp 35), none, []⟩])
 (.seq (.reg [⟨some 37, .ld (some 4) (.tmp 5), none, []⟩,⟨some 38, .ld (some 6) (.tmp 2), none, []⟩,⟨some 39, .mv (.tmp 4), none, []⟩,⟨some 40, .callS 20 [(.tmp 37), (.tmp 38), (.val (.int .i64 0)), (.tmp 39)], none, []⟩,⟨some 36, .mv (.tmp 40), none, []⟩,⟨some 41, .ext (.tmp 36) 0, none, []⟩,⟨some 42, .ext (.tmp 36) 1, none, []⟩,⟨some 9, .box 23 4 (.val (.agg [(.int .i64 0), (.int .i64 0), (.int .i64 0), (.int .i64 0)])), none, []⟩,⟨none, .st 4 (.tmp 9) (.tmp 41), none, []⟩,⟨some 10, .mv (.tmp 42), none, []⟩]) (.seq (.reg [⟨some 44, .ld (some 4) (.tmp 7), none, []⟩,⟨some 45, .ld (some 6) (.tmp 1), none, []⟩,⟨some 46, .mv (.tmp 10), none, []⟩,⟨some 47, .callS 20 [(.tmp 44), (.tmp 45), (.val (.int .i64 0)), (.tmp 46)], none, []⟩,⟨some 43, .mv (.tmp 47), none, []⟩,⟨some 48, .ext (.tmp 43) 0, none, []⟩,⟨some 49, .ext (.tmp 43) 1, none, []⟩,⟨some 11, .box 23 4 (.val (.agg [(.int .i64 0), (.int .i64 0), (.int .i64 0), (.int .i64 0)])), none, []⟩,⟨none, .st 4 (.tmp 11) (.tmp 48), none, []⟩,⟨some 12, .mv (.tmp 49), none, []⟩])
 (.seq (.reg [⟨some 51, .ld (some 4) (.tmp 9), none, []⟩,⟨some 52, .ld (some 6) (.tmp 2), none, []⟩,⟨some 53, .mv (.tmp 8), none, []⟩,⟨some 54, .callS 20 [(.tmp 51), (.tmp 52), (.val (.int .i64 0)), (.tmp 53)], none, []⟩,⟨some 50, .mv (.tmp 54), none, []⟩,⟨some 55, .ext (.tmp 50) 0, none, []⟩,⟨some 56, .ext (.tmp 50) 1, none, []⟩,⟨some 13, .box 23 4 (.val (.agg [(.int .i64 0), (.int .i64 0), (.int .i64 0), (.int .i64 0)])), none, []⟩,⟨none, .st 4 (.tmp 13) (.tmp 55), none, []⟩,⟨some 14, .mv (.tmp 56), none, []⟩]) (.seq (.reg [⟨some 57, .mv (.tmp 4), none, []⟩,⟨some 58, .len (.tmp 57), none, []⟩,⟨some 59, .bin .eql (.tmp 58) (.val (.int .i64 1)), none, []⟩,⟨some 60, .mv (.tmp 59), none, []⟩,⟨some 61, .mv (.tmp 8), some (60, true), []⟩,⟨some 62, .len (.tmp 61), some (60, true), []⟩,⟨some 63, .bin .eql (.tmp 62) (.val (.int .i64 1)), some (60, true), []⟩,⟨some 64, .pick (.tmp 60) (.tmp 63) (.val (.bool false)), none, []⟩,⟨some 65, .mv (.tmp 64), none, []⟩,⟨some 66, .mv (.tmp 10), some (65, true), []⟩,⟨some 67, .len (.tmp 66), some (65, true), []⟩,⟨some 68, .bin .eql (.tmp 67) (.val (.int .i64 1)), some (65, true), []⟩,⟨some 69, .pick (.tmp 65) (.tmp 68) (.val (.bool false)), none, []⟩,⟨some 70, .mv (.tmp 69), none, []⟩,⟨some 71, .off 0 (.tmp 7), some (70, true), []⟩,⟨some 72, .ld none (.tmp 71), some (70, true), []⟩,⟨some 73, .bin .eql (.tmp 72) (.val (.int .i64 2)), some (70, true), []⟩,⟨some 74, .pick (.tmp 70) (.tmp 73) (.val (.bool false)), none, []⟩,⟨some 75, .mv (.tmp 74), none, []⟩,⟨some 76, .off 0 (.tmp 11), some (75, true), []⟩,⟨some 77, .ld none (.tmp 76), some (75, true), []⟩,⟨some 78, .bin .eql (.tmp 77) (.val (.int .i64 3)), some (75, true), []⟩,⟨some 79, .pick (.tmp 75) (.tmp 78) (.val (.bool false)), none, []⟩,⟨some 80, .mv (.tmp 79), none, []⟩,⟨some 81, .off 0 (.tmp 13), some (80, true), []⟩,⟨some 82, .ld none (.tmp 81), some (80, true), []⟩,⟨some 83, .bin .eql (.tmp 82) (.val (.int .i64 3)), some (80, true), []⟩,⟨some 84, .pick (.tmp 80) (.tmp 83) (.val (.bool false)), none, []⟩,⟨some 85, .mv (.tmp 84), none, []⟩,⟨some 86, .off 1 (.tmp 11), some (85, true), []⟩,⟨some 87, .ld none (.tmp 86), some (85, true), []⟩,⟨some 88, .bin .eql (.tmp 87) (.val (.int .i64 9)), some (85, true), []⟩,⟨some 89, .pick (.tmp 85) (.tmp 88) (.val (.bool false)), none, []⟩,⟨some 90, .mv (.tmp 89), none, []⟩,⟨some 91, .off 3 (.tmp 13), some (90, true), []⟩,⟨some 92, .ld none (.tmp 91), some (90, true), []⟩,⟨some 93, .bin .eql (.tmp 92) (.val (.int .i64 3)), some (90, true), []⟩,⟨some 94, .pick (.tmp 90) (.tmp 93) (.val (.bool false)), none, []⟩,⟨some 95, .mv (.tmp 94), none, []⟩,⟨some 96, .ld (some 4) (.tmp 11), some (95, true), []⟩,⟨some 97, .callS 15 [(.tmp 96)], some (95, true), []⟩,⟨some 98, .pick (.tmp 95) (.tmp 97) (.val (.bool false)), none, []⟩,⟨some 0, .mv (.tmp 98), none, []⟩])
 .ret))))))))))
def c_ridgewaylaw17_awake : AF := ⟨b_ridgewaylaw17_awake, 99, [.tmp 0]⟩
theorem p_ridgewaylaw17_awake : prepFunc Tryz.prog 4 = some c_ridgewaylaw17_awake ∧ hasBody Tryz.prog 4 = true := ⟨by kernel_rfl, by kernel_rfl⟩
def b_ridgewaylaw17_short : AC :=
 (.seq
 (.reg [⟨some 2, .box 27 6 (.tmp 0), none, []⟩,⟨some 3, .box 30 2 (.tmp 1), none, []⟩,⟨some 4, .mv (.val (.bool false)), none, []⟩])
 (.seq
 (.reg [⟨some 5, .ld (some 6) (.tmp 2), none, []⟩,⟨some 6, .callS 21 [(.tmp 5)], none, []⟩,⟨some 7, .mv (.tmp 6), none, []⟩,⟨some 8, .off 1 (.tmp 3), some (7, true), []⟩,⟨some 9, .ld none (.tmp 8), some (7, true), []⟩,⟨some 10, .len (.tmp 9), some (7, true), []⟩,⟨some 11, .bin .leq (.tmp 10) (.val (.int .i64 5000)), some (7, true), []⟩,⟨some 12, .pick (.tmp 7) (.tmp 11) (.val (.bool false)), none, []⟩,⟨some 4, .mv (.tmp 12), none, []⟩])
 .ret))
def c_ridgewaylaw17_short : AF := ⟨b_ridgewaylaw17_short, 13, [.tmp 4]⟩
theorem p_ridgewaylaw17_short : prepFunc Tryz.prog 5 = some c_ridgewaylaw17_short ∧ hasBody Tryz.prog 5 = true := ⟨by kernel_rfl, by kernel_rfl⟩
def b_session_Start : AC :=
 (.seq
 (.reg [⟨some 3, .box 23 4 (.tmp 0), none, []⟩,⟨some 4, .box 27 6 (.tmp 1), none, []⟩,⟨some 6, .box 23 4 (.val (.agg [(.int .i64 0), (.int .i64 0), (.int .i64 0), (.int .i64 0)])), none, []⟩,⟨some 7, .mv (.val (.slice .full 0 [])), none, []⟩])
 (.seq
 (.reg [⟨some 8, .ld (some 4) (.tmp 3), none, []⟩,⟨some 9, .callS 22 [(.tmp 8)], none, []⟩,⟨none, .st 4 (.tmp 3) (.tmp 9), none, []⟩])
 (.seq
 (.seq
 (.reg [⟨some 10, .off 0 (.tmp 3), none, []⟩,⟨some 11, .ld none (.tmp 10), none, []⟩,⟨some 12, .bin .neq (.tmp 11) (.val (.int .i64 0)), none, []⟩,⟨some 13, .mv (.tmp 12), none, []⟩,⟨some 14, .ld (some 6) (.tmp 4), some (13, false), []⟩,⟨some 15, .mv (.tmp 2), some (13, false), []⟩,⟨some 16, .callS 23 [(.tmp 14), (.tmp 15)], some (13, false), []⟩,⟨some 17, .un .not (.tmp 16), some (13, false), []⟩,⟨some 18, .pick (.tmp 13) (.val (.bool true)) (.tmp 17), none, []⟩])
 (.cond (.tmp 18) (.seq (.reg [⟨some 19, .ld (some 4) (.tmp 3), none, []⟩,⟨none, .st 4 (.tmp 6) (.tmp 19), none, []⟩,⟨some 7, .mv (.val (.slice .full 0 [])), none, []⟩])
 .ret)
 .skip)) (.seq (.reg [⟨some 20, .bld [(.int .i64 0), (.int .i64 0), (.int .i64 0), (.int .i64 0)] [(0, 1, (.val (.int .i64 1))), (2, 1, (.val (.int .i64 240)))], none, []⟩,⟨some 21, .ld (some 6) (.tmp 4), none, []⟩,⟨some 22, .mv (.tmp 2), none, []⟩,⟨some 23, .callS 17 [(.tmp 21), (.tmp 22)], none, []⟩,⟨some 24, .callS 24 [(.tmp 23)], none, []⟩,⟨some 25, .lit 30 2 [0, 1] [(.tmp 24)], none, []⟩,⟨none, .st 4 (.tmp 6) (.tmp 20), none, []⟩,⟨some 7, .mv (.tmp 25), none, []⟩])
 .ret))))
def c_session_Start : AF := ⟨b_session_Start, 26, [.cell 6 (some 4), .tmp 7]⟩
theorem p_session_Start : prepFunc Tryz.prog 6 = some c_session_Start ∧ hasBody Tryz.prog 6 = true := ⟨by kernel_rfl, by kernel_rfl⟩
def b_ridgewayref17_Start : AC :=
 (.seq
 (.reg [⟨some 3, .box 23 4 (.tmp 0), none, []⟩,⟨some 4, .box 27 6 (.tmp 1), none, []⟩,⟨some 6, .box 23 4 (.val (.agg [(.int .i64 0), (.int .i64 0), (.int .i64 0), (.int .i64 0)])), none, []⟩,⟨some 7, .mv (.val (.slice .full 0 [])), none, []⟩])
 (.seq
 (.reg [⟨some 10, .ld (some 4) (.tmp 3), none, []⟩,⟨some 11, .callS 25 [(.tmp 10)], none, []⟩,⟨some 8, .box 23 4 (.val (.agg [(.int .i64 0), (.int .i64 0), (.int .i64 0), (.int .i64 0)])), none, []⟩,⟨none, .st 4 (.tmp 8) (.tmp 11), none, []⟩])
 (.seq
 (.reg [⟨some 12, .ld (some 6) (.tmp 4), none, []⟩,⟨some 13, .mv (.tmp 2), none, []⟩,⟨some 14, .callS 18 [(.tmp 12), (.tmp 13)], none, []⟩,⟨some 9, .box 45 4 (.val (.agg [(.int .i64 0), (.int .i64 0), (.int .i64 0), (.int .i64 0)])), none, []⟩,⟨none, .st 4 (.tmp 9) (.tmp 14), none, []⟩])
 (.seq
 (.seq
 (.reg [⟨some 15, .off 0 (.tmp 8), none, []⟩,⟨some 16, .ld none (.tmp 15), none, []⟩,⟨some 17, .bin .neq (.tmp 16) (.val (.int .i64 0)), none, []⟩,⟨some 18, .mv (.tmp 17), none, []⟩,⟨some 19, .off 0 (.tmp 9), some (18, false), []⟩,⟨some 20, .ld none (.tmp 19), some (18, false), []⟩,⟨some 21, .bin .eql (.tmp 20) (.val (.int .i64 0)), some (18, false), []⟩,⟨some 22, .pick (.tmp 18) (.val (.bool true)) (.tmp 21), none, []⟩])
 (.cond (.tmp 22) (.seq (.reg [⟨some 23, .ld (some 4) (.tmp 8), none, []⟩,⟨none, .st 4 (.tmp 6) (.tmp 23), none, []⟩,⟨some 7, .mv (.val (.slice .full 0 [])), none, []⟩])
 .ret)
 .skip)) (.seq (.reg [⟨some 24, .bld [(.int .i64 0), (.int .i64 0), (.int .i64 0), (.int .i64 0)] [(0, 1, (.val (.int .i64 1))), (2, 1, (.val (.int .i64 240)))], none, []⟩,⟨some 25, .ld (some 4) (.tmp 9), none, []⟩,⟨some 26, .callS 26 [(.tmp 25)], none, []⟩,⟨some 27, .lit 30 2 [0, 1] [(.tmp 26)], none, []⟩,⟨none, .st 4 (.tmp 6) (.tmp 24), none, []⟩,⟨some 7, .mv (.tmp 27), none, []⟩])
 .ret)))))
def c_ridgewayref17_Start : AF := ⟨b_ridgewayref17_Start, 28, [.cell 6 (some 4), .tmp 7]⟩
theorem p_ridgewayref17_Start : prepFunc Tryz.prog 7 = some c_ridgewayref17_Start ∧ hasBody Tryz.prog 7 = true := ⟨by kernel_rfl, by kernel_rfl⟩
def b_session_Take : AC :=
 (.seq
 (.reg [⟨some 4, .box 23 4 (.tmp 0), none, []⟩,⟨some 5, .box 27 6 (.tmp 1), none, []⟩,⟨some 7, .box 30 2 (.tmp 3), none, []⟩,⟨some 8, .box 23 4 (.val (.agg [(.int .i64 0), (.int .i64 0), (.int .i64 0), (.int .i64 0)])), none, []⟩,⟨some 9, .mv (.val (.slice .full 0 [])), none, []⟩,⟨some 10, .mv (.val (.bool false)), none, []⟩])
 (.seq
 (.reg [⟨some 11, .ld (some 4) (.tmp 4), none, []⟩,⟨some 12, .callS 22 [(.tmp 11)], none, []⟩,⟨none, .st 4 (.tmp 4) (.tmp 12), none, []⟩])
 (.seq
 (.seq
 (.reg [⟨some 13, .ld (some 6) (.tmp 5), none, []⟩,⟨some 14, .mv (.tmp 2), none, []⟩,⟨some 15, .callS 23 [(.tmp 13), (.tmp 14)], none, []⟩,⟨some 16, .un .not (.tmp 15), none, []⟩,⟨some 17, .mv (.tmp 16), none, []⟩,⟨some 18, .ld (some 2) (.tmp 7), some (17, false), []⟩,⟨some 19, .callS 27 [(.tmp 18)], some (17, false), []⟩,⟨some 20, .un .not (.tmp 19), some (17, false), []⟩,⟨some 21, .pick (.tmp 17) (.val (.bool true)) (.tmp 20), none, []⟩])
 (.cond (.tmp 21) (.seq (.reg [⟨some 22, .ld (some 4) (.tmp 4), none, []⟩,⟨none, .st 4 (.tmp 8) (.tmp 22), none, []⟩,⟨some 9, .mv (.val (.slice .full 0 [])), none, []⟩,⟨some 10, .mv (.val (.bool false)), none, []⟩])
 .ret)
 .skip)) (.seq (.seq (.reg [⟨some 23, .off 0 (.tmp 7), none, []⟩,⟨some 24, .ld none (.tmp 23), none, []⟩,⟨some 25, .bin .eql (.tmp 24) (.val (.int .i64 3)), none, []⟩]) (.cond (.tmp 25) (.seq (.reg [⟨some 26, .bld [(.int .i64 0), (.int .i64 0), (.int .i64 0), (.int .i64 0)] [], none, []⟩,⟨none, .st 4 (.tmp 8) (.tmp 26), none, []⟩,⟨some 9, .mv (.val (.slice .full 0 [])), none, []⟩,⟨some 10, .mv (.val (.bool false)), none, []⟩])
 .ret)
 .skip)) (.seq (.reg [⟨some 27, .call 28 [], none, []⟩,⟨some 28, .off 0 (.tmp 4), none, []⟩,⟨some 29, .ld none (.tmp 28), none, []⟩,⟨some 30, .prt none 4 1 0 (.tmp 27) (.tmp 29), none, []⟩,⟨some 31, .ld (some 4) (.tmp 4), none, []⟩,⟨some 32, .ld (some 6) (.tmp 5), none, []⟩,⟨some 33, .off 5 (.tmp 5), none, []⟩,⟨some 34, .ld none (.tmp 33), none, []⟩,⟨some 35, .mv (.tmp 2), none, []⟩,⟨some 36, .idxA 4 (.tmp 34) (.tmp 35), none, []⟩,⟨some 37, .ld (some 4) (.tmp 36), none, []⟩,⟨some 38, .ld (some 2) (.tmp 7), none, []⟩,⟨some 39, .bld [(.int .i64 0), (.int .i64 0), (.int .i64 0), (.int .i64 0), (.int .i64 0), (.int .i64 0), (.int .i64 0), (.int .i64 0), (.slice .full 0 []), (.slice .full 0 []), (.int .i64 0), (.int .i64 0), (.slice .full 0 []), (.slice .full 0 []), (.int .i64 0), (.slice .full 0 [])] [(0, 4, (.tmp 31)), (4, 6, (.tmp 32)), (10, 4, (.tmp 37)), (14, 2, (.tmp 38))], none, []⟩,⟨some 40, .callv (.tmp 30) [(.tmp 39)], none, []⟩,⟨some 41, .ext (.tmp 40) 0, none, []⟩,⟨some 42, .ext (.tmp 40) 1, none, []⟩,⟨some 43, .ext (.tmp 40) 2, none, []⟩,⟨none, .st 4 (.tmp 8) (.tmp 41), none, []⟩,⟨some 9, .mv (.tmp 42), none, []⟩,⟨some 10, .mv (.tmp 43), none, []⟩])
 .ret)))))
def c_session_Take : AF := ⟨b_session_Take, 44, [.cell 8 (some 4), .tmp 9, .tmp 10]⟩
theorem p_session_Take : prepFunc Tryz.prog 8 = some c_session_Take ∧ hasBody Tryz.prog 8 = true := ⟨by kernel_rfl, by kernel_rfl⟩
def b_ridgewayref17_Take : AC :=
 (.seq
 (.reg [⟨some 4, .box 23 4 (.tmp 0), none, []⟩,⟨some 5, .box 27 6 (.tmp 1), none, []⟩,⟨some 7, .box 30 2 (.tmp 3), none, []⟩,⟨some 8, .box 23 4 (.val (.agg [(.int .i64 0), (.int .i64 0), (.int .i64 0), (.int .i64 0)])), none, []⟩,⟨some 9, .mv (.val (.slice .full 0 [])), none, []⟩,⟨some 10, .mv (.val (.bool false)), none, []⟩])
 (.seq
 (.reg [⟨some 13, .ld (some 4) (.tmp 4), none, []⟩,⟨some 14, .callS 25 [(.tmp 13)], none, []⟩,⟨some 11, .box 23 4 (.val (.agg [(.int .i64 0), (.int .i64 0), (.int .i64 0), (.int .i64 0)])), none, []⟩,⟨none, .st 4 (.tmp 11) (.tmp 14), none, []⟩])
 (.seq
 (.reg [⟨some 15, .ld (some 6) (.tmp 5), none, []⟩,⟨some 16, .mv (.tmp 2), none, []⟩,⟨some 17, .callS 18 [(.tmp 15), (.tmp 16)], none, []⟩,⟨some 12, .box 45 4 (.val (.agg [(.int .i64 0), (.int .i64 0), (.int .i64 0), (.int .i64 0)])), none, []⟩,⟨none, .st 4 (.tmp 12) (.tmp 17), none, []⟩])
 (.seq (.seq (.reg [⟨some 18, .off 0 (.tmp 11), none, []⟩,⟨some 19, .ld none (.tmp 18), none, []⟩,⟨some 20, .bin .eql (.tmp 19) (.val (.int .i64 0)), none, []⟩,⟨some 21, .mv (.tmp 20), none, []⟩,⟨some 22, .off 0 (.tmp 12), some (21, false), []⟩,⟨some 23, .ld none (.tmp 22), some (21, false), []⟩,⟨some 24, .bin .eql (.tmp 23) (.val (.int .i64 0)), some (21, false), []⟩,⟨some 25, .pick (.tmp 21) (.val (.bool true)) (.tmp 24), none, []⟩,⟨some 26, .mv (.tmp 25), none, []⟩,⟨some 27, .ld (some 2) (.tmp 7), some (26, false), []⟩,⟨some 28, .callS 29 [(.tmp 27)], some (26, false), []⟩,⟨some 29, .un .not (.tmp 28), some (26, false), []⟩,⟨some 30, .pick (.tmp 26) (.val (.bool true)) (.tmp 29), none, []⟩]) (.cond (.tmp 30) (.seq (.reg [⟨some 31, .ld (some 4) (.tmp 11), none, []⟩,⟨none, .st 4 (.tmp 8) (.tmp 31), none, []⟩,⟨some 9, .mv (.val (.slice .full 0 [])), none, []⟩,⟨some 10, .mv (.val (.bool false)), none, []⟩])
 .ret)
 .skip)) (.seq (.seq (.reg [⟨some 32, .off 0 (.tmp 7), none, []⟩,⟨some 33, .ld none (.tmp 32), none, []⟩,⟨some 34, .bin .eql (.tmp 33) (.val (.int .i64 3)), none, []⟩]) (.cond (.tmp 34) (.seq (.reg [⟨some 35, .bld [(.int .i64 0), (.int .i64 0), (.int .i64 0), (.int .i64 0)] [], none, []⟩,⟨none, .st 4 (.tmp 8) (.tmp 35), none, []⟩,⟨some 9, .mv (.val (.slice .full 0 [])), none, []⟩,⟨some 10, .mv (.val (.bool false)), none, []⟩])
 .ret)
 .skip)) (.seq (.block 0 (.seq (.reg [⟨some 37, .off 0 (.tmp 11), none, []⟩,⟨some 38, .ld none (.tmp 37), none, []⟩,⟨some 39, .bin .eql (.tmp 38) (.val (.int .i64 1)), none, []⟩,⟨some 40, .mv (.tmp 39), none, []⟩,⟨some 41, .off 0 (.tmp 7), some (40, true), []⟩,⟨some 42, .ld none (.tmp 41), some (40, true), []⟩,⟨some 43, .bin .eql (.tmp 42) (.val (.int .i64 1)), some (40, true), []⟩,⟨some 44, .pick (.tmp 40) (.tmp 43) (.val (.bool false)), none, []⟩,⟨some 36, .mv (.tmp 44), none, []⟩]) (.cond (.tmp 36) (.seq (.reg [⟨some 45, .ld (some 4) (.tmp 11), none, []⟩,⟨some 46, .ld (some 6) (.tmp 5), none, []⟩,⟨some 47, .mv (.tmp 2), none, []⟩,⟨some 48, .ld (some 2) (.tmp 7), none, []⟩,⟨some 49, .callS 30 [(.tmp 45), (.tmp 46), (.tmp 47), (.tmp 48)], none, []⟩,⟨some 50, .ext (.tmp 49) 0, none, []⟩,⟨some 51, .ext (.tmp 49) 1, none, []⟩,⟨some 52, .ext (.tmp 49) 2, none, []⟩,⟨none, .st 4 (.tmp 8) (.tmp 50), none, []⟩,⟨some 9, .mv (.tmp 51), none, []⟩,⟨some 10, .mv (.tmp 52), none, []⟩])
 .ret) (.seq (.reg [⟨some 54, .off 0 (.tmp 11), none, []⟩,⟨some 55, .ld none (.tmp 54), none, []⟩,⟨some 56, .bin .eql (.tmp 55) (.val (.int .i64 1)), none, []⟩,⟨some 53, .mv (.tmp 56), none, []⟩]) (.cond (.tmp 53) (.seq (.reg [⟨some 57, .ld (some 4) (.tmp 11), none, []⟩,⟨some 58, .callS 31 [(.tmp 57), (.val (.int .i64 5)), (.val (.int .i64 1))], none, []⟩,⟨some 59, .ext (.tmp 58) 0, none, []⟩,⟨some 60, .ext (.tmp 58) 1, none, []⟩,⟨some 61, .ext (.tmp 58) 2, none, []⟩,⟨none, .st 4 (.tmp 8) (.tmp 59), none, []⟩,⟨some 9, .mv (.tmp 60), none, []⟩,⟨some 10, .mv (.tmp 61), none, []⟩])
 .ret) (.seq (.reg [⟨some 63, .off 0 (.tmp 11), none, []⟩,⟨some 64, .ld none (.tmp 63), none, []⟩,⟨some 65, .bin .eql (.tmp 64) (.val (.int .i64 2)), none, []⟩,⟨some 66, .mv (.tmp 65), none, []⟩,⟨some 67, .off 0 (.tmp 7), some (66, true), []⟩,⟨some 68, .ld none (.tmp 67), some (66, true), []⟩,⟨some 69, .bin .neq (.tmp 68) (.val (.int .i64 4)), some (66, true), []⟩,⟨some 70, .pick (.tmp 66) (.tmp 69) (.val (.bool false)), none, []⟩,⟨some 62, .mv (.tmp 70), none, []⟩]) (.cond (.tmp 62) (.seq (.reg [⟨some 71, .ld (some 4) (.tmp 11), none, []⟩,⟨some 72, .callS 31 [(.tmp 71), (.val (.int .i64 5)), (.val (.int .i64 2))], none, []⟩,⟨some 73, .ext (.tmp 72) 0, none, []⟩,⟨some 74, .ext (.tmp 72) 1, none, []⟩,⟨some 75, .ext (.tmp 72) 2, none, []⟩,⟨none, .st 4 (.tmp 8) (.tmp 73), none, []⟩,⟨some 9, .mv (.tmp 74), none, []⟩,⟨some 10, .mv (.tmp 75), none, []⟩])
 .ret) (.seq (.reg [⟨some 77, .off 0 (.tmp 11), none, []⟩,⟨some 78, .ld none (.tmp 77), none, []⟩,⟨some 79, .bin .eql (.tmp 78) (.val (.int .i64 3)), none, []⟩,⟨some 80, .mv (.tmp 79), none, []⟩,⟨some 81, .off 0 (.tmp 7), some (80, true), []⟩,⟨some 82, .ld none (.tmp 81), some (80, true), []⟩,⟨some 83, .bin .eql (.tmp 82) (.val (.int .i64 1)), some (80, true), []⟩,⟨some 84, .pick (.tmp 80) (.tmp 83) (.val (.bool false)), none, []⟩,⟨some 76, .mv (.tmp 84), none, []⟩]) (.cond (.tmp 76) (.seq (.reg [⟨some 85, .ld (some 4) (.tmp 11), none, []⟩,⟨some 86, .callS 31 [(.tmp 85), (.val (.int .i64 5)), (.val (.int .i64 3))], none, []⟩,⟨some 87, .ext (.tmp 86) 0, none, []⟩,⟨some 88, .ext (.tmp 86) 1, none, []⟩,⟨some 89, .ext (.tmp 86) 2, none, []⟩,⟨none, .st 4 (.tmp 8) (.tmp 87), none, []⟩,⟨some 9, .mv (.tmp 88), none, []⟩,⟨some 10, .mv (.tmp 89), none, []⟩])
 .ret)
 .skip))))))))) (.seq (.reg [⟨some 90, .off 0 (.tmp 11), none, []⟩,⟨none, .st 1 (.tmp 90) (.val (.int .i64 3)), none, []⟩]) (.seq (.reg [⟨some 91, .off 1 (.tmp 11), none, []⟩,⟨some 92, .ld none (.tmp 91), none, []⟩,⟨some 93, .off 2 (.tmp 11), none, []⟩,⟨none, .st 1 (.tmp 93) (.tmp 92), none, []⟩]) (.seq (.reg [⟨some 94, .ld (some 4) (.tmp 11), none, []⟩,⟨some 95, .off 0 (.tmp 7), none, []⟩,⟨some 96, .ld none (.tmp 95), none, []⟩,⟨some 97, .bin .eql (.tmp 96) (.val (.int .i64 2)), none, []⟩,⟨none, .st 4 (.tmp 8) (.tmp 94), none, [(none, (.tmp 95), 96)]⟩,⟨some 9, .mv (.val (.slice .full 0 [])), none, [(none, (.tmp 95), 96)]⟩,⟨some 10, .mv (.tmp 97), none, []⟩])
 .ret)))))))))
def c_ridgewayref17_Take : AF := ⟨b_ridgewayref17_Take, 98, [.cell 8 (some 4), .tmp 9, .tmp 10]⟩
theorem p_ridgewayref17_Take : prepFunc Tryz.prog 9 = some c_ridgewayref17_Take ∧ hasBody Tryz.prog 9 = true := ⟨by kernel_rfl, by kernel_rfl⟩
def b_session_Tick : AC :=
 (.seq
 (.reg [⟨some 2, .box 23 4 (.tmp 0), none, []⟩,⟨some 4, .box 23 4 (.val (.agg [(.int .i64 0), (.int .i64 0), (.int .i64 0), (.int .i64 0)])), none, []⟩,⟨some 5, .mv (.val (.slice .full 0 [])), none, []⟩])
 (.seq
 (.reg [⟨some 9, .ld (some 4) (.tmp 2), none, []⟩,⟨some 10, .callS 22 [(.tmp 9)], none, []⟩,⟨none, .st 4 (.tmp 2) (.tmp 10), none, []⟩])
 (.seq
 (.reg [⟨some 6, .mv (.val (.slice .full 0 [])), none, []⟩])
 (.seq
 (.seq
 (.reg [⟨some 11, .mv (.tmp 1), none, []⟩,⟨some 12, .mn (.tmp 11) (.val (.int .i64 1000)), none, []⟩,⟨some 13, .mv (.val (.int .i64 0)), none, []⟩])
 (.block 0
 (.loop
 (.seq
 (.reg [⟨some 14, .bin .lss (.tmp 13) (.tmp 12), none, []⟩])
 (.seq
 (.cond (.tmp 14)
 .skip (.exit 0)) (.seq (.block 1 (.seq (.reg [⟨some 16, .ld (some 4) (.tmp 2), none, []⟩,⟨some 17, .callS 32 [(.tmp 16)], none, []⟩,⟨some 15, .mv (.tmp 17), none, []⟩,⟨some 18, .ext (.tmp 15) 0, none, []⟩,⟨some 19, .ext (.tmp 15) 1, none, []⟩,⟨some 7, .box 23 4 (.val (.agg [(.int .i64 0), (.int .i64 0), (.int .i64 0), (.int .i64 0)])), none, []⟩,⟨none, .st 4 (.tmp 7) (.tmp 18), none, []⟩,⟨some 8, .mv (.tmp 19), none, []⟩]) (.reg [⟨some 21, .mv (.tmp 6), none, []⟩,⟨some 22, .mv (.tmp 8), none, []⟩,⟨some 20, .ld (some 4) (.tmp 7), none, []⟩,⟨some 23, .app 30 2 32 (.tmp 21) (.tmp 22), none, [((some 4), (.tmp 7), 20)]⟩,⟨none, .st 4 (.tmp 2) (.tmp 20), none, []⟩,⟨some 6, .mv (.tmp 23), none, []⟩]))) (.reg [⟨some 24, .bin .add (.tmp 13) (.val (.int .i64 1)), none, []⟩,⟨some 13, .mv (.tmp 24), none, []⟩]))))))) (.seq (.reg [⟨some 25, .ld (some 4) (.tmp 2), none, []⟩,⟨some 26, .mv (.tmp 6), none, []⟩,⟨none, .st 4 (.tmp 4) (.tmp 25), none, []⟩,⟨some 5, .mv (.tmp 26), none, []⟩])
 .ret)))))
def c_session_Tick : AF := ⟨b_session_Tick, 27, [.cell 4 (some 4), .tmp 5]⟩
theorem p_session_Tick : prepFunc Tryz.prog 10 = some c_session_Tick ∧ hasBody Tryz.prog 10 = true := ⟨by kernel_rfl, by kernel_rfl⟩
def b_ridgewayref17_Tick : AC :=
 (.seq
 (.reg [⟨some 2, .box 23 4 (.tmp 0), none, []⟩,⟨some 4, .box 23 4 (.val (.agg [(.int .i64 0), (.int .i64 0), (.int .i64 0), (.int .i64 0)])), none, []⟩,⟨some 5, .mv (.val (.slice .full 0 [])), none, []⟩])
 (.seq
 (.reg [⟨some 11, .ld (some 4) (.tmp 2), none, []⟩,⟨some 12, .callS 25 [(.tmp 11)], none, []⟩,⟨some 6, .box 23 4 (.val (.agg [(.int .i64 0), (.int .i64 0), (.int .i64 0), (.int .i64 0)])), none, []⟩,⟨none, .st 4 (.tmp 6) (.tmp 12), none, []⟩])
 (.seq
 (.reg [⟨some 7, .mv (.val (.slice .full 0 [])), none, []⟩])
 (.seq
 (.seq
 (.reg [⟨some 8, .mv (.val (.int .i64 0)), none, []⟩])
 (.block 0
 (.loop
 (.seq
 (.seq
 (.reg [⟨some 13, .mv (.tmp 8), none, []⟩,⟨some 14, .mv (.tmp 1), none, []⟩,⟨some 15, .mn (.tmp 14) (.val (.int .i64 1000)), none, []⟩,⟨some 16, .bin .lss (.tmp 13) (.tmp 15), none, []⟩,⟨some 17, .mv (.tmp 16), none, []⟩,⟨some 18, .off 2 (.tmp 6), some (17, true), []⟩,⟨some 19, .ld none (.tmp 18), some (17, true), []⟩,⟨some 20, .bin .gtr (.tmp 19) (.val (.int .i64 0)), some (17, true), []⟩,⟨some 21, .pick (.tmp 17) (.tmp 20) (.val (.bool false)), none, []⟩])
 (.cond (.tmp 21)
 .skip (.exit 0))) (.seq (.block 1 (.seq (.reg [⟨some 24, .off 2 (.tmp 6), none, []⟩,⟨some 25, .ld none (.tmp 24), none, []⟩,⟨some 26, .bin .sub (.tmp 25) (.val (.int .i64 1)), none, []⟩,⟨some 27, .off 2 (.tmp 6), none, []⟩,⟨none, .st 1 (.tmp 27) (.tmp 26), none, []⟩]) (.seq (.seq (.reg [⟨some 28, .off 2 (.tmp 6), none, []⟩,⟨some 29, .ld none (.tmp 28), none, []⟩,⟨some 30, .bin .eql (.tmp 29) (.val (.int .i64 0)), none, []⟩]) (.cond (.tmp 30) (.seq (.reg [⟨some 32, .bld [(.int .i64 0), (.int .i64 0), (.int .i64 0), (.int .i64 0)] [(0, 1, (.val (.int .i64 1))), (2, 1, (.val (.int .i64 1)))], none, []⟩,⟨some 33, .bld [(.int .i64 0), (.int .i64 0), (.slice .full 0 [])] [(0, 1, (.val (.int .i64 4)))], none, []⟩,⟨some 34, .callS 13 [(.tmp 32), (.tmp 33)], none, []⟩,⟨some 31, .mv (.tmp 34), none, []⟩,⟨some 35, .ext (.tmp 31) 0, none, []⟩,⟨some 36, .ext (.tmp 31) 1, none, []⟩,⟨some 9, .box 23 4 (.val (.agg [(.int .i64 0), (.int .i64 0), (.int .i64 0), (.int .i64 0)])), none, []⟩,⟨none, .st 4 (.tmp 9) (.tmp 35), none, []⟩,⟨some 10, .mv (.tmp 36), none, []⟩])
 (.seq (.reg [⟨some 37, .mv (.tmp 7), none, []⟩,⟨some 38, .mv (.tmp 10), none, []⟩,⟨some 39, .app 30 2 32 (.tmp 37) (.tmp 38), none, []⟩,⟨some 7, .mv (.tmp 39), none, []⟩]) (.seq (.reg [⟨some 40, .ld (some 4) (.tmp 9), none, []⟩,⟨some 41, .mv (.tmp 7), none, []⟩,⟨none, .st 4 (.tmp 4) (.tmp 40), none, []⟩,⟨some 5, .mv (.tmp 41), none, []⟩])
 .ret)))
 .skip)) (.seq (.reg [⟨some 42, .off 3 (.tmp 6), none, []⟩,⟨some 43, .ld none (.tmp 42), none, []⟩,⟨some 44, .bin .gtr (.tmp 43) (.val (.int .i64 0)), none, []⟩]) (.cond (.tmp 44) (.seq (.reg [⟨some 45, .off 3 (.tmp 6), none, []⟩,⟨some 46, .ld none (.tmp 45), none, []⟩,⟨some 47, .bin .sub (.tmp 46) (.val (.int .i64 1)), none, []⟩,⟨some 48, .off 3 (.tmp 6), none, []⟩,⟨none, .st 1 (.tmp 48) (.tmp 47), none, []⟩]) (.seq (.reg [⟨some 49, .off 3 (.tmp 6), none, []⟩,⟨some 50, .ld none (.tmp 49), none, []⟩,⟨some 51, .bin .eql (.tmp 50) (.val (.int .i64 0)), none, []⟩]) (.cond (.tmp 51) (.seq (.reg [⟨some 52, .mv (.tmp 7), none, []⟩,⟨some 53, .bld [(.int .i64 0), (.slice .full 0 [])] [(0, 1, (.val (.int .i64 4)))], none, []⟩,⟨some 54, .lit 30 2 [0, 1] [(.tmp 53)], none, []⟩,⟨some 55, .app 30 2 32 (.tmp 52) (.tmp 54), none, []⟩,⟨some 7, .mv (.tmp 55), none, []⟩]) (.reg [⟨some 56, .off 1 (.tmp 6), none, []⟩,⟨some 57, .ld none (.tmp 56), none, []⟩,⟨some 58, .bin .quo (.tmp 57) (.val (.int .i64 3)), none, []⟩,⟨some 59, .off 3 (.tmp 6), none, []⟩,⟨none, .st 1 (.tmp 59) (.tmp 58), none, []⟩]))
 .skip)))
 .skip))))) (.reg [⟨some 22, .mv (.tmp 8), none, []⟩,⟨some 23, .bin .add (.tmp 22) (.val (.int .i64 1)), none, []⟩,⟨some 8, .mv (.tmp 23), none, []⟩])))))) (.seq (.reg [⟨some 60, .ld (some 4) (.tmp 6), none, []⟩,⟨some 61, .mv (.tmp 7), none, []⟩,⟨none, .st 4 (.tmp 4) (.tmp 60), none, []⟩,⟨some 5, .mv (.tmp 61), none, []⟩])
 .ret)))))
def c_ridgewayref17_Tick : AF := ⟨b_ridgewayref17_Tick, 62, [.cell 4 (some 4), .tmp 5]⟩
theorem p_ridgewayref17_Tick : prepFunc Tryz.prog 11 = some c_ridgewayref17_Tick ∧ hasBody Tryz.prog 11 = true := ⟨by kernel_rfl, by kernel_rfl⟩
def b_session_Stop : AC :=
 (.seq
 (.reg [⟨some 2, .box 23 4 (.tmp 0), none, []⟩,⟨some 3, .box 34 3 (.tmp 1), none, []⟩,⟨some 4, .box 23 4 (.val (.agg [(.int .i64 0), (.int .i64 0), (.int .i64 0), (.int .i64 0)])), none, []⟩,⟨some 5, .mv (.val (.slice .full 0 [])), none, []⟩])
 (.seq
 (.seq
 (.reg [⟨some 6, .ld (some 4) (.tmp 2), none, []⟩,⟨some 7, .callS 22 [(.tmp 6)], none, []⟩,⟨some 8, .prt none 1 0 0 (.tmp 7) (.val (.int .i64 0)), none, []⟩,⟨some 9, .bin .eql (.tmp 8) (.val (.int .i64 0)), none, []⟩,⟨some 10, .mv (.tmp 9), none, []⟩,⟨some 11, .ld (some 3) (.tmp 3), some (10, false), []⟩,⟨some 12, .callS 33 [(.tmp 11)], some (10, false), []⟩,⟨some 13, .un .not (.tmp 12), some (10, false), []⟩,⟨some 14, .pick (.tmp 10) (.val (.bool true)) (.tmp 13), none, []⟩])
 (.cond (.tmp 14)
 (.seq
 (.reg [⟨some 15, .bld [(.int .i64 0), (.int .i64 0), (.int .i64 0), (.int .i64 0)] [], none, []⟩,⟨none, .st 4 (.tmp 4) (.tmp 15), none, []⟩,⟨some 5, .mv (.val (.slice .full 0 [])), none, []⟩])
 .ret)
 .skip)) (.seq (.reg [⟨some 16, .bld [(.int .i64 0), (.int .i64 0), (.int .i64 0), (.int .i64 0)] [], none, []⟩,⟨some 17, .ld (some 3) (.tmp 3), none, []⟩,⟨some 18, .callS 34 [(.tmp 17)], none, []⟩,⟨some 19, .lit 30 2 [0, 1] [(.tmp 18)], none, []⟩,⟨none, .st 4 (.tmp 4) (.tmp 16), none, []⟩,⟨some 5, .mv (.tmp 19), none, []⟩])
 .ret)))
def c_session_Stop : AF := ⟨b_session_Stop, 20, [.cell 4 (some 4), .tmp 5]⟩
theorem p_session_Stop : prepFunc Tryz.prog 12 = some c_session_Stop ∧ hasBody Tryz.prog 12 = true := ⟨by kernel_rfl, by kernel_rfl⟩
def b_ridgewayref17_Stop : AC :=
 (.seq
 (.reg [⟨some 2, .box 23 4 (.tmp 0), none, []⟩,⟨some 3, .box 34 3 (.tmp 1), none, []⟩,⟨some 4, .box 23 4 (.val (.agg [(.int .i64 0), (.int .i64 0), (.int .i64 0), (.int .i64 0)])), none, []⟩,⟨some 5, .mv (.val (.slice .full 0 [])), none, []⟩])
 (.seq
 (.reg [⟨some 8, .ld (some 4) (.tmp 2), none, []⟩,⟨some 9, .callS 25 [(.tmp 8)], none, []⟩,⟨some 6, .box 23 4 (.val (.agg [(.int .i64 0), (.int .i64 0), (.int .i64 0), (.int .i64 0)])), none, []⟩,⟨none, .st 4 (.tmp 6) (.tmp 9), none, []⟩])
 (.seq
 (.seq
 (.reg [⟨some 10, .off 0 (.tmp 6), none, []⟩,⟨some 11, .ld none (.tmp 10), none, []⟩,⟨some 12, .bin .eql (.tmp 11) (.val (.int .i64 0)), none, []⟩])
 (.cond (.tmp 12)
 (.seq
 (.reg [⟨some 13, .ld (some 4) (.tmp 6), none, []⟩,⟨none, .st 4 (.tmp 4) (.tmp 13), none, []⟩,⟨some 5, .mv (.val (.slice .full 0 [])), none, []⟩])
 .ret)
 .skip)) (.seq (.reg [⟨some 14, .ld (some 3) (.tmp 3), none, []⟩,⟨some 15, .callS 35 [(.tmp 14)], none, []⟩,⟨some 7, .box 30 2 (.val (.agg [(.int .i64 0), (.slice .full 0 [])])), none, []⟩,⟨none, .st 2 (.tmp 7) (.tmp 15), none, []⟩]) (.seq (.seq (.reg [⟨some 16, .off 0 (.tmp 7), none, []⟩,⟨some 17, .ld none (.tmp 16), none, []⟩,⟨some 18, .bin .eql (.tmp 17) (.val (.int .i64 0)), none, []⟩]) (.cond (.tmp 18) (.seq (.reg [⟨some 19, .bld [(.int .i64 0), (.int .i64 0), (.int .i64 0), (.int .i64 0)] [], none, []⟩,⟨none, .st 4 (.tmp 4) (.tmp 19), none, []⟩,⟨some 5, .mv (.val (.slice .full 0 [])), none, []⟩])
 .ret)
 .skip)) (.seq (.reg [⟨some 20, .bld [(.int .i64 0), (.int .i64 0), (.int .i64 0), (.int .i64 0)] [], none, []⟩,⟨some 21, .ld (some 2) (.tmp 7), none, []⟩,⟨some 22, .lit 30 2 [0, 1] [(.tmp 21)], none, []⟩,⟨none, .st 4 (.tmp 4) (.tmp 20), none, [((some 2), (.tmp 7), 21)]⟩,⟨some 5, .mv (.tmp 22), none, []⟩])
 .ret))))))
def c_ridgewayref17_Stop : AF := ⟨b_ridgewayref17_Stop, 23, [.cell 4 (some 4), .tmp 5]⟩
theorem p_ridgewayref17_Stop : prepFunc Tryz.prog 13 = some c_ridgewayref17_Stop ∧ hasBody Tryz.prog 13 = true := ⟨by kernel_rfl, by kernel_rfl⟩
def b_ridgewayref03_SameAll : AC :=
 (.seq
 (.reg [⟨some 4, .mv (.val (.bool false)), none, []⟩])
 (.seq
 (.seq
 (.reg [⟨some 6, .mv (.tmp 0), none, []⟩,⟨some 7, .len (.tmp 6), none, []⟩,⟨some 8, .mv (.tmp 1), none, []⟩,⟨some 9, .len (.tmp 8), none, []⟩,⟨some 10, .bin .neq (.tmp 7) (.tmp 9), none, []⟩])
 (.cond (.tmp 10)
 (.seq
 (.reg [⟨some 4, .mv (.val (.bool false)), none, []⟩])
 .ret)
 .skip)) (.seq (.seq (.reg [⟨some 5, .mv (.val (.int .i64 0)), none, []⟩]) (.block 0 (.loop (.seq (.seq (.reg [⟨some 11, .mv (.tmp 5), none, []⟩,⟨some 12, .mv (.tmp 0), none, []⟩,⟨some 13, .len (.tmp 12), none, []⟩,⟨some 14, .bin .lss (.tmp 11) (.tmp 13), none, []⟩]) (.cond (.tmp 14)
 .skip (.exit 0))) (.seq (.block 1 (.seq (.reg [⟨some 17, .mv (.tmp 0), none, []⟩,⟨some 18, .mv (.tmp 5), none, []⟩,⟨some 19, .idxA 2 (.tmp 17) (.tmp 18), none, []⟩,⟨some 20, .ld (some 2) (.tmp 19), none, []⟩,⟨some 21, .mv (.tmp 1), none, []⟩,⟨some 22, .mv (.tmp 5), none, []⟩,⟨some 23, .idxA 2 (.tmp 21) (.tmp 22), none, []⟩,⟨some 24, .ld (some 2) (.tmp 23), none, []⟩,⟨some 25, .callS 36 [(.tmp 20), (.tmp 24)], none, []⟩,⟨some 26, .un .not (.tmp 25), none, []⟩]) (.cond (.tmp 26) (.seq (.reg [⟨some 4, .mv (.val (.bool false)), none, []⟩])
 .ret)
 .skip))) (.reg [⟨some 15, .mv (.tmp 5), none, []⟩,⟨some 16, .bin .add (.tmp 15) (.val (.int .i64 1)), none, []⟩,⟨some 5, .mv (.tmp 16), none, []⟩])))))) (.seq (.reg [⟨some 4, .mv (.val (.bool true)), none, []⟩])
 .ret))))
def c_ridgewayref03_SameAll : AF := ⟨b_ridgewayref03_SameAll, 27, [.tmp 4]⟩
theorem p_ridgewayref03_SameAll : prepFunc Tryz.prog 14 = some c_ridgewayref03_SameAll ∧ hasBody Tryz.prog 14 = true := ⟨by kernel_rfl, by kernel_rfl⟩
def b_session_Sane : AC :=
 (.seq
 (.reg [⟨some 1, .box 23 4 (.tmp 0), none, []⟩,⟨some 2, .mv (.val (.bool false)), none, []⟩])
 (.seq
 (.seq
 (.reg [⟨some 3, .off 0 (.tmp 1), none, []⟩,⟨some 4, .ld none (.tmp 3), none, []⟩])
 (.block 0
 (.seq
 (.reg [⟨some 6, .bin .eql (.tmp 4) (.val (.int .i64 0)), none, []⟩,⟨some 5, .mv (.tmp 6), none, []⟩])
 (.cond (.tmp 5)
 (.seq
 (.reg [⟨some 7, .ld (some 4) (.tmp 1), none, []⟩,⟨some 8, .bld [(.int .i64 0), (.int .i64 0), (.int .i64 0), (.int .i64 0)] [], none, []⟩,⟨some 9, .eqA false 4 [(0, 0), (1, 0), (2, 0), (3, 0)] (.tmp 7) (.tmp 8), none, []⟩,⟨some 2, .mv (.tmp 9), none, []⟩])
 .ret) (.seq (.reg [⟨some 11, .bin .eql (.tmp 4) (.val (.int .i64 1)), none, []⟩,⟨some 10, .mv (.tmp 11), none, []⟩]) (.cond (.tmp 10) (.seq (.reg [⟨some 12, .off 1 (.tmp 1), none, []⟩,⟨some 13, .ld none (.tmp 12), none, []⟩,⟨some 14, .bin .eql (.tmp 13) (.val (.int .i64 0)), none, []⟩,⟨some 15, .mv (.tmp 14), none, []⟩,⟨some 16, .off 3 (.tmp 1), some (15, true), []⟩,⟨some 17, .ld none (.tmp 16), some (15, true), []⟩,⟨some 18, .bin .eql (.tmp 17) (.val (.int .i64 0)), some (15, true), []⟩,⟨some 19, .pick (.tmp 15) (.tmp 18) (.val (.bool false)), none, []⟩,⟨some 20, .mv (.tmp 19), none, []⟩,⟨some 21, .off 2 (.tmp 1), some (20, true), []⟩,⟨some 22, .ld none (.tmp 21), some (20, true), []⟩,⟨some 23, .bin .geq (.tmp 22) (.val (.int .i64 1)), some (20, true), []⟩,⟨some 24, .pick (.tmp 20) (.tmp 23) (.val (.bool false)), none, []⟩,⟨some 25, .mv (.tmp 24), none, []⟩,⟨some 26, .off 2 (.tmp 1), some (25, true), []⟩,⟨some 27, .ld none (.tmp 26), some (25, true), []⟩,⟨some 28, .bin .leq (.tmp 27) (.val (.int .i64 240)), some (25, true), []⟩,⟨some 29, .pick (.tmp 25) (.tmp 28) (.val (.bool false)), none, []⟩,⟨some 2, .mv (.tmp 29), none, []⟩])
 .ret) (.seq (.seq (.reg [⟨some 31, .bin .eql (.tmp 4) (.val (.int .i64 2)), none, []⟩,⟨some 30, .mv (.tmp 31), none, []⟩]) (.cond (.tmp 30)
 .skip (.reg [⟨some 32, .bin .eql (.tmp 4) (.val (.int .i64 3)), none, []⟩,⟨some 30, .mv (.tmp 32), none, []⟩]))) (.cond (.tmp 30) (.seq (.seq (.reg [⟨some 33, .off 1 (.tmp 1), none, []⟩,⟨some 34, .ld none (.tmp 33), none, []⟩,⟨some 35, .bin .eql (.tmp 34) (.val (.int .i64 0)), none, []⟩]) (.cond (.tmp 35) (.seq (.reg [⟨some 36, .off 2 (.tmp 1), none, []⟩,⟨some 37, .ld none (.tmp 36), none, []⟩,⟨some 38, .bin .eql (.tmp 37) (.val (.int .i64 0)), none, []⟩,⟨some 39, .mv (.tmp 38), none, []⟩,⟨some 40, .off 3 (.tmp 1), some (39, true), []⟩,⟨some 41, .ld none (.tmp 40), some (39, true), []⟩,⟨some 42, .bin .eql (.tmp 41) (.val (.int .i64 0)), some (39, true), []⟩,⟨some 43, .pick (.tmp 39) (.tmp 42) (.val (.bool false)), none, []⟩,⟨some 2, .mv (.tmp 43), none, []⟩])
 .ret)
 .skip)) (.seq (.reg [⟨some 44, .off 1 (.tmp 1), none, []⟩,⟨some 45, .ld none (.tmp 44), none, []⟩,⟨some 46, .bin .geq (.tmp 45) (.val (.int .i64 3)), none, []⟩,⟨some 47, .mv (.tmp 46), none, []⟩,⟨some 48, .off 1 (.tmp 1), some (47, true), []⟩,⟨some 49, .ld none (.tmp 48), some (47, true), []⟩,⟨some 50, .bin .leq (.tmp 49) (.val (.int .i64 65535)), some (47, true), []⟩,⟨some 51, .pick (.tmp 47) (.tmp 50) (.val (.bool false)), none, []⟩,⟨some 52, .mv (.tmp 51), none, []⟩,⟨some 53, .off 2 (.tmp 1), some (52, true), []⟩,⟨some 54, .ld none (.tmp 53), some (52, true), []⟩,⟨some 55, .bin .geq (.tmp 54) (.val (.int .i64 1)), some (52, true), []⟩,⟨some 56, .pick (.tmp 52) (.tmp 55) (.val (.bool false)), none, []⟩,⟨some 57, .mv (.tmp 56), none, []⟩,⟨some 58, .off 2 (.tmp 1), some (57, true), []⟩,⟨some 59, .ld none (.tmp 58), some (57, true), []⟩,⟨some 60, .off 1 (.tmp 1), some (57, true), []⟩,⟨some 61, .ld none (.tmp 60), some (57, true), []⟩,⟨some 62, .bin .leq (.tmp 59) (.tmp 61), some (57, true), []⟩,⟨some 63, .pick (.tmp 57) (.tmp 62) (.val (.bool false)), none, []⟩,⟨some 64, .mv (.tmp 63), none, []⟩,⟨some 65, .off 3 (.tmp 1), some (64, true), []⟩,⟨some 66, .ld none (.tmp 65), some (64, true), []⟩,⟨some 67, .bin .geq (.tmp 66) (.val (.int .i64 1)), some (64, true), []⟩,⟨some 68, .pick (.tmp 64) (.tmp 67) (.val (.bool false)), none, []⟩,⟨some 69, .mv (.tmp 68), none, []⟩,⟨some 70, .off 3 (.tmp 1), some (69, true), []⟩,⟨some 71, .ld none (.tmp 70), some (69, true), []⟩,⟨some 72, .off 1 (.tmp 1), some (69, true), []⟩,⟨some 73, .ld none (.tmp 72), some (69, true), []⟩,⟨some 74, .call 37 [(.tmp 73)], some (69, true), []⟩,⟨some 75, .bin .leq (.tmp 71) (.tmp 74), some (69, true), []⟩,⟨some 76, .pick (.tmp 69) (.tmp 75) (.val (.bool false)), none, []⟩,⟨some 2, .mv (.tmp 76), none, []⟩])
 .ret))
 .skip)))))))) (.seq (.reg [⟨some 2, .mv (.val (.bool false)), none, []⟩])
 .ret)))
def c_session_Sane : AF := ⟨b_session_Sane, 77, [.tmp 2]⟩
theorem p_session_Sane : prepFunc Tryz.prog 15 = some c_session_Sane ∧ hasBody Tryz.prog 15 = true := ⟨by kernel_rfl, by kernel_rfl⟩
def b_ridgewayref17_Sane : AC :=
 (.seq
 (.reg [⟨some 1, .box 23 4 (.tmp 0), none, []⟩,⟨some 2, .mv (.val (.bool false)), none, []⟩])
 (.seq
 (.seq
 (.reg [⟨some 3, .off 0 (.tmp 1), none, []⟩,⟨some 4, .ld none (.tmp 3), none, []⟩])
 (.block 0
 (.seq
 (.reg [⟨some 6, .bin .eql (.tmp 4) (.val (.int .i64 0)), none, []⟩,⟨some 5, .mv (.tmp 6), none, []⟩])
 (.cond (.tmp 5)
 (.seq
 (.reg [⟨some 7, .ld (some 4) (.tmp 1), none, []⟩,⟨some 8, .bld [(.int .i64 0), (.int .i64 0), (.int .i64 0), (.int .i64 0)] [], none, []⟩,⟨some 9, .eqA false 4 [(0, 0), (1, 0), (2, 0), (3, 0)] (.tmp 7) (.tmp 8), none, []⟩,⟨some 2, .mv (.tmp 9), none, []⟩])
 .ret) (.seq (.reg [⟨some 11, .bin .eql (.tmp 4) (.val (.int .i64 1)), none, []⟩,⟨some 10, .mv (.tmp 11), none, []⟩]) (.cond (.tmp 10) (.seq (.reg [⟨some 12, .off 1 (.tmp 1), none, []⟩,⟨some 13, .ld none (.tmp 12), none, []⟩,⟨some 14, .bin .eql (.tmp 13) (.val (.int .i64 0)), none, []⟩,⟨some 15, .mv (.tmp 14), none, []⟩,⟨some 16, .off 3 (.tmp 1), some (15, true), []⟩,⟨some 17, .ld none (.tmp 16), some (15, true), []⟩,⟨some 18, .bin .eql (.tmp 17) (.val (.int .i64 0)), some (15, true), []⟩,⟨some 19, .pick (.tmp 15) (.tmp 18) (.val (.bool false)), none, []⟩,⟨some 20, .mv (.tmp 19), none, []⟩,⟨some 21, .off 2 (.tmp 1), some (20, true), []⟩,⟨some 22, .ld none (.tmp 21), some (20, true), []⟩,⟨some 23, .bin .geq (.tmp 22) (.val (.int .i64 1)), some (20, true), []⟩,⟨some 24, .pick (.tmp 20) (.tmp 23) (.val (.bool false)), none, []⟩,⟨some 25, .mv (.tmp 24), none, []⟩,⟨some 26, .off 2 (.tmp 1), some (25, true), []⟩,⟨some 27, .ld none (.tmp 26), some (25, true), []⟩,⟨some 28, .bin .leq (.tmp 27) (.val (.int .i64 240)), some (25, true), []⟩,⟨some 29, .pick (.tmp 25) (.tmp 28) (.val (.bool false)), none, []⟩,⟨some 2, .mv (.tmp 29), none, []⟩])
 .ret) (.seq (.seq (.reg [⟨some 31, .bin .eql (.tmp 4) (.val (.int .i64 2)), none, []⟩,⟨some 30, .mv (.tmp 31), none, []⟩]) (.cond (.tmp 30)
 .skip (.reg [⟨some 32, .bin .eql (.tmp 4) (.val (.int .i64 3)), none, []⟩,⟨some 30, .mv (.tmp 32), none, []⟩]))) (.cond (.tmp 30) (.seq (.seq (.reg [⟨some 33, .off 1 (.tmp 1), none, []⟩,⟨some 34, .ld none (.tmp 33), none, []⟩,⟨some 35, .bin .eql (.tmp 34) (.val (.int .i64 0)), none, []⟩]) (.cond (.tmp 35) (.seq (.reg [⟨some 36, .off 2 (.tmp 1), none, []⟩,⟨some 37, .ld none (.tmp 36), none, []⟩,⟨some 38, .bin .eql (.tmp 37) (.val (.int .i64 0)), none, []⟩,⟨some 39, .mv (.tmp 38), none, []⟩,⟨some 40, .off 3 (.tmp 1), some (39, true), []⟩,⟨some 41, .ld none (.tmp 40), some (39, true), []⟩,⟨some 42, .bin .eql (.tmp 41) (.val (.int .i64 0)), some (39, true), []⟩,⟨some 43, .pick (.tmp 39) (.tmp 42) (.val (.bool false)), none, []⟩,⟨some 2, .mv (.tmp 43), none, []⟩])
 .ret)
 .skip)) (.seq (.reg [⟨some 44, .off 1 (.tmp 1), none, []⟩,⟨some 45, .ld none (.tmp 44), none, []⟩,⟨some 46, .bin .geq (.tmp 45) (.val (.int .i64 3)), none, []⟩,⟨some 47, .mv (.tmp 46), none, []⟩,⟨some 48, .off 1 (.tmp 1), some (47, true), []⟩,⟨some 49, .ld none (.tmp 48), some (47, true), []⟩,⟨some 50, .bin .leq (.tmp 49) (.val (.int .i64 65535)), some (47, true), []⟩,⟨some 51, .pick (.tmp 47) (.tmp 50) (.val (.bool false)), none, []⟩,⟨some 52, .mv (.tmp 51), none, []⟩,⟨some 53, .off 2 (.tmp 1), some (52, true), []⟩,⟨some 54, .ld none (.tmp 53), some (52, true), []⟩,⟨some 55, .bin .geq (.tmp 54) (.val (.int .i64 1)), some (52, true), []⟩,⟨some 56, .pick (.tmp 52) (.tmp 55) (.val (.bool false)), none, []⟩,⟨some 57, .mv (.tmp 56), none, []⟩,⟨some 58, .off 2 (.tmp 1), some (57, true), []⟩,⟨some 59, .ld none (.tmp 58), some (57, true), []⟩,⟨some 60, .off 1 (.tmp 1), some (57, true), []⟩,⟨some 61, .ld none (.tmp 60), some (57, true), []⟩,⟨some 62, .bin .leq (.tmp 59) (.tmp 61), some (57, true), []⟩,⟨some 63, .pick (.tmp 57) (.tmp 62) (.val (.bool false)), none, []⟩,⟨some 64, .mv (.tmp 63), none, []⟩,⟨some 65, .off 3 (.tmp 1), some (64, true), []⟩,⟨some 66, .ld none (.tmp 65), some (64, true), []⟩,⟨some 67, .bin .geq (.tmp 66) (.val (.int .i64 1)), some (64, true), []⟩,⟨some 68, .pick (.tmp 64) (.tmp 67) (.val (.bool false)), none, []⟩,⟨some 69, .mv (.tmp 68), none, []⟩,⟨some 70, .off 3 (.tmp 1), some (69, true), []⟩,⟨some 71, .ld none (.tmp 70), some (69, true), []⟩,⟨some 72, .off 1 (.tmp 1), some (69, true), []⟩,⟨some 73, .ld none (.tmp 72), some (69, true), []⟩,⟨some 74, .bin .quo (.tmp 73) (.val (.int .i64 3)), some (69, true), []⟩,⟨some 75, .bin .leq (.tmp 71) (.tmp 74), some (69, true), []⟩,⟨some 76, .pick (.tmp 69) (.tmp 75) (.val (.bool false)), none, []⟩,⟨some 2, .mv (.tmp 76), none, []⟩])
 .ret))
 .skip)))))))) (.seq (.reg [⟨some 2, .mv (.val (.bool false)), none, []⟩])
 .ret)))
def c_ridgewayref17_Sane : AF := ⟨b_ridgewayref17_Sane, 77, [.tmp 2]⟩
theorem p_ridgewayref17_Sane : prepFunc Tryz.prog 16 = some c_ridgewayref17_Sane ∧ hasBody Tryz.prog 16 = true := ⟨by kernel_rfl, by kernel_rfl⟩
def b_session_Hello : AC :=
 (.seq
 (.reg [⟨some 2, .box 27 6 (.tmp 0), none, []⟩,⟨some 4, .box 45 4 (.val (.agg [(.int .i64 0), (.int .i64 0), (.int .i64 0), (.int .i64 0)])), none, []⟩])
 (.seq
 (.seq
 (.reg [⟨some 5, .ld (some 6) (.tmp 2), none, []⟩,⟨some 6, .mv (.tmp 1), none, []⟩,⟨some 7, .callS 23 [(.tmp 5), (.tmp 6)], none, []⟩,⟨some 8, .un .not (.tmp 7), none, []⟩])
 (.cond (.tmp 8)
 (.seq
 (.reg [⟨some 9, .bld [(.int .i64 0), (.int .i64 0), (.int .i64 0), (.int .i64 0)] [], none, []⟩,⟨none, .st 4 (.tmp 4) (.tmp 9), none, []⟩])
 .ret)
 .skip)) (.seq (.reg [⟨some 10, .off 0 (.tmp 2), none, []⟩,⟨some 11, .ld none (.tmp 10), none, []⟩,⟨some 12, .off 2 (.tmp 2), none, []⟩,⟨some 13, .ld none (.tmp 12), none, []⟩,⟨some 14, .off 1 (.tmp 2), none, []⟩,⟨some 15, .ld none (.tmp 14), none, []⟩,⟨some 16, .off 5 (.tmp 2), none, []⟩,⟨some 17, .ld none (.tmp 16), none, []⟩,⟨some 18, .mv (.tmp 1), none, []⟩,⟨some 19, .idxA 4 (.tmp 17) (.tmp 18), none, []⟩,⟨some 20, .off 1 (.tmp 19), none, []⟩,⟨some 21, .ld none (.tmp 20), none, []⟩,⟨some 22, .call 38 [(.tmp 21)], none, []⟩,⟨some 23, .bld [(.int .i64 0), (.int .i64 0), (.int .i64 0), (.int .i64 0)] [(0, 1, (.tmp 11)), (1, 1, (.tmp 13)), (2, 1, (.tmp 15)), (3, 1, (.tmp 22))], none, []⟩,⟨none, .st 4 (.tmp 4) (.tmp 23), none, []⟩])
 .ret)))
def c_session_Hello : AF := ⟨b_session_Hello, 24, [.cell 4 (some 4)]⟩
theorem p_session_Hello : prepFunc Tryz.prog 17 = some c_session_Hello ∧ hasBody Tryz.prog 17 = true := ⟨by kernel_rfl, by kernel_rfl⟩
def b_ridgewayref17_Hello : AC :=
 (.seq
 (.reg [⟨some 2, .box 27 6 (.tmp 0), none, []⟩,⟨some 4, .box 45 4 (.val (.agg [(.int .i64 0), (.int .i64 0), (.int .i64 0), (.int .i64 0)])), none, []⟩])
 (.seq
 (.seq
 (.reg [⟨some 5, .ld (some 6) (.tmp 2), none, []⟩,⟨some 6, .callS 39 [(.tmp 5)], none, []⟩,⟨some 7, .un .not (.tmp 6), none, []⟩,⟨some 8, .mv (.tmp 7), none, []⟩,⟨some 9, .mv (.tmp 1), some (8, false), []⟩,⟨some 10, .bin .lss (.tmp 9) (.val (.int .i64 0)), some (8, false), []⟩,⟨some 11, .pick (.tmp 8) (.val (.bool true)) (.tmp 10), none, []⟩,⟨some 12, .mv (.tmp 11), none, []⟩,⟨some 13, .mv (.tmp 1), some (12, false), []⟩,⟨some 14, .off 5 (.tmp 2), some (12, false), []⟩,⟨some 15, .ld none (.tmp 14), some (12, false), []⟩,⟨some 16, .len (.tmp 15), some (12, false), []⟩,⟨some 17, .bin .geq (.tmp 13) (.tmp 16), some (12, false), []⟩,⟨some 18, .pick (.tmp 12) (.val (.bool true)) (.tmp 17), none, []⟩])
 (.cond (.tmp 18) (.seq (.reg [⟨some 19, .bld [(.int .i64 0), (.int .i64 0), (.int .i64 0), (.int .i64 0)] [], none, []⟩,⟨none, .st 4 (.tmp 4) (.tmp 19), none, []⟩])
 .ret)
 .skip)) (.seq (.reg [⟨some 20, .off 0 (.tmp 2), none, []⟩,⟨some 21, .ld none (.tmp 20), none, []⟩,⟨some 22, .off 2 (.tmp 2), none, []⟩,⟨some 23, .ld none (.tmp 22), none, []⟩,⟨some 24, .off 1 (.tmp 2), none, []⟩,⟨some 25, .ld none (.tmp 24), none, []⟩,⟨some 26, .off 5 (.tmp 2), none, []⟩,⟨some 27, .ld none (.tmp 26), none, []⟩,⟨some 28, .mv (.tmp 1), none, []⟩,⟨some 29, .idxA 4 (.tmp 27) (.tmp 28), none, []⟩,⟨some 30, .off 1 (.tmp 29), none, []⟩,⟨some 31, .ld none (.tmp 30), none, []⟩,⟨some 32, .call 40 [(.tmp 31)], none, []⟩,⟨some 33, .bld [(.int .i64 0), (.int .i64 0), (.int .i64 0), (.int .i64 0)] [(0, 1, (.tmp 21)), (1, 1, (.tmp 23)), (2, 1, (.tmp 25)), (3, 1, (.tmp 32))], none, []⟩,⟨none, .st 4 (.tmp 4) (.tmp 33), none, []⟩])
 .ret)))
def c_ridgewayref17_Hello : AF := ⟨b_ridgewayref17_Hello, 34, [.cell 4 (some 4)]⟩
theorem p_ridgewayref17_Hello : prepFunc Tryz.prog 18 = some c_ridgewayref17_Hello ∧ hasBody Tryz.prog 18 = true := ⟨by kernel_rfl, by kernel_rfl⟩
def b_ridgewaylaw17_node : AC :=
 (.seq
 (.reg [⟨some 8, .box 27 6 (.val (.agg [(.int .i64 0), (.int .i64 0), (.int .i64 0), (.int .i64 0), (.slice .full 0 []), (.slice .full 0 [])])), none, []⟩])
 (.seq
 (.reg [⟨some 9, .mv (.tmp 0), none, []⟩,⟨some 10, .mv (.tmp 0), none, []⟩,⟨some 11, .mv (.tmp 3), none, []⟩,⟨some 12, .mv (.tmp 1), none, []⟩,⟨some 13, .mv (.tmp 2), none, []⟩,⟨some 14, .bld [(.int .i64 0), (.int .i64 0), (.slice .full 0 []), (.slice .full 0 [])] [(0, 1, (.tmp 12)), (1, 1, (.tmp 13))], none, []⟩,⟨some 15, .lit 60 4 [0, 0, 6, 6] [(.tmp 14)], none, []⟩,⟨some 16, .bld [(.int .i64 0), (.int .i64 0), (.int .i64 0), (.int .i64 0), (.slice .full 0 []), (.slice .full 0 [])] [(0, 1, (.tmp 9)), (1, 1, (.tmp 10)), (2, 1, (.tmp 11)), (3, 1, (.val (.int .i64 9))), (5, 1, (.tmp 15))], none, []⟩,⟨none, .st 6 (.tmp 8) (.tmp 16), none, []⟩])
 .ret))
def c_ridgewaylaw17_node : AF := ⟨b_ridgewaylaw17_node, 17, [.cell 8 (some 6)]⟩
theorem p_ridgewaylaw17_node : prepFunc Tryz.prog 19 = some c_ridgewaylaw17_node ∧ hasBody Tryz.prog 19 = true := ⟨by kernel_rfl, by kernel_rfl⟩
def b_ridgewaylaw17_step : AC :=
 (.seq
 (.reg [⟨some 4, .box 23 4 (.tmp 0), none, []⟩,⟨some 5, .box 27 6 (.tmp 1), none, []⟩,⟨some 8, .box 23 4 (.val (.agg [(.int .i64 0), (.int .i64 0), (.int .i64 0), (.int .i64 0)])), none, []⟩,⟨some 9, .mv (.val (.slice .full 0 [])), none, []⟩])
 (.seq
 (.reg [⟨some 10, .mv (.val (.slice .full 0 [])), none, []⟩])
 (.seq
 (.seq
 (.reg [⟨some 11, .mv (.val (.int .i64 0)), none, []⟩])
 (.block 0
 (.loop
 (.seq
 (.seq
 (.reg [⟨some 15, .mv (.tmp 11), none, []⟩,⟨some 16, .mv (.tmp 3), none, []⟩,⟨some 17, .len (.tmp 16), none, []⟩,⟨some 18, .bin .lss (.tmp 15) (.tmp 17), none, []⟩])
 (.cond (.tmp 18)
 .skip (.exit 0))) (.seq (.block 1 (.seq (.reg [⟨some 22, .ld (some 4) (.tmp 4), none, []⟩,⟨some 23, .ld (some 6) (.tmp 5), none, []⟩,⟨some 24, .mv (.tmp 2), none, []⟩,⟨some 25, .mv (.tmp 3), none, []⟩,⟨some 26, .mv (.tmp 11), none, []⟩,⟨some 27, .idxA 2 (.tmp 25) (.tmp 26), none, []⟩,⟨some 28, .ld (some 2) (.tmp 27), none, []⟩,⟨some 29, .call 8 [(.tmp 22), (.tmp 23), (.tmp 24), (.tmp 28)], none, []⟩,⟨some 21, .mv (.tmp 29), none, []⟩,⟨some 30, .ext (.tmp 21) 0, none, []⟩,⟨some 12, .box 23 4 (.val (.agg [(.int .i64 0), (.int .i64 0), (.int .i64 0), (.int .i64 0)])), none, []⟩,⟨some 31, .ext (.tmp 21) 1, none, []⟩,⟨some 32, .ext (.tmp 21) 2, none, []⟩,⟨none, .st 4 (.tmp 12) (.tmp 30), none, []⟩,⟨some 13, .mv (.tmp 31), none, []⟩,⟨some 14, .mv (.tmp 32), none, []⟩]) (.seq (.reg [⟨some 33, .ld (some 4) (.tmp 12), none, []⟩,⟨none, .st 4 (.tmp 4) (.tmp 33), none, []⟩])
 (.reg [⟨some 34, .mv (.tmp 10), none, []⟩,⟨some 35, .mv (.tmp 13), none, []⟩,⟨some 36, .app 30 2 32 (.tmp 34) (.tmp 35), none, []⟩,⟨some 10, .mv (.tmp 36), none, []⟩])))) (.reg [⟨some 19, .mv (.tmp 11), none, []⟩,⟨some 20, .bin .add (.tmp 19) (.val (.int .i64 1)), none, []⟩,⟨some 11, .mv (.tmp 20), none, []⟩])))))) (.seq (.reg [⟨some 37, .ld (some 4) (.tmp 4), none, []⟩,⟨some 38, .mv (.tmp 10), none, []⟩,⟨none, .st 4 (.tmp 8) (.tmp 37), none, []⟩,⟨some 9, .mv (.tmp 38), none, []⟩])
 .ret))))
def c_ridgewaylaw17_step : AF := ⟨b_ridgewaylaw17_step, 39, [.cell 8 (some 4), .tmp 9]⟩
theorem p_ridgewaylaw17_step : prepFunc Tryz.prog 20 = some c_ridgewaylaw17_step ∧ hasBody Tryz.prog 20 = true := ⟨by kernel_rfl, by kernel_rfl⟩
def b_ridgewayref12_Few : AC :=
 (.seq
 (.reg [⟨some 1, .box 27 6 (.tmp 0), none, []⟩,⟨some 2, .mv (.val (.bool false)), none, []⟩])
 (.seq
 (.seq
 (.reg [⟨some 3, .mv (.val (.int .i64 0)), none, []⟩])
 (.block 0
 (.loop
 (.seq
 (.seq
 (.reg [⟨some 4, .mv (.tmp 3), none, []⟩,⟨some 5, .off 5 (.tmp 1), none, []⟩,⟨some 6, .ld none (.tmp 5), none, []⟩,⟨some 7, .len (.tmp 6), none, []⟩,⟨some 8, .bin .lss (.tmp 4) (.tmp 7), none, []⟩])
 (.cond (.tmp 8)
 .skip (.exit 0))) (.seq (.block 1 (.seq (.reg [⟨some 11, .off 5 (.tmp 1), none, []⟩,⟨some 12, .ld none (.tmp 11), none, []⟩,⟨some 13, .mv (.tmp 3), none, []⟩,⟨some 14, .idxA 4 (.tmp 12) (.tmp 13), none, []⟩,⟨some 15, .off 2 (.tmp 14), none, []⟩,⟨some 16, .ld none (.tmp 15), none, []⟩,⟨some 17, .len (.tmp 16), none, []⟩,⟨some 18, .bin .gtr (.tmp 17) (.val (.int .i64 20)), none, []⟩,⟨some 19, .mv (.tmp 18), none, []⟩,⟨some 20, .off 5 (.tmp 1), some (19, false), []⟩,⟨some 21, .ld none (.tmp 20), some (19, false), []⟩,⟨some 22, .mv (.tmp 3), some (19, false), []⟩,⟨some 23, .idxA 4 (.tmp 21) (.tmp 22), some (19, false), []⟩,⟨some 24, .off 3 (.tmp 23), some (19, false), []⟩,⟨some 25, .ld none (.tmp 24), some (19, false), []⟩,⟨some 26, .len (.tmp 25), some (19, false), []⟩,⟨some 27, .bin .gtr (.tmp 26) (.val (.int .i64 20)), some (19, false), []⟩,⟨some 28, .pick (.tmp 19) (.val (.bool true)) (.tmp 27), none, []⟩])
 (.cond (.tmp 28) (.seq (.reg [⟨some 2, .mv (.val (.bool false)), none, []⟩])
 .ret)
 .skip))) (.reg [⟨some 9, .mv (.tmp 3), none, []⟩,⟨some 10, .bin .add (.tmp 9) (.val (.int .i64 1)), none, []⟩,⟨some 3, .mv (.tmp 10), none, []⟩])))))) (.seq (.reg [⟨some 29, .off 4 (.tmp 1), none, []⟩,⟨some 30, .ld none (.tmp 29), none, []⟩,⟨some 31, .len (.tmp 30), none, []⟩,⟨some 32, .bin .leq (.tmp 31) (.val (.int .i64 20)), none, []⟩,⟨some 33, .mv (.tmp 32), none, []⟩,⟨some 34, .off 5 (.tmp 1), some (33, true), []⟩,⟨some 35, .ld none (.tmp 34), some (33, true), []⟩,⟨some 36, .len (.tmp 35), some (33, true), []⟩,⟨some 37, .bin .leq (.tmp 36) (.val (.int .i64 20)), some (33, true), []⟩,⟨some 38, .pick (.tmp 33) (.tmp 37) (.val (.bool false)), none, []⟩,⟨some 2, .mv (.tmp 38), none, []⟩])
 .ret)))
def c_ridgewayref12_Few : AF := ⟨b_ridgewayref12_Few, 39, [.tmp 2]⟩
theorem p_ridgewayref12_Few : prepFunc Tryz.prog 21 = some c_ridgewayref12_Few ∧ hasBody Tryz.prog 21 = true := ⟨by kernel_rfl, by kernel_rfl⟩
def b_session_sane : AC :=
 (.seq
 (.reg [⟨some 1, .box 23 4 (.tmp 0), none, []⟩,⟨some 2, .box 23 4 (.val (.agg [(.int .i64 0), (.int .i64 0), (.int .i64 0), (.int .i64 0)])), none, []⟩])
 (.seq
 (.seq
 (.reg [⟨some 3, .ld (some 4) (.tmp 1), none, []⟩,⟨some 4, .callS 15 [(.tmp 3)], none, []⟩,⟨some 5, .un .not (.tmp 4), none, []⟩])
 (.cond (.tmp 5)
 (.seq
 (.reg [⟨some 6, .bld [(.int .i64 0), (.int .i64 0), (.int .i64 0), (.int .i64 0)] [], none, []⟩,⟨none, .st 4 (.tmp 2) (.tmp 6), none, []⟩])
 .ret)
 .skip)) (.seq (.reg [⟨some 7, .ld (some 4) (.tmp 1), none, []⟩,⟨none, .st 4 (.tmp 2) (.tmp 7), none, []⟩])
 .ret)))
def c_session_sane : AF := ⟨b_session_sane, 8, [.cell 2 (some 4)]⟩
theorem p_session_sane : prepFunc Tryz.prog 22 = some c_session_sane ∧ hasBody Tryz.prog 22 = true := ⟨by kernel_rfl, by kernel_rfl⟩
def b_session_there : AC :=
 (.seq
 (.reg [⟨some 2, .box 27 6 (.tmp 0), none, []⟩,⟨some 4, .mv (.val (.bool false)), none, []⟩])
 (.seq
 (.reg [⟨some 5, .mv (.tmp 1), none, []⟩,⟨some 6, .bin .geq (.tmp 5) (.val (.int .i64 0)), none, []⟩,⟨some 7, .mv (.tmp 6), none, []⟩,⟨some 8, .mv (.tmp 1), some (7, true), []⟩,⟨some 9, .off 5 (.tmp 2), some (7, true), []⟩,⟨some 10, .ld none (.tmp 9), some (7, true), []⟩,⟨some 11, .len (.tmp 10), some (7, true), []⟩,⟨some 12, .bin .lss (.tmp 8) (.tmp 11), some (7, true), []⟩,⟨some 13, .pick (.tmp 7) (.tmp 12) (.val (.bool false)), none, []⟩,⟨some 14, .mv (.tmp 13), none, []⟩,⟨some 15, .ld (some 6) (.tmp 2), some (14, true), []⟩,⟨some 16, .callS 41 [(.tmp 15)], some (14, true), []⟩,⟨some 17, .pick (.tmp 14) (.tmp 16) (.val (.bool false)), none, []⟩,⟨some 4, .mv (.tmp 17), none, []⟩])
 .ret))
def c_session_there : AF := ⟨b_session_there, 18, [.tmp 4]⟩
theorem p_session_there : prepFunc Tryz.prog 23 = some c_session_there ∧ hasBody Tryz.prog 23 = true := ⟨by kernel_rfl, by kernel_rfl⟩
def b_open_Put : AC :=
 (.seq
 (.reg [⟨some 1, .box 45 4 (.tmp 0), none, []⟩,⟨some 2, .box 30 2 (.val (.agg [(.int .i64 0), (.slice .full 0 [])])), none, []⟩])
 (.seq
 (.seq
 (.reg [⟨some 5, .ld (some 4) (.tmp 1), none, []⟩,⟨some 6, .callS 42 [(.tmp 5)], none, []⟩,⟨some 7, .un .not (.tmp 6), none, []⟩])
 (.cond (.tmp 7)
 (.seq
 (.reg [⟨some 8, .bld [(.int .i64 0), (.slice .full 0 [])] [], none, []⟩,⟨none, .st 2 (.tmp 2) (.tmp 8), none, []⟩])
 .ret)
 .skip)) (.seq (.reg [⟨some 9, .off 0 (.tmp 1), none, []⟩,⟨some 10, .ld none (.tmp 9), none, []⟩,⟨some 11, .callS 44 [(.val (.slice .full 0 [])), (.tmp 10), (.val (.int .i64 4))], none, []⟩,⟨some 12, .callS 43 [(.val (.int .i64 65)), (.tmp 11)], none, []⟩,⟨some 13, .callS 43 [(.val (.int .i64 2)), (.tmp 12)], none, []⟩,⟨some 3, .mv (.tmp 13), none, []⟩]) (.seq (.seq (.reg [⟨some 14, .off 3 (.tmp 1), none, []⟩,⟨some 15, .ld none (.tmp 14), none, []⟩,⟨some 16, .bin .neq (.tmp 15) (.val (.int .i64 (-1))), none, []⟩]) (.cond (.tmp 16) (.reg [⟨some 17, .mv (.tmp 3), none, []⟩,⟨some 18, .off 3 (.tmp 1), none, []⟩,⟨some 19, .ld none (.tmp 18), none, []⟩,⟨some 20, .callS 44 [(.val (.slice .full 0 [])), (.tmp 19), (.val (.int .i64 1))], none, []⟩,⟨some 21, .callS 43 [(.val (.int .i64 9)), (.tmp 20)], none, []⟩,⟨some 22, .callS 43 [(.val (.int .i64 2)), (.tmp 21)], none, []⟩,⟨some 23, .app 5 1 1 (.tmp 17) (.tmp 22), none, []⟩,⟨some 3, .mv (.tmp 23), none, []⟩])
 .skip)) (.seq (.reg [⟨some 24, .callS 44 [(.val (.slice .full 0 [])), (.val (.int .i64 4)), (.val (.int .i64 1))], none, []⟩,⟨some 4, .mv (.tmp 24), none, []⟩]) (.seq (.reg [⟨some 25, .mv (.tmp 4), none, []⟩,⟨some 26, .off 0 (.tmp 1), none, []⟩,⟨some 27, .ld none (.tmp 26), none, []⟩,⟨some 28, .callS 45 [(.tmp 27)], none, []⟩,⟨some 29, .callS 44 [(.tmp 25), (.tmp 28), (.val (.int .i64 2))], none, []⟩,⟨some 4, .mv (.tmp 29), none, []⟩]) (.seq (.reg [⟨some 30, .mv (.tmp 4), none, []⟩,⟨some 31, .off 1 (.tmp 1), none, []⟩,⟨some 32, .ld none (.tmp 31), none, []⟩,⟨some 33, .callS 44 [(.tmp 30), (.tmp 32), (.val (.int .i64 2))], none, []⟩,⟨some 4, .mv (.tmp 33), none, []⟩]) (.seq (.reg [⟨some 34, .mv (.tmp 4), none, []⟩,⟨some 35, .off 2 (.tmp 1), none, []⟩,⟨some 36, .ld none (.tmp 35), none, []⟩,⟨some 37, .callS 44 [(.tmp 34), (.tmp 36), (.val (.int .i64 4))], none, []⟩,⟨some 4, .mv (.tmp 37), none, []⟩])
 (.seq (.reg [⟨some 38, .mv (.tmp 4), none, []⟩,⟨some 39, .mv (.tmp 3), none, []⟩,⟨some 40, .len (.tmp 39), none, []⟩,⟨some 41, .callS 44 [(.tmp 38), (.tmp 40), (.val (.int .i64 1))], none, []⟩,⟨some 4, .mv (.tmp 41), none, []⟩]) (.seq (.reg [⟨some 42, .mv (.tmp 4), none, []⟩,⟨some 43, .mv (.tmp 3), none, []⟩,⟨some 44, .app 5 1 1 (.tmp 42) (.tmp 43), none, []⟩,⟨some 45, .bld [(.int .i64 0), (.slice .full 0 [])] [(0, 1, (.val (.int .i64 1))), (1, 1, (.tmp 44))], none, []⟩,⟨none, .st 2 (.tmp 2) (.tmp 45), none, []⟩])
 .ret))))))))))
def c_open_Put : AF := ⟨b_open_Put, 46, [.cell 2 (some 2)]⟩
theorem p_open_Put : prepFunc Tryz.prog 24 = some c_open_Put ∧ hasBody Tryz.prog 24 = true := ⟨by kernel_rfl, by kernel_rfl⟩
def b_ridgewayref17_As : AC :=
 (.seq
 (.reg [⟨some 1, .box 23 4 (.tmp 0), none, []⟩,⟨some 2, .box 23 4 (.val (.agg [(.int .i64 0), (.int .i64 0), (.int .i64 0), (.int .i64 0)])), none, []⟩])
 (.seq
 (.seq
 (.reg [⟨some 3, .ld (some 4) (.tmp 1), none, []⟩,⟨some 4, .callS 16 [(.tmp 3)], none, []⟩,⟨some 5, .un .not (.tmp 4), none, []⟩])
 (.cond (.tmp 5)
 (.seq
 (.reg [⟨some 6, .bld [(.int .i64 0), (.int .i64 0), (.int .i64 0), (.int .i64 0)] [], none, []⟩,⟨none, .st 4 (.tmp 2) (.tmp 6), none, []⟩])
 .ret)
 .skip)) (.seq (.reg [⟨some 7, .ld (some 4) (.tmp 1), none, []⟩,⟨none, .st 4 (.tmp 2) (.tmp 7), none, []⟩])
 .ret)))
def c_ridgewayref17_As : AF := ⟨b_ridgewayref17_As, 8, [.cell 2 (some 4)]⟩
theorem p_ridgewayref17_As : prepFunc Tryz.prog 25 = some c_ridgewayref17_As ∧ hasBody Tryz.prog 25 = true := ⟨by kernel_rfl, by kernel_rfl⟩
def b_ridgewayref06_Put : AC :=
 (.seq
 (.reg [⟨some 1, .box 45 4 (.tmp 0), none, []⟩,⟨some 2, .box 30 2 (.val (.agg [(.int .i64 0), (.slice .full 0 [])])), none, []⟩])
 (.seq
 (.seq
 (.reg [⟨some 5, .ld (some 4) (.tmp 1), none, []⟩,⟨some 6, .callS 46 [(.tmp 5)], none, []⟩,⟨some 7, .un .not (.tmp 6), none, []⟩])
 (.cond (.tmp 7)
 (.seq
 (.reg [⟨some 8, .bld [(.int .i64 0), (.slice .full 0 [])] [], none, []⟩,⟨none, .st 2 (.tmp 2) (.tmp 8), none, []⟩])
 .ret)
 .skip)) (.seq (.reg [⟨some 9, .lit 5 1 [0] [(.val (.int .u8 4))], none, []⟩,⟨some 3, .mv (.tmp 9), none, []⟩]) (.seq (.reg [⟨some 10, .mv (.tmp 3), none, []⟩,⟨some 11, .off 0 (.tmp 1), none, []⟩,⟨some 12, .ld none (.tmp 11), none, []⟩,⟨some 13, .callS 48 [(.tmp 12)], none, []⟩,⟨some 14, .callS 47 [(.tmp 10), (.tmp 13), (.val (.int .i64 2))], none, []⟩,⟨some 3, .mv (.tmp 14), none, []⟩]) (.seq (.reg [⟨some 15, .mv (.tmp 3), none, []⟩,⟨some 16, .off 1 (.tmp 1), none, []⟩,⟨some 17, .ld none (.tmp 16), none, []⟩,⟨some 18, .callS 47 [(.tmp 15), (.tmp 17), (.val (.int .i64 2))], none, []⟩,⟨some 3, .mv (.tmp 18), none, []⟩]) (.seq (.reg [⟨some 19, .mv (.tmp 3), none, []⟩,⟨some 20, .off 2 (.tmp 1), none, []⟩,⟨some 21, .ld none (.tmp 20), none, []⟩,⟨some 22, .callS 47 [(.tmp 19), (.tmp 21), (.val (.int .i64 4))], none, []⟩,⟨some 3, .mv (.tmp 22), none, []⟩]) (.seq (.reg [⟨some 23, .lit 5 1 [0] [(.val (.int .u8 2)), (.val (.int .u8 6)), (.val (.int .u8 65)), (.val (.int .u8 4))], none, []⟩,⟨some 4, .mv (.tmp 23), none, []⟩])
 (.seq (.reg [⟨some 24, .mv (.tmp 4), none, []⟩,⟨some 25, .off 0 (.tmp 1), none, []⟩,⟨some 26, .ld none (.tmp 25), none, []⟩,⟨some 27, .callS 47 [(.tmp 24), (.tmp 26), (.val (.int .i64 4))], none, []⟩,⟨some 4, .mv (.tmp 27), none, []⟩]) (.seq (.seq (.reg [⟨some 28, .off 3 (.tmp 1), none, []⟩,⟨some 29, .ld none (.tmp 28), none, []⟩,⟨some 30, .bin .geq (.tmp 29) (.val (.int .i64 0)), none, []⟩]) (.cond (.tmp 30) (.reg [⟨some 31, .mv (.tmp 4), none, []⟩,⟨some 32, .off 3 (.tmp 1), none, []⟩,⟨some 33, .ld none (.tmp 32), none, []⟩,⟨some 34, .conv .u8 (.tmp 33), none, []⟩,⟨some 35, .lit 5 1 [0] [(.val (.int .u8 2)), (.val (.int .u8 3)), (.val (.int .u8 9)), (.val (.int .u8 1)), (.tmp 34)], none, []⟩,⟨some 36, .app 5 1 1 (.tmp 31) (.tmp 35), none, []⟩,⟨some 4, .mv (.tmp 36), none, []⟩])
 .skip)) (.seq (.reg [⟨some 37, .mv (.tmp 3), none, []⟩,⟨some 38, .mv (.tmp 4), none, []⟩,⟨some 39, .len (.tmp 38), none, []⟩,⟨some 40, .conv .u8 (.tmp 39), none, []⟩,⟨some 41, .lit 5 1 [0] [(.tmp 40)], none, []⟩,⟨some 42, .app 5 1 1 (.tmp 37) (.tmp 41), none, []⟩,⟨some 3, .mv (.tmp 42), none, []⟩]) (.seq (.reg [⟨some 43, .mv (.tmp 3), none, []⟩,⟨some 44, .mv (.tmp 4), none, []⟩,⟨some 45, .app 5 1 1 (.tmp 43) (.tmp 44), none, []⟩,⟨some 3, .mv (.tmp 45), none, []⟩]) (.seq (.reg [⟨some 46, .mv (.tmp 3), none, []⟩,⟨some 47, .bld [(.int .i64 0), (.slice .full 0 [])] [(0, 1, (.val (.int .i64 1))), (1, 1, (.tmp 46))], none, []⟩,⟨none, .st 2 (.tmp 2) (.tmp 47), none, []⟩])
 .ret))))))))))))
def c_ridgewayref06_Put : AF := ⟨b_ridgewayref06_Put, 48, [.cell 2 (some 2)]⟩
theorem p_ridgewayref06_Put : prepFunc Tryz.prog 26 = some c_ridgewayref06_Put ∧ hasBody Tryz.prog 26 = true := ⟨by kernel_rfl, by kernel_rfl⟩
def b_msg_Sane : AC :=
 (.seq
 (.reg [⟨some 1, .box 30 2 (.tmp 0), none, []⟩,⟨some 2, .mv (.val (.bool false)), none, []⟩])
 (.seq
 (.reg [⟨some 3, .off 0 (.tmp 1), none, []⟩,⟨some 4, .ld none (.tmp 3), none, []⟩,⟨some 5, .callS 49 [(.tmp 4)], none, []⟩,⟨some 6, .bin .gtr (.tmp 5) (.val (.int .i64 0)), none, []⟩,⟨some 7, .mv (.tmp 6), none, []⟩,⟨some 8, .off 0 (.tmp 1), some (7, true), []⟩,⟨some 9, .ld none (.tmp 8), some (7, true), []⟩,⟨some 10, .off 1 (.tmp 1), some (7, true), []⟩,⟨some 11, .ld none (.tmp 10), some (7, true), []⟩,⟨some 12, .len (.tmp 11), some (7, true), []⟩,⟨some 13, .bin .add (.val (.int .i64 19)) (.tmp 12), some (7, true), []⟩,⟨some 14, .callS 50 [(.tmp 9), (.tmp 13)], some (7, true), []⟩,⟨some 15, .un .not (.tmp 14), some (7, true), []⟩,⟨some 16, .pick (.tmp 7) (.tmp 15) (.val (.bool false)), none, []⟩,⟨some 17, .mv (.tmp 16), none, []⟩,⟨some 18, .off 1 (.tmp 1), some (17, true), []⟩,⟨some 19, .ld none (.tmp 18), some (17, true), []⟩,⟨some 20, .len (.tmp 19), some (17, true), []⟩,⟨some 21, .bin .add (.val (.int .i64 19)) (.tmp 20), some (17, true), []⟩,⟨some 22, .bin .leq (.tmp 21) (.val (.int .i64 4096)), some (17, true), []⟩,⟨some 23, .pick (.tmp 17) (.tmp 22) (.val (.bool false)), none, []⟩,⟨some 2, .mv (.tmp 23), none, []⟩])
 .ret))
def c_msg_Sane : AF := ⟨b_msg_Sane, 24, [.tmp 2]⟩
theorem p_msg_Sane : prepFunc Tryz.prog 27 = some c_msg_Sane ∧ hasBody Tryz.prog 27 = true := ⟨by kernel_rfl, by kernel_rfl⟩
def b_session_does : AC :=
 (.seq
 (.reg [⟨some 0, .box 56 4 (.val (.agg [.nilFn, .nilFn, .nilFn, .nilFn])), none, []⟩])
 (.seq
 (.reg [⟨some 1, .bld [.nilFn, .nilFn, .nilFn, .nilFn] [(0, 1, (.val (.fn 51 []))), (1, 1, (.val (.fn 52 []))), (2, 1, (.val (.fn 53 []))), (3, 1, (.val (.fn 54 [])))], none, []⟩,⟨none, .st 4 (.tmp 0) (.tmp 1), none, []⟩])
 .ret))
def c_session_does : AF := ⟨b_session_does, 2, [.cell 0 (some 4)]⟩
theorem p_session_does : prepFunc Tryz.prog 28 = some c_session_does ∧ hasBody Tryz.prog 28 = true := ⟨by kernel_rfl, by kernel_rfl⟩
def b_ridgewayref03_Sane : AC :=
 (.seq
 (.reg [⟨some 1, .box 30 2 (.tmp 0), none, []⟩,⟨some 2, .mv (.val (.bool false)), none, []⟩])
 (.seq
 (.reg [⟨some 3, .off 0 (.tmp 1), none, []⟩,⟨some 4, .ld none (.tmp 3), none, []⟩,⟨some 5, .off 1 (.tmp 1), none, []⟩,⟨some 6, .ld none (.tmp 5), none, []⟩,⟨some 7, .len (.tmp 6), none, []⟩,⟨some 8, .bin .add (.tmp 7) (.val (.int .i64 19)), none, []⟩,⟨some 9, .callS 55 [(.tmp 4), (.tmp 8)], none, []⟩,⟨some 2, .mv (.tmp 9), none, []⟩])
 .ret))
def c_ridgewayref03_Sane : AF := ⟨b_ridgewayref03_Sane, 10, [.tmp 2]⟩
theorem p_ridgewayref03_Sane : prepFunc Tryz.prog 29 = some c_ridgewayref03_Sane ∧ hasBody Tryz.prog 29 = true := ⟨by kernel_rfl, by kernel_rfl⟩
def b_ridgewayref17_opens : AC :=
 (.seq
 (.reg [⟨some 4, .box 23 4 (.tmp 0), none, []⟩,⟨some 5, .box 27 6 (.tmp 1), none, []⟩,⟨some 7, .box 30 2 (.tmp 3), none, []⟩,⟨some 8, .box 23 4 (.val (.agg [(.int .i64 0), (.int .i64 0), (.int .i64 0), (.int .i64 0)])), none, []⟩,⟨some 9, .mv (.val (.slice .full 0 [])), none, []⟩,⟨some 10, .mv (.val (.bool false)), none, []⟩])
 (.seq
 (.reg [⟨some 17, .ld (some 2) (.tmp 7), none, []⟩,⟨some 18, .off 5 (.tmp 5), none, []⟩,⟨some 19, .ld none (.tmp 18), none, []⟩,⟨some 20, .mv (.tmp 2), none, []⟩,⟨some 21, .idxA 4 (.tmp 19) (.tmp 20), none, []⟩,⟨some 22, .off 0 (.tmp 21), none, []⟩,⟨some 23, .ld none (.tmp 22), none, []⟩,⟨some 24, .call 56 [(.tmp 17), (.tmp 23)], none, []⟩,⟨some 16, .mv (.tmp 24), none, []⟩,⟨some 25, .ext (.tmp 16) 0, none, []⟩,⟨some 11, .box 45 4 (.val (.agg [(.int .i64 0), (.int .i64 0), (.int .i64 0), (.int .i64 0)])), none, []⟩,⟨some 12, .box 34 3 (.val (.agg [(.int .i64 0), (.int .i64 0), (.slice .full 0 [])])), none, []⟩,⟨some 26, .ext (.tmp 16) 1, none, []⟩,⟨none, .st 4 (.tmp 11) (.tmp 25), none, []⟩,⟨none, .st 3 (.tmp 12) (.tmp 26), none, []⟩])
 (.seq (.seq (.reg [⟨some 27, .off 0 (.tmp 12), none, []⟩,⟨some 28, .ld none (.tmp 27), none, []⟩,⟨some 29, .bin .neq (.tmp 28) (.val (.int .i64 0)), none, []⟩]) (.cond (.tmp 29) (.seq (.reg [⟨some 31, .ld (some 4) (.tmp 4), none, []⟩,⟨some 32, .ld (some 3) (.tmp 12), none, []⟩,⟨some 33, .callS 13 [(.tmp 31), (.tmp 32)], none, []⟩,⟨some 30, .mv (.tmp 33), none, []⟩,⟨some 34, .ext (.tmp 30) 0, none, []⟩,⟨some 35, .ext (.tmp 30) 1, none, []⟩,⟨some 13, .box 23 4 (.val (.agg [(.int .i64 0), (.int .i64 0), (.int .i64 0), (.int .i64 0)])), none, []⟩,⟨none, .st 4 (.tmp 13) (.tmp 34), none, []⟩,⟨some 14, .mv (.tmp 35), none, []⟩]) (.seq (.reg [⟨some 36, .ld (some 4) (.tmp 13), none, []⟩,⟨some 37, .mv (.tmp 14), none, []⟩,⟨none, .st 4 (.tmp 8) (.tmp 36), none, []⟩,⟨some 9, .mv (.tmp 37), none, []⟩,⟨some 10, .mv (.val (.bool false)), none, []⟩])
 .ret))
 .skip)) (.seq (.seq (.reg [⟨some 38, .off 3 (.tmp 11), none, []⟩,⟨some 39, .ld none (.tmp 38), none, []⟩,⟨some 40, .bin .geq (.tmp 39) (.val (.int .i64 0)), none, []⟩,⟨some 41, .mv (.tmp 40), none, []⟩,⟨some 42, .off 5 (.tmp 5), some (41, true), []⟩,⟨some 43, .ld none (.tmp 42), some (41, true), []⟩,⟨some 44, .mv (.tmp 2), some (41, true), []⟩,⟨some 45, .idxA 4 (.tmp 43) (.tmp 44), some (41, true), []⟩,⟨some 46, .off 1 (.tmp 45), some (41, true), []⟩,⟨some 47, .ld none (.tmp 46), some (41, true), []⟩,⟨some 48, .call 40 [(.tmp 47)], some (41, true), []⟩,⟨some 49, .off 3 (.tmp 11), some (41, true), []⟩,⟨some 50, .ld none (.tmp 49), some (41, true), []⟩,⟨some 51, .callS 57 [(.tmp 48), (.tmp 50)], some (41, true), []⟩,⟨some 52, .un .not (.tmp 51), some (41, true), []⟩,⟨some 53, .pick (.tmp 41) (.tmp 52) (.val (.bool false)), none, []⟩]) (.cond (.tmp 53) (.seq (.reg [⟨some 54, .ld (some 4) (.tmp 4), none, []⟩,⟨some 55, .callS 31 [(.tmp 54), (.val (.int .i64 2)), (.val (.int .i64 11))], none, []⟩,⟨some 56, .ext (.tmp 55) 0, none, []⟩,⟨some 57, .ext (.tmp 55) 1, none, []⟩,⟨some 58, .ext (.tmp 55) 2, none, []⟩,⟨none, .st 4 (.tmp 8) (.tmp 56), none, []⟩,⟨some 9, .mv (.tmp 57), none, []⟩,⟨some 10, .mv (.tmp 58), none, []⟩])
 .ret)
 .skip)) (.seq (.reg [⟨some 59, .off 2 (.tmp 5), none, []⟩,⟨some 60, .ld none (.tmp 59), none, []⟩,⟨some 61, .off 1 (.tmp 11), none, []⟩,⟨some 62, .ld none (.tmp 61), none, []⟩,⟨some 63, .mn (.tmp 60) (.tmp 62), none, []⟩,⟨some 15, .mv (.tmp 63), none, []⟩]) (.seq (.reg [⟨some 64, .mv (.tmp 15), none, []⟩,⟨some 65, .mv (.tmp 15), none, []⟩,⟨some 66, .mv (.tmp 15), none, []⟩,⟨some 67, .bin .quo (.tmp 66) (.val (.int .i64 3)), none, []⟩,⟨some 68, .bld [(.int .i64 0), (.int .i64 0), (.int .i64 0), (.int .i64 0)] [(0, 1, (.val (.int .i64 2))), (1, 1, (.tmp 64)), (2, 1, (.tmp 65)), (3, 1, (.tmp 67))], none, []⟩,⟨some 69, .bld [(.int .i64 0), (.slice .full 0 [])] [(0, 1, (.val (.int .i64 4)))], none, []⟩,⟨some 70, .lit 30 2 [0, 1] [(.tmp 69)], none, []⟩,⟨none, .st 4 (.tmp 8) (.tmp 68), none, []⟩,⟨some 9, .mv (.tmp 70), none, []⟩,⟨some 10, .mv (.val (.bool false)), none, []⟩])
 .ret))))))
def c_ridgewayref17_opens : AF := ⟨b_ridgewayref17_opens, 71, [.cell 8 (some 4), .tmp 9, .tmp 10]⟩
theorem p_ridgewayref17_opens : prepFunc Tryz.prog 30 = some c_ridgewayref17_opens ∧ hasBody Tryz.prog 30 = true := ⟨by kernel_rfl, by kernel_rfl⟩
def b_ridgewayref17_ends : AC :=
 (.seq
 (.reg [⟨some 3, .box 23 4 (.tmp 0), none, []⟩,⟨some 6, .box 23 4 (.val (.agg [(.int .i64 0), (.int .i64 0), (.int .i64 0), (.int .i64 0)])), none, []⟩,⟨some 7, .mv (.val (.slice .full 0 [])), none, []⟩,⟨some 8, .mv (.val (.bool false)), none, []⟩])
 (.seq
 (.reg [⟨some 12, .ld (some 4) (.tmp 3), none, []⟩,⟨some 13, .mv (.tmp 1), none, []⟩,⟨some 14, .mv (.tmp 2), none, []⟩,⟨some 15, .bld [(.int .i64 0), (.int .i64 0), (.slice .full 0 [])] [(0, 1, (.tmp 13)), (1, 1, (.tmp 14))], none, []⟩,⟨some 16, .callS 13 [(.tmp 12), (.tmp 15)], none, []⟩,⟨some 11, .mv (.tmp 16), none, []⟩,⟨some 17, .ext (.tmp 11) 0, none, []⟩,⟨some 18, .ext (.tmp 11) 1, none, []⟩,⟨some 9, .box 23 4 (.val (.agg [(.int .i64 0), (.int .i64 0), (.int .i64 0), (.int .i64 0)])), none, []⟩,⟨none, .st 4 (.tmp 9) (.tmp 17), none, []⟩,⟨some 10, .mv (.tmp 18), none, []⟩])
 (.seq
 (.reg [⟨some 19, .ld (some 4) (.tmp 9), none, []⟩,⟨some 20, .mv (.tmp 10), none, []⟩,⟨none, .st 4 (.tmp 6) (.tmp 19), none, []⟩,⟨some 7, .mv (.tmp 20), none, []⟩,⟨some 8, .mv (.val (.bool false)), none, []⟩])
 .ret)))
def c_ridgewayref17_ends : AF := ⟨b_ridgewayref17_ends, 21, [.cell 6 (some 4), .tmp 7, .tmp 8]⟩
theorem p_ridgewayref17_ends : prepFunc Tryz.prog 31 = some c_ridgewayref17_ends ∧ hasBody Tryz.prog 31 = true := ⟨by kernel_rfl, by kernel_rfl⟩
def b_session_second : AC :=
 (.seq
 (.reg [⟨some 1, .box 23 4 (.tmp 0), none, []⟩,⟨some 2, .box 23 4 (.val (.agg [(.int .i64 0), (.int .i64 0), (.int .i64 0), (.int .i64 0)])), none, []⟩,⟨some 3, .mv (.val (.slice .full 0 [])), none, []⟩])
 (.seq
 (.seq
 (.reg [⟨some 4, .off 2 (.tmp 1), none, []⟩,⟨some 5, .ld none (.tmp 4), none, []⟩,⟨some 6, .bin .eql (.tmp 5) (.val (.int .i64 0)), none, []⟩])
 (.cond (.tmp 6)
 (.seq
 (.reg [⟨some 7, .ld (some 4) (.tmp 1), none, []⟩,⟨none, .st 4 (.tmp 2) (.tmp 7), none, []⟩,⟨some 3, .mv (.val (.slice .full 0 [])), none, []⟩])
 .ret)
 .skip)) (.seq (.seq (.reg [⟨some 8, .off 2 (.tmp 1), none, []⟩,⟨some 9, .ld none (.tmp 8), none, []⟩,⟨some 10, .bin .eql (.tmp 9) (.val (.int .i64 1)), none, []⟩]) (.cond (.tmp 10) (.seq (.reg [⟨some 11, .ld (some 4) (.tmp 1), none, []⟩,⟨some 12, .bld [(.int .i64 0), (.int .i64 0), (.slice .full 0 [])] [(0, 1, (.val (.int .i64 4))), (1, 1, (.val (.int .i64 0)))], none, []⟩,⟨some 13, .callS 12 [(.tmp 11), (.tmp 12)], none, []⟩,⟨some 14, .ext (.tmp 13) 0, none, []⟩,⟨some 15, .ext (.tmp 13) 1, none, []⟩,⟨none, .st 4 (.tmp 2) (.tmp 14), none, []⟩,⟨some 3, .mv (.tmp 15), none, []⟩])
 .ret)
 .skip)) (.seq (.reg [⟨some 16, .off 2 (.tmp 1), none, []⟩,⟨some 17, .ld none (.tmp 16), none, []⟩,⟨some 18, .bin .sub (.tmp 17) (.val (.int .i64 1)), none, []⟩,⟨some 19, .off 2 (.tmp 1), none, []⟩,⟨none, .st 1 (.tmp 19) (.tmp 18), none, []⟩]) (.seq (.seq (.reg [⟨some 20, .off 3 (.tmp 1), none, []⟩,⟨some 21, .ld none (.tmp 20), none, []⟩,⟨some 22, .bin .eql (.tmp 21) (.val (.int .i64 0)), none, []⟩]) (.cond (.tmp 22) (.seq (.reg [⟨some 23, .ld (some 4) (.tmp 1), none, []⟩,⟨none, .st 4 (.tmp 2) (.tmp 23), none, []⟩,⟨some 3, .mv (.val (.slice .full 0 [])), none, []⟩])
 .ret)
 .skip)) (.seq (.reg [⟨some 24, .off 3 (.tmp 1), none, []⟩,⟨some 25, .ld none (.tmp 24), none, []⟩,⟨some 26, .bin .sub (.tmp 25) (.val (.int .i64 1)), none, []⟩,⟨some 27, .off 3 (.tmp 1), none, []⟩,⟨none, .st 1 (.tmp 27) (.tmp 26), none, []⟩]) (.seq (.seq (.reg [⟨some 28, .off 3 (.tmp 1), none, []⟩,⟨some 29, .ld none (.tmp 28), none, []⟩,⟨some 30, .bin .gtr (.tmp 29) (.val (.int .i64 0)), none, []⟩]) (.cond (.tmp 30) (.seq (.reg [⟨some 31, .ld (some 4) (.tmp 1), none, []⟩,⟨none, .st 4 (.tmp 2) (.tmp 31), none, []⟩,⟨some 3, .mv (.val (.slice .full 0 [])), none, []⟩])
 .ret)
 .skip)) (.seq (.reg [⟨some 32, .off 1 (.tmp 1), none, []⟩,⟨some 33, .ld none (.tmp 32), none, []⟩,⟨some 34, .callS 37 [(.tmp 33)], none, []⟩,⟨some 35, .off 3 (.tmp 1), none, []⟩,⟨none, .st 1 (.tmp 35) (.tmp 34), none, []⟩]) (.seq (.reg [⟨some 36, .ld (some 4) (.tmp 1), none, []⟩,⟨some 37, .call 58 [], none, []⟩,⟨none, .st 4 (.tmp 2) (.tmp 36), none, []⟩,⟨some 3, .mv (.tmp 37), none, []⟩])
 .ret)))))))))
def c_session_second : AF := ⟨b_session_second, 38, [.cell 2 (some 4), .tmp 3]⟩
theorem p_session_second : prepFunc Tryz.prog 32 = some c_session_second ∧ hasBody Tryz.prog 32 = true := ⟨by kernel_rfl, by kernel_rfl⟩
def b_note_Sane : AC :=
 (.seq
 (.reg [⟨some 1, .box 34 3 (.tmp 0), none, []⟩,⟨some 2, .mv (.val (.bool false)), none, []⟩])
 (.seq
 (.reg [⟨some 3, .off 0 (.tmp 1), none, []⟩,⟨some 4, .ld none (.tmp 3), none, []⟩,⟨some 5, .bin .geq (.tmp 4) (.val (.int .i64 1)), none, []⟩,⟨some 6, .mv (.tmp 5), none, []⟩,⟨some 7, .off 0 (.tmp 1), some (6, true), []⟩,⟨some 8, .ld none (.tmp 7), some (6, true), []⟩,⟨some 9, .bin .leq (.tmp 8) (.val (.int .i64 255)), some (6, true), []⟩,⟨some 10, .pick (.tmp 6) (.tmp 9) (.val (.bool false)), none, []⟩,⟨some 11, .mv (.tmp 10), none, []⟩,⟨some 12, .off 1 (.tmp 1), some (11, true), []⟩,⟨some 13, .ld none (.tmp 12), some (11, true), []⟩,⟨some 14, .bin .geq (.tmp 13) (.val (.int .i64 0)), some (11, true), []⟩,⟨some 15, .pick (.tmp 11) (.tmp 14) (.val (.bool false)), none, []⟩,⟨some 16, .mv (.tmp 15), none, []⟩,⟨some 17, .off 1 (.tmp 1), some (16, true), []⟩,⟨some 18, .ld none (.tmp 17), some (16, true), []⟩,⟨some 19, .bin .leq (.tmp 18) (.val (.int .i64 255)), some (16, true), []⟩,⟨some 20, .pick (.tmp 16) (.tmp 19) (.val (.bool false)), none, []⟩,⟨some 21, .mv (.tmp 20), none, []⟩,⟨some 22, .off 2 (.tmp 1), some (21, true), []⟩,⟨some 23, .ld none (.tmp 22), some (21, true), []⟩,⟨some 24, .len (.tmp 23), some (21, true), []⟩,⟨some 25, .bin .leq (.tmp 24) (.val (.int .i64 4075)), some (21, true), []⟩,⟨some 26, .pick (.tmp 21) (.tmp 25) (.val (.bool false)), none, []⟩,⟨some 2, .mv (.tmp 26), none, []⟩])
 .ret))
def c_note_Sane : AF := ⟨b_note_Sane, 27, [.tmp 2]⟩
theorem p_note_Sane : prepFunc Tryz.prog 33 = some c_note_Sane ∧ hasBody Tryz.prog 33 = true := ⟨by kernel_rfl, by kernel_rfl⟩
def b_note_Put : AC :=
 (.seq
 (.reg [⟨some 1, .box 34 3 (.tmp 0), none, []⟩,⟨some 2, .box 30 2 (.val (.agg [(.int .i64 0), (.slice .full 0 [])])), none, []⟩])
 (.seq
 (.seq
 (.reg [⟨some 3, .ld (some 3) (.tmp 1), none, []⟩,⟨some 4, .callS 33 [(.tmp 3)], none, []⟩,⟨some 5, .un .not (.tmp 4), none, []⟩])
 (.cond (.tmp 5)
 (.seq
 (.reg [⟨some 6, .bld [(.int .i64 0), (.slice .full 0 [])] [], none, []⟩,⟨none, .st 2 (.tmp 2) (.tmp 6), none, []⟩])
 .ret)
 .skip)) (.seq (.reg [⟨some 7, .off 0 (.tmp 1), none, []⟩,⟨some 8, .ld none (.tmp 7), none, []⟩,⟨some 9, .conv .u8 (.tmp 8), none, []⟩,⟨some 10, .off 1 (.tmp 1), none, []⟩,⟨some 11, .ld none (.tmp 10), none, []⟩,⟨some 12, .conv .u8 (.tmp 11), none, []⟩,⟨some 13, .lit 5 1 [0] [(.tmp 9), (.tmp 12)], none, []⟩,⟨some 14, .off 2 (.tmp 1), none, []⟩,⟨some 15, .ld none (.tmp 14), none, []⟩,⟨some 16, .app 5 1 1 (.tmp 13) (.tmp 15), none, []⟩,⟨some 17, .bld [(.int .i64 0), (.slice .full 0 [])] [(0, 1, (.val (.int .i64 3))), (1, 1, (.tmp 16))], none, []⟩,⟨none, .st 2 (.tmp 2) (.tmp 17), none, []⟩])
 .ret)))
def c_note_Put : AF := ⟨b_note_Put, 18, [.cell 2 (some 2)]⟩
theorem p_note_Put : prepFunc Tryz.prog 34 = some c_note_Put ∧ hasBody Tryz.prog 34 = true := ⟨by kernel_rfl, by kernel_rfl⟩
def b_ridgewayref05_Put : AC :=
 (.seq
 (.reg [⟨some 1, .box 34 3 (.tmp 0), none, []⟩,⟨some 2, .box 30 2 (.val (.agg [(.int .i64 0), (.slice .full 0 [])])), none, []⟩])
 (.seq
 (.seq
 (.reg [⟨some 4, .ld (some 3) (.tmp 1), none, []⟩,⟨some 5, .callS 59 [(.tmp 4)], none, []⟩,⟨some 6, .un .not (.tmp 5), none, []⟩])
 (.cond (.tmp 6)
 (.seq
 (.reg [⟨some 7, .bld [(.int .i64 0), (.slice .full 0 [])] [], none, []⟩,⟨none, .st 2 (.tmp 2) (.tmp 7), none, []⟩])
 .ret)
 .skip)) (.seq (.reg [⟨some 8, .off 0 (.tmp 1), none, []⟩,⟨some 9, .ld none (.tmp 8), none, []⟩,⟨some 10, .conv .u8 (.tmp 9), none, []⟩,⟨some 11, .off 1 (.tmp 1), none, []⟩,⟨some 12, .ld none (.tmp 11), none, []⟩,⟨some 13, .conv .u8 (.tmp 12), none, []⟩,⟨some 14, .lit 5 1 [0] [(.tmp 10), (.tmp 13)], none, []⟩,⟨some 3, .mv (.tmp 14), none, []⟩]) (.seq (.reg [⟨some 15, .mv (.tmp 3), none, []⟩,⟨some 16, .off 2 (.tmp 1), none, []⟩,⟨some 17, .ld none (.tmp 16), none, []⟩,⟨some 18, .app 5 1 1 (.tmp 15) (.tmp 17), none, []⟩,⟨some 3, .mv (.tmp 18), none, []⟩]) (.seq (.reg [⟨some 19, .mv (.tmp 3), none, []⟩,⟨some 20, .bld [(.int .i64 0), (.slice .full 0 [])] [(0, 1, (.val (.int .i64 3))), (1, 1, (.tmp 19))], none, []⟩,⟨none, .st 2 (.tmp 2) (.tmp 20), none, []⟩])
 .ret)))))
def c_ridgewayref05_Put : AF := ⟨b_ridgewayref05_Put, 21, [.cell 2 (some 2)]⟩
theorem p_ridgewayref05_Put : prepFunc Tryz.prog 35 = some c_ridgewayref05_Put ∧ hasBody Tryz.prog 35 = true := ⟨by kernel_rfl, by kernel_rfl⟩
def b_ridgewayref03_Same : AC :=
 (.seq
 (.reg [⟨some 2, .box 30 2 (.tmp 0), none, []⟩,⟨some 3, .box 30 2 (.tmp 1), none, []⟩,⟨some 4, .mv (.val (.bool false)), none, []⟩])
 (.seq
 (.reg [⟨some 5, .off 0 (.tmp 2), none, []⟩,⟨some 6, .ld none (.tmp 5), none, []⟩,⟨some 7, .off 0 (.tmp 3), none, []⟩,⟨some 8, .ld none (.tmp 7), none, []⟩,⟨some 9, .bin .eql (.tmp 6) (.tmp 8), none, []⟩,⟨some 10, .mv (.tmp 9), none, []⟩,⟨some 11, .off 1 (.tmp 2), some (10, true), []⟩,⟨some 12, .ld none (.tmp 11), some (10, true), []⟩,⟨some 13, .b2s (.tmp 12), some (10, true), []⟩,⟨some 14, .off 1 (.tmp 3), some (10, true), []⟩,⟨some 15, .ld none (.tmp 14), some (10, true), []⟩,⟨some 16, .b2s (.tmp 15), some (10, true), []⟩,⟨some 17, .bin .eql (.tmp 13) (.tmp 16), some (10, true), []⟩,⟨some 18, .pick (.tmp 10) (.tmp 17) (.val (.bool false)), none, []⟩,⟨some 4, .mv (.tmp 18), none, []⟩])
 .ret))
def c_ridgewayref03_Same : AF := ⟨b_ridgewayref03_Same, 19, [.tmp 4]⟩
theorem p_ridgewayref03_Same : prepFunc Tryz.prog 36 = some c_ridgewayref03_Same ∧ hasBody Tryz.prog 36 = true := ⟨by kernel_rfl, by kernel_rfl⟩
def b_session_third : AC :=
 (.seq
 (.reg [⟨some 2, .mv (.val (.int .i64 0)), none, []⟩])
 (.seq
 (.reg [⟨some 3, .mv (.tmp 0), none, []⟩,⟨some 4, .bin .quo (.tmp 3) (.val (.int .i64 3)), none, []⟩,⟨some 2, .mv (.tmp 4), none, []⟩])
 .ret))
def c_session_third : AF := ⟨b_session_third, 5, [.tmp 2]⟩
theorem p_session_third : prepFunc Tryz.prog 37 = some c_session_third ∧ hasBody Tryz.prog 37 = true := ⟨by kernel_rfl, by kernel_rfl⟩
def b_role_Mine : AC :=
 (.seq
 (.reg [⟨some 2, .mv (.val (.int .i64 0)), none, []⟩])
 (.seq
 (.seq
 (.reg [⟨some 3, .mv (.tmp 0), none, []⟩])
 (.block 0
 (.seq
 (.reg [⟨some 5, .bin .eql (.tmp 3) (.val (.int .i64 1)), none, []⟩,⟨some 4, .mv (.tmp 5), none, []⟩])
 (.cond (.tmp 4)
 (.seq
 (.reg [⟨some 2, .mv (.val (.int .i64 0)), none, []⟩])
 .ret) (.seq (.reg [⟨some 7, .bin .eql (.tmp 3) (.val (.int .i64 2)), none, []⟩,⟨some 6, .mv (.tmp 7), none, []⟩]) (.cond (.tmp 6) (.seq (.reg [⟨some 2, .mv (.val (.int .i64 4)), none, []⟩])
 .ret) (.seq (.reg [⟨some 9, .bin .eql (.tmp 3) (.val (.int .i64 3)), none, []⟩,⟨some 8, .mv (.tmp 9), none, []⟩]) (.cond (.tmp 8) (.seq (.reg [⟨some 2, .mv (.val (.int .i64 3)), none, []⟩])
 .ret)
 .skip)))))))) (.seq (.reg [⟨some 2, .mv (.val (.int .i64 (-1))), none, []⟩])
 .ret)))
def c_role_Mine : AF := ⟨b_role_Mine, 10, [.tmp 2]⟩
theorem p_role_Mine : prepFunc Tryz.prog 38 = some c_role_Mine ∧ hasBody Tryz.prog 38 = true := ⟨by kernel_rfl, by kernel_rfl⟩
def b_ridgewayref12_Sane : AC :=
 (.seq
 (.reg [⟨some 1, .box 27 6 (.tmp 0), none, []⟩,⟨some 2, .mv (.val (.bool false)), none, []⟩])
 (.seq
 (.reg [⟨some 3, .off 0 (.tmp 1), none, []⟩,⟨some 4, .ld none (.tmp 3), none, []⟩,⟨some 5, .bin .geq (.tmp 4) (.val (.int .i64 1)), none, []⟩,⟨some 6, .mv (.tmp 5), none, []⟩,⟨some 7, .off 0 (.tmp 1), some (6, true), []⟩,⟨some 8, .ld none (.tmp 7), some (6, true), []⟩,⟨some 9, .bin .leq (.tmp 8) (.val (.int .i64 4294967295)), some (6, true), []⟩,⟨some 10, .pick (.tmp 6) (.tmp 9) (.val (.bool false)), none, []⟩,⟨some 11, .mv (.tmp 10), none, []⟩,⟨some 12, .off 1 (.tmp 1), some (11, true), []⟩,⟨some 13, .ld none (.tmp 12), some (11, true), []⟩,⟨some 14, .bin .geq (.tmp 13) (.val (.int .i64 1)), some (11, true), []⟩,⟨some 15, .pick (.tmp 11) (.tmp 14) (.val (.bool false)), none, []⟩,⟨some 16, .mv (.tmp 15), none, []⟩,⟨some 17, .off 1 (.tmp 1), some (16, true), []⟩,⟨some 18, .ld none (.tmp 17), some (16, true), []⟩,⟨some 19, .bin .leq (.tmp 18) (.val (.int .i64 4294967295)), some (16, true), []⟩,⟨some 20, .pick (.tmp 16) (.tmp 19) (.val (.bool false)), none, []⟩,⟨some 21, .mv (.tmp 20), none, []⟩,⟨some 22, .off 2 (.tmp 1), some (21, true), []⟩,⟨some 23, .ld none (.tmp 22), some (21, true), []⟩,⟨some 24, .callS 60 [(.tmp 23)], some (21, true), []⟩,⟨some 25, .pick (.tmp 21) (.tmp 24) (.val (.bool false)), none, []⟩,⟨some 26, .mv (.tmp 25), none, []⟩,⟨some 27, .off 3 (.tmp 1), some (26, true), []⟩,⟨some 28, .ld none (.tmp 27), some (26, true), []⟩,⟨some 29, .bin .geq (.tmp 28) (.val (.int .i64 1)), some (26, true), []⟩,⟨some 30, .pick (.tmp 26) (.tmp 29) (.val (.bool false)), none, []⟩,⟨some 31, .mv (.tmp 30), none, []⟩,⟨some 32, .off 3 (.tmp 1), some (31, true), []⟩,⟨some 33, .ld none (.tmp 32), some (31, true), []⟩,⟨some 34, .bin .leq (.tmp 33) (.val (.int .i64 1000)), some (31, true), []⟩,⟨some 35, .pick (.tmp 31) (.tmp 34) (.val (.bool false)), none, []⟩,⟨some 36, .mv (.tmp 35), none, []⟩,⟨some 37, .off 4 (.tmp 1), some (36, true), []⟩,⟨some 38, .ld none (.tmp 37), some (36, true), []⟩,⟨some 39, .callS 61 [(.tmp 38)], some (36, true), []⟩,⟨some 40, .pick (.tmp 36) (.tmp 39) (.val (.bool false)), none, []⟩,⟨some 41, .mv (.tmp 40), none, []⟩,⟨some 42, .off 5 (.tmp 1), some (41, true), []⟩,⟨some 43, .ld none (.tmp 42), some (41, true), []⟩,⟨some 44, .off 0 (.tmp 1), some (41, true), []⟩,⟨some 45, .ld none (.tmp 44), some (41, true), []⟩,⟨some 46, .callS 62 [(.tmp 43), (.tmp 45)], some (41, true), []⟩,⟨some 47, .pick (.tmp 41) (.tmp 46) (.val (.bool false)), none, []⟩,⟨some 2, .mv (.tmp 47), none, []⟩])
 .ret))
def c_ridgewayref12_Sane : AF := ⟨b_ridgewayref12_Sane, 48, [.tmp 2]⟩
theorem p_ridgewayref12_Sane : prepFunc Tryz.prog 39 = some c_ridgewayref12_Sane ∧ hasBody Tryz.prog 39 = true := ⟨by kernel_rfl, by kernel_rfl⟩
def b_ridgewayref13_Mine : AC :=
 (.seq
 (.reg [⟨some 2, .mv (.val (.int .i64 0)), none, []⟩])
 (.seq
 (.seq
 (.reg [⟨some 3, .mv (.tmp 0), none, []⟩])
 (.block 0
 (.seq
 (.reg [⟨some 5, .bin .eql (.tmp 3) (.val (.int .i64 1)), none, []⟩,⟨some 4, .mv (.tmp 5), none, []⟩])
 (.cond (.tmp 4)
 (.seq
 (.reg [⟨some 2, .mv (.val (.int .i64 0)), none, []⟩])
 .ret) (.seq (.reg [⟨some 7, .bin .eql (.tmp 3) (.val (.int .i64 2)), none, []⟩,⟨some 6, .mv (.tmp 7), none, []⟩]) (.cond (.tmp 6) (.seq (.reg [⟨some 2, .mv (.val (.int .i64 4)), none, []⟩])
 .ret) (.seq (.reg [⟨some 9, .bin .eql (.tmp 3) (.val (.int .i64 3)), none, []⟩,⟨some 8, .mv (.tmp 9), none, []⟩]) (.cond (.tmp 8) (.seq (.reg [⟨some 2, .mv (.val (.int .i64 3)), none, []⟩])
 .ret)
 .skip)))))))) (.seq (.reg [⟨some 2, .mv (.val (.int .i64 (-1))), none, []⟩])
 .ret)))
def c_ridgewayref13_Mine : AF := ⟨b_ridgewayref13_Mine, 10, [.tmp 2]⟩
theorem p_ridgewayref13_Mine : prepFunc Tryz.prog 40 = some c_ridgewayref13_Mine ∧ hasBody Tryz.prog 40 = true := ⟨by kernel_rfl, by kernel_rfl⟩
def b_conf_Sane : AC :=
 (.seq
 (.reg [⟨some 1, .box 27 6 (.tmp 0), none, []⟩,⟨some 2, .mv (.val (.bool false)), none, []⟩])
 (.seq
 (.reg [⟨some 3, .off 0 (.tmp 1), none, []⟩,⟨some 4, .ld none (.tmp 3), none, []⟩,⟨some 5, .callS 63 [(.tmp 4)], none, []⟩,⟨some 6, .mv (.tmp 5), none, []⟩,⟨some 7, .off 1 (.tmp 1), some (6, true), []⟩,⟨some 8, .ld none (.tmp 7), some (6, true), []⟩,⟨some 9, .callS 63 [(.tmp 8)], some (6, true), []⟩,⟨some 10, .pick (.tmp 6) (.tmp 9) (.val (.bool false)), none, []⟩,⟨some 11, .mv (.tmp 10), none, []⟩,⟨some 12, .off 2 (.tmp 1), some (11, true), []⟩,⟨some 13, .ld none (.tmp 12), some (11, true), []⟩,⟨some 14, .callS 64 [(.tmp 13)], some (11, true), []⟩,⟨some 15, .pick (.tmp 11) (.tmp 14) (.val (.bool false)), none, []⟩,⟨some 16, .mv (.tmp 15), none, []⟩,⟨some 17, .off 3 (.tmp 1), some (16, true), []⟩,⟨some 18, .ld none (.tmp 17), some (16, true), []⟩,⟨some 19, .callS 65 [(.tmp 18)], some (16, true), []⟩,⟨some 20, .pick (.tmp 16) (.tmp 19) (.val (.bool false)), none, []⟩,⟨some 21, .mv (.tmp 20), none, []⟩,⟨some 22, .off 4 (.tmp 1), some (21, true), []⟩,⟨some 23, .ld none (.tmp 22), some (21, true), []⟩,⟨some 24, .callS 66 [(.tmp 23)], some (21, true), []⟩,⟨some 25, .pick (.tmp 21) (.tmp 24) (.val (.bool false)), none, []⟩,⟨some 26, .mv (.tmp 25), none, []⟩,⟨some 27, .ld (some 6) (.tmp 1), some (26, true), []⟩,⟨some 28, .callS 67 [(.tmp 27)], some (26, true), []⟩,⟨some 29, .pick (.tmp 26) (.tmp 28) (.val (.bool false)), none, []⟩,⟨some 2, .mv (.tmp 29), none, []⟩])
 .ret))
def c_conf_Sane : AF := ⟨b_conf_Sane, 30, [.tmp 2]⟩
theorem p_conf_Sane : prepFunc Tryz.prog 41 = some c_conf_Sane ∧ hasBody Tryz.prog 41 = true := ⟨by kernel_rfl, by kernel_rfl⟩
def b_open_Sane : AC :=
 (.seq
 (.reg [⟨some 1, .box 45 4 (.tmp 0), none, []⟩,⟨some 2, .mv (.val (.bool false)), none, []⟩])
 (.seq
 (.reg [⟨some 3, .off 0 (.tmp 1), none, []⟩,⟨some 4, .ld none (.tmp 3), none, []⟩,⟨some 5, .callS 68 [(.tmp 4)], none, []⟩,⟨some 6, .mv (.tmp 5), none, []⟩,⟨some 7, .off 2 (.tmp 1), some (6, true), []⟩,⟨some 8, .ld none (.tmp 7), some (6, true), []⟩,⟨some 9, .callS 68 [(.tmp 8)], some (6, true), []⟩,⟨some 10, .pick (.tmp 6) (.tmp 9) (.val (.bool false)), none, []⟩,⟨some 11, .mv (.tmp 10), none, []⟩,⟨some 12, .off 1 (.tmp 1), some (11, true), []⟩,⟨some 13, .ld none (.tmp 12), some (11, true), []⟩,⟨some 14, .callS 69 [(.tmp 13)], some (11, true), []⟩,⟨some 15, .pick (.tmp 11) (.tmp 14) (.val (.bool false)), none, []⟩,⟨some 16, .mv (.tmp 15), none, []⟩,⟨some 17, .off 3 (.tmp 1), some (16, true), []⟩,⟨some 18, .ld none (.tmp 17), some (16, true), []⟩,⟨some 19, .bin .geq (.tmp 18) (.val (.int .i64 (-1))), some (16, true), []⟩,⟨some 20, .pick (.tmp 16) (.tmp 19) (.val (.bool false)), none, []⟩,⟨some 21, .mv (.tmp 20), none, []⟩,⟨some 22, .off 3 (.tmp 1), some (21, true), []⟩,⟨some 23, .ld none (.tmp 22), some (21, true), []⟩,⟨some 24, .bin .leq (.tmp 23) (.val (.int .i64 4)), some (21, true), []⟩,⟨some 25, .pick (.tmp 21) (.tmp 24) (.val (.bool false)), none, []⟩,⟨some 2, .mv (.tmp 25), none, []⟩])
 .ret))
def c_open_Sane : AF := ⟨b_open_Sane, 26, [.tmp 2]⟩
theorem p_open_Sane : prepFunc Tryz.prog 42 = some c_open_Sane ∧ hasBody Tryz.prog 42 = true := ⟨by kernel_rfl, by kernel_rfl⟩
def b_open_labelled : AC :=
 (.seq
 (.reg [⟨some 4, .mv (.val (.slice .full 0 [])), none, []⟩])
 (.seq
 (.reg [⟨some 5, .mv (.tmp 0), none, []⟩,⟨some 6, .conv .u8 (.tmp 5), none, []⟩,⟨some 7, .mv (.tmp 1), none, []⟩,⟨some 8, .len (.tmp 7), none, []⟩,⟨some 9, .conv .u8 (.tmp 8), none, []⟩,⟨some 10, .lit 5 1 [0] [(.tmp 6), (.tmp 9)], none, []⟩,⟨some 11, .mv (.tmp 1), none, []⟩,⟨some 12, .app 5 1 1 (.tmp 10) (.tmp 11), none, []⟩,⟨some 4, .mv (.tmp 12), none, []⟩])
 .ret))
def c_open_labelled : AF := ⟨b_open_labelled, 13, [.tmp 4]⟩
theorem p_open_labelled : prepFunc Tryz.prog 43 = some c_open_labelled ∧ hasBody Tryz.prog 43 = true := ⟨by kernel_rfl, by kernel_rfl⟩
def b_octet_Put : AC :=
 (.seq
 (.reg [⟨some 6, .mv (.val (.slice .full 0 [])), none, []⟩])
 (.seq
 (.seq
 (.reg [⟨some 9, .mv (.tmp 2), none, []⟩,⟨some 10, .bin .lss (.tmp 9) (.val (.int .i64 1)), none, []⟩,⟨some 11, .mv (.tmp 10), none, []⟩,⟨some 12, .mv (.tmp 2), some (11, false), []⟩,⟨some 13, .bin .gtr (.tmp 12) (.val (.int .i64 4)), some (11, false), []⟩,⟨some 14, .pick (.tmp 11) (.val (.bool true)) (.tmp 13), none, []⟩])
 (.cond (.tmp 14)
 (.seq
 (.reg [⟨some 15, .mv (.tmp 0), none, []⟩,⟨some 6, .mv (.tmp 15), none, []⟩])
 .ret)
 .skip)) (.seq (.reg [⟨some 16, .mv (.tmp 0), none, []⟩,⟨some 17, .mv (.tmp 0), none, []⟩,⟨some 18, .len (.tmp 17), none, []⟩,⟨some 19, .mv (.tmp 0), none, []⟩,⟨some 20, .len (.tmp 19), none, []⟩,⟨some 21, .slc 1 (.tmp 16) none (some (.tmp 18)) (some (.tmp 20)), none, []⟩,⟨some 7, .mv (.tmp 21), none, []⟩]) (.seq (.seq (.reg [⟨some 22, .mv (.tmp 2), none, []⟩,⟨some 23, .mv (.val (.int .i64 0)), none, []⟩]) (.block 0 (.loop (.seq (.reg [⟨some 24, .bin .lss (.tmp 23) (.tmp 22), none, []⟩]) (.seq (.cond (.tmp 24)
 .skip (.exit 0)) (.seq (.block 1 (.seq (.reg [⟨some 25, .mv (.tmp 23), none, []⟩,⟨some 8, .mv (.tmp 25), none, []⟩]) (.reg [⟨some 26, .mv (.tmp 7), none, []⟩,⟨some 27, .mv (.tmp 1), none, []⟩,⟨some 28, .mv (.tmp 2), none, []⟩,⟨some 29, .bin .sub (.tmp 28) (.val (.int .i64 1)), none, []⟩,⟨some 30, .mv (.tmp 8), none, []⟩,⟨some 31, .bin .sub (.tmp 29) (.tmp 30), none, []⟩,⟨some 32, .bin .mul (.val (.int .i64 8)) (.tmp 31), none, []⟩,⟨some 33, .bin .shr (.tmp 27) (.tmp 32), none, []⟩,⟨some 34, .conv .u8 (.tmp 33), none, []⟩,⟨some 35, .lit 5 1 [0] [(.tmp 34)], none, []⟩,⟨some 36, .app 5 1 1 (.tmp 26) (.tmp 35), none, []⟩,⟨some 7, .mv (.tmp 36), none, []⟩]))) (.reg [⟨some 37, .bin .add (.tmp 23) (.val (.int .i64 1)), none, []⟩,⟨some 23, .mv (.tmp 37), none, []⟩]))))))) (.seq (.reg [⟨some 38, .mv (.tmp 7), none, []⟩,⟨some 6, .mv (.tmp 38), none, []⟩])
 .ret)))))
def c_octet_Put : AF := ⟨b_octet_Put, 39, [.tmp 6]⟩
theorem p_octet_Put : prepFunc Tryz.prog 44 = some c_octet_Put ∧ hasBody Tryz.prog 44 = true := ⟨by kernel_rfl, by kernel_rfl⟩
def b_open_short : AC :=
 (.seq
 (.reg [⟨some 2, .mv (.val (.int .i64 0)), none, []⟩])
 (.seq
 (.seq
 (.reg [⟨some 3, .mv (.tmp 0), none, []⟩,⟨some 4, .bin .gtr (.tmp 3) (.val (.int .i64 65535)), none, []⟩])
 (.cond (.tmp 4)
 (.seq
 (.reg [⟨some 2, .mv (.val (.int .i64 23456)), none, []⟩])
 .ret)
 .skip)) (.seq (.reg [⟨some 5, .mv (.tmp 0), none, []⟩,⟨some 2, .mv (.tmp 5), none, []⟩])
 .ret)))
def c_open_short : AF := ⟨b_open_short, 6, [.tmp 2]⟩
theorem p_open_short : prepFunc Tryz.prog 45 = some c_open_short ∧ hasBody Tryz.prog 45 = true := ⟨by kernel_rfl, by kernel_rfl⟩
def b_ridgewayref06_Sane : AC :=
 (.seq
 (.reg [⟨some 1, .box 45 4 (.tmp 0), none, []⟩,⟨some 2, .mv (.val (.bool false)), none, []⟩])
 (.seq
 (.reg [⟨some 3, .off 0 (.tmp 1), none, []⟩,⟨some 4, .ld none (.tmp 3), none, []⟩,⟨some 5, .bin .geq (.tmp 4) (.val (.int .i64 1)), none, []⟩,⟨some 6, .mv (.tmp 5), none, []⟩,⟨some 7, .off 0 (.tmp 1), some (6, true), []⟩,⟨some 8, .ld none (.tmp 7), some (6, true), []⟩,⟨some 9, .bin .leq (.tmp 8) (.val (.int .i64 4294967295)), some (6, true), []⟩,⟨some 10, .pick (.tmp 6) (.tmp 9) (.val (.bool false)), none, []⟩,⟨some 11, .mv (.tmp 10), none, []⟩,⟨some 12, .off 1 (.tmp 1), some (11, true), []⟩,⟨some 13, .ld none (.tmp 12), some (11, true), []⟩,⟨some 14, .bin .eql (.tmp 13) (.val (.int .i64 0)), some (11, true), []⟩,⟨some 15, .mv (.tmp 14), some (11, true), []⟩,⟨some 16, .off 1 (.tmp 1), some (15, false), []⟩,⟨some 17, .ld none (.tmp 16), some (15, false), []⟩,⟨some 18, .bin .geq (.tmp 17) (.val (.int .i64 3)), some (15, false), []⟩,⟨some 19, .mv (.tmp 18), some (15, false), []⟩,⟨some 20, .off 1 (.tmp 1), some (19, true), []⟩,⟨some 21, .ld none (.tmp 20), some (19, true), []⟩,⟨some 22, .bin .leq (.tmp 21) (.val (.int .i64 65535)), some (19, true), []⟩,⟨some 23, .pick (.tmp 19) (.tmp 22) (.val (.bool false)), some (15, false), []⟩,⟨some 24, .pick (.tmp 15) (.val (.bool true)) (.tmp 23), some (11, true), []⟩,⟨some 25, .pick (.tmp 11) (.tmp 24) (.val (.bool false)), none, []⟩,⟨some 26, .mv (.tmp 25), none, []⟩,⟨some 27, .off 2 (.tmp 1), some (26, true), []⟩,⟨some 28, .ld none (.tmp 27), some (26, true), []⟩,⟨some 29, .bin .geq (.tmp 28) (.val (.int .i64 1)), some (26, true), []⟩,⟨some 30, .pick (.tmp 26) (.tmp 29) (.val (.bool false)), none, []⟩,⟨some 31, .mv (.tmp 30), none, []⟩,⟨some 32, .off 2 (.tmp 1), some (31, true), []⟩,⟨some 33, .ld none (.tmp 32), some (31, true), []⟩,⟨some 34, .bin .leq (.tmp 33) (.val (.int .i64 4294967295)), some (31, true), []⟩,⟨some 35, .pick (.tmp 31) (.tmp 34) (.val (.bool false)), none, []⟩,⟨some 36, .mv (.tmp 35), none, []⟩,⟨some 37, .off 3 (.tmp 1), some (36, true), []⟩,⟨some 38, .ld none (.tmp 37), some (36, true), []⟩,⟨some 39, .bin .geq (.tmp 38) (.val (.int .i64 (-1))), some (36, true), []⟩,⟨some 40, .pick (.tmp 36) (.tmp 39) (.val (.bool false)), none, []⟩,⟨some 41, .mv (.tmp 40), none, []⟩,⟨some 42, .off 3 (.tmp 1), some (41, true), []⟩,⟨some 43, .ld none (.tmp 42), some (41, true), []⟩,⟨some 44, .bin .leq (.tmp 43) (.val (.int .i64 4)), some (41, true), []⟩,⟨some 45, .pick (.tmp 41) (.tmp 44) (.val (.bool false)), none, []⟩,⟨some 2, .mv (.tmp 45), none, []⟩])
 .ret))
def c_ridgewayref06_Sane : AF := ⟨b_ridgewayref06_Sane, 46, [.tmp 2]⟩
theorem p_ridgewayref06_Sane : prepFunc Tryz.prog 46 = some c_ridgewayref06_Sane ∧ hasBody Tryz.prog 46 = true := ⟨by kernel_rfl, by kernel_rfl⟩
def b_ridgewayref01_Put : AC :=
 (.seq
 (.reg [⟨some 6, .mv (.val (.slice .full 0 [])), none, []⟩])
 (.seq
 (.reg [⟨some 9, .lit 5 1 [0] [], none, []⟩,⟨some 10, .mv (.tmp 0), none, []⟩,⟨some 11, .app 5 1 1 (.tmp 9) (.tmp 10), none, []⟩,⟨some 7, .mv (.tmp 11), none, []⟩])
 (.seq
 (.seq
 (.reg [⟨some 12, .mv (.tmp 2), none, []⟩,⟨some 13, .bin .lss (.tmp 12) (.val (.int .i64 1)), none, []⟩,⟨some 14, .mv (.tmp 13), none, []⟩,⟨some 15, .mv (.tmp 2), some (14, false), []⟩,⟨some 16, .bin .gtr (.tmp 15) (.val (.int .i64 4)), some (14, false), []⟩,⟨some 17, .pick (.tmp 14) (.val (.bool true)) (.tmp 16), none, []⟩])
 (.cond (.tmp 17)
 (.seq
 (.reg [⟨some 18, .mv (.tmp 7), none, []⟩,⟨some 6, .mv (.tmp 18), none, []⟩])
 .ret)
 .skip)) (.seq (.seq (.reg [⟨some 19, .mv (.tmp 2), none, []⟩,⟨some 20, .bin .sub (.tmp 19) (.val (.int .i64 1)), none, []⟩,⟨some 8, .mv (.tmp 20), none, []⟩]) (.block 0 (.loop (.seq (.seq (.reg [⟨some 21, .mv (.tmp 8), none, []⟩,⟨some 22, .bin .geq (.tmp 21) (.val (.int .i64 0)), none, []⟩]) (.cond (.tmp 22)
 .skip (.exit 0))) (.seq (.block 1 (.reg [⟨some 25, .mv (.tmp 7), none, []⟩,⟨some 26, .mv (.tmp 1), none, []⟩,⟨some 27, .mv (.tmp 8), none, []⟩,⟨some 28, .bin .mul (.val (.int .i64 8)) (.tmp 27), none, []⟩,⟨some 29, .conv .u64 (.tmp 28), none, []⟩,⟨some 30, .bin .shr (.tmp 26) (.tmp 29), none, []⟩,⟨some 31, .conv .u8 (.tmp 30), none, []⟩,⟨some 32, .lit 5 1 [0] [(.tmp 31)], none, []⟩,⟨some 33, .app 5 1 1 (.tmp 25) (.tmp 32), none, []⟩,⟨some 7, .mv (.tmp 33), none, []⟩])) (.reg [⟨some 23, .mv (.tmp 8), none, []⟩,⟨some 24, .bin .sub (.tmp 23) (.val (.int .i64 1)), none, []⟩,⟨some 8, .mv (.tmp 24), none, []⟩])))))) (.seq (.reg [⟨some 34, .mv (.tmp 7), none, []⟩,⟨some 6, .mv (.tmp 34), none, []⟩])
 .ret)))))
def c_ridgewayref01_Put : AF := ⟨b_ridgewayref01_Put, 35, [.tmp 6]⟩
theorem p_ridgewayref01_Put : prepFunc Tryz.prog 47 = some c_ridgewayref01_Put ∧ hasBody Tryz.prog 47 = true := ⟨by kernel_rfl, by kernel_rfl⟩
def b_ridgewayref06_two : AC :=
 (.seq
 (.reg [⟨some 2, .mv (.val (.int .i64 0)), none, []⟩])
 (.seq
 (.seq
 (.reg [⟨some 3, .mv (.tmp 0), none, []⟩,⟨some 4, .bin .gtr (.tmp 3) (.val (.int .i64 65535)), none, []⟩])
 (.cond (.tmp 4)
 (.seq
 (.reg [⟨some 2, .mv (.val (.int .i64 23456)), none, []⟩])
 .ret)
 .skip)) (.seq (.reg [⟨some 5, .mv (.tmp 0), none, []⟩,⟨some 2, .mv (.tmp 5), none, []⟩])
 .ret)))
def c_ridgewayref06_two : AF := ⟨b_ridgewayref06_two, 6, [.tmp 2]⟩
theorem p_ridgewayref06_two : prepFunc Tryz.prog 48 = some c_ridgewayref06_two ∧ hasBody Tryz.prog 48 = true := ⟨by kernel_rfl, by kernel_rfl⟩
def b_msg_Least : AC :=
 (.seq
 (.reg [⟨some 2, .mv (.val (.int .i64 0)), none, []⟩])
 (.seq
 (.reg [⟨some 3, .mv (.val (.int .i64 0)), none, []⟩])
 (.seq
 (.seq
 (.reg [⟨some 4, .mv (.tmp 0), none, []⟩])
 (.block 0
 (.seq
 (.block 4
 (.seq
 (.block 3
 (.seq
 (.block 2
 (.seq
 (.block 1
 (.seq
 (.seq
 (.seq
 (.reg [⟨some 6, .bin .eql (.tmp 4) (.val (.int .i64 1)), none, []⟩,⟨some 5, .mv (.tmp 6), none, []⟩])
 (.cond (.tmp 5)
 (.exit 1)
 .skip)) (.seq (.seq (.reg [⟨some 8, .bin .eql (.tmp 4) (.val (.int .i64 2)), none, []⟩,⟨some 7, .mv (.tmp 8), none, []⟩]) (.cond (.tmp 7) (.exit 2)
 .skip)) (.seq (.seq (.reg [⟨some 10, .bin .eql (.tmp 4) (.val (.int .i64 3)), none, []⟩,⟨some 9, .mv (.tmp 10), none, []⟩]) (.cond (.tmp 9) (.exit 3)
 .skip)) (.seq (.reg [⟨some 12, .bin .eql (.tmp 4) (.val (.int .i64 4)), none, []⟩,⟨some 11, .mv (.tmp 12), none, []⟩]) (.cond (.tmp 11) (.exit 4)
 .skip))))) (.exit 0))) (.reg [⟨some 13, .mv (.tmp 3), none, []⟩,⟨some 14, .bin .add (.tmp 13) (.val (.int .i64 6)), none, []⟩,⟨some 3, .mv (.tmp 14), none, []⟩]))) (.reg [⟨some 15, .mv (.tmp 3), none, []⟩,⟨some 16, .bin .add (.tmp 15) (.val (.int .i64 2)), none, []⟩,⟨some 3, .mv (.tmp 16), none, []⟩]))) (.reg [⟨some 17, .mv (.tmp 3), none, []⟩,⟨some 18, .bin .add (.tmp 17) (.val (.int .i64 2)), none, []⟩,⟨some 3, .mv (.tmp 18), none, []⟩]))) (.seq (.reg [⟨some 19, .mv (.tmp 3), none, []⟩,⟨some 20, .bin .add (.tmp 19) (.val (.int .i64 19)), none, []⟩,⟨some 3, .mv (.tmp 20), none, []⟩]) (.exit 0))))) (.seq (.reg [⟨some 21, .mv (.tmp 3), none, []⟩,⟨some 2, .mv (.tmp 21), none, []⟩])
 .ret))))
def c_msg_Least : AF := ⟨b_msg_Least, 22, [.tmp 2]⟩
theorem p_msg_Least : prepFunc Tryz.prog 49 = some c_msg_Least ∧ hasBody Tryz.prog 49 = true := ⟨by kernel_rfl, by kernel_rfl⟩
def b_msg_wrong : AC :=
 (.seq
 (.reg [⟨some 4, .mv (.val (.bool false)), none, []⟩])
 (.seq
 (.reg [⟨some 5, .mv (.tmp 1), none, []⟩,⟨some 6, .mv (.tmp 0), none, []⟩,⟨some 7, .callS 49 [(.tmp 6)], none, []⟩,⟨some 8, .bin .lss (.tmp 5) (.tmp 7), none, []⟩,⟨some 9, .mv (.tmp 8), none, []⟩,⟨some 10, .mv (.tmp 0), some (9, false), []⟩,⟨some 11, .bin .eql (.tmp 10) (.val (.int .i64 4)), some (9, false), []⟩,⟨some 12, .mv (.tmp 11), some (9, false), []⟩,⟨some 13, .mv (.tmp 1), some (12, true), []⟩,⟨some 14, .bin .neq (.tmp 13) (.val (.int .i64 19)), some (12, true), []⟩,⟨some 15, .pick (.tmp 12) (.tmp 14) (.val (.bool false)), some (9, false), []⟩,⟨some 16, .pick (.tmp 9) (.val (.bool true)) (.tmp 15), none, []⟩,⟨some 4, .mv (.tmp 16), none, []⟩])
 .ret))
def c_msg_wrong : AF := ⟨b_msg_wrong, 17, [.tmp 4]⟩
theorem p_msg_wrong : prepFunc Tryz.prog 50 = some c_msg_wrong ∧ hasBody Tryz.prog 50 = true := ⟨by kernel_rfl, by kernel_rfl⟩
def b_session_does_1 : AC :=
 (.seq
 (.reg [⟨some 1, .box 62 16 (.tmp 0), none, []⟩,⟨some 2, .box 23 4 (.val (.agg [(.int .i64 0), (.int .i64 0), (.int .i64 0), (.int .i64 0)])), none, []⟩,⟨some 3, .mv (.val (.slice .full 0 [])), none, []⟩,⟨some 4, .mv (.val (.bool false)), none, []⟩])
 (.seq
 (.reg [⟨some 5, .off 0 (.tmp 1), none, []⟩,⟨some 6, .ld (some 4) (.tmp 5), none, []⟩,⟨none, .st 4 (.tmp 2) (.tmp 6), none, []⟩,⟨some 3, .mv (.val (.slice .full 0 [])), none, []⟩,⟨some 4, .mv (.val (.bool false)), none, []⟩])
 .ret))
def c_session_does_1 : AF := ⟨b_session_does_1, 7, [.cell 2 (some 4), .tmp 3, .tmp 4]⟩
theorem p_session_does_1 : prepFunc Tryz.prog 51 = some c_session_does_1 ∧ hasBody Tryz.prog 51 = true := ⟨by kernel_rfl, by kernel_rfl⟩
def b_session_turn__sent : AC :=
 (.seq
 (.reg [⟨some 1, .box 62 16 (.tmp 0), none, []⟩,⟨some 2, .box 23 4 (.val (.agg [(.int .i64 0), (.int .i64 0), (.int .i64 0), (.int .i64 0)])), none, []⟩,⟨some 3, .mv (.val (.slice .full 0 [])), none, []⟩,⟨some 4, .mv (.val (.bool false)), none, []⟩])
 (.seq
 (.seq
 (.reg [⟨some 8, .off 14 (.tmp 1), none, []⟩,⟨some 9, .off 0 (.tmp 8), none, []⟩,⟨some 10, .ld none (.tmp 9), none, []⟩,⟨some 11, .bin .neq (.tmp 10) (.val (.int .i64 1)), none, []⟩])
 (.cond (.tmp 11)
 (.seq
 (.reg [⟨some 12, .ld (some 16) (.tmp 1), none, []⟩,⟨some 13, .bld [(.int .i64 0), (.int .i64 0), (.slice .full 0 [])] [(0, 1, (.val (.int .i64 5))), (1, 1, (.val (.int .i64 1)))], none, []⟩,⟨some 14, .callS 70 [(.tmp 12), (.tmp 13)], none, []⟩,⟨some 15, .ext (.tmp 14) 0, none, []⟩,⟨some 16, .ext (.tmp 14) 1, none, []⟩,⟨some 17, .ext (.tmp 14) 2, none, []⟩,⟨none, .st 4 (.tmp 2) (.tmp 15), none, []⟩,⟨some 3, .mv (.tmp 16), none, []⟩,⟨some 4, .mv (.tmp 17), none, []⟩])
 .ret)
 .skip)) (.seq (.reg [⟨some 19, .off 14 (.tmp 1), none, []⟩,⟨some 20, .ld (some 2) (.tmp 19), none, []⟩,⟨some 21, .off 10 (.tmp 1), none, []⟩,⟨some 22, .off 0 (.tmp 21), none, []⟩,⟨some 23, .ld none (.tmp 22), none, []⟩,⟨some 24, .callS 71 [(.tmp 20), (.tmp 23)], none, []⟩,⟨some 18, .mv (.tmp 24), none, []⟩,⟨some 25, .ext (.tmp 18) 0, none, []⟩,⟨some 26, .ext (.tmp 18) 1, none, []⟩,⟨some 5, .box 45 4 (.val (.agg [(.int .i64 0), (.int .i64 0), (.int .i64 0), (.int .i64 0)])), none, []⟩,⟨some 6, .box 34 3 (.val (.agg [(.int .i64 0), (.int .i64 0), (.slice .full 0 [])])), none, []⟩,⟨none, .st 4 (.tmp 5) (.tmp 25), none, []⟩,⟨none, .st 3 (.tmp 6) (.tmp 26), none, []⟩]) (.seq (.seq (.reg [⟨some 27, .off 0 (.tmp 6), none, []⟩,⟨some 28, .ld none (.tmp 27), none, []⟩,⟨some 29, .bin .neq (.tmp 28) (.val (.int .i64 0)), none, []⟩]) (.cond (.tmp 29) (.seq (.reg [⟨some 30, .ld (some 16) (.tmp 1), none, []⟩,⟨some 31, .ld (some 3) (.tmp 6), none, []⟩,⟨some 32, .callS 70 [(.tmp 30), (.tmp 31)], none, []⟩,⟨some 33, .ext (.tmp 32) 0, none, []⟩,⟨some 34, .ext (.tmp 32) 1, none, []⟩,⟨some 35, .ext (.tmp 32) 2, none, []⟩,⟨none, .st 4 (.tmp 2) (.tmp 33), none, []⟩,⟨some 3, .mv (.tmp 34), none, []⟩,⟨some 4, .mv (.tmp 35), none, []⟩])
 .ret)
 .skip)) (.seq (.seq (.reg [⟨some 36, .off 3 (.tmp 5), none, []⟩,⟨some 37, .ld none (.tmp 36), none, []⟩,⟨some 38, .bin .geq (.tmp 37) (.val (.int .i64 0)), none, []⟩,⟨some 39, .mv (.tmp 38), none, []⟩,⟨some 40, .off 10 (.tmp 1), some (39, true), []⟩,⟨some 41, .off 1 (.tmp 40), some (39, true), []⟩,⟨some 42, .ld none (.tmp 41), some (39, true), []⟩,⟨some 43, .call 38 [(.tmp 42)], some (39, true), []⟩,⟨some 44, .off 3 (.tmp 5), some (39, true), []⟩,⟨some 45, .ld none (.tmp 44), some (39, true), []⟩,⟨some 46, .callS 72 [(.tmp 43), (.tmp 45)], some (39, true), []⟩,⟨some 47, .un .not (.tmp 46), some (39, true), []⟩,⟨some 48, .pick (.tmp 39) (.tmp 47) (.val (.bool false)), none, []⟩]) (.cond (.tmp 48) (.seq (.reg [⟨some 49, .ld (some 16) (.tmp 1), none, []⟩,⟨some 50, .bld [(.int .i64 0), (.int .i64 0), (.slice .full 0 [])] [(0, 1, (.val (.int .i64 2))), (1, 1, (.val (.int .i64 11)))], none, []⟩,⟨some 51, .callS 70 [(.tmp 49), (.tmp 50)], none, []⟩,⟨some 52, .ext (.tmp 51) 0, none, []⟩,⟨some 53, .ext (.tmp 51) 1, none, []⟩,⟨some 54, .ext (.tmp 51) 2, none, []⟩,⟨none, .st 4 (.tmp 2) (.tmp 52), none, []⟩,⟨some 3, .mv (.tmp 53), none, []⟩,⟨some 4, .mv (.tmp 54), none, []⟩])
 .ret)
 .skip)) (.seq (.reg [⟨some 55, .off 4 (.tmp 1), none, []⟩,⟨some 56, .off 2 (.tmp 55), none, []⟩,⟨some 57, .ld none (.tmp 56), none, []⟩,⟨some 58, .off 1 (.tmp 5), none, []⟩,⟨some 59, .ld none (.tmp 58), none, []⟩,⟨some 60, .mn (.tmp 57) (.tmp 59), none, []⟩,⟨some 7, .mv (.tmp 60), none, []⟩]) (.seq (.reg [⟨some 61, .mv (.tmp 7), none, []⟩,⟨some 62, .mv (.tmp 7), none, []⟩,⟨some 63, .mv (.tmp 7), none, []⟩,⟨some 64, .callS 37 [(.tmp 63)], none, []⟩,⟨some 65, .bld [(.int .i64 0), (.int .i64 0), (.int .i64 0), (.int .i64 0)] [(0, 1, (.val (.int .i64 2))), (1, 1, (.tmp 61)), (2, 1, (.tmp 62)), (3, 1, (.tmp 64))], none, []⟩,⟨some 66, .callS 58 [], none, []⟩,⟨none, .st 4 (.tmp 2) (.tmp 65), none, []⟩,⟨some 3, .mv (.tmp 66), none, []⟩,⟨some 4, .mv (.val (.bool false)), none, []⟩])
 .ret)))))))
def c_session_turn__sent : AF := ⟨b_session_turn__sent, 67, [.cell 2 (some 4), .tmp 3, .tmp 4]⟩
theorem p_session_turn__sent : prepFunc Tryz.prog 52 = some c_session_turn__sent ∧ hasBody Tryz.prog 52 = true := ⟨by kernel_rfl, by kernel_rfl⟩
def b_session_turn__confirm : AC :=
 (.seq
 (.reg [⟨some 1, .box 62 16 (.tmp 0), none, []⟩,⟨some 2, .box 23 4 (.val (.agg [(.int .i64 0), (.int .i64 0), (.int .i64 0), (.int .i64 0)])), none, []⟩,⟨some 3, .mv (.val (.slice .full 0 [])), none, []⟩,⟨some 4, .mv (.val (.bool false)), none, []⟩])
 (.seq
 (.seq
 (.reg [⟨some 5, .off 14 (.tmp 1), none, []⟩,⟨some 6, .off 0 (.tmp 5), none, []⟩,⟨some 7, .ld none (.tmp 6), none, []⟩,⟨some 8, .bin .neq (.tmp 7) (.val (.int .i64 4)), none, []⟩])
 (.cond (.tmp 8)
 (.seq
 (.reg [⟨some 9, .ld (some 16) (.tmp 1), none, []⟩,⟨some 10, .bld [(.int .i64 0), (.int .i64 0), (.slice .full 0 [])] [(0, 1, (.val (.int .i64 5))), (1, 1, (.val (.int .i64 2)))], none, []⟩,⟨some 11, .callS 70 [(.tmp 9), (.tmp 10)], none, []⟩,⟨some 12, .ext (.tmp 11) 0, none, []⟩,⟨some 13, .ext (.tmp 11) 1, none, []⟩,⟨some 14, .ext (.tmp 11) 2, none, []⟩,⟨none, .st 4 (.tmp 2) (.tmp 12), none, []⟩,⟨some 3, .mv (.tmp 13), none, []⟩,⟨some 4, .mv (.tmp 14), none, []⟩])
 .ret)
 .skip)) (.seq (.reg [⟨some 15, .off 0 (.tmp 1), none, []⟩,⟨some 16, .off 1 (.tmp 15), none, []⟩,⟨some 17, .ld none (.tmp 16), none, []⟩,⟨some 18, .off 0 (.tmp 1), none, []⟩,⟨some 19, .off 0 (.tmp 18), none, []⟩,⟨none, .st 1 (.tmp 19) (.val (.int .i64 3)), none, []⟩,⟨some 20, .off 0 (.tmp 1), none, []⟩,⟨some 21, .off 2 (.tmp 20), none, []⟩,⟨none, .st 1 (.tmp 21) (.tmp 17), none, []⟩]) (.seq (.reg [⟨some 22, .off 0 (.tmp 1), none, []⟩,⟨some 23, .ld (some 4) (.tmp 22), none, []⟩,⟨none, .st 4 (.tmp 2) (.tmp 23), none, []⟩,⟨some 3, .mv (.val (.slice .full 0 [])), none, []⟩,⟨some 4, .mv (.val (.bool false)), none, []⟩])
 .ret))))
def c_session_turn__confirm : AF := ⟨b_session_turn__confirm, 24, [.cell 2 (some 4), .tmp 3, .tmp 4]⟩
theorem p_session_turn__confirm : prepFunc Tryz.prog 53 = some c_session_turn__confirm ∧ hasBody Tryz.prog 53 = true := ⟨by kernel_rfl, by kernel_rfl⟩
def b_session_turn__up : AC :=
 (.seq
 (.reg [⟨some 1, .box 62 16 (.tmp 0), none, []⟩,⟨some 2, .box 23 4 (.val (.agg [(.int .i64 0), (.int .i64 0), (.int .i64 0), (.int .i64 0)])), none, []⟩,⟨some 3, .mv (.val (.slice .full 0 [])), none, []⟩,⟨some 4, .mv (.val (.bool false)), none, []⟩])
 (.seq
 (.seq
 (.reg [⟨some 5, .off 14 (.tmp 1), none, []⟩,⟨some 6, .off 0 (.tmp 5), none, []⟩,⟨some 7, .ld none (.tmp 6), none, []⟩,⟨some 8, .bin .eql (.tmp 7) (.val (.int .i64 1)), none, []⟩])
 (.cond (.tmp 8)
 (.seq
 (.reg [⟨some 9, .ld (some 16) (.tmp 1), none, []⟩,⟨some 10, .bld [(.int .i64 0), (.int .i64 0), (.slice .full 0 [])] [(0, 1, (.val (.int .i64 5))), (1, 1, (.val (.int .i64 3)))], none, []⟩,⟨some 11, .callS 70 [(.tmp 9), (.tmp 10)], none, []⟩,⟨some 12, .ext (.tmp 11) 0, none, []⟩,⟨some 13, .ext (.tmp 11) 1, none, []⟩,⟨some 14, .ext (.tmp 11) 2, none, []⟩,⟨none, .st 4 (.tmp 2) (.tmp 12), none, []⟩,⟨some 3, .mv (.tmp 13), none, []⟩,⟨some 4, .mv (.tmp 14), none, []⟩])
 .ret)
 .skip)) (.seq (.reg [⟨some 15, .off 0 (.tmp 1), none, []⟩,⟨some 16, .off 1 (.tmp 15), none, []⟩,⟨some 17, .ld none (.tmp 16), none, []⟩,⟨some 18, .off 0 (.tmp 1), none, []⟩,⟨some 19, .off 2 (.tmp 18), none, []⟩,⟨none, .st 1 (.tmp 19) (.tmp 17), none, []⟩]) (.seq (.reg [⟨some 20, .off 0 (.tmp 1), none, []⟩,⟨some 21, .ld (some 4) (.tmp 20), none, []⟩,⟨some 22, .off 14 (.tmp 1), none, []⟩,⟨some 23, .off 0 (.tmp 22), none, []⟩,⟨some 24, .ld none (.tmp 23), none, []⟩,⟨some 25, .bin .eql (.tmp 24) (.val (.int .i64 2)), none, []⟩,⟨none, .st 4 (.tmp 2) (.tmp 21), none, [(none, (.tmp 23), 24)]⟩,⟨some 3, .mv (.val (.slice .full 0 [])), none, [(none, (.tmp 23), 24)]⟩,⟨some 4, .mv (.tmp 25), none, []⟩])
 .ret))))
def c_session_turn__up : AF := ⟨b_session_turn__up, 26, [.cell 2 (some 4), .tmp 3, .tmp 4]⟩
theorem p_session_turn__up : prepFunc Tryz.prog 54 = some c_session_turn__up ∧ hasBody Tryz.prog 54 = true := ⟨by kernel_rfl, by kernel_rfl⟩
def b_ridgewayref03_fits : AC :=
 (.seq
 (.reg [⟨some 4, .mv (.val (.bool false)), none, []⟩])
 (.seq
 (.reg [⟨some 5, .mv (.tmp 0), none, []⟩,⟨some 6, .callS 73 [(.tmp 5)], none, []⟩,⟨some 7, .bin .gtr (.tmp 6) (.val (.int .i64 0)), none, []⟩,⟨some 8, .mv (.tmp 7), none, []⟩,⟨some 9, .mv (.tmp 1), some (8, true), []⟩,⟨some 10, .mv (.tmp 0), some (8, true), []⟩,⟨some 11, .callS 73 [(.tmp 10)], some (8, true), []⟩,⟨some 12, .bin .geq (.tmp 9) (.tmp 11), some (8, true), []⟩,⟨some 13, .pick (.tmp 8) (.tmp 12) (.val (.bool false)), none, []⟩,⟨some 14, .mv (.tmp 13), none, []⟩,⟨some 15, .mv (.tmp 1), some (14, true), []⟩,⟨some 16, .bin .leq (.tmp 15) (.val (.int .i64 4096)), some (14, true), []⟩,⟨some 17, .pick (.tmp 14) (.tmp 16) (.val (.bool false)), none, []⟩,⟨some 18, .mv (.tmp 17), none, []⟩,⟨some 19, .mv (.tmp 0), some (18, true), []⟩,⟨some 20, .bin .neq (.tmp 19) (.val (.int .i64 4)), some (18, true), []⟩,⟨some 21, .mv (.tmp 20), some (18, true), []⟩,⟨some 22, .mv (.tmp 1), some (21, false), []⟩,⟨some 23, .bin .eql (.tmp 22) (.val (.int .i64 19)), some (21, false), []⟩,⟨some 24, .pick (.tmp 21) (.val (.bool true)) (.tmp 23), some (18, true), []⟩,⟨some 25, .pick (.tmp 18) (.tmp 24) (.val (.bool false)), none, []⟩,⟨some 4, .mv (.tmp 25), none, []⟩])
 .ret))
def c_ridgewayref03_fits : AF := ⟨b_ridgewayref03_fits, 26, [.tmp 4]⟩
theorem p_ridgewayref03_fits : prepFunc Tryz.prog 55 = some c_ridgewayref03_fits ∧ hasBody Tryz.prog 55 = true := ⟨by kernel_rfl, by kernel_rfl⟩
def b_ridgewayref06_Get : AC :=
 (.seq
 (.reg [⟨some 2, .box 30 2 (.tmp 0), none, []⟩,⟨some 4, .box 45 4 (.val (.agg [(.int .i64 0), (.int .i64 0), (.int .i64 0), (.int .i64 0)])), none, []⟩,⟨some 5, .box 34 3 (.val (.agg [(.int .i64 0), (.int .i64 0), (.slice .full 0 [])])), none, []⟩])
 (.seq
 (.reg [⟨some 17, .off 1 (.tmp 2), none, []⟩,⟨some 18, .ld none (.tmp 17), none, []⟩,⟨some 6, .mv (.tmp 18), none, []⟩])
 (.seq
 (.seq
 (.reg [⟨some 19, .off 0 (.tmp 2), none, []⟩,⟨some 20, .ld none (.tmp 19), none, []⟩,⟨some 21, .bin .neq (.tmp 20) (.val (.int .i64 1)), none, []⟩,⟨some 22, .mv (.tmp 21), none, []⟩,⟨some 23, .ld (some 2) (.tmp 2), some (22, false), []⟩,⟨some 24, .callS 29 [(.tmp 23)], some (22, false), []⟩,⟨some 25, .un .not (.tmp 24), some (22, false), []⟩,⟨some 26, .pick (.tmp 22) (.val (.bool true)) (.tmp 25), none, []⟩])
 (.cond (.tmp 26)
 (.seq
 (.reg [⟨some 27, .callS 74 [(.val (.int .i64 0))], none, []⟩,⟨some 28, .ext (.tmp 27) 0, none, []⟩,⟨some 29, .ext (.tmp 27) 1, none, []⟩,⟨none, .st 4 (.tmp 4) (.tmp 28), none, []⟩,⟨none, .st 3 (.tmp 5) (.tmp 29), none, []⟩])
 .ret)
 .skip)) (.seq (.seq (.reg [⟨some 30, .mv (.tmp 6), none, []⟩,⟨some 31, .idxA 1 (.tmp 30) (.val (.int .i64 0)), none, []⟩,⟨some 32, .ld none (.tmp 31), none, []⟩,⟨some 33, .bin .neq (.tmp 32) (.val (.int .u8 4)), none, []⟩]) (.cond (.tmp 33) (.seq (.reg [⟨some 34, .bld [(.int .i64 0), (.int .i64 0), (.int .i64 0), (.int .i64 0)] [], none, []⟩,⟨some 35, .lit 5 1 [0] [(.val (.int .u8 0)), (.val (.int .u8 4))], none, []⟩,⟨some 36, .bld [(.int .i64 0), (.int .i64 0), (.slice .full 0 [])] [(0, 1, (.val (.int .i64 2))), (1, 1, (.val (.int .i64 1))), (2, 1, (.tmp 35))], none, []⟩,⟨none, .st 4 (.tmp 4) (.tmp 34), none, []⟩,⟨none, .st 3 (.tmp 5) (.tmp 36), none, []⟩])
 .ret)
 .skip)) (.seq (.seq (.reg [⟨some 37, .mv (.tmp 6), none, []⟩,⟨some 38, .idxA 1 (.tmp 37) (.val (.int .i64 9)), none, []⟩,⟨some 39, .ld none (.tmp 38), none, []⟩,⟨some 40, .conv .i64 (.tmp 39), none, []⟩,⟨some 41, .mv (.tmp 6), none, []⟩,⟨some 42, .len (.tmp 41), none, []⟩,⟨some 43, .bin .sub (.tmp 42) (.val (.int .i64 10)), none, []⟩,⟨some 44, .bin .neq (.tmp 40) (.tmp 43), none, []⟩]) (.cond (.tmp 44) (.seq (.reg [⟨some 45, .callS 74 [(.val (.int .i64 0))], none, []⟩,⟨some 46, .ext (.tmp 45) 0, none, []⟩,⟨some 47, .ext (.tmp 45) 1, none, []⟩,⟨none, .st 4 (.tmp 4) (.tmp 46), none, []⟩,⟨none, .st 3 (.tmp 5) (.tmp 47), none, []⟩])
 .ret)
 .skip)) (.seq (.reg [⟨some 48, .bld [(.int .i64 0), (.bool false), (.int .i64 0), (.int .i64 0)] [(2, 1, (.val (.int .i64 (-1)))), (3, 1, (.val (.int .i64 (-1))))], none, []⟩,⟨some 49, .box 85 4 (.tmp 48), none, []⟩,⟨some 7, .mv (.tmp 49), none, []⟩]) (.seq (.reg [⟨some 50, .mv (.tmp 7), none, []⟩,⟨some 51, .mv (.tmp 6), none, []⟩,⟨some 52, .slc 1 (.tmp 51) (some (.val (.int .i64 10))) none none, none, []⟩,⟨some 53, .callS 75 [(.tmp 50), (.tmp 52)], none, []⟩]) (.seq (.seq (.reg [⟨some 54, .mv (.tmp 7), none, []⟩,⟨some 55, .nilc (.tmp 54), none, []⟩,⟨some 56, .off 3 (.tmp 55), none, []⟩,⟨some 57, .ld none (.tmp 56), none, []⟩,⟨some 58, .bin .geq (.tmp 57) (.val (.int .i64 0)), none, []⟩]) (.cond (.tmp 58) (.seq (.reg [⟨some 59, .mv (.tmp 7), none, []⟩,⟨some 60, .nilc (.tmp 59), none, []⟩,⟨some 61, .off 3 (.tmp 60), none, []⟩,⟨some 62, .ld none (.tmp 61), none, []⟩,⟨some 63, .callS 74 [(.tmp 62)], none, []⟩,⟨some 64, .ext (.tmp 63) 0, none, []⟩,⟨some 65, .ext (.tmp 63) 1, none, []⟩,⟨none, .st 4 (.tmp 4) (.tmp 64), none, []⟩,⟨none, .st 3 (.tmp 5) (.tmp 65), none, []⟩])
 .ret)
 .skip)) (.seq (.seq (.reg [⟨some 66, .mv (.tmp 7), none, []⟩,⟨some 67, .nilc (.tmp 66), none, []⟩,⟨some 68, .off 1 (.tmp 67), none, []⟩,⟨some 69, .ld none (.tmp 68), none, []⟩,⟨some 70, .un .not (.tmp 69), none, []⟩]) (.cond (.tmp 70) (.seq (.reg [⟨some 71, .bld [(.int .i64 0), (.int .i64 0), (.int .i64 0), (.int .i64 0)] [], none, []⟩,⟨some 72, .lit 5 1 [0] [(.val (.int .u8 65)), (.val (.int .u8 0))], none, []⟩,⟨some 73, .bld [(.int .i64 0), (.int .i64 0), (.slice .full 0 [])] [(0, 1, (.val (.int .i64 2))), (1, 1, (.val (.int .i64 7))), (2, 1, (.tmp 72))], none, []⟩,⟨none, .st 4 (.tmp 4) (.tmp 71), none, []⟩,⟨none, .st 3 (.tmp 5) (.tmp 73), none, []⟩])
 .ret)
 .skip)) (.seq (.reg [⟨some 75, .mv (.tmp 6), none, []⟩,⟨some 76, .slc 1 (.tmp 75) (some (.val (.int .i64 1))) none none, none, []⟩,⟨some 77, .callS 76 [(.tmp 76), (.val (.int .i64 2))], none, []⟩,⟨some 74, .mv (.tmp 77), none, []⟩,⟨some 78, .ext (.tmp 74) 0, none, []⟩,⟨some 79, .ext (.tmp 74) 1, none, []⟩,⟨some 80, .ext (.tmp 74) 2, none, []⟩,⟨some 8, .mv (.tmp 78), none, []⟩,⟨some 9, .mv (.tmp 79), none, []⟩,⟨some 10, .mv (.tmp 80), none, []⟩]) (.seq (.reg [⟨some 82, .mv (.tmp 6), none, []⟩,⟨some 83, .slc 1 (.tmp 82) (some (.val (.int .i64 3))) none none, none, []⟩,⟨some 84, .callS 76 [(.tmp 83), (.val (.int .i64 2))], none, []⟩,⟨some 81, .mv (.tmp 84), none, []⟩,⟨some 85, .ext (.tmp 81) 0, none, []⟩,⟨some 86, .ext (.tmp 81) 1, none, []⟩,⟨some 87, .ext (.tmp 81) 2, none, []⟩,⟨some 11, .mv (.tmp 85), none, []⟩,⟨some 12, .mv (.tmp 86), none, []⟩,⟨some 13, .mv (.tmp 87), none, []⟩]) (.seq
 (.reg [⟨some 89, .mv (.tmp 6), none, []⟩,⟨some 90, .slc 1 (.tmp 89) (some (.val (.int .i64 5))) none none, none, []⟩,⟨some 91, .callS 76 [(.tmp 90), (.val (.int .i64 4))], none, []⟩,⟨some 88, .mv (.tmp 91), none, []⟩,⟨some 92, .ext (.tmp 88) 0, none, []⟩,⟨some 93, .ext (.tmp 88) 1, none, []⟩,⟨some 94, .ext (.tmp 88) 2, none, []⟩,⟨some 14, .mv (.tmp 92), none, []⟩,⟨some 15, .mv (.tmp 93), none, []⟩,⟨some 16, .mv (.tmp 94), none, []⟩]) (.seq (.block 0 (.seq (.reg [⟨some 96, .mv (.tmp 7), none, []⟩,⟨some 97, .nilc (.tmp 96), none, []⟩,⟨some 98, .off 0 (.tmp 97), none, []⟩,⟨some 99, .ld none (.tmp 98), none, []⟩,⟨some 100, .bin .eql (.tmp 99) (.val (.int .i64 0)), none, []⟩,⟨some 101, .mv (.tmp 100), none, []⟩,⟨some 102, .mv (.tmp 7), some (101, false), []⟩,⟨some 103, .nilc (.tmp 102), some (101, false), []⟩,⟨some 104, .off 0 (.tmp 103), some (101, false), []⟩,⟨some 105, .ld none (.tmp 104), some (101, false), []⟩,⟨some 106, .mv (.tmp 1), some (101, false), []⟩,⟨some 107, .bin .neq (.tmp 105) (.tmp 106), some (101, false), []⟩,⟨some 108, .pick (.tmp 101) (.val (.bool true)) (.tmp 107), none, []⟩,⟨some 109, .mv (.tmp 108), none, []⟩,⟨some 110, .mv (.tmp 8), some (109, false), []⟩,⟨some 111, .mv (.tmp 7), some (109, false), []⟩,⟨some 112, .nilc (.tmp 111), some (109, false), []⟩,⟨some 113, .off 0 (.tmp 112), some (109, false), []⟩,⟨some 114, .ld none (.tmp 113), some (109, false), []⟩,⟨some 115, .callS 48 [(.tmp 114)], some (109, false), []⟩,⟨some 116, .bin .neq (.tmp 110) (.tmp 115), some (109, false), []⟩,⟨some 117, .pick (.tmp 109) (.val (.bool true)) (.tmp 116), none, []⟩,⟨some 95, .mv (.tmp 117), none, []⟩])
 (.cond (.tmp 95) (.seq (.reg [⟨some 118, .callS 74 [(.val (.int .i64 2))], none, []⟩,⟨some 119, .ext (.tmp 118) 0, none, []⟩,⟨some 120, .ext (.tmp 118) 1, none, []⟩,⟨none, .st 4 (.tmp 4) (.tmp 119), none, []⟩,⟨none, .st 3 (.tmp 5) (.tmp 120), none, []⟩])
 .ret) (.seq (.reg [⟨some 122, .mv (.tmp 11), none, []⟩,⟨some 123, .bin .eql (.tmp 122) (.val (.int .i64 1)), none, []⟩,⟨some 124, .mv (.tmp 123), none, []⟩,⟨some 125, .mv (.tmp 11), some (124, false), []⟩,⟨some 126, .bin .eql (.tmp 125) (.val (.int .i64 2)), some (124, false), []⟩,⟨some 127, .pick (.tmp 124) (.val (.bool true)) (.tmp 126), none, []⟩,⟨some 121, .mv (.tmp 127), none, []⟩]) (.cond (.tmp 121) (.seq (.reg [⟨some 128, .callS 74 [(.val (.int .i64 6))], none, []⟩,⟨some 129, .ext (.tmp 128) 0, none, []⟩,⟨some 130, .ext (.tmp 128) 1, none, []⟩,⟨none, .st 4 (.tmp 4) (.tmp 129), none, []⟩,⟨none, .st 3 (.tmp 5) (.tmp 130), none, []⟩])
 .ret) (.seq (.reg [⟨some 132, .mv (.tmp 14), none, []⟩,⟨some 133, .bin .eql (.tmp 132) (.val (.int .i64 0)), none, []⟩,⟨some 131, .mv (.tmp 133), none, []⟩]) (.cond (.tmp 131) (.seq (.reg [⟨some 134, .callS 74 [(.val (.int .i64 3))], none, []⟩,⟨some 135, .ext (.tmp 134) 0, none, []⟩,⟨some 136, .ext (.tmp 134) 1, none, []⟩,⟨none, .st 4 (.tmp 4) (.tmp 135), none, []⟩,⟨none, .st 3 (.tmp 5) (.tmp 136), none, []⟩])
 .ret)
 .skip))))))) (.seq (.reg [⟨some 137, .mv (.tmp 7), none, []⟩,⟨some 138, .nilc (.tmp 137), none, []⟩,⟨some 139, .off 0 (.tmp 138), none, []⟩,⟨some 140, .ld none (.tmp 139), none, []⟩,⟨some 141, .mv (.tmp 11), none, []⟩,⟨some 142, .mv (.tmp 14), none, []⟩,⟨some 143, .mv (.tmp 7), none, []⟩,⟨some 144, .nilc (.tmp 143), none, []⟩,⟨some 145, .off 2 (.tmp 144), none, []⟩,⟨some 146, .ld none (.tmp 145), none, []⟩,⟨some 147, .bld [(.int .i64 0), (.int .i64 0), (.int .i64 0), (.int .i64 0)] [(0, 1, (.tmp 140)), (1, 1, (.tmp 141)), (2, 1, (.tmp 142)), (3, 1, (.tmp 146))], none, []⟩,⟨some 148, .bld [(.int .i64 0), (.int .i64 0), (.slice .full 0 [])] [], none, []⟩,⟨none, .st 4 (.tmp 4) (.tmp 147), none, []⟩,⟨none, .st 3 (.tmp 5) (.tmp 148), none, []⟩])
 .ret))))))))))))))
def c_ridgewayref06_Get : AF := ⟨b_ridgewayref06_Get, 149, [.cell 4 (some 4), .cell 5 (some 3)]⟩
theorem p_ridgewayref06_Get : prepFunc Tryz.prog 56 = some c_ridgewayref06_Get ∧ hasBody Tryz.prog 56 = true := ⟨by kernel_rfl, by kernel_rfl⟩
def b_ridgewayref13_Pairs : AC :=
 (.seq
 (.reg [⟨some 4, .mv (.val (.bool false)), none, []⟩])
 (.seq
 (.reg [⟨some 5, .mv (.tmp 0), none, []⟩,⟨some 6, .bin .eql (.tmp 5) (.val (.int .i64 0)), none, []⟩,⟨some 7, .mv (.tmp 6), none, []⟩,⟨some 8, .mv (.tmp 1), some (7, true), []⟩,⟨some 9, .bin .eql (.tmp 8) (.val (.int .i64 3)), some (7, true), []⟩,⟨some 10, .pick (.tmp 7) (.tmp 9) (.val (.bool false)), none, []⟩,⟨some 11, .mv (.tmp 10), none, []⟩,⟨some 12, .mv (.tmp 0), some (11, false), []⟩,⟨some 13, .bin .eql (.tmp 12) (.val (.int .i64 3)), some (11, false), []⟩,⟨some 14, .mv (.tmp 13), some (11, false), []⟩,⟨some 15, .mv (.tmp 1), some (14, true), []⟩,⟨some 16, .bin .eql (.tmp 15) (.val (.int .i64 0)), some (14, true), []⟩,⟨some 17, .pick (.tmp 14) (.tmp 16) (.val (.bool false)), some (11, false), []⟩,⟨some 18, .pick (.tmp 11) (.val (.bool true)) (.tmp 17), none, []⟩,⟨some 19, .mv (.tmp 18), none, []⟩,⟨some 20, .mv (.tmp 0), some (19, false), []⟩,⟨some 21, .bin .eql (.tmp 20) (.val (.int .i64 1)), some (19, false), []⟩,⟨some 22, .mv (.tmp 21), some (19, false), []⟩,⟨some 23, .mv (.tmp 1), some (22, true), []⟩,⟨some 24, .bin .eql (.tmp 23) (.val (.int .i64 2)), some (22, true), []⟩,⟨some 25, .pick (.tmp 22) (.tmp 24) (.val (.bool false)), some (19, false), []⟩,⟨some 26, .pick (.tmp 19) (.val (.bool true)) (.tmp 25), none, []⟩,⟨some 27, .mv (.tmp 26), none, []⟩,⟨some 28, .mv (.tmp 0), some (27, false), []⟩,⟨some 29, .bin .eql (.tmp 28) (.val (.int .i64 2)), some (27, false), []⟩,⟨some 30, .mv (.tmp 29), some (27, false), []⟩,⟨some 31, .mv (.tmp 1), some (30, true), []⟩,⟨some 32, .bin .eql (.tmp 31) (.val (.int .i64 1)), some (30, true), []⟩,⟨some 33, .pick (.tmp 30) (.tmp 32) (.val (.bool false)), some (27, false), []⟩,⟨some 34, .pick (.tmp 27) (.val (.bool true)) (.tmp 33), none, []⟩,⟨some 35, .mv (.tmp 34), none, []⟩,⟨some 36, .mv (.tmp 0), some (35, false), []⟩,⟨some 37, .bin .eql (.tmp 36) (.val (.int .i64 4)), some (35, false), []⟩,⟨some 38, .mv (.tmp 37), some (35, false), []⟩,⟨some 39, .mv (.tmp 1), some (38, true), []⟩,⟨some 40, .bin .eql (.tmp 39) (.val (.int .i64 4)), some (38, true), []⟩,⟨some 41, .pick (.tmp 38) (.tmp 40) (.val (.bool false)), some (35, false), []⟩,⟨some 42, .pick (.tmp 35) (.val (.bool true)) (.tmp 41), none, []⟩,⟨some 4, .mv (.tmp 42), none, []⟩])
 .ret))
def c_ridgewayref13_Pairs : AF := ⟨b_ridgewayref13_Pairs, 43, [.tmp 4]⟩
theorem p_ridgewayref13_Pairs : prepFunc Tryz.prog 57 = some c_ridgewayref13_Pairs ∧ hasBody Tryz.prog 57 = true := ⟨by kernel_rfl, by kernel_rfl⟩
def b_session_alive : AC :=
 (.seq
 (.reg [⟨some 0, .mv (.val (.slice .full 0 [])), none, []⟩])
 (.seq
 (.reg [⟨some 1, .bld [(.int .i64 0), (.slice .full 0 [])] [(0, 1, (.val (.int .i64 4)))], none, []⟩,⟨some 2, .lit 30 2 [0, 1] [(.tmp 1)], none, []⟩,⟨some 0, .mv (.tmp 2), none, []⟩])
 .ret))
def c_session_alive : AF := ⟨b_session_alive, 3, [.tmp 0]⟩
theorem p_session_alive : prepFunc Tryz.prog 58 = some c_session_alive ∧ hasBody Tryz.prog 58 = true := ⟨by kernel_rfl, by kernel_rfl⟩
def b_ridgewayref05_Sane : AC :=
 (.seq
 (.reg [⟨some 1, .box 34 3 (.tmp 0), none, []⟩,⟨some 2, .mv (.val (.bool false)), none, []⟩])
 (.seq
 (.reg [⟨some 3, .off 0 (.tmp 1), none, []⟩,⟨some 4, .ld none (.tmp 3), none, []⟩,⟨some 5, .bin .geq (.tmp 4) (.val (.int .i64 1)), none, []⟩,⟨some 6, .mv (.tmp 5), none, []⟩,⟨some 7, .off 0 (.tmp 1), some (6, true), []⟩,⟨some 8, .ld none (.tmp 7), some (6, true), []⟩,⟨some 9, .bin .leq (.tmp 8) (.val (.int .i64 255)), some (6, true), []⟩,⟨some 10, .pick (.tmp 6) (.tmp 9) (.val (.bool false)), none, []⟩,⟨some 11, .mv (.tmp 10), none, []⟩,⟨some 12, .off 1 (.tmp 1), some (11, true), []⟩,⟨some 13, .ld none (.tmp 12), some (11, true), []⟩,⟨some 14, .bin .geq (.tmp 13) (.val (.int .i64 0)), some (11, true), []⟩,⟨some 15, .pick (.tmp 11) (.tmp 14) (.val (.bool false)), none, []⟩,⟨some 16, .mv (.tmp 15), none, []⟩,⟨some 17, .off 1 (.tmp 1), some (16, true), []⟩,⟨some 18, .ld none (.tmp 17), some (16, true), []⟩,⟨some 19, .bin .leq (.tmp 18) (.val (.int .i64 255)), some (16, true), []⟩,⟨some 20, .pick (.tmp 16) (.tmp 19) (.val (.bool false)), none, []⟩,⟨some 21, .mv (.tmp 20), none, []⟩,⟨some 22, .off 2 (.tmp 1), some (21, true), []⟩,⟨some 23, .ld none (.tmp 22), some (21, true), []⟩,⟨some 24, .len (.tmp 23), some (21, true), []⟩,⟨some 25, .bin .leq (.tmp 24) (.val (.int .i64 4075)), some (21, true), []⟩,⟨some 26, .pick (.tmp 21) (.tmp 25) (.val (.bool false)), none, []⟩,⟨some 2, .mv (.tmp 26), none, []⟩])
 .ret))
def c_ridgewayref05_Sane : AF := ⟨b_ridgewayref05_Sane, 27, [.tmp 2]⟩
theorem p_ridgewayref05_Sane : prepFunc Tryz.prog 59 = some c_ridgewayref05_Sane ∧ hasBody Tryz.prog 59 = true := ⟨by kernel_rfl, by kernel_rfl⟩
def b_ridgewayref12_Hold : AC :=
 (.seq
 (.reg [⟨some 2, .mv (.val (.bool false)), none, []⟩])
 (.seq
 (.reg [⟨some 3, .mv (.tmp 0), none, []⟩,⟨some 4, .bin .eql (.tmp 3) (.val (.int .i64 0)), none, []⟩,⟨some 5, .mv (.tmp 4), none, []⟩,⟨some 6, .mv (.tmp 0), some (5, false), []⟩,⟨some 7, .bin .geq (.tmp 6) (.val (.int .i64 3)), some (5, false), []⟩,⟨some 8, .mv (.tmp 7), some (5, false), []⟩,⟨some 9, .mv (.tmp 0), some (8, true), []⟩,⟨some 10, .bin .leq (.tmp 9) (.val (.int .i64 65535)), some (8, true), []⟩,⟨some 11, .pick (.tmp 8) (.tmp 10) (.val (.bool false)), some (5, false), []⟩,⟨some 12, .pick (.tmp 5) (.val (.bool true)) (.tmp 11), none, []⟩,⟨some 2, .mv (.tmp 12), none, []⟩])
 .ret))
def c_ridgewayref12_Hold : AF := ⟨b_ridgewayref12_Hold, 13, [.tmp 2]⟩
theorem p_ridgewayref12_Hold : prepFunc Tryz.prog 60 = some c_ridgewayref12_Hold ∧ hasBody Tryz.prog 60 = true := ⟨by kernel_rfl, by kernel_rfl⟩
def b_ridgewayref12_owns : AC :=
 (.seq
 (.reg [⟨some 2, .mv (.val (.bool false)), none, []⟩])
 (.seq
 (.seq
 (.reg [⟨some 3, .mv (.val (.int .i64 0)), none, []⟩])
 (.block 0
 (.loop
 (.seq
 (.seq
 (.reg [⟨some 5, .mv (.tmp 3), none, []⟩,⟨some 6, .mv (.tmp 0), none, []⟩,⟨some 7, .len (.tmp 6), none, []⟩,⟨some 8, .bin .lss (.tmp 5) (.tmp 7), none, []⟩])
 (.cond (.tmp 8)
 .skip (.exit 0))) (.seq (.block 1 (.seq (.seq (.reg [⟨some 11, .mv (.tmp 0), none, []⟩,⟨some 12, .mv (.tmp 3), none, []⟩,⟨some 13, .idxA 2 (.tmp 11) (.tmp 12), none, []⟩,⟨some 14, .ld (some 2) (.tmp 13), none, []⟩,⟨some 15, .callS 77 [(.tmp 14)], none, []⟩,⟨some 16, .un .not (.tmp 15), none, []⟩]) (.cond (.tmp 16) (.seq (.reg [⟨some 2, .mv (.val (.bool false)), none, []⟩])
 .ret)
 .skip)) (.seq (.reg [⟨some 4, .mv (.val (.int .i64 0)), none, []⟩]) (.block 2 (.loop (.seq (.seq (.reg [⟨some 17, .mv (.tmp 4), none, []⟩,⟨some 18, .mv (.tmp 3), none, []⟩,⟨some 19, .bin .lss (.tmp 17) (.tmp 18), none, []⟩]) (.cond (.tmp 19)
 .skip (.exit 2))) (.seq (.block 3 (.seq (.reg [⟨some 22, .mv (.tmp 0), none, []⟩,⟨some 23, .mv (.tmp 4), none, []⟩,⟨some 24, .idxA 2 (.tmp 22) (.tmp 23), none, []⟩,⟨some 25, .ld (some 2) (.tmp 24), none, []⟩,⟨some 26, .mv (.tmp 0), none, []⟩,⟨some 27, .mv (.tmp 3), none, []⟩,⟨some 28, .idxA 2 (.tmp 26) (.tmp 27), none, []⟩,⟨some 29, .ld (some 2) (.tmp 28), none, []⟩,⟨some 30, .eqA false 2 [(0, 0), (1, 0)] (.tmp 25) (.tmp 29), none, []⟩]) (.cond (.tmp 30) (.seq (.reg [⟨some 2, .mv (.val (.bool false)), none, []⟩])
 .ret)
 .skip))) (.reg [⟨some 20, .mv (.tmp 4), none, []⟩,⟨some 21, .bin .add (.tmp 20) (.val (.int .i64 1)), none, []⟩,⟨some 4, .mv (.tmp 21), none, []⟩])))))))) (.reg [⟨some 9, .mv (.tmp 3), none, []⟩,⟨some 10, .bin .add (.tmp 9) (.val (.int .i64 1)), none, []⟩,⟨some 3, .mv (.tmp 10), none, []⟩])))))) (.seq (.reg [⟨some 31, .mv (.tmp 0), none, []⟩,⟨some 32, .len (.tmp 31), none, []⟩,⟨some 33, .bin .leq (.tmp 32) (.val (.int .i64 8)), none, []⟩,⟨some 2, .mv (.tmp 33), none, []⟩])
 .ret)))
def c_ridgewayref12_owns : AF := ⟨b_ridgewayref12_owns, 34, [.tmp 2]⟩
theorem p_ridgewayref12_owns : prepFunc Tryz.prog 61 = some c_ridgewayref12_owns ∧ hasBody Tryz.prog 61 = true := ⟨by kernel_rfl, by kernel_rfl⟩
def b_ridgewayref12_sides : AC :=
 (.seq
 (.reg [⟨some 4, .mv (.val (.bool false)), none, []⟩])
 (.seq
 (.seq
 (.reg [⟨some 5, .mv (.val (.int .i64 0)), none, []⟩])
 (.block 0
 (.loop
 (.seq
 (.seq
 (.reg [⟨some 8, .mv (.tmp 5), none, []⟩,⟨some 9, .mv (.tmp 0), none, []⟩,⟨some 10, .len (.tmp 9), none, []⟩,⟨some 11, .bin .lss (.tmp 8) (.tmp 10), none, []⟩])
 (.cond (.tmp 11)
 .skip (.exit 0))) (.seq (.block 1 (.seq (.reg [⟨some 14, .mv (.tmp 0), none, []⟩,⟨some 15, .mv (.tmp 5), none, []⟩,⟨some 16, .idxA 4 (.tmp 14) (.tmp 15), none, []⟩,⟨some 17, .ld (some 4) (.tmp 16), none, []⟩,⟨some 6, .box 60 4 (.val (.agg [(.int .i64 0), (.int .i64 0), (.slice .full 0 []), (.slice .full 0 [])])), none, []⟩,⟨none, .st 4 (.tmp 6) (.tmp 17), none, []⟩]) (.seq (.seq (.reg [⟨some 18, .off 0 (.tmp 6), none, []⟩,⟨some 19, .ld none (.tmp 18), none, []⟩,⟨some 20, .bin .lss (.tmp 19) (.val (.int .i64 1)), none, []⟩,⟨some 21, .mv (.tmp 20), none, []⟩,⟨some 22, .off 0 (.tmp 6), some (21, false), []⟩,⟨some 23, .ld none (.tmp 22), some (21, false), []⟩,⟨some 24, .bin .gtr (.tmp 23) (.val (.int .i64 4294967295)), some (21, false), []⟩,⟨some 25, .pick (.tmp 21) (.val (.bool true)) (.tmp 24), none, []⟩,⟨some 26, .mv (.tmp 25), none, []⟩,⟨some 27, .off 0 (.tmp 6), some (26, false), []⟩,⟨some 28, .ld none (.tmp 27), some (26, false), []⟩,⟨some 29, .mv (.tmp 1), some (26, false), []⟩,⟨some 30, .bin .eql (.tmp 28) (.tmp 29), some (26, false), []⟩,⟨some 31, .pick (.tmp 26) (.val (.bool true)) (.tmp 30), none, []⟩,⟨some 32, .mv (.tmp 31), none, []⟩,⟨some 33, .off 1 (.tmp 6), some (32, false), []⟩,⟨some 34, .ld none (.tmp 33), some (32, false), []⟩,⟨some 35, .bin .lss (.tmp 34) (.val (.int .i64 1)), some (32, false), []⟩,⟨some 36, .pick (.tmp 32) (.val (.bool true)) (.tmp 35), none, []⟩,⟨some 37, .mv (.tmp 36), none, []⟩,⟨some 38, .off 1 (.tmp 6), some (37, false), []⟩,⟨some 39, .ld none (.tmp 38), some (37, false), []⟩,⟨some 40, .bin .gtr (.tmp 39) (.val (.int .i64 3)), some (37, false), []⟩,⟨some 41, .pick (.tmp 37) (.val (.bool true)) (.tmp 40), none, []⟩,⟨some 42, .mv (.tmp 41), none, []⟩,⟨some 43, .off 2 (.tmp 6), some (42, false), []⟩,⟨some 44, .ld none (.tmp 43), some (42, false), []⟩,⟨some 45, .callS 78 [(.tmp 44), (.val (.bool true))], some (42, false), []⟩,⟨some 46, .un .not (.tmp 45), some (42, false), []⟩,⟨some 47, .pick (.tmp 42) (.val (.bool true)) (.tmp 46), none, []⟩,⟨some 48, .mv (.tmp 47), none, []⟩,⟨some 49, .off 3 (.tmp 6), some (48, false), []⟩,⟨some 50, .ld none (.tmp 49), some (48, false), []⟩,⟨some 51, .callS 78 [(.tmp 50), (.val (.bool false))], some (48, false), []⟩,⟨some 52, .un .not (.tmp 51), some (48, false), []⟩,⟨some 53, .pick (.tmp 48) (.val (.bool true)) (.tmp 52), none, []⟩])
 (.cond (.tmp 53) (.seq (.reg [⟨some 4, .mv (.val (.bool false)), none, []⟩])
 .ret)
 .skip)) (.seq (.reg [⟨some 7, .mv (.val (.int .i64 0)), none, []⟩]) (.block 2 (.loop (.seq (.seq (.reg [⟨some 54, .mv (.tmp 7), none, []⟩,⟨some 55, .mv (.tmp 5), none, []⟩,⟨some 56, .bin .lss (.tmp 54) (.tmp 55), none, []⟩]) (.cond (.tmp 56)
 .skip (.exit 2))) (.seq (.block 3 (.seq (.reg [⟨some 59, .mv (.tmp 0), none, []⟩,⟨some 60, .mv (.tmp 7), none, []⟩,⟨some 61, .idxA 4 (.tmp 59) (.tmp 60), none, []⟩,⟨some 62, .off 0 (.tmp 61), none, []⟩,⟨some 63, .ld none (.tmp 62), none, []⟩,⟨some 64, .off 0 (.tmp 6), none, []⟩,⟨some 65, .ld none (.tmp 64), none, []⟩,⟨some 66, .bin .eql (.tmp 63) (.tmp 65), none, []⟩]) (.cond (.tmp 66) (.seq (.reg [⟨some 4, .mv (.val (.bool false)), none, []⟩])
 .ret)
 .skip))) (.reg [⟨some 57, .mv (.tmp 7), none, []⟩,⟨some 58, .bin .add (.tmp 57) (.val (.int .i64 1)), none, []⟩,⟨some 7, .mv (.tmp 58), none, []⟩]))))))))) (.reg [⟨some 12, .mv (.tmp 5), none, []⟩,⟨some 13, .bin .add (.tmp 12) (.val (.int .i64 1)), none, []⟩,⟨some 5, .mv (.tmp 13), none, []⟩])))))) (.seq (.reg [⟨some 67, .mv (.tmp 0), none, []⟩,⟨some 68, .len (.tmp 67), none, []⟩,⟨some 69, .bin .leq (.tmp 68) (.val (.int .i64 8)), none, []⟩,⟨some 4, .mv (.tmp 69), none, []⟩])
 .ret)))
def c_ridgewayref12_sides : AF := ⟨b_ridgewayref12_sides, 70, [.tmp 4]⟩
theorem p_ridgewayref12_sides : prepFunc Tryz.prog 62 = some c_ridgewayref12_sides ∧ hasBody Tryz.prog 62 = true := ⟨by kernel_rfl, by kernel_rfl⟩
def b_conf_saneNumber : AC :=
 (.seq
 (.reg [⟨some 2, .mv (.val (.bool false)), none, []⟩])
 (.seq
 (.reg [⟨some 3, .mv (.tmp 0), none, []⟩,⟨some 4, .bin .geq (.tmp 3) (.val (.int .i64 1)), none, []⟩,⟨some 5, .mv (.tmp 4), none, []⟩,⟨some 6, .mv (.tmp 0), some (5, true), []⟩,⟨some 7, .bin .leq (.tmp 6) (.val (.int .i64 4294967295)), some (5, true), []⟩,⟨some 8, .pick (.tmp 5) (.tmp 7) (.val (.bool false)), none, []⟩,⟨some 2, .mv (.tmp 8), none, []⟩])
 .ret))
def c_conf_saneNumber : AF := ⟨b_conf_saneNumber, 9, [.tmp 2]⟩
theorem p_conf_saneNumber : prepFunc Tryz.prog 63 = some c_conf_saneNumber ∧ hasBody Tryz.prog 63 = true := ⟨by kernel_rfl, by kernel_rfl⟩
def b_conf_saneHold : AC :=
 (.seq
 (.reg [⟨some 2, .mv (.val (.bool false)), none, []⟩])
 (.seq
 (.reg [⟨some 3, .mv (.tmp 0), none, []⟩,⟨some 4, .bin .eql (.tmp 3) (.val (.int .i64 0)), none, []⟩,⟨some 5, .mv (.tmp 4), none, []⟩,⟨some 6, .mv (.tmp 0), some (5, false), []⟩,⟨some 7, .bin .geq (.tmp 6) (.val (.int .i64 3)), some (5, false), []⟩,⟨some 8, .mv (.tmp 7), some (5, false), []⟩,⟨some 9, .mv (.tmp 0), some (8, true), []⟩,⟨some 10, .bin .leq (.tmp 9) (.val (.int .i64 65535)), some (8, true), []⟩,⟨some 11, .pick (.tmp 8) (.tmp 10) (.val (.bool false)), some (5, false), []⟩,⟨some 12, .pick (.tmp 5) (.val (.bool true)) (.tmp 11), none, []⟩,⟨some 2, .mv (.tmp 12), none, []⟩])
 .ret))
def c_conf_saneHold : AF := ⟨b_conf_saneHold, 13, [.tmp 2]⟩
theorem p_conf_saneHold : prepFunc Tryz.prog 64 = some c_conf_saneHold ∧ hasBody Tryz.prog 64 = true := ⟨by kernel_rfl, by kernel_rfl⟩
def b_conf_saneCap : AC :=
 (.seq
 (.reg [⟨some 2, .mv (.val (.bool false)), none, []⟩])
 (.seq
 (.reg [⟨some 3, .mv (.tmp 0), none, []⟩,⟨some 4, .bin .geq (.tmp 3) (.val (.int .i64 1)), none, []⟩,⟨some 5, .mv (.tmp 4), none, []⟩,⟨some 6, .mv (.tmp 0), some (5, true), []⟩,⟨some 7, .bin .leq (.tmp 6) (.val (.int .i64 1000)), some (5, true), []⟩,⟨some 8, .pick (.tmp 5) (.tmp 7) (.val (.bool false)), none, []⟩,⟨some 2, .mv (.tmp 8), none, []⟩])
 .ret))
def c_conf_saneCap : AF := ⟨b_conf_saneCap, 9, [.tmp 2]⟩
theorem p_conf_saneCap : prepFunc Tryz.prog 65 = some c_conf_saneCap ∧ hasBody Tryz.prog 65 = true := ⟨by kernel_rfl, by kernel_rfl⟩
def b_conf_saneOwn : AC :=
 (.seq
 (.reg [⟨some 2, .mv (.val (.bool false)), none, []⟩])
 (.seq
 (.seq
 (.reg [⟨some 5, .mv (.tmp 0), none, []⟩,⟨some 6, .len (.tmp 5), none, []⟩,⟨some 7, .bin .gtr (.tmp 6) (.val (.int .i64 8)), none, []⟩])
 (.cond (.tmp 7)
 (.seq
 (.reg [⟨some 2, .mv (.val (.bool false)), none, []⟩])
 .ret)
 .skip)) (.seq (.seq (.reg [⟨some 8, .mv (.tmp 0), none, []⟩,⟨some 9, .len (.tmp 8), none, []⟩,⟨some 10, .mv (.val (.int .i64 0)), none, []⟩]) (.block 0 (.loop (.seq (.reg [⟨some 11, .bin .lss (.tmp 10) (.tmp 9), none, []⟩]) (.seq (.cond (.tmp 11)
 .skip (.exit 0)) (.seq (.block 1 (.seq (.reg [⟨some 12, .mv (.tmp 10), none, []⟩,⟨some 13, .idxA 2 (.tmp 8) (.tmp 10), none, []⟩,⟨some 14, .ld (some 2) (.tmp 13), none, []⟩,⟨some 4, .box 91 2 (.val (.agg [(.int .i64 0), (.int .i64 0)])), none, []⟩,⟨some 3, .mv (.tmp 12), none, []⟩,⟨none, .st 2 (.tmp 4) (.tmp 14), none, []⟩]) (.seq (.reg [⟨some 15, .ld (some 2) (.tmp 4), none, []⟩,⟨some 16, .call 79 [(.tmp 15)], none, []⟩,⟨some 17, .un .not (.tmp 16), none, []⟩,⟨some 18, .mv (.tmp 17), none, []⟩,⟨some 19, .mv (.tmp 0), some (18, false), []⟩,⟨some 20, .mv (.tmp 3), some (18, false), []⟩,⟨some 21, .slc 2 (.tmp 19) none (some (.tmp 20)) none, some (18, false), []⟩,⟨some 22, .ld (some 2) (.tmp 4), some (18, false), []⟩,⟨some 23, .callS 80 [(.tmp 21), (.tmp 22)], some (18, false), []⟩,⟨some 24, .pick (.tmp 18) (.val (.bool true)) (.tmp 23), none, []⟩]) (.cond (.tmp 24) (.seq
 (.reg [⟨some 2, .mv (.val (.bool false)), none, []⟩])
 .ret)
 .skip)))) (.reg [⟨some 25, .bin .add (.tmp 10) (.val (.int .i64 1)), none, []⟩,⟨some 10, .mv (.tmp 25), none, []⟩]))))))) (.seq (.reg [⟨some 2, .mv (.val (.bool true)), none, []⟩])
 .ret))))
def c_conf_saneOwn : AF := ⟨b_conf_saneOwn, 26, [.tmp 2]⟩
theorem p_conf_saneOwn : prepFunc Tryz.prog 66 = some c_conf_saneOwn ∧ hasBody Tryz.prog 66 = true := ⟨by kernel_rfl, by kernel_rfl⟩
def b_conf_saneSides : AC :=
 (.seq
 (.reg [⟨some 1, .box 27 6 (.tmp 0), none, []⟩,⟨some 2, .mv (.val (.bool false)), none, []⟩])
 (.seq
 (.seq
 (.reg [⟨some 5, .off 5 (.tmp 1), none, []⟩,⟨some 6, .ld none (.tmp 5), none, []⟩,⟨some 7, .len (.tmp 6), none, []⟩,⟨some 8, .bin .gtr (.tmp 7) (.val (.int .i64 8)), none, []⟩])
 (.cond (.tmp 8)
 (.seq
 (.reg [⟨some 2, .mv (.val (.bool false)), none, []⟩])
 .ret)
 .skip)) (.seq (.seq (.reg [⟨some 9, .off 5 (.tmp 1), none, []⟩,⟨some 10, .ld none (.tmp 9), none, []⟩,⟨some 11, .len (.tmp 10), none, []⟩,⟨some 12, .mv (.val (.int .i64 0)), none, []⟩]) (.block 0 (.loop (.seq (.reg [⟨some 13, .bin .lss (.tmp 12) (.tmp 11), none, []⟩]) (.seq (.cond (.tmp 13)
 .skip (.exit 0)) (.seq (.block 1 (.seq (.reg [⟨some 14, .mv (.tmp 12), none, []⟩,⟨some 15, .idxA 4 (.tmp 10) (.tmp 12), none, []⟩,⟨some 16, .ld (some 4) (.tmp 15), none, []⟩,⟨some 4, .box 60 4 (.val (.agg [(.int .i64 0), (.int .i64 0), (.slice .full 0 []), (.slice .full 0 [])])), none, []⟩,⟨some 3, .mv (.tmp 14), none, []⟩,⟨none, .st 4 (.tmp 4) (.tmp 16), none, []⟩]) (.seq (.seq (.reg [⟨some 17, .off 0 (.tmp 4), none, []⟩,⟨some 18, .ld none (.tmp 17), none, []⟩,⟨some 19, .call 63 [(.tmp 18)], none, []⟩,⟨some 20, .un .not (.tmp 19), none, []⟩,⟨some 21, .mv (.tmp 20), none, []⟩,⟨some 22, .off 0 (.tmp 1), some (21, false), []⟩,⟨some 23, .ld none (.tmp 22), some (21, false), []⟩,⟨some 24, .off 5 (.tmp 1), some (21, false), []⟩,⟨some 25, .ld none (.tmp 24), some (21, false), []⟩,⟨some 26, .mv (.tmp 3), some (21, false), []⟩,⟨some 27, .slc 4 (.tmp 25) none (some (.tmp 26)) none, some (21, false), []⟩,⟨some 28, .off 0 (.tmp 4), some (21, false), []⟩,⟨some 29, .ld none (.tmp 28), some (21, false), []⟩,⟨some 30, .callS 81 [(.tmp 23), (.tmp 27), (.tmp 29)], some (21, false), []⟩,⟨some 31, .pick (.tmp 21) (.val (.bool true)) (.tmp 30), none, []⟩,⟨some 32, .mv (.tmp 31), none, []⟩,⟨some 33, .off 1 (.tmp 4), some (32, false), []⟩,⟨some 34, .ld none (.tmp 33), some (32, false), []⟩,⟨some 35, .bin .lss (.tmp 34) (.val (.int .i64 1)), some (32, false), []⟩,⟨some 36, .pick (.tmp 32) (.val (.bool true)) (.tmp 35), none, []⟩,⟨some 37, .mv (.tmp 36), none, []⟩,⟨some 38, .off 1 (.tmp 4), some (37, false), []⟩,⟨some 39, .ld none (.tmp 38), some (37, false), []⟩,⟨some 40, .bin .gtr (.tmp 39) (.val (.int .i64 3)), some (37, false), []⟩,⟨some 41, .pick (.tmp 37) (.val (.bool true)) (.tmp 40), none, []⟩])
 (.cond (.tmp 41) (.seq (.reg [⟨some 2, .mv (.val (.bool false)), none, []⟩])
 .ret)
 .skip)) (.seq (.reg [⟨some 42, .off 2 (.tmp 4), none, []⟩,⟨some 43, .ld none (.tmp 42), none, []⟩,⟨some 44, .callS 82 [(.tmp 43), (.val (.bool true))], none, []⟩,⟨some 45, .un .not (.tmp 44), none, []⟩,⟨some 46, .mv (.tmp 45), none, []⟩,⟨some 47, .off 3 (.tmp 4), some (46, false), []⟩,⟨some 48, .ld none (.tmp 47), some (46, false), []⟩,⟨some 49, .callS 82 [(.tmp 48), (.val (.bool false))], some (46, false), []⟩,⟨some 50, .un .not (.tmp 49), some (46, false), []⟩,⟨some 51, .pick (.tmp 46) (.val (.bool true)) (.tmp 50), none, []⟩]) (.cond (.tmp 51) (.seq (.reg [⟨some 2, .mv (.val (.bool false)), none, []⟩])
 .ret)
 .skip))))) (.reg [⟨some 52, .bin .add (.tmp 12) (.val (.int .i64 1)), none, []⟩,⟨some 12, .mv (.tmp 52), none, []⟩]))))))) (.seq (.reg [⟨some 2, .mv (.val (.bool true)), none, []⟩])
 .ret))))
def c_conf_saneSides : AF := ⟨b_conf_saneSides, 53, [.tmp 2]⟩
theorem p_conf_saneSides : prepFunc Tryz.prog 67 = some c_conf_saneSides ∧ hasBody Tryz.prog 67 = true := ⟨by kernel_rfl, by kernel_rfl⟩
def b_open_number : AC :=
 (.seq
 (.reg [⟨some 2, .mv (.val (.bool false)), none, []⟩])
 (.seq
 (.reg [⟨some 3, .mv (.tmp 0), none, []⟩,⟨some 4, .bin .geq (.tmp 3) (.val (.int .i64 1)), none, []⟩,⟨some 5, .mv (.tmp 4), none, []⟩,⟨some 6, .mv (.tmp 0), some (5, true), []⟩,⟨some 7, .bin .leq (.tmp 6) (.val (.int .i64 4294967295)), some (5, true), []⟩,⟨some 8, .pick (.tmp 5) (.tmp 7) (.val (.bool false)), none, []⟩,⟨some 2, .mv (.tmp 8), none, []⟩])
 .ret))
def c_open_number : AF := ⟨b_open_number, 9, [.tmp 2]⟩
theorem p_open_number : prepFunc Tryz.prog 68 = some c_open_number ∧ hasBody Tryz.prog 68 = true := ⟨by kernel_rfl, by kernel_rfl⟩
def b_open_holds : AC :=
 (.seq
 (.reg [⟨some 2, .mv (.val (.bool false)), none, []⟩])
 (.seq
 (.reg [⟨some 3, .mv (.tmp 0), none, []⟩,⟨some 4, .bin .eql (.tmp 3) (.val (.int .i64 0)), none, []⟩,⟨some 5, .mv (.tmp 4), none, []⟩,⟨some 6, .mv (.tmp 0), some (5, false), []⟩,⟨some 7, .bin .geq (.tmp 6) (.val (.int .i64 3)), some (5, false), []⟩,⟨some 8, .mv (.tmp 7), some (5, false), []⟩,⟨some 9, .mv (.tmp 0), some (8, true), []⟩,⟨some 10, .bin .leq (.tmp 9) (.val (.int .i64 65535)), some (8, true), []⟩,⟨some 11, .pick (.tmp 8) (.tmp 10) (.val (.bool false)), some (5, false), []⟩,⟨some 12, .pick (.tmp 5) (.val (.bool true)) (.tmp 11), none, []⟩,⟨some 2, .mv (.tmp 12), none, []⟩])
 .ret))
def c_open_holds : AF := ⟨b_open_holds, 13, [.tmp 2]⟩
theorem p_open_holds : prepFunc Tryz.prog 69 = some c_open_holds ∧ hasBody Tryz.prog 69 = true := ⟨by kernel_rfl, by kernel_rfl⟩
def b_session_turn__end : AC :=
 (.seq
 (.reg [⟨some 2, .box 62 16 (.tmp 0), none, []⟩,⟨some 3, .box 34 3 (.tmp 1), none, []⟩,⟨some 4, .box 23 4 (.val (.agg [(.int .i64 0), (.int .i64 0), (.int .i64 0), (.int .i64 0)])), none, []⟩,⟨some 5, .mv (.val (.slice .full 0 [])), none, []⟩,⟨some 6, .mv (.val (.bool false)), none, []⟩])
 (.seq
 (.reg [⟨some 10, .off 0 (.tmp 2), none, []⟩,⟨some 11, .ld (some 4) (.tmp 10), none, []⟩,⟨some 12, .ld (some 3) (.tmp 3), none, []⟩,⟨some 13, .callS 12 [(.tmp 11), (.tmp 12)], none, []⟩,⟨some 9, .mv (.tmp 13), none, []⟩,⟨some 14, .ext (.tmp 9) 0, none, []⟩,⟨some 15, .ext (.tmp 9) 1, none, []⟩,⟨some 7, .box 23 4 (.val (.agg [(.int .i64 0), (.int .i64 0), (.int .i64 0), (.int .i64 0)])), none, []⟩,⟨none, .st 4 (.tmp 7) (.tmp 14), none, []⟩,⟨some 8, .mv (.tmp 15), none, []⟩])
 (.seq
 (.reg [⟨some 16, .ld (some 4) (.tmp 7), none, []⟩,⟨some 17, .mv (.tmp 8), none, []⟩,⟨none, .st 4 (.tmp 4) (.tmp 16), none, []⟩,⟨some 5, .mv (.tmp 17), none, []⟩,⟨some 6, .mv (.val (.bool false)), none, []⟩])
 .ret)))
def c_session_turn__end : AF := ⟨b_session_turn__end, 18, [.cell 4 (some 4), .tmp 5, .tmp 6]⟩
theorem p_session_turn__end : prepFunc Tryz.prog 70 = some c_session_turn__end ∧ hasBody Tryz.prog 70 = true := ⟨by kernel_rfl, by kernel_rfl⟩
def b_open_Get : AC :=
 (.seq
 (.reg [⟨some 2, .box 30 2 (.tmp 0), none, []⟩,⟨some 4, .box 45 4 (.val (.agg [(.int .i64 0), (.int .i64 0), (.int .i64 0), (.int .i64 0)])), none, []⟩,⟨some 5, .box 34 3 (.val (.agg [(.int .i64 0), (.int .i64 0), (.slice .full 0 [])])), none, []⟩])
 (.seq
 (.seq
 (.reg [⟨some 19, .off 0 (.tmp 2), none, []⟩,⟨some 20, .ld none (.tmp 19), none, []⟩,⟨some 21, .bin .neq (.tmp 20) (.val (.int .i64 1)), none, []⟩,⟨some 22, .mv (.tmp 21), none, []⟩,⟨some 23, .ld (some 2) (.tmp 2), some (22, false), []⟩,⟨some 24, .callS 27 [(.tmp 23)], some (22, false), []⟩,⟨some 25, .un .not (.tmp 24), some (22, false), []⟩,⟨some 26, .pick (.tmp 22) (.val (.bool true)) (.tmp 25), none, []⟩])
 (.cond (.tmp 26)
 (.seq
 (.reg [⟨some 27, .bld [(.int .i64 0), (.int .i64 0), (.int .i64 0), (.int .i64 0)] [], none, []⟩,⟨some 28, .bld [(.int .i64 0), (.int .i64 0), (.slice .full 0 [])] [(0, 1, (.val (.int .i64 2))), (1, 1, (.val (.int .i64 0)))], none, []⟩,⟨none, .st 4 (.tmp 4) (.tmp 27), none, []⟩,⟨none, .st 3 (.tmp 5) (.tmp 28), none, []⟩])
 .ret)
 .skip)) (.seq (.reg [⟨some 30, .off 1 (.tmp 2), none, []⟩,⟨some 31, .ld none (.tmp 30), none, []⟩,⟨some 32, .callS 83 [(.tmp 31), (.val (.int .i64 1))], none, []⟩,⟨some 29, .mv (.tmp 32), none, []⟩,⟨some 33, .ext (.tmp 29) 0, none, []⟩,⟨some 34, .ext (.tmp 29) 1, none, []⟩,⟨some 35, .ext (.tmp 29) 2, none, []⟩,⟨some 6, .mv (.tmp 33), none, []⟩,⟨some 7, .mv (.tmp 34), none, []⟩,⟨some 8, .mv (.tmp 35), none, []⟩]) (.seq (.reg [⟨some 37, .mv (.tmp 7), none, []⟩,⟨some 38, .callS 83 [(.tmp 37), (.val (.int .i64 2))], none, []⟩,⟨some 36, .mv (.tmp 38), none, []⟩,⟨some 39, .ext (.tmp 36) 0, none, []⟩,⟨some 40, .ext (.tmp 36) 1, none, []⟩,⟨some 41, .ext (.tmp 36) 2, none, []⟩,⟨some 9, .mv (.tmp 39), none, []⟩,⟨some 7, .mv (.tmp 40), none, []⟩,⟨some 10, .mv (.tmp 41), none, []⟩]) (.seq (.reg [⟨some 43, .mv (.tmp 7), none, []⟩,⟨some 44, .callS 83 [(.tmp 43), (.val (.int .i64 2))], none, []⟩,⟨some 42, .mv (.tmp 44), none, []⟩,⟨some 45, .ext (.tmp 42) 0, none, []⟩,⟨some 46, .ext (.tmp 42) 1, none, []⟩,⟨some 47, .ext (.tmp 42) 2, none, []⟩,⟨some 11, .mv (.tmp 45), none, []⟩,⟨some 7, .mv (.tmp 46), none, []⟩,⟨some 12, .mv (.tmp 47), none, []⟩])
 (.seq (.reg [⟨some 49, .mv (.tmp 7), none, []⟩,⟨some 50, .callS 83 [(.tmp 49), (.val (.int .i64 4))], none, []⟩,⟨some 48, .mv (.tmp 50), none, []⟩,⟨some 51, .ext (.tmp 48) 0, none, []⟩,⟨some 52, .ext (.tmp 48) 1, none, []⟩,⟨some 53, .ext (.tmp 48) 2, none, []⟩,⟨some 13, .mv (.tmp 51), none, []⟩,⟨some 7, .mv (.tmp 52), none, []⟩,⟨some 14, .mv (.tmp 53), none, []⟩]) (.seq (.reg [⟨some 55, .mv (.tmp 7), none, []⟩,⟨some 56, .callS 83 [(.tmp 55), (.val (.int .i64 1))], none, []⟩,⟨some 54, .mv (.tmp 56), none, []⟩,⟨some 57, .ext (.tmp 54) 0, none, []⟩,⟨some 58, .ext (.tmp 54) 1, none, []⟩,⟨some 59, .ext (.tmp 54) 2, none, []⟩,⟨some 15, .mv (.tmp 57), none, []⟩,⟨some 7, .mv (.tmp 58), none, []⟩,⟨some 16, .mv (.tmp 59), none, []⟩]) (.seq (.seq (.reg [⟨some 60, .mv (.tmp 6), none, []⟩,⟨some 61, .bin .neq (.tmp 60) (.val (.int .i64 4)), none, []⟩]) (.cond (.tmp 61) (.seq (.reg [⟨some 62, .bld [(.int .i64 0), (.int .i64 0), (.int .i64 0), (.int .i64 0)] [], none, []⟩,⟨some 63, .callS 44 [(.val (.slice .full 0 [])), (.val (.int .i64 4)), (.val (.int .i64 2))], none, []⟩,⟨some 64, .bld [(.int .i64 0), (.int .i64 0), (.slice .full 0 [])] [(0, 1, (.val (.int .i64 2))), (1, 1, (.val (.int .i64 1))), (2, 1, (.tmp 63))], none, []⟩,⟨none, .st 4 (.tmp 4) (.tmp 62), none, []⟩,⟨none, .st 3 (.tmp 5) (.tmp 64), none, []⟩])
 .ret)
 .skip)) (.seq (.seq (.reg [⟨some 65, .mv (.tmp 15), none, []⟩,⟨some 66, .mv (.tmp 7), none, []⟩,⟨some 67, .len (.tmp 66), none, []⟩,⟨some 68, .bin .neq (.tmp 65) (.tmp 67), none, []⟩]) (.cond (.tmp 68) (.seq (.reg [⟨some 69, .bld [(.int .i64 0), (.int .i64 0), (.int .i64 0), (.int .i64 0)] [], none, []⟩,⟨some 70, .bld [(.int .i64 0), (.int .i64 0), (.slice .full 0 [])] [(0, 1, (.val (.int .i64 2))), (1, 1, (.val (.int .i64 0)))], none, []⟩,⟨none, .st 4 (.tmp 4) (.tmp 69), none, []⟩,⟨none, .st 3 (.tmp 5) (.tmp 70), none, []⟩])
 .ret)
 .skip)) (.seq (.reg [⟨some 72, .mv (.tmp 7), none, []⟩,⟨some 73, .callS 84 [(.tmp 72)], none, []⟩,⟨some 71, .mv (.tmp 73), none, []⟩,⟨some 74, .ext (.tmp 71) 0, none, []⟩,⟨some 75, .ext (.tmp 71) 1, none, []⟩,⟨some 17, .box 96 2 (.val (.agg [(.int .i64 0), (.int .i64 0)])), none, []⟩,⟨some 18, .box 34 3 (.val (.agg [(.int .i64 0), (.int .i64 0), (.slice .full 0 [])])), none, []⟩,⟨none, .st 2 (.tmp 17) (.tmp 74), none, []⟩,⟨none, .st 3 (.tmp 18) (.tmp 75), none, []⟩]) (.seq (.seq (.reg [⟨some 76, .off 0 (.tmp 18), none, []⟩,⟨some 77, .ld none (.tmp 76), none, []⟩,⟨some 78, .bin .eql (.tmp 77) (.val (.int .i64 0)), none, []⟩]) (.cond (.tmp 78) (.reg [⟨some 79, .ld (some 2) (.tmp 17), none, []⟩,⟨some 80, .mv (.tmp 1), none, []⟩,⟨some 81, .mv (.tmp 9), none, []⟩,⟨some 82, .mv (.tmp 11), none, []⟩,⟨some 83, .mv (.tmp 13), none, []⟩,⟨some 84, .callS 85 [(.tmp 79), (.tmp 80), (.tmp 81), (.tmp 82), (.tmp 83)], none, []⟩,⟨none, .st 3 (.tmp 18) (.tmp 84), none, []⟩])
 .skip)) (.seq (.seq (.reg [⟨some 85, .off 0 (.tmp 18), none, []⟩,⟨some 86, .ld none (.tmp 85), none, []⟩,⟨some 87, .bin .neq (.tmp 86) (.val (.int .i64 0)), none, []⟩]) (.cond (.tmp 87) (.seq (.reg [⟨some 88, .bld [(.int .i64 0), (.int .i64 0), (.int .i64 0), (.int .i64 0)] [], none, []⟩,⟨some 89, .ld (some 3) (.tmp 18), none, []⟩,⟨none, .st 4 (.tmp 4) (.tmp 88), none, [((some 3), (.tmp 18), 89)]⟩,⟨none, .st 3 (.tmp 5) (.tmp 89), none, []⟩])
 .ret)
 .skip)) (.seq (.reg [⟨some 90, .off 0 (.tmp 17), none, []⟩,⟨some 91, .ld none (.tmp 90), none, []⟩,⟨some 92, .mv (.tmp 11), none, []⟩,⟨some 93, .mv (.tmp 13), none, []⟩,⟨some 94, .off 1 (.tmp 17), none, []⟩,⟨some 95, .ld none (.tmp 94), none, []⟩,⟨some 96, .bld [(.int .i64 0), (.int .i64 0), (.int .i64 0), (.int .i64 0)] [(0, 1, (.tmp 91)), (1, 1, (.tmp 92)), (2, 1, (.tmp 93)), (3, 1, (.tmp 95))], none, []⟩,⟨some 97, .bld [(.int .i64 0), (.int .i64 0), (.slice .full 0 [])] [], none, []⟩,⟨none, .st 4 (.tmp 4) (.tmp 96), none, []⟩,⟨none, .st 3 (.tmp 5) (.tmp 97), none, []⟩])
 .ret)))))))))))))
def c_open_Get : AF := ⟨b_open_Get, 98, [.cell 4 (some 4), .cell 5 (some 3)]⟩
theorem p_open_Get : prepFunc Tryz.prog 71 = some c_open_Get ∧ hasBody Tryz.prog 71 = true := ⟨by kernel_rfl, by kernel_rfl⟩
def b_role_Pairs : AC :=
 (.seq
 (.reg [⟨some 4, .mv (.val (.bool false)), none, []⟩])
 (.seq
 (.seq
 (.reg [⟨some 7, .ld (some 10) (.val (.cptr [(.agg [(.int .i64 0), (.int .i64 3), (.int .i64 1), (.int .i64 2), (.int .i64 3), (.int .i64 0), (.int .i64 2), (.int .i64 1), (.int .i64 4), (.int .i64 4)])] 0 0)), none, []⟩,⟨some 8, .mv (.val (.int .i64 0)), none, []⟩])
 (.block 0
 (.loop
 (.seq
 (.reg [⟨some 9, .bin .lss (.tmp 8) (.val (.int .i64 5)), none, []⟩])
 (.seq
 (.cond (.tmp 9)
 .skip (.exit 0)) (.seq (.block 1 (.seq (.reg [⟨some 10, .prt (some 2) 5 2 0 (.tmp 7) (.tmp 8), none, []⟩,⟨some 6, .box 100 2 (.val (.agg [(.int .i64 0), (.int .i64 0)])), none, []⟩,⟨none, .st 2 (.tmp 6) (.tmp 10), none, []⟩]) (.seq (.reg [⟨some 11, .off 0 (.tmp 6), none, []⟩,⟨some 12, .ld none (.tmp 11), none, []⟩,⟨some 13, .mv (.tmp 0), none, []⟩,⟨some 14, .bin .eql (.tmp 12) (.tmp 13), none, []⟩,⟨some 15, .mv (.tmp 14), none, []⟩,⟨some 16, .off 1 (.tmp 6), some (15, true), []⟩,⟨some 17, .ld none (.tmp 16), some (15, true), []⟩,⟨some 18, .mv (.tmp 1), some (15, true), []⟩,⟨some 19, .bin .eql (.tmp 17) (.tmp 18), some (15, true), []⟩,⟨some 20, .pick (.tmp 15) (.tmp 19) (.val (.bool false)), none, []⟩]) (.cond (.tmp 20) (.seq (.reg [⟨some 4, .mv (.val (.bool true)), none, []⟩])
 .ret)
 .skip)))) (.reg [⟨some 21, .bin .add (.tmp 8) (.val (.int .i64 1)), none, []⟩,⟨some 8, .mv (.tmp 21), none, []⟩]))))))) (.seq (.reg [⟨some 4, .mv (.val (.bool false)), none, []⟩])
 .ret)))
def c_role_Pairs : AF := ⟨b_role_Pairs, 22, [.tmp 4]⟩
theorem p_role_Pairs : prepFunc Tryz.prog 72 = some c_role_Pairs ∧ hasBody Tryz.prog 72 = true := ⟨by kernel_rfl, by kernel_rfl⟩
def b_ridgewayref03_Least : AC :=
 (.seq
 (.reg [⟨some 2, .mv (.val (.int .i64 0)), none, []⟩])
 (.seq
 (.seq
 (.reg [⟨some 3, .mv (.tmp 0), none, []⟩])
 (.block 0
 (.seq
 (.reg [⟨some 5, .bin .eql (.tmp 3) (.val (.int .i64 1)), none, []⟩,⟨some 4, .mv (.tmp 5), none, []⟩])
 (.cond (.tmp 4)
 (.seq
 (.reg [⟨some 2, .mv (.val (.int .i64 29)), none, []⟩])
 .ret) (.seq (.reg [⟨some 7, .bin .eql (.tmp 3) (.val (.int .i64 2)), none, []⟩,⟨some 6, .mv (.tmp 7), none, []⟩]) (.cond (.tmp 6) (.seq (.reg [⟨some 2, .mv (.val (.int .i64 23)), none, []⟩])
 .ret) (.seq (.reg [⟨some 9, .bin .eql (.tmp 3) (.val (.int .i64 3)), none, []⟩,⟨some 8, .mv (.tmp 9), none, []⟩]) (.cond (.tmp 8) (.seq (.reg [⟨some 2, .mv (.val (.int .i64 21)), none, []⟩])
 .ret) (.seq (.reg [⟨some 11, .bin .eql (.tmp 3) (.val (.int .i64 4)), none, []⟩,⟨some 10, .mv (.tmp 11), none, []⟩]) (.cond (.tmp 10) (.seq (.reg [⟨some 2, .mv (.val (.int .i64 19)), none, []⟩])
 .ret)
 .skip)))))))))) (.seq (.reg [⟨some 2, .mv (.val (.int .i64 0)), none, []⟩])
 .ret)))
def c_ridgewayref03_Least : AF := ⟨b_ridgewayref03_Least, 12, [.tmp 2]⟩
theorem p_ridgewayref03_Least : prepFunc Tryz.prog 73 = some c_ridgewayref03_Least ∧ hasBody Tryz.prog 73 = true := ⟨by kernel_rfl, by kernel_rfl⟩
def b_ridgewayref06_bad : AC :=
 (.seq
 (.reg [⟨some 2, .box 45 4 (.val (.agg [(.int .i64 0), (.int .i64 0), (.int .i64 0), (.int .i64 0)])), none, []⟩,⟨some 3, .box 34 3 (.val (.agg [(.int .i64 0), (.int .i64 0), (.slice .full 0 [])])), none, []⟩])
 (.seq
 (.reg [⟨some 4, .bld [(.int .i64 0), (.int .i64 0), (.int .i64 0), (.int .i64 0)] [], none, []⟩,⟨some 5, .mv (.tmp 0), none, []⟩,⟨some 6, .bld [(.int .i64 0), (.int .i64 0), (.slice .full 0 [])] [(0, 1, (.val (.int .i64 2))), (1, 1, (.tmp 5))], none, []⟩,⟨none, .st 4 (.tmp 2) (.tmp 4), none, []⟩,⟨none, .st 3 (.tmp 3) (.tmp 6), none, []⟩])
 .ret))
def c_ridgewayref06_bad : AF := ⟨b_ridgewayref06_bad, 7, [.cell 2 (some 4), .cell 3 (some 3)]⟩
theorem p_ridgewayref06_bad : prepFunc Tryz.prog 74 = some c_ridgewayref06_bad ∧ hasBody Tryz.prog 74 = true := ⟨by kernel_rfl, by kernel_rfl⟩
def b_ridgewayref06_reader__params : AC :=
 (.block 0
 (.loop
 (.seq
 (.seq
 (.reg [⟨some 5, .mv (.tmp 1), none, []⟩,⟨some 6, .len (.tmp 5), none, []⟩,⟨some 7, .bin .gtr (.tmp 6) (.val (.int .i64 0)), none, []⟩,⟨some 8, .mv (.tmp 7), none, []⟩,⟨some 9, .mv (.tmp 0), some (8, true), []⟩,⟨some 10, .nilc (.tmp 9), some (8, true), []⟩,⟨some 11, .off 3 (.tmp 10), some (8, true), []⟩,⟨some 12, .ld none (.tmp 11), some (8, true), []⟩,⟨some 13, .bin .lss (.tmp 12) (.val (.int .i64 0)), some (8, true), []⟩,⟨some 14, .pick (.tmp 8) (.tmp 13) (.val (.bool false)), none, []⟩])
 (.cond (.tmp 14)
 .skip (.exit 0))) (.block 1 (.seq (.seq (.reg [⟨some 15, .mv (.tmp 1), none, []⟩,⟨some 16, .len (.tmp 15), none, []⟩,⟨some 17, .bin .lss (.tmp 16) (.val (.int .i64 2)), none, []⟩,⟨some 18, .mv (.tmp 17), none, []⟩,⟨some 19, .mv (.tmp 1), some (18, false), []⟩,⟨some 20, .len (.tmp 19), some (18, false), []⟩,⟨some 21, .mv (.tmp 1), some (18, false), []⟩,⟨some 22, .idxA 1 (.tmp 21) (.val (.int .i64 1)), some (18, false), []⟩,⟨some 23, .ld none (.tmp 22), some (18, false), []⟩,⟨some 24, .conv .i64 (.tmp 23), some (18, false), []⟩,⟨some 25, .bin .add (.val (.int .i64 2)) (.tmp 24), some (18, false), []⟩,⟨some 26, .bin .lss (.tmp 20) (.tmp 25), some (18, false), []⟩,⟨some 27, .pick (.tmp 18) (.val (.bool true)) (.tmp 26), none, []⟩]) (.cond (.tmp 27) (.seq (.reg [⟨some 28, .mv (.tmp 0), none, []⟩,⟨some 29, .callS 86 [(.tmp 28), (.val (.int .i64 0))], none, []⟩])
 .ret)
 .skip)) (.seq (.reg [⟨some 30, .mv (.tmp 1), none, []⟩,⟨some 31, .idxA 1 (.tmp 30) (.val (.int .i64 1)), none, []⟩,⟨some 32, .ld none (.tmp 31), none, []⟩,⟨some 33, .conv .i64 (.tmp 32), none, []⟩,⟨some 34, .bin .add (.val (.int .i64 2)) (.tmp 33), none, []⟩,⟨some 4, .mv (.tmp 34), none, []⟩]) (.seq (.seq (.reg [⟨some 35, .mv (.tmp 1), none, []⟩,⟨some 36, .idxA 1 (.tmp 35) (.val (.int .i64 0)), none, []⟩,⟨some 37, .ld none (.tmp 36), none, []⟩,⟨some 38, .bin .neq (.tmp 37) (.val (.int .u8 2)), none, []⟩]) (.cond (.tmp 38) (.seq (.reg [⟨some 39, .mv (.tmp 0), none, []⟩,⟨some 40, .callS 86 [(.tmp 39), (.val (.int .i64 4))], none, []⟩])
 .ret)
 .skip)) (.seq (.reg [⟨some 41, .mv (.tmp 0), none, []⟩,⟨some 42, .mv (.tmp 1), none, []⟩,⟨some 43, .mv (.tmp 4), none, []⟩,⟨some 44, .slc 1 (.tmp 42) (some (.val (.int .i64 2))) (some (.tmp 43)) none, none, []⟩,⟨some 45, .callS 87 [(.tmp 41), (.tmp 44)], none, []⟩]) (.reg [⟨some 46, .mv (.tmp 1), none, []⟩,⟨some 47, .mv (.tmp 4), none, []⟩,⟨some 48, .slc 1 (.tmp 46) (some (.tmp 47)) none none, none, []⟩,⟨some 1, .mv (.tmp 48), none, []⟩])))))))))
def c_ridgewayref06_reader__params : AF := ⟨b_ridgewayref06_reader__params, 49, []⟩
theorem p_ridgewayref06_reader__params : prepFunc Tryz.prog 75 = some c_ridgewayref06_reader__params ∧ hasBody Tryz.prog 75 = true := ⟨by kernel_rfl, by kernel_rfl⟩
def b_ridgewayref01_Get : AC :=
 (.seq
 (.reg [⟨some 4, .mv (.val (.int .i64 0)), none, []⟩,⟨some 5, .mv (.val (.slice .full 0 [])), none, []⟩,⟨some 6, .mv (.val (.bool false)), none, []⟩])
 (.seq
 (.seq
 (.reg [⟨some 9, .mv (.tmp 1), none, []⟩,⟨some 10, .bin .lss (.tmp 9) (.val (.int .i64 1)), none, []⟩,⟨some 11, .mv (.tmp 10), none, []⟩,⟨some 12, .mv (.tmp 1), some (11, false), []⟩,⟨some 13, .bin .gtr (.tmp 12) (.val (.int .i64 4)), some (11, false), []⟩,⟨some 14, .pick (.tmp 11) (.val (.bool true)) (.tmp 13), none, []⟩,⟨some 15, .mv (.tmp 14), none, []⟩,⟨some 16, .mv (.tmp 0), some (15, false), []⟩,⟨some 17, .len (.tmp 16), some (15, false), []⟩,⟨some 18, .mv (.tmp 1), some (15, false), []⟩,⟨some 19, .bin .lss (.tmp 17) (.tmp 18), some (15, false), []⟩,⟨some 20, .pick (.tmp 15) (.val (.bool true)) (.tmp 19), none, []⟩])
 (.cond (.tmp 20)
 (.seq
 (.reg [⟨some 4, .mv (.val (.int .i64 0)), none, []⟩,⟨some 5, .mv (.val (.slice .full 0 [])), none, []⟩,⟨some 6, .mv (.val (.bool false)), none, []⟩])
 .ret)
 .skip)) (.seq (.reg [⟨some 7, .mv (.val (.int .i64 0)), none, []⟩]) (.seq (.seq (.reg [⟨some 8, .mv (.val (.int .i64 0)), none, []⟩]) (.block 0 (.loop (.seq (.seq (.reg [⟨some 21, .mv (.tmp 8), none, []⟩,⟨some 22, .mv (.tmp 1), none, []⟩,⟨some 23, .bin .lss (.tmp 21) (.tmp 22), none, []⟩]) (.cond (.tmp 23)
 .skip (.exit 0))) (.seq (.block 1 (.reg [⟨some 26, .mv (.tmp 7), none, []⟩,⟨some 27, .bin .mul (.tmp 26) (.val (.int .i64 256)), none, []⟩,⟨some 28, .mv (.tmp 0), none, []⟩,⟨some 29, .mv (.tmp 8), none, []⟩,⟨some 30, .idxA 1 (.tmp 28) (.tmp 29), none, []⟩,⟨some 31, .ld none (.tmp 30), none, []⟩,⟨some 32, .conv .i64 (.tmp 31), none, []⟩,⟨some 33, .bin .add (.tmp 27) (.tmp 32), none, []⟩,⟨some 7, .mv (.tmp 33), none, []⟩])) (.reg [⟨some 24, .mv (.tmp 8), none, []⟩,⟨some 25, .bin .add (.tmp 24) (.val (.int .i64 1)), none, []⟩,⟨some 8, .mv (.tmp 25), none, []⟩])))))) (.seq (.reg [⟨some 34, .mv (.tmp 7), none, []⟩,⟨some 35, .mv (.tmp 0), none, []⟩,⟨some 36, .mv (.tmp 1), none, []⟩,⟨some 37, .slc 1 (.tmp 35) (some (.tmp 36)) none none, none, []⟩,⟨some 4, .mv (.tmp 34), none, []⟩,⟨some 5, .mv (.tmp 37), none, []⟩,⟨some 6, .mv (.val (.bool true)), none, []⟩])
 .ret)))))
def c_ridgewayref01_Get : AF := ⟨b_ridgewayref01_Get, 38, [.tmp 4, .tmp 5, .tmp 6]⟩
theorem p_ridgewayref01_Get : prepFunc Tryz.prog 76 = some c_ridgewayref01_Get ∧ hasBody Tryz.prog 76 = true := ⟨by kernel_rfl, by kernel_rfl⟩
def b_ridgewayref02_Sane : AC :=
 (.seq
 (.reg [⟨some 1, .box 91 2 (.tmp 0), none, []⟩,⟨some 2, .mv (.val (.bool false)), none, []⟩])
 (.seq
 (.reg [⟨some 3, .off 1 (.tmp 1), none, []⟩,⟨some 4, .ld none (.tmp 3), none, []⟩,⟨some 5, .bin .geq (.tmp 4) (.val (.int .i64 0)), none, []⟩,⟨some 6, .mv (.tmp 5), none, []⟩,⟨some 7, .off 1 (.tmp 1), some (6, true), []⟩,⟨some 8, .ld none (.tmp 7), some (6, true), []⟩,⟨some 9, .bin .leq (.tmp 8) (.val (.int .i64 32)), some (6, true), []⟩,⟨some 10, .pick (.tmp 6) (.tmp 9) (.val (.bool false)), none, []⟩,⟨some 11, .mv (.tmp 10), none, []⟩,⟨some 12, .off 0 (.tmp 1), some (11, true), []⟩,⟨some 13, .ld none (.tmp 12), some (11, true), []⟩,⟨some 14, .bin .geq (.tmp 13) (.val (.int .i64 0)), some (11, true), []⟩,⟨some 15, .pick (.tmp 11) (.tmp 14) (.val (.bool false)), none, []⟩,⟨some 16, .mv (.tmp 15), none, []⟩,⟨some 17, .off 0 (.tmp 1), some (16, true), []⟩,⟨some 18, .ld none (.tmp 17), some (16, true), []⟩,⟨some 19, .bin .leq (.tmp 18) (.val (.int .i64 4294967295)), some (16, true), []⟩,⟨some 20, .pick (.tmp 16) (.tmp 19) (.val (.bool false)), none, []⟩,⟨some 21, .mv (.tmp 20), none, []⟩,⟨some 22, .off 0 (.tmp 1), some (21, true), []⟩,⟨some 23, .ld none (.tmp 22), some (21, true), []⟩,⟨some 24, .off 1 (.tmp 1), some (21, true), []⟩,⟨some 25, .ld none (.tmp 24), some (21, true), []⟩,⟨some 26, .call 88 [(.tmp 23), (.tmp 25)], some (21, true), []⟩,⟨some 27, .off 0 (.tmp 1), some (21, true), []⟩,⟨some 28, .ld none (.tmp 27), some (21, true), []⟩,⟨some 29, .bin .eql (.tmp 26) (.tmp 28), some (21, true), []⟩,⟨some 30, .pick (.tmp 21) (.tmp 29) (.val (.bool false)), none, []⟩,⟨some 2, .mv (.tmp 30), none, []⟩])
 .ret))
def c_ridgewayref02_Sane : AF := ⟨b_ridgewayref02_Sane, 31, [.tmp 2]⟩
theorem p_ridgewayref02_Sane : prepFunc Tryz.prog 77 = some c_ridgewayref02_Sane ∧ hasBody Tryz.prog 77 = true := ⟨by kernel_rfl, by kernel_rfl⟩
def b_ridgewayref12_rules : AC :=
 (.seq
 (.reg [⟨some 4, .mv (.val (.bool false)), none, []⟩])
 (.seq
 (.seq
 (.reg [⟨some 5, .mv (.val (.int .i64 0)), none, []⟩])
 (.block 0
 (.loop
 (.seq
 (.seq
 (.reg [⟨some 6, .mv (.tmp 5), none, []⟩,⟨some 7, .mv (.tmp 0), none, []⟩,⟨some 8, .len (.tmp 7), none, []⟩,⟨some 9, .bin .lss (.tmp 6) (.tmp 8), none, []⟩])
 (.cond (.tmp 9)
 .skip (.exit 0))) (.seq (.block 1 (.seq (.reg [⟨some 12, .mv (.tmp 0), none, []⟩,⟨some 13, .mv (.tmp 5), none, []⟩,⟨some 14, .idxA 6 (.tmp 12) (.tmp 13), none, []⟩,⟨some 15, .ld (some 6) (.tmp 14), none, []⟩,⟨some 16, .mv (.tmp 1), none, []⟩,⟨some 17, .callS 89 [(.tmp 15), (.tmp 16)], none, []⟩,⟨some 18, .un .not (.tmp 17), none, []⟩]) (.cond (.tmp 18) (.seq (.reg [⟨some 4, .mv (.val (.bool false)), none, []⟩])
 .ret)
 .skip))) (.reg [⟨some 10, .mv (.tmp 5), none, []⟩,⟨some 11, .bin .add (.tmp 10) (.val (.int .i64 1)), none, []⟩,⟨some 5, .mv (.tmp 11), none, []⟩])))))) (.seq (.reg [⟨some 19, .mv (.tmp 0), none, []⟩,⟨some 20, .len (.tmp 19), none, []⟩,⟨some 21, .bin .leq (.tmp 20) (.val (.int .i64 8)), none, []⟩,⟨some 4, .mv (.tmp 21), none, []⟩])
 .ret)))
def c_ridgewayref12_rules : AF := ⟨b_ridgewayref12_rules, 22, [.tmp 4]⟩
theorem p_ridgewayref12_rules : prepFunc Tryz.prog 78 = some c_ridgewayref12_rules ∧ hasBody Tryz.prog 78 = true := ⟨by kernel_rfl, by kernel_rfl⟩
def b_prefix_Sane : AC :=
 (.seq
 (.reg [⟨some 1, .box 91 2 (.tmp 0), none, []⟩,⟨some 2, .mv (.val (.bool false)), none, []⟩])
 (.seq
 (.reg [⟨some 3, .off 1 (.tmp 1), none, []⟩,⟨some 4, .ld none (.tmp 3), none, []⟩,⟨some 5, .bin .geq (.tmp 4) (.val (.int .i64 0)), none, []⟩,⟨some 6, .mv (.tmp 5), none, []⟩,⟨some 7, .off 1 (.tmp 1), some (6, true), []⟩,⟨some 8, .ld none (.tmp 7), some (6, true), []⟩,⟨some 9, .bin .leq (.tmp 8) (.val (.int .i64 32)), some (6, true), []⟩,⟨some 10, .pick (.tmp 6) (.tmp 9) (.val (.bool false)), none, []⟩,⟨some 11, .mv (.tmp 10), none, []⟩,⟨some 12, .off 0 (.tmp 1), some (11, true), []⟩,⟨some 13, .ld none (.tmp 12), some (11, true), []⟩,⟨some 14, .off 1 (.tmp 1), some (11, true), []⟩,⟨some 15, .ld none (.tmp 14), some (11, true), []⟩,⟨some 16, .call 90 [(.tmp 13), (.tmp 15)], some (11, true), []⟩,⟨some 17, .off 0 (.tmp 1), some (11, true), []⟩,⟨some 18, .ld none (.tmp 17), some (11, true), []⟩,⟨some 19, .bin .eql (.tmp 16) (.tmp 18), some (11, true), []⟩,⟨some 20, .pick (.tmp 11) (.tmp 19) (.val (.bool false)), none, []⟩,⟨some 2, .mv (.tmp 20), none, []⟩])
 .ret))
def c_prefix_Sane : AF := ⟨b_prefix_Sane, 21, [.tmp 2]⟩
theorem p_prefix_Sane : prepFunc Tryz.prog 79 = some c_prefix_Sane ∧ hasBody Tryz.prog 79 = true := ⟨by kernel_rfl, by kernel_rfl⟩
def b_slices_Contains___api_Prefix_api_Prefix : AC :=
 (.seq
 (.reg [⟨some 3, .box 91 2 (.tmp 1), none, []⟩,⟨some 4, .mv (.val (.bool false)), none, []⟩])
 (.seq
 (.reg [⟨some 5, .mv (.tmp 0), none, []⟩,⟨some 6, .ld (some 2) (.tmp 3), none, []⟩,⟨some 7, .callS 91 [(.tmp 5), (.tmp 6)], none, []⟩,⟨some 8, .bin .geq (.tmp 7) (.val (.int .i64 0)), none, []⟩,⟨some 4, .mv (.tmp 8), none, []⟩])
 .ret))
def c_slices_Contains___api_Prefix_api_Prefix : AF := ⟨b_slices_Contains___api_Prefix_api_Prefix, 9, [.tmp 4]⟩
theorem p_slices_Contains___api_Prefix_api_Prefix : prepFunc Tryz.prog 80 = some c_slices_Contains___api_Prefix_api_Prefix ∧ hasBody Tryz.prog 80 = true := ⟨by kernel_rfl, by kernel_rfl⟩
def b_conf_taken : AC :=
 (.seq
 (.reg [⟨some 5, .box 3 1 (.tmp 2), none, []⟩,⟨some 6, .mv (.val (.bool false)), none, []⟩])
 (.seq
 (.reg [⟨some 7, .ld none (.tmp 5), none, []⟩,⟨some 8, .mv (.tmp 0), none, []⟩,⟨some 9, .bin .eql (.tmp 7) (.tmp 8), none, []⟩,⟨some 10, .mv (.tmp 9), none, []⟩,⟨some 11, .mv (.tmp 1), some (10, false), []⟩,⟨some 12, .mkclo 93 [(.tmp 5)], some (10, false), []⟩,⟨some 13, .callS 92 [(.tmp 11), (.tmp 12)], some (10, false), []⟩,⟨some 14, .pick (.tmp 10) (.val (.bool true)) (.tmp 13), none, []⟩,⟨some 6, .mv (.tmp 14), none, []⟩])
 .ret))
def c_conf_taken : AF := ⟨b_conf_taken, 15, [.tmp 6]⟩
theorem p_conf_taken : prepFunc Tryz.prog 81 = some c_conf_taken ∧ hasBody Tryz.prog 81 = true := ⟨by kernel_rfl, by kernel_rfl⟩
def b_conf_saneRules : AC :=
 (.seq
 (.reg [⟨some 4, .mv (.val (.bool false)), none, []⟩])
 (.seq
 (.seq
 (.reg [⟨some 7, .mv (.tmp 0), none, []⟩,⟨some 8, .len (.tmp 7), none, []⟩,⟨some 9, .bin .gtr (.tmp 8) (.val (.int .i64 8)), none, []⟩])
 (.cond (.tmp 9)
 (.seq
 (.reg [⟨some 4, .mv (.val (.bool false)), none, []⟩])
 .ret)
 .skip)) (.seq (.seq (.reg [⟨some 10, .mv (.tmp 0), none, []⟩,⟨some 11, .len (.tmp 10), none, []⟩,⟨some 12, .mv (.val (.int .i64 0)), none, []⟩]) (.block 0 (.loop (.seq (.reg [⟨some 13, .bin .lss (.tmp 12) (.tmp 11), none, []⟩]) (.seq (.cond (.tmp 13)
 .skip (.exit 0)) (.seq (.block 1 (.seq (.reg [⟨some 14, .idxA 6 (.tmp 10) (.tmp 12), none, []⟩,⟨some 15, .ld (some 6) (.tmp 14), none, []⟩,⟨some 6, .box 106 6 (.val (.agg [(.int .i64 0), (.int .i64 0), (.int .i64 0), (.int .i64 0), (.int .i64 0), (.int .i64 0)])), none, []⟩,⟨none, .st 6 (.tmp 6) (.tmp 15), none, []⟩]) (.seq (.reg [⟨some 16, .ld (some 6) (.tmp 6), none, []⟩,⟨some 17, .mv (.tmp 1), none, []⟩,⟨some 18, .callS 94 [(.tmp 16), (.tmp 17)], none, []⟩,⟨some 19, .un .not (.tmp 18), none, []⟩]) (.cond (.tmp 19) (.seq (.reg [⟨some 4, .mv (.val (.bool false)), none, []⟩])
 .ret)
 .skip)))) (.reg [⟨some 20, .bin .add (.tmp 12) (.val (.int .i64 1)), none, []⟩,⟨some 12, .mv (.tmp 20), none, []⟩]))))))) (.seq (.reg [⟨some 4, .mv (.val (.bool true)), none, []⟩])
 .ret))))
def c_conf_saneRules : AF := ⟨b_conf_saneRules, 21, [.tmp 4]⟩
theorem p_conf_saneRules : prepFunc Tryz.prog 82 = some c_conf_saneRules ∧ hasBody Tryz.prog 82 = true := ⟨by kernel_rfl, by kernel_rfl⟩
def b_octet_Get : AC :=
 (.seq
 (.reg [⟨some 4, .mv (.val (.int .i64 0)), none, []⟩,⟨some 5, .mv (.val (.slice .full 0 [])), none, []⟩,⟨some 6, .mv (.val (.bool false)), none, []⟩])
 (.seq
 (.seq
 (.reg [⟨some 13, .mv (.tmp 1), none, []⟩,⟨some 14, .bin .lss (.tmp 13) (.val (.int .i64 1)), none, []⟩,⟨some 15, .mv (.tmp 14), none, []⟩,⟨some 16, .mv (.tmp 1), some (15, false), []⟩,⟨some 17, .bin .gtr (.tmp 16) (.val (.int .i64 4)), some (15, false), []⟩,⟨some 18, .pick (.tmp 15) (.val (.bool true)) (.tmp 17), none, []⟩])
 (.cond (.tmp 18)
 (.seq
 (.reg [⟨some 4, .mv (.val (.int .i64 0)), none, []⟩,⟨some 5, .mv (.val (.slice .full 0 [])), none, []⟩,⟨some 6, .mv (.val (.bool false)), none, []⟩])
 .ret)
 .skip)) (.seq (.reg [⟨some 20, .mv (.tmp 0), none, []⟩,⟨some 21, .mv (.tmp 1), none, []⟩,⟨some 22, .callS 95 [(.tmp 20), (.tmp 21)], none, []⟩,⟨some 19, .mv (.tmp 22), none, []⟩,⟨some 23, .ext (.tmp 19) 0, none, []⟩,⟨some 24, .ext (.tmp 19) 1, none, []⟩,⟨some 25, .ext (.tmp 19) 2, none, []⟩,⟨some 7, .mv (.tmp 23), none, []⟩,⟨some 8, .mv (.tmp 24), none, []⟩,⟨some 9, .mv (.tmp 25), none, []⟩]) (.seq (.reg [⟨some 10, .mv (.val (.int .i64 0)), none, []⟩]) (.seq (.seq (.reg [⟨some 26, .mv (.tmp 7), none, []⟩,⟨some 27, .len (.tmp 26), none, []⟩,⟨some 28, .mv (.val (.int .i64 0)), none, []⟩]) (.block 0 (.loop (.seq (.reg [⟨some 29, .bin .lss (.tmp 28) (.tmp 27), none, []⟩]) (.seq (.cond (.tmp 29)
 .skip (.exit 0)) (.seq (.block 1 (.seq (.reg [⟨some 30, .idxA 1 (.tmp 26) (.tmp 28), none, []⟩,⟨some 31, .ld none (.tmp 30), none, []⟩,⟨some 12, .mv (.tmp 31), none, []⟩]) (.reg [⟨some 32, .mv (.tmp 10), none, []⟩,⟨some 33, .bin .shl (.tmp 32) (.val (.int .u64 8)), none, []⟩,⟨some 34, .mv (.tmp 12), none, []⟩,⟨some 35, .conv .i64 (.tmp 34), none, []⟩,⟨some 36, .bin .or (.tmp 33) (.tmp 35), none, []⟩,⟨some 10, .mv (.tmp 36), none, []⟩]))) (.reg [⟨some 37, .bin .add (.tmp 28) (.val (.int .i64 1)), none, []⟩,⟨some 28, .mv (.tmp 37), none, []⟩]))))))) (.seq (.reg [⟨some 38, .mv (.tmp 10), none, []⟩,⟨some 39, .mv (.tmp 8), none, []⟩,⟨some 40, .mv (.tmp 9), none, []⟩,⟨some 4, .mv (.tmp 38), none, []⟩,⟨some 5, .mv (.tmp 39), none, []⟩,⟨some 6, .mv (.tmp 40), none, []⟩])
 .ret))))))
def c_octet_Get : AF := ⟨b_octet_Get, 41, [.tmp 4, .tmp 5, .tmp 6]⟩
theorem p_octet_Get : prepFunc Tryz.prog 83 = some c_octet_Get ∧ hasBody Tryz.prog 83 = true := ⟨by kernel_rfl, by kernel_rfl⟩
def b_open_read : AC :=
 (.seq
 (.reg [⟨some 2, .box 96 2 (.val (.agg [(.int .i64 0), (.int .i64 0)])), none, []⟩,⟨some 3, .box 34 3 (.val (.agg [(.int .i64 0), (.int .i64 0), (.slice .full 0 [])])), none, []⟩])
 (.seq
 (.reg [⟨some 6, .bld [(.int .i64 0), (.int .i64 0)] [(0, 1, (.val (.int .i64 (-1)))), (1, 1, (.val (.int .i64 (-1))))], none, []⟩,⟨some 4, .box 96 2 (.val (.agg [(.int .i64 0), (.int .i64 0)])), none, []⟩,⟨none, .st 2 (.tmp 4) (.tmp 6), none, []⟩])
 (.seq
 (.reg [⟨some 7, .mv (.tmp 0), none, []⟩,⟨some 8, .mkclo 97 [(.tmp 4)], none, []⟩,⟨some 9, .callS 96 [(.tmp 7), (.tmp 8)], none, []⟩,⟨some 5, .box 34 3 (.val (.agg [(.int .i64 0), (.int .i64 0), (.slice .full 0 [])])), none, []⟩,⟨none, .st 3 (.tmp 5) (.tmp 9), none, []⟩])
 (.seq
 (.reg [⟨some 10, .ld (some 2) (.tmp 4), none, []⟩,⟨some 11, .ld (some 3) (.tmp 5), none, []⟩,⟨none, .st 2 (.tmp 2) (.tmp 10), none, [((some 3), (.tmp 5), 11)]⟩,⟨none, .st 3 (.tmp 3) (.tmp 11), none, []⟩])
 .ret))))
def c_open_read : AF := ⟨b_open_read, 12, [.cell 2 (some 2), .cell 3 (some 3)]⟩
theorem p_open_read : prepFunc Tryz.prog 84 = some c_open_read ∧ hasBody Tryz.prog 84 = true := ⟨by kernel_rfl, by kernel_rfl⟩
def b_open_fault : AC :=
 (.seq
 (.reg [⟨some 5, .box 96 2 (.tmp 0), none, []⟩,⟨some 10, .box 34 3 (.val (.agg [(.int .i64 0), (.int .i64 0), (.slice .full 0 [])])), none, []⟩])
 (.seq
 (.block 0
 (.seq
 (.reg [⟨some 12, .off 0 (.tmp 5), none, []⟩,⟨some 13, .ld none (.tmp 12), none, []⟩,⟨some 14, .bin .lss (.tmp 13) (.val (.int .i64 0)), none, []⟩,⟨some 11, .mv (.tmp 14), none, []⟩])
 (.cond (.tmp 11)
 (.seq
 (.reg [⟨some 15, .lit 5 1 [0] [(.val (.int .u8 65)), (.val (.int .u8 0))], none, []⟩,⟨some 16, .bld [(.int .i64 0), (.int .i64 0), (.slice .full 0 [])] [(0, 1, (.val (.int .i64 2))), (1, 1, (.val (.int .i64 7))), (2, 1, (.tmp 15))], none, []⟩,⟨none, .st 3 (.tmp 10) (.tmp 16), none, []⟩])
 .ret) (.seq (.reg [⟨some 18, .off 0 (.tmp 5), none, []⟩,⟨some 19, .ld none (.tmp 18), none, []⟩,⟨some 20, .bin .eql (.tmp 19) (.val (.int .i64 0)), none, []⟩,⟨some 21, .mv (.tmp 20), none, []⟩,⟨some 22, .off 0 (.tmp 5), some (21, false), []⟩,⟨some 23, .ld none (.tmp 22), some (21, false), []⟩,⟨some 24, .mv (.tmp 1), some (21, false), []⟩,⟨some 25, .bin .neq (.tmp 23) (.tmp 24), some (21, false), []⟩,⟨some 26, .pick (.tmp 21) (.val (.bool true)) (.tmp 25), none, []⟩,⟨some 27, .mv (.tmp 26), none, []⟩,⟨some 28, .mv (.tmp 2), some (27, false), []⟩,⟨some 29, .off 0 (.tmp 5), some (27, false), []⟩,⟨some 30, .ld none (.tmp 29), some (27, false), []⟩,⟨some 31, .callS 45 [(.tmp 30)], some (27, false), []⟩,⟨some 32, .bin .neq (.tmp 28) (.tmp 31), some (27, false), []⟩,⟨some 33, .pick (.tmp 27) (.val (.bool true)) (.tmp 32), none, []⟩,⟨some 17, .mv (.tmp 33), none, []⟩]) (.cond (.tmp 17) (.seq (.reg [⟨some 34, .bld [(.int .i64 0), (.int .i64 0), (.slice .full 0 [])] [(0, 1, (.val (.int .i64 2))), (1, 1, (.val (.int .i64 2)))], none, []⟩,⟨none, .st 3 (.tmp 10) (.tmp 34), none, []⟩])
 .ret) (.seq (.reg [⟨some 36, .mv (.tmp 3), none, []⟩,⟨some 37, .callS 69 [(.tmp 36)], none, []⟩,⟨some 38, .un .not (.tmp 37), none, []⟩,⟨some 35, .mv (.tmp 38), none, []⟩]) (.cond (.tmp 35) (.seq (.reg [⟨some 39, .bld [(.int .i64 0), (.int .i64 0), (.slice .full 0 [])] [(0, 1, (.val (.int .i64 2))), (1, 1, (.val (.int .i64 6)))], none, []⟩,⟨none, .st 3 (.tmp 10) (.tmp 39), none, []⟩])
 .ret) (.seq (.reg [⟨some 41, .mv (.tmp 4), none, []⟩,⟨some 42, .bin .eql (.tmp 41) (.val (.int .i64 0)), none, []⟩,⟨some 40, .mv (.tmp 42), none, []⟩]) (.cond (.tmp 40) (.seq (.reg [⟨some 43, .bld [(.int .i64 0), (.int .i64 0), (.slice .full 0 [])] [(0, 1, (.val (.int .i64 2))), (1, 1, (.val (.int .i64 3)))], none, []⟩,⟨none, .st 3 (.tmp 10) (.tmp 43), none, []⟩])
 .ret)
 .skip))))))))) (.seq (.reg [⟨some 44, .bld [(.int .i64 0), (.int .i64 0), (.slice .full 0 [])] [], none, []⟩,⟨none, .st 3 (.tmp 10) (.tmp 44), none, []⟩])
 .ret)))
def c_open_fault : AF := ⟨b_open_fault, 45, [.cell 10 (some 3)]⟩
theorem p_open_fault : prepFunc Tryz.prog 85 = some c_open_fault ∧ hasBody Tryz.prog 85 = true := ⟨by kernel_rfl, by kernel_rfl⟩
def b_ridgewayref06_reader__wrong : AC :=
 (.seq
 (.reg [⟨some 4, .mv (.tmp 0), none, []⟩,⟨some 5, .nilc (.tmp 4), none, []⟩,⟨some 6, .off 3 (.tmp 5), none, []⟩,⟨some 7, .ld none (.tmp 6), none, []⟩,⟨some 8, .bin .lss (.tmp 7) (.val (.int .i64 0)), none, []⟩])
 (.cond (.tmp 8)
 (.reg [⟨some 9, .mv (.tmp 0), none, []⟩,⟨some 10, .mv (.tmp 1), none, []⟩,⟨some 11, .nilc (.tmp 9), none, []⟩,⟨some 12, .off 3 (.tmp 11), none, []⟩,⟨none, .st 1 (.tmp 12) (.tmp 10), none, []⟩])
 .skip))
def c_ridgewayref06_reader__wrong : AF := ⟨b_ridgewayref06_reader__wrong, 13, []⟩
theorem p_ridgewayref06_reader__wrong : prepFunc Tryz.prog 86 = some c_ridgewayref06_reader__wrong ∧ hasBody Tryz.prog 86 = true := ⟨by kernel_rfl, by kernel_rfl⟩
def b_ridgewayref06_reader__caps : AC :=
 (.block 0
 (.loop
 (.seq
 (.seq
 (.reg [⟨some 5, .mv (.tmp 1), none, []⟩,⟨some 6, .len (.tmp 5), none, []⟩,⟨some 7, .bin .gtr (.tmp 6) (.val (.int .i64 0)), none, []⟩,⟨some 8, .mv (.tmp 7), none, []⟩,⟨some 9, .mv (.tmp 0), some (8, true), []⟩,⟨some 10, .nilc (.tmp 9), some (8, true), []⟩,⟨some 11, .off 3 (.tmp 10), some (8, true), []⟩,⟨some 12, .ld none (.tmp 11), some (8, true), []⟩,⟨some 13, .bin .lss (.tmp 12) (.val (.int .i64 0)), some (8, true), []⟩,⟨some 14, .pick (.tmp 8) (.tmp 13) (.val (.bool false)), none, []⟩])
 (.cond (.tmp 14)
 .skip (.exit 0))) (.block 1 (.seq (.seq (.reg [⟨some 15, .mv (.tmp 1), none, []⟩,⟨some 16, .len (.tmp 15), none, []⟩,⟨some 17, .bin .lss (.tmp 16) (.val (.int .i64 2)), none, []⟩,⟨some 18, .mv (.tmp 17), none, []⟩,⟨some 19, .mv (.tmp 1), some (18, false), []⟩,⟨some 20, .len (.tmp 19), some (18, false), []⟩,⟨some 21, .mv (.tmp 1), some (18, false), []⟩,⟨some 22, .idxA 1 (.tmp 21) (.val (.int .i64 1)), some (18, false), []⟩,⟨some 23, .ld none (.tmp 22), some (18, false), []⟩,⟨some 24, .conv .i64 (.tmp 23), some (18, false), []⟩,⟨some 25, .bin .add (.val (.int .i64 2)) (.tmp 24), some (18, false), []⟩,⟨some 26, .bin .lss (.tmp 20) (.tmp 25), some (18, false), []⟩,⟨some 27, .pick (.tmp 18) (.val (.bool true)) (.tmp 26), none, []⟩]) (.cond (.tmp 27) (.seq (.reg [⟨some 28, .mv (.tmp 0), none, []⟩,⟨some 29, .callS 86 [(.tmp 28), (.val (.int .i64 0))], none, []⟩])
 .ret)
 .skip)) (.seq (.reg [⟨some 30, .mv (.tmp 1), none, []⟩,⟨some 31, .idxA 1 (.tmp 30) (.val (.int .i64 1)), none, []⟩,⟨some 32, .ld none (.tmp 31), none, []⟩,⟨some 33, .conv .i64 (.tmp 32), none, []⟩,⟨some 34, .bin .add (.val (.int .i64 2)) (.tmp 33), none, []⟩,⟨some 4, .mv (.tmp 34), none, []⟩]) (.seq (.reg [⟨some 35, .mv (.tmp 0), none, []⟩,⟨some 36, .mv (.tmp 1), none, []⟩,⟨some 37, .idxA 1 (.tmp 36) (.val (.int .i64 0)), none, []⟩,⟨some 38, .ld none (.tmp 37), none, []⟩,⟨some 39, .mv (.tmp 1), none, []⟩,⟨some 40, .mv (.tmp 4), none, []⟩,⟨some 41, .slc 1 (.tmp 39) (some (.val (.int .i64 2))) (some (.tmp 40)) none, none, []⟩,⟨some 42, .callS 99 [(.tmp 35), (.tmp 38), (.tmp 41)], none, []⟩]) (.reg [⟨some 43, .mv (.tmp 1), none, []⟩,⟨some 44, .mv (.tmp 4), none, []⟩,⟨some 45, .slc 1 (.tmp 43) (some (.tmp 44)) none none, none, []⟩,⟨some 1, .mv (.tmp 45), none, []⟩]))))))))
def c_ridgewayref06_reader__caps : AF := ⟨b_ridgewayref06_reader__caps, 46, []⟩
theorem p_ridgewayref06_reader__caps : prepFunc Tryz.prog 87 = some c_ridgewayref06_reader__caps ∧ hasBody Tryz.prog 87 = true := ⟨by kernel_rfl, by kernel_rfl⟩
def b_ridgewayref02_Mask : AC :=
 (.seq
 (.reg [⟨some 4, .mv (.val (.int .i64 0)), none, []⟩])
 (.seq
 (.reg [⟨some 6, .mv (.tmp 0), none, []⟩,⟨some 7, .bin .and (.tmp 6) (.val (.int .i64 4294967295)), none, []⟩,⟨some 5, .mv (.tmp 7), none, []⟩])
 (.seq
 (.reg [⟨some 8, .mv (.tmp 5), none, []⟩,⟨some 9, .mv (.tmp 5), none, []⟩,⟨some 10, .mv (.tmp 1), none, []⟩,⟨some 11, .callS 100 [(.tmp 10)], none, []⟩,⟨some 12, .bin .rem (.tmp 9) (.tmp 11), none, []⟩,⟨some 13, .bin .sub (.tmp 8) (.tmp 12), none, []⟩,⟨some 4, .mv (.tmp 13), none, []⟩])
 .ret)))
def c_ridgewayref02_Mask : AF := ⟨b_ridgewayref02_Mask, 14, [.tmp 4]⟩
theorem p_ridgewayref02_Mask : prepFunc Tryz.prog 88 = some c_ridgewayref02_Mask ∧ hasBody Tryz.prog 88 = true := ⟨by kernel_rfl, by kernel_rfl⟩
def b_ridgewayref10_Sane : AC :=
 (.seq
 (.reg [⟨some 2, .box 106 6 (.tmp 0), none, []⟩,⟨some 4, .mv (.val (.bool false)), none, []⟩])
 (.seq
 (.seq
 (.reg [⟨some 5, .ld (some 6) (.tmp 2), none, []⟩,⟨some 6, .callS 101 [(.tmp 5)], none, []⟩,⟨some 7, .un .not (.tmp 6), none, []⟩,⟨some 8, .mv (.tmp 7), none, []⟩,⟨some 9, .mv (.tmp 1), some (8, false), []⟩,⟨some 10, .mv (.tmp 9), some (8, false), []⟩,⟨some 11, .off 0 (.tmp 2), some (10, true), []⟩,⟨some 12, .ld none (.tmp 11), some (10, true), []⟩,⟨some 13, .bin .eql (.tmp 12) (.val (.int .i64 4)), some (10, true), []⟩,⟨some 14, .pick (.tmp 10) (.tmp 13) (.val (.bool false)), some (8, false), []⟩,⟨some 15, .pick (.tmp 8) (.val (.bool true)) (.tmp 14), none, []⟩])
 (.cond (.tmp 15)
 (.seq
 (.reg [⟨some 4, .mv (.val (.bool false)), none, []⟩])
 .ret)
 .skip)) (.seq (.seq (.reg [⟨some 16, .off 4 (.tmp 2), none, []⟩,⟨some 17, .ld none (.tmp 16), none, []⟩]) (.block 0 (.seq (.reg [⟨some 19, .bin .eql (.tmp 17) (.val (.int .i64 0)), none, []⟩,⟨some 18, .mv (.tmp 19), none, []⟩]) (.cond (.tmp 18) (.seq (.reg [⟨some 20, .off 5 (.tmp 2), none, []⟩,⟨some 21, .ld none (.tmp 20), none, []⟩,⟨some 22, .bin .eql (.tmp 21) (.val (.int .i64 0)), none, []⟩,⟨some 4, .mv (.tmp 22), none, []⟩])
 .ret) (.seq (.reg [⟨some 24, .bin .eql (.tmp 17) (.val (.int .i64 1)), none, []⟩,⟨some 23, .mv (.tmp 24), none, []⟩]) (.cond (.tmp 23) (.seq (.reg [⟨some 25, .mv (.tmp 1), none, []⟩,⟨some 26, .un .not (.tmp 25), none, []⟩,⟨some 27, .mv (.tmp 26), none, []⟩,⟨some 28, .off 5 (.tmp 2), some (27, true), []⟩,⟨some 29, .ld none (.tmp 28), some (27, true), []⟩,⟨some 30, .bin .eql (.tmp 29) (.val (.int .i64 0)), some (27, true), []⟩,⟨some 31, .pick (.tmp 27) (.tmp 30) (.val (.bool false)), none, []⟩,⟨some 4, .mv (.tmp 31), none, []⟩])
 .ret) (.seq (.reg [⟨some 33, .bin .eql (.tmp 17) (.val (.int .i64 2)), none, []⟩,⟨some 32, .mv (.tmp 33), none, []⟩]) (.cond (.tmp 32) (.seq (.reg [⟨some 34, .mv (.tmp 1), none, []⟩,⟨some 35, .mv (.tmp 34), none, []⟩,⟨some 36, .off 5 (.tmp 2), some (35, true), []⟩,⟨some 37, .ld none (.tmp 36), some (35, true), []⟩,⟨some 38, .bin .geq (.tmp 37) (.val (.int .i64 1)), some (35, true), []⟩,⟨some 39, .pick (.tmp 35) (.tmp 38) (.val (.bool false)), none, []⟩,⟨some 40, .mv (.tmp 39), none, []⟩,⟨some 41, .off 5 (.tmp 2), some (40, true), []⟩,⟨some 42, .ld none (.tmp 41), some (40, true), []⟩,⟨some 43, .bin .leq (.tmp 42) (.val (.int .i64 399)), some (40, true), []⟩,⟨some 44, .pick (.tmp 40) (.tmp 43) (.val (.bool false)), none, []⟩,⟨some 4, .mv (.tmp 44), none, []⟩])
 .ret) (.seq (.reg [⟨some 46, .bin .eql (.tmp 17) (.val (.int .i64 3)), none, []⟩,⟨some 45, .mv (.tmp 46), none, []⟩]) (.cond (.tmp 45) (.seq (.reg [⟨some 47, .mv (.tmp 1), none, []⟩,⟨some 48, .un .not (.tmp 47), none, []⟩,⟨some 49, .mv (.tmp 48), none, []⟩,⟨some 50, .off 5 (.tmp 2), some (49, true), []⟩,⟨some 51, .ld none (.tmp 50), some (49, true), []⟩,⟨some 52, .bin .geq (.tmp 51) (.val (.int .i64 1)), some (49, true), []⟩,⟨some 53, .pick (.tmp 49) (.tmp 52) (.val (.bool false)), none, []⟩,⟨some 54, .mv (.tmp 53), none, []⟩,⟨some 55, .off 5 (.tmp 2), some (54, true), []⟩,⟨some 56, .ld none (.tmp 55), some (54, true), []⟩,⟨some 57, .bin .leq (.tmp 56) (.val (.int .i64 8)), some (54, true), []⟩,⟨some 58, .pick (.tmp 54) (.tmp 57) (.val (.bool false)), none, []⟩,⟨some 4, .mv (.tmp 58), none, []⟩])
 .ret)
 .skip)))))))))) (.seq (.reg [⟨some 4, .mv (.val (.bool false)), none, []⟩])
 .ret))))
def c_ridgewayref10_Sane : AF := ⟨b_ridgewayref10_Sane, 59, [.tmp 4]⟩
theorem p_ridgewayref10_Sane : prepFunc Tryz.prog 89 = some c_ridgewayref10_Sane ∧ hasBody Tryz.prog 89 = true := ⟨by kernel_rfl, by kernel_rfl⟩
def b_prefix_Mask : AC :=
 (.seq
 (.reg [⟨some 4, .mv (.val (.int .i64 0)), none, []⟩])
 (.seq
 (.reg [⟨some 6, .mv (.tmp 1), none, []⟩,⟨some 7, .mx (.tmp 6) (.val (.int .i64 0)), none, []⟩,⟨some 8, .mn (.tmp 7) (.val (.int .i64 32)), none, []⟩,⟨some 9, .bin .sub (.val (.int .i64 32)) (.tmp 8), none, []⟩,⟨some 5, .mv (.tmp 9), none, []⟩])
 (.seq
 (.reg [⟨some 10, .mv (.tmp 0), none, []⟩,⟨some 11, .bin .and (.tmp 10) (.val (.int .i64 4294967295)), none, []⟩,⟨some 12, .mv (.tmp 5), none, []⟩,⟨some 13, .bin .shr (.tmp 11) (.tmp 12), none, []⟩,⟨some 14, .mv (.tmp 5), none, []⟩,⟨some 15, .bin .shl (.tmp 13) (.tmp 14), none, []⟩,⟨some 4, .mv (.tmp 15), none, []⟩])
 .ret)))
def c_prefix_Mask : AF := ⟨b_prefix_Mask, 16, [.tmp 4]⟩
theorem p_prefix_Mask : prepFunc Tryz.prog 90 = some c_prefix_Mask ∧ hasBody Tryz.prog 90 = true := ⟨by kernel_rfl, by kernel_rfl⟩
def b_slices_Index___api_Prefix_api_Prefix : AC :=
 (.seq
 (.reg [⟨some 3, .box 91 2 (.tmp 1), none, []⟩,⟨some 4, .mv (.val (.int .i64 0)), none, []⟩])
 (.seq
 (.seq
 (.reg [⟨some 6, .mv (.tmp 0), none, []⟩,⟨some 7, .len (.tmp 6), none, []⟩,⟨some 8, .mv (.val (.int .i64 0)), none, []⟩])
 (.block 0
 (.loop
 (.seq
 (.reg [⟨some 9, .bin .lss (.tmp 8) (.tmp 7), none, []⟩])
 (.seq
 (.cond (.tmp 9)
 .skip (.exit 0)) (.seq (.block 1 (.seq (.reg [⟨some 10, .mv (.tmp 8), none, []⟩,⟨some 5, .mv (.tmp 10), none, []⟩]) (.seq (.reg [⟨some 11, .ld (some 2) (.tmp 3), none, []⟩,⟨some 12, .mv (.tmp 0), none, []⟩,⟨some 13, .mv (.tmp 5), none, []⟩,⟨some 14, .idxA 2 (.tmp 12) (.tmp 13), none, []⟩,⟨some 15, .ld (some 2) (.tmp 14), none, []⟩,⟨some 16, .eqA false 2 [(0, 0), (1, 0)] (.tmp 11) (.tmp 15), none, []⟩]) (.cond (.tmp 16) (.seq (.reg [⟨some 17, .mv (.tmp 5), none, []⟩,⟨some 4, .mv (.tmp 17), none, []⟩])
 .ret)
 .skip)))) (.reg [⟨some 18, .bin .add (.tmp 8) (.val (.int .i64 1)), none, []⟩,⟨some 8, .mv (.tmp 18), none, []⟩]))))))) (.seq (.reg [⟨some 4, .mv (.val (.int .i64 (-1))), none, []⟩])
 .ret)))
def c_slices_Index___api_Prefix_api_Prefix : AF := ⟨b_slices_Index___api_Prefix_api_Prefix, 19, [.tmp 4]⟩
theorem p_slices_Index___api_Prefix_api_Prefix : prepFunc Tryz.prog 91 = some c_slices_Index___api_Prefix_api_Prefix ∧ hasBody Tryz.prog 91 = true := ⟨by kernel_rfl, by kernel_rfl⟩
def b_slices_ContainsFunc___api_Side_api_Side : AC :=
 (.seq
 (.reg [⟨some 4, .mv (.val (.bool false)), none, []⟩])
 (.seq
 (.reg [⟨some 5, .mv (.tmp 0), none, []⟩,⟨some 6, .mv (.tmp 1), none, []⟩,⟨some 7, .callS 102 [(.tmp 5), (.tmp 6)], none, []⟩,⟨some 8, .bin .geq (.tmp 7) (.val (.int .i64 0)), none, []⟩,⟨some 4, .mv (.tmp 8), none, []⟩])
 .ret))
def c_slices_ContainsFunc___api_Side_api_Side : AF := ⟨b_slices_ContainsFunc___api_Side_api_Side, 9, [.tmp 4]⟩
theorem p_slices_ContainsFunc___api_Side_api_Side : prepFunc Tryz.prog 92 = some c_slices_ContainsFunc___api_Side_api_Side ∧ hasBody Tryz.prog 92 = true := ⟨by kernel_rfl, by kernel_rfl⟩
def b_conf_taken_1 : AC :=
 (.seq
 (.reg [⟨some 2, .box 60 4 (.tmp 0), none, []⟩,⟨some 3, .mv (.val (.bool false)), none, []⟩])
 (.seq
 (.reg [⟨some 4, .off 0 (.tmp 2), none, []⟩,⟨some 5, .ld none (.tmp 4), none, []⟩,⟨some 6, .ld none (.tmp 1), none, []⟩,⟨some 7, .bin .eql (.tmp 5) (.tmp 6), none, []⟩,⟨some 3, .mv (.tmp 7), none, []⟩])
 .ret))
def c_conf_taken_1 : AF := ⟨b_conf_taken_1, 8, [.tmp 3]⟩
theorem p_conf_taken_1 : prepFunc Tryz.prog 93 = some c_conf_taken_1 ∧ hasBody Tryz.prog 93 = true := ⟨by kernel_rfl, by kernel_rfl⟩
def b_policy_Sane : AC :=
 (.seq
 (.reg [⟨some 2, .box 106 6 (.tmp 0), none, []⟩,⟨some 4, .mv (.val (.bool false)), none, []⟩])
 (.seq
 (.reg [⟨some 5, .ld (some 6) (.tmp 2), none, []⟩,⟨some 6, .mv (.tmp 1), none, []⟩,⟨some 7, .callS 103 [(.tmp 5), (.tmp 6)], none, []⟩,⟨some 8, .mv (.tmp 7), none, []⟩,⟨some 9, .ld (some 6) (.tmp 2), some (8, true), []⟩,⟨some 10, .mv (.tmp 1), some (8, true), []⟩,⟨some 11, .callS 104 [(.tmp 9), (.tmp 10)], some (8, true), []⟩,⟨some 12, .pick (.tmp 8) (.tmp 11) (.val (.bool false)), none, []⟩,⟨some 4, .mv (.tmp 12), none, []⟩])
 .ret))
def c_policy_Sane : AF := ⟨b_policy_Sane, 13, [.tmp 4]⟩
theorem p_policy_Sane : prepFunc Tryz.prog 94 = some c_policy_Sane ∧ hasBody Tryz.prog 94 = true := ⟨by kernel_rfl, by kernel_rfl⟩
def b_octet_Take : AC :=
 (.seq
 (.reg [⟨some 4, .mv (.val (.slice .full 0 [])), none, []⟩,⟨some 5, .mv (.val (.slice .full 0 [])), none, []⟩,⟨some 6, .mv (.val (.bool false)), none, []⟩])
 (.seq
 (.seq
 (.reg [⟨some 7, .mv (.tmp 1), none, []⟩,⟨some 8, .bin .lss (.tmp 7) (.val (.int .i64 0)), none, []⟩,⟨some 9, .mv (.tmp 8), none, []⟩,⟨some 10, .mv (.tmp 1), some (9, false), []⟩,⟨some 11, .mv (.tmp 0), some (9, false), []⟩,⟨some 12, .len (.tmp 11), some (9, false), []⟩,⟨some 13, .bin .gtr (.tmp 10) (.tmp 12), some (9, false), []⟩,⟨some 14, .pick (.tmp 9) (.val (.bool true)) (.tmp 13), none, []⟩])
 (.cond (.tmp 14)
 (.seq
 (.reg [⟨some 4, .mv (.val (.slice .full 0 [])), none, []⟩,⟨some 5, .mv (.val (.slice .full 0 [])), none, []⟩,⟨some 6, .mv (.val (.bool false)), none, []⟩])
 .ret)
 .skip)) (.seq (.reg [⟨some 15, .mv (.tmp 0), none, []⟩,⟨some 16, .mv (.tmp 1), none, []⟩,⟨some 17, .mv (.tmp 1), none, []⟩,⟨some 18, .slc 1 (.tmp 15) none (some (.tmp 16)) (some (.tmp 17)), none, []⟩,⟨some 19, .mv (.tmp 0), none, []⟩,⟨some 20, .mv (.tmp 1), none, []⟩,⟨some 21, .slc 1 (.tmp 19) (some (.tmp 20)) none none, none, []⟩,⟨some 4, .mv (.tmp 18), none, []⟩,⟨some 5, .mv (.tmp 21), none, []⟩,⟨some 6, .mv (.val (.bool true)), none, []⟩])
 .ret)))
def c_octet_Take : AF := ⟨b_octet_Take, 22, [.tmp 4, .tmp 5, .tmp 6]⟩
theorem p_octet_Take : prepFunc Tryz.prog 95 = some c_octet_Take ∧ hasBody Tryz.prog 95 = true := ⟨by kernel_rfl, by kernel_rfl⟩
def b_open_each : AC :=
 (.seq
 (.reg [⟨some 4, .box 34 3 (.val (.agg [(.int .i64 0), (.int .i64 0), (.slice .full 0 [])])), none, []⟩])
 (.seq
 (.block 0
 (.loop
 (.seq
 (.seq
 (.reg [⟨some 13, .mv (.tmp 0), none, []⟩,⟨some 14, .len (.tmp 13), none, []⟩,⟨some 15, .bin .gtr (.tmp 14) (.val (.int .i64 0)), none, []⟩])
 (.cond (.tmp 15)
 .skip (.exit 0))) (.block 1 (.seq (.reg [⟨some 17, .mv (.tmp 0), none, []⟩,⟨some 18, .callS 83 [(.tmp 17), (.val (.int .i64 1))], none, []⟩,⟨some 16, .mv (.tmp 18), none, []⟩,⟨some 19, .ext (.tmp 16) 0, none, []⟩,⟨some 20, .ext (.tmp 16) 1, none, []⟩,⟨some 21, .ext (.tmp 16) 2, none, []⟩,⟨some 5, .mv (.tmp 19), none, []⟩,⟨some 6, .mv (.tmp 20), none, []⟩,⟨some 7, .mv (.tmp 21), none, []⟩]) (.seq (.reg [⟨some 23, .mv (.tmp 6), none, []⟩,⟨some 24, .callS 83 [(.tmp 23), (.val (.int .i64 1))], none, []⟩,⟨some 22, .mv (.tmp 24), none, []⟩,⟨some 25, .ext (.tmp 22) 0, none, []⟩,⟨some 26, .ext (.tmp 22) 1, none, []⟩,⟨some 27, .ext (.tmp 22) 2, none, []⟩,⟨some 8, .mv (.tmp 25), none, []⟩,⟨some 6, .mv (.tmp 26), none, []⟩,⟨some 9, .mv (.tmp 27), none, []⟩]) (.seq (.reg [⟨some 29, .mv (.tmp 6), none, []⟩,⟨some 30, .mv (.tmp 8), none, []⟩,⟨some 31, .callS 95 [(.tmp 29), (.tmp 30)], none, []⟩,⟨some 28, .mv (.tmp 31), none, []⟩,⟨some 32, .ext (.tmp 28) 0, none, []⟩,⟨some 33, .ext (.tmp 28) 1, none, []⟩,⟨some 34, .ext (.tmp 28) 2, none, []⟩,⟨some 10, .mv (.tmp 32), none, []⟩,⟨some 6, .mv (.tmp 33), none, []⟩,⟨some 11, .mv (.tmp 34), none, []⟩])
 (.seq (.seq (.reg [⟨some 35, .mv (.tmp 9), none, []⟩,⟨some 36, .un .not (.tmp 35), none, []⟩,⟨some 37, .mv (.tmp 36), none, []⟩,⟨some 38, .mv (.tmp 11), some (37, false), []⟩,⟨some 39, .un .not (.tmp 38), some (37, false), []⟩,⟨some 40, .pick (.tmp 37) (.val (.bool true)) (.tmp 39), none, []⟩]) (.cond (.tmp 40) (.seq (.reg [⟨some 41, .bld [(.int .i64 0), (.int .i64 0), (.slice .full 0 [])] [(0, 1, (.val (.int .i64 2))), (1, 1, (.val (.int .i64 0)))], none, []⟩,⟨none, .st 3 (.tmp 4) (.tmp 41), none, []⟩])
 .ret)
 .skip)) (.seq (.seq (.reg [⟨some 42, .mv (.tmp 1), none, []⟩,⟨some 43, .mv (.tmp 5), none, []⟩,⟨some 44, .mv (.tmp 10), none, []⟩,⟨some 45, .callvS (.tmp 42) [(.tmp 43), (.tmp 44)], none, []⟩,⟨some 12, .box 34 3 (.val (.agg [(.int .i64 0), (.int .i64 0), (.slice .full 0 [])])), none, []⟩,⟨none, .st 3 (.tmp 12) (.tmp 45), none, []⟩]) (.seq (.reg [⟨some 46, .off 0 (.tmp 12), none, []⟩,⟨some 47, .ld none (.tmp 46), none, []⟩,⟨some 48, .bin .neq (.tmp 47) (.val (.int .i64 0)), none, []⟩]) (.cond (.tmp 48) (.seq (.reg [⟨some 49, .ld (some 3) (.tmp 12), none, []⟩,⟨none, .st 3 (.tmp 4) (.tmp 49), none, []⟩])
 .ret)
 .skip))) (.reg [⟨some 50, .mv (.tmp 6), none, []⟩,⟨some 0, .mv (.tmp 50), none, []⟩])))))))))) (.seq (.reg [⟨some 51, .bld [(.int .i64 0), (.int .i64 0), (.slice .full 0 [])] [], none, []⟩,⟨none, .st 3 (.tmp 4) (.tmp 51), none, []⟩])
 .ret)))
def c_open_each : AF := ⟨b_open_each, 52, [.cell 4 (some 3)]⟩
theorem p_open_each : prepFunc Tryz.prog 96 = some c_open_each ∧ hasBody Tryz.prog 96 = true := ⟨by kernel_rfl, by kernel_rfl⟩
def b_open_read_1 : AC :=
 (.seq
 (.reg [⟨some 5, .box 34 3 (.val (.agg [(.int .i64 0), (.int .i64 0), (.slice .full 0 [])])), none, []⟩])
 (.seq
 (.seq
 (.reg [⟨some 6, .mv (.tmp 0), none, []⟩,⟨some 7, .bin .neq (.tmp 6) (.val (.int .i64 2)), none, []⟩])
 (.cond (.tmp 7)
 (.seq
 (.reg [⟨some 8, .bld [(.int .i64 0), (.int .i64 0), (.slice .full 0 [])] [(0, 1, (.val (.int .i64 2))), (1, 1, (.val (.int .i64 4)))], none, []⟩,⟨none, .st 3 (.tmp 5) (.tmp 8), none, []⟩])
 .ret)
 .skip)) (.seq (.reg [⟨some 9, .mv (.tmp 1), none, []⟩,⟨some 10, .mkfn 98 [(.tmp 2)], none, []⟩,⟨some 11, .callS 96 [(.tmp 9), (.tmp 10)], none, []⟩,⟨none, .st 3 (.tmp 5) (.tmp 11), none, []⟩])
 .ret)))
def c_open_read_1 : AF := ⟨b_open_read_1, 12, [.cell 5 (some 3)]⟩
theorem p_open_read_1 : prepFunc Tryz.prog 97 = some c_open_read_1 ∧ hasBody Tryz.prog 97 = true := ⟨by kernel_rfl, by kernel_rfl⟩
def b_open_said__take : AC :=
 (.seq
 (.reg [⟨some 6, .box 34 3 (.val (.agg [(.int .i64 0), (.int .i64 0), (.slice .full 0 [])])), none, []⟩])
 (.seq
 (.block 0
 (.seq
 (.seq
 (.reg [⟨some 8, .mv (.tmp 1), none, []⟩,⟨some 9, .bin .eql (.tmp 8) (.val (.int .i64 65)), none, []⟩,⟨some 10, .mv (.tmp 9), none, []⟩,⟨some 11, .mv (.tmp 2), some (10, true), []⟩,⟨some 12, .len (.tmp 11), some (10, true), []⟩,⟨some 13, .bin .neq (.tmp 12) (.val (.int .i64 4)), some (10, true), []⟩,⟨some 14, .pick (.tmp 10) (.tmp 13) (.val (.bool false)), none, []⟩,⟨some 7, .mv (.tmp 14), none, []⟩])
 (.cond (.tmp 7)
 .skip (.reg [⟨some 15, .mv (.tmp 1), none, []⟩,⟨some 16, .bin .eql (.tmp 15) (.val (.int .i64 9)), none, []⟩,⟨some 17, .mv (.tmp 16), none, []⟩,⟨some 18, .mv (.tmp 2), some (17, true), []⟩,⟨some 19, .len (.tmp 18), some (17, true), []⟩,⟨some 20, .bin .neq (.tmp 19) (.val (.int .i64 1)), some (17, true), []⟩,⟨some 21, .pick (.tmp 17) (.tmp 20) (.val (.bool false)), none, []⟩,⟨some 7, .mv (.tmp 21), none, []⟩]))) (.cond (.tmp 7) (.seq (.reg [⟨some 22, .bld [(.int .i64 0), (.int .i64 0), (.slice .full 0 [])] [(0, 1, (.val (.int .i64 2))), (1, 1, (.val (.int .i64 0)))], none, []⟩,⟨none, .st 3 (.tmp 6) (.tmp 22), none, []⟩])
 .ret) (.seq (.reg [⟨some 24, .mv (.tmp 1), none, []⟩,⟨some 25, .bin .eql (.tmp 24) (.val (.int .i64 65)), none, []⟩,⟨some 26, .mv (.tmp 25), none, []⟩,⟨some 27, .mv (.tmp 0), some (26, true), []⟩,⟨some 28, .nilc (.tmp 27), some (26, true), []⟩,⟨some 29, .off 0 (.tmp 28), some (26, true), []⟩,⟨some 30, .ld none (.tmp 29), some (26, true), []⟩,⟨some 31, .bin .lss (.tmp 30) (.val (.int .i64 0)), some (26, true), []⟩,⟨some 32, .pick (.tmp 26) (.tmp 31) (.val (.bool false)), none, []⟩,⟨some 23, .mv (.tmp 32), none, []⟩]) (.cond (.tmp 23) (.reg [⟨some 34, .mv (.tmp 0), none, []⟩,⟨some 35, .mv (.tmp 2), none, []⟩,⟨some 36, .callS 83 [(.tmp 35), (.val (.int .i64 4))], none, []⟩,⟨some 33, .mv (.tmp 36), none, []⟩,⟨some 37, .ext (.tmp 33) 0, none, []⟩,⟨some 38, .ext (.tmp 33) 1, none, []⟩,⟨some 39, .ext (.tmp 33) 2, none, []⟩,⟨some 40, .nilc (.tmp 34), none, []⟩,⟨some 41, .off 0 (.tmp 40), none, []⟩,⟨none, .st 1 (.tmp 41) (.tmp 37), none, []⟩])
 (.seq (.reg [⟨some 43, .mv (.tmp 1), none, []⟩,⟨some 44, .bin .eql (.tmp 43) (.val (.int .i64 9)), none, []⟩,⟨some 45, .mv (.tmp 44), none, []⟩,⟨some 46, .mv (.tmp 0), some (45, true), []⟩,⟨some 47, .nilc (.tmp 46), some (45, true), []⟩,⟨some 48, .off 1 (.tmp 47), some (45, true), []⟩,⟨some 49, .ld none (.tmp 48), some (45, true), []⟩,⟨some 50, .bin .lss (.tmp 49) (.val (.int .i64 0)), some (45, true), []⟩,⟨some 51, .pick (.tmp 45) (.tmp 50) (.val (.bool false)), none, []⟩,⟨some 42, .mv (.tmp 51), none, []⟩]) (.cond (.tmp 42) (.reg [⟨some 52, .mv (.tmp 0), none, []⟩,⟨some 53, .mv (.tmp 2), none, []⟩,⟨some 54, .idxA 1 (.tmp 53) (.val (.int .i64 0)), none, []⟩,⟨some 55, .ld none (.tmp 54), none, []⟩,⟨some 56, .conv .i64 (.tmp 55), none, []⟩,⟨some 57, .nilc (.tmp 52), none, []⟩,⟨some 58, .off 1 (.tmp 57), none, []⟩,⟨none, .st 1 (.tmp 58) (.tmp 56), none, []⟩]) (.seq (.reg [⟨some 60, .mv (.tmp 1), none, []⟩,⟨some 61, .bin .eql (.tmp 60) (.val (.int .i64 9)), none, []⟩,⟨some 62, .mv (.tmp 61), none, []⟩,⟨some 63, .mv (.tmp 0), some (62, true), []⟩,⟨some 64, .nilc (.tmp 63), some (62, true), []⟩,⟨some 65, .off 1 (.tmp 64), some (62, true), []⟩,⟨some 66, .ld none (.tmp 65), some (62, true), []⟩,⟨some 67, .mv (.tmp 2), some (62, true), []⟩,⟨some 68, .idxA 1 (.tmp 67) (.val (.int .i64 0)), some (62, true), []⟩,⟨some 69, .ld none (.tmp 68), some (62, true), []⟩,⟨some 70, .conv .i64 (.tmp 69), some (62, true), []⟩,⟨some 71, .bin .neq (.tmp 66) (.tmp 70), some (62, true), []⟩,⟨some 72, .pick (.tmp 62) (.tmp 71) (.val (.bool false)), none, []⟩,⟨some 59, .mv (.tmp 72), none, []⟩])
 (.cond (.tmp 59) (.seq (.reg [⟨some 73, .bld [(.int .i64 0), (.int .i64 0), (.slice .full 0 [])] [(0, 1, (.val (.int .i64 2))), (1, 1, (.val (.int .i64 11)))], none, []⟩,⟨none, .st 3 (.tmp 6) (.tmp 73), none, []⟩])
 .ret)
 .skip))))))))) (.seq (.reg [⟨some 74, .bld [(.int .i64 0), (.int .i64 0), (.slice .full 0 [])] [], none, []⟩,⟨none, .st 3 (.tmp 6) (.tmp 74), none, []⟩])
 .ret)))
def c_open_said__take : AF := ⟨b_open_said__take, 75, [.cell 6 (some 3)]⟩
theorem p_open_said__take : prepFunc Tryz.prog 98 = some c_open_said__take ∧ hasBody Tryz.prog 98 = true := ⟨by kernel_rfl, by kernel_rfl⟩
def b_ridgewayref06_reader__one : AC :=
 (.seq
 (.reg [⟨some 9, .mv (.tmp 1), none, []⟩])
 (.block 0
 (.seq
 (.reg [⟨some 11, .bin .eql (.tmp 9) (.val (.int .u8 65)), none, []⟩,⟨some 10, .mv (.tmp 11), none, []⟩])
 (.cond (.tmp 10)
 (.seq
 (.seq
 (.reg [⟨some 12, .mv (.tmp 2), none, []⟩,⟨some 13, .len (.tmp 12), none, []⟩,⟨some 14, .bin .neq (.tmp 13) (.val (.int .i64 4)), none, []⟩])
 (.cond (.tmp 14)
 (.seq
 (.reg [⟨some 15, .mv (.tmp 0), none, []⟩,⟨some 16, .callS 86 [(.tmp 15), (.val (.int .i64 0))], none, []⟩])
 .ret)
 .skip)) (.seq (.reg [⟨some 17, .mv (.tmp 0), none, []⟩,⟨some 18, .nilc (.tmp 17), none, []⟩,⟨some 19, .off 1 (.tmp 18), none, []⟩,⟨some 20, .ld none (.tmp 19), none, []⟩,⟨some 21, .un .not (.tmp 20), none, []⟩]) (.cond (.tmp 21) (.seq (.reg [⟨some 23, .mv (.tmp 2), none, []⟩,⟨some 24, .callS 76 [(.tmp 23), (.val (.int .i64 4))], none, []⟩,⟨some 22, .mv (.tmp 24), none, []⟩,⟨some 25, .ext (.tmp 22) 0, none, []⟩,⟨some 26, .ext (.tmp 22) 1, none, []⟩,⟨some 27, .ext (.tmp 22) 2, none, []⟩,⟨some 6, .mv (.tmp 25), none, []⟩,⟨some 7, .mv (.tmp 26), none, []⟩,⟨some 8, .mv (.tmp 27), none, []⟩]) (.seq (.reg [⟨some 28, .mv (.tmp 0), none, []⟩,⟨some 29, .mv (.tmp 6), none, []⟩,⟨some 30, .nilc (.tmp 28), none, []⟩,⟨some 31, .off 0 (.tmp 30), none, []⟩,⟨none, .st 1 (.tmp 31) (.tmp 29), none, []⟩]) (.reg [⟨some 32, .mv (.tmp 0), none, []⟩,⟨some 33, .nilc (.tmp 32), none, []⟩,⟨some 34, .off 1 (.tmp 33), none, []⟩,⟨none, .st 1 (.tmp 34) (.val (.bool true)), none, []⟩])))
 .skip))) (.seq (.reg [⟨some 36, .bin .eql (.tmp 9) (.val (.int .u8 9)), none, []⟩,⟨some 35, .mv (.tmp 36), none, []⟩]) (.cond (.tmp 35) (.seq (.seq (.reg [⟨some 37, .mv (.tmp 2), none, []⟩,⟨some 38, .len (.tmp 37), none, []⟩,⟨some 39, .bin .neq (.tmp 38) (.val (.int .i64 1)), none, []⟩]) (.cond (.tmp 39) (.seq (.reg [⟨some 40, .mv (.tmp 0), none, []⟩,⟨some 41, .callS 86 [(.tmp 40), (.val (.int .i64 0))], none, []⟩])
 .ret)
 .skip)) (.seq (.seq (.reg [⟨some 42, .mv (.tmp 0), none, []⟩,⟨some 43, .nilc (.tmp 42), none, []⟩,⟨some 44, .off 2 (.tmp 43), none, []⟩,⟨some 45, .ld none (.tmp 44), none, []⟩,⟨some 46, .bin .geq (.tmp 45) (.val (.int .i64 0)), none, []⟩,⟨some 47, .mv (.tmp 46), none, []⟩,⟨some 48, .mv (.tmp 0), some (47, true), []⟩,⟨some 49, .nilc (.tmp 48), some (47, true), []⟩,⟨some 50, .off 2 (.tmp 49), some (47, true), []⟩,⟨some 51, .ld none (.tmp 50), some (47, true), []⟩,⟨some 52, .mv (.tmp 2), some (47, true), []⟩,⟨some 53, .idxA 1 (.tmp 52) (.val (.int .i64 0)), some (47, true), []⟩,⟨some 54, .ld none (.tmp 53), some (47, true), []⟩,⟨some 55, .conv .i64 (.tmp 54), some (47, true), []⟩,⟨some 56, .bin .neq (.tmp 51) (.tmp 55), some (47, true), []⟩,⟨some 57, .pick (.tmp 47) (.tmp 56) (.val (.bool false)), none, []⟩]) (.cond (.tmp 57) (.seq (.reg [⟨some 58, .mv (.tmp 0), none, []⟩,⟨some 59, .callS 86 [(.tmp 58), (.val (.int .i64 11))], none, []⟩])
 .ret)
 .skip)) (.reg [⟨some 60, .mv (.tmp 0), none, []⟩,⟨some 61, .mv (.tmp 2), none, []⟩,⟨some 62, .idxA 1 (.tmp 61) (.val (.int .i64 0)), none, []⟩,⟨some 63, .ld none (.tmp 62), none, []⟩,⟨some 64, .conv .i64 (.tmp 63), none, []⟩,⟨some 65, .nilc (.tmp 60), none, []⟩,⟨some 66, .off 2 (.tmp 65), none, []⟩,⟨none, .st 1 (.tmp 66) (.tmp 64), none, []⟩])))
 .skip))))))
def c_ridgewayref06_reader__one : AF := ⟨b_ridgewayref06_reader__one, 67, []⟩
theorem p_ridgewayref06_reader__one : prepFunc Tryz.prog 99 = some c_ridgewayref06_reader__one ∧ hasBody Tryz.prog 99 = true := ⟨by kernel_rfl, by kernel_rfl⟩
def b_ridgewayref02_size : AC :=
 (.seq
 (.reg [⟨some 2, .mv (.val (.int .i64 0)), none, []⟩])
 (.seq
 (.reg [⟨some 3, .mv (.val (.int .i64 1)), none, []⟩])
 (.seq
 (.seq
 (.reg [⟨some 5, .mv (.tmp 0), none, []⟩,⟨some 6, .mx (.tmp 5) (.val (.int .i64 0)), none, []⟩,⟨some 4, .mv (.tmp 6), none, []⟩])
 (.block 0
 (.loop
 (.seq
 (.seq
 (.reg [⟨some 7, .mv (.tmp 4), none, []⟩,⟨some 8, .bin .lss (.tmp 7) (.val (.int .i64 32)), none, []⟩])
 (.cond (.tmp 8)
 .skip (.exit 0))) (.seq (.block 1 (.reg [⟨some 11, .mv (.tmp 3), none, []⟩,⟨some 12, .bin .mul (.tmp 11) (.val (.int .i64 2)), none, []⟩,⟨some 3, .mv (.tmp 12), none, []⟩])) (.reg [⟨some 9, .mv (.tmp 4), none, []⟩,⟨some 10, .bin .add (.tmp 9) (.val (.int .i64 1)), none, []⟩,⟨some 4, .mv (.tmp 10), none, []⟩])))))) (.seq (.reg [⟨some 13, .mv (.tmp 3), none, []⟩,⟨some 2, .mv (.tmp 13), none, []⟩])
 .ret))))
def c_ridgewayref02_size : AF := ⟨b_ridgewayref02_size, 14, [.tmp 2]⟩
theorem p_ridgewayref02_size : prepFunc Tryz.prog 100 = some c_ridgewayref02_size ∧ hasBody Tryz.prog 100 = true := ⟨by kernel_rfl, by kernel_rfl⟩
def b_ridgewayref10_match : AC :=
 (.seq
 (.reg [⟨some 1, .box 106 6 (.tmp 0), none, []⟩,⟨some 2, .mv (.val (.bool false)), none, []⟩])
 (.seq
 (.reg [⟨some 4, .bld [(.int .i64 0), (.int .i64 0)] [], none, []⟩,⟨some 3, .box 91 2 (.val (.agg [(.int .i64 0), (.int .i64 0)])), none, []⟩,⟨none, .st 2 (.tmp 3) (.tmp 4), none, []⟩])
 (.seq
 (.seq
 (.reg [⟨some 5, .off 0 (.tmp 1), none, []⟩,⟨some 6, .ld none (.tmp 5), none, []⟩])
 (.block 0
 (.seq
 (.reg [⟨some 8, .bin .eql (.tmp 6) (.val (.int .i64 0)), none, []⟩,⟨some 7, .mv (.tmp 8), none, []⟩])
 (.cond (.tmp 7)
 (.seq
 (.reg [⟨some 9, .off 1 (.tmp 1), none, []⟩,⟨some 10, .ld (some 2) (.tmp 9), none, []⟩,⟨some 11, .ld (some 2) (.tmp 3), none, []⟩,⟨some 12, .eqA false 2 [(0, 0), (1, 0)] (.tmp 10) (.tmp 11), none, []⟩,⟨some 13, .mv (.tmp 12), none, []⟩,⟨some 14, .off 3 (.tmp 1), some (13, true), []⟩,⟨some 15, .ld none (.tmp 14), some (13, true), []⟩,⟨some 16, .bin .eql (.tmp 15) (.val (.int .i64 0)), some (13, true), []⟩,⟨some 17, .pick (.tmp 13) (.tmp 16) (.val (.bool false)), none, []⟩,⟨some 2, .mv (.tmp 17), none, []⟩])
 .ret) (.seq (.reg [⟨some 19, .bin .eql (.tmp 6) (.val (.int .i64 1)), none, []⟩,⟨some 18, .mv (.tmp 19), none, []⟩]) (.cond (.tmp 18) (.seq (.reg [⟨some 20, .off 1 (.tmp 1), none, []⟩,⟨some 21, .ld (some 2) (.tmp 20), none, []⟩,⟨some 22, .callS 77 [(.tmp 21)], none, []⟩,⟨some 23, .mv (.tmp 22), none, []⟩,⟨some 24, .off 3 (.tmp 1), some (23, true), []⟩,⟨some 25, .ld none (.tmp 24), some (23, true), []⟩,⟨some 26, .bin .eql (.tmp 25) (.val (.int .i64 0)), some (23, true), []⟩,⟨some 27, .pick (.tmp 23) (.tmp 26) (.val (.bool false)), none, []⟩,⟨some 2, .mv (.tmp 27), none, []⟩])
 .ret) (.seq (.reg [⟨some 29, .bin .eql (.tmp 6) (.val (.int .i64 2)), none, []⟩,⟨some 28, .mv (.tmp 29), none, []⟩]) (.cond (.tmp 28) (.seq (.reg [⟨some 30, .off 1 (.tmp 1), none, []⟩,⟨some 31, .ld (some 2) (.tmp 30), none, []⟩,⟨some 32, .ld (some 2) (.tmp 3), none, []⟩,⟨some 33, .eqA false 2 [(0, 0), (1, 0)] (.tmp 31) (.tmp 32), none, []⟩,⟨some 34, .mv (.tmp 33), none, []⟩,⟨some 35, .off 3 (.tmp 1), some (34, true), []⟩,⟨some 36, .ld none (.tmp 35), some (34, true), []⟩,⟨some 37, .bin .geq (.tmp 36) (.val (.int .i64 1)), some (34, true), []⟩,⟨some 38, .pick (.tmp 34) (.tmp 37) (.val (.bool false)), none, []⟩,⟨some 39, .mv (.tmp 38), none, []⟩,⟨some 40, .off 3 (.tmp 1), some (39, true), []⟩,⟨some 41, .ld none (.tmp 40), some (39, true), []⟩,⟨some 42, .bin .leq (.tmp 41) (.val (.int .i64 4294967295)), some (39, true), []⟩,⟨some 43, .pick (.tmp 39) (.tmp 42) (.val (.bool false)), none, []⟩,⟨some 2, .mv (.tmp 43), none, []⟩])
 .ret) (.seq (.reg [⟨some 45, .bin .eql (.tmp 6) (.val (.int .i64 3)), none, []⟩,⟨some 44, .mv (.tmp 45), none, []⟩]) (.cond (.tmp 44) (.seq (.reg [⟨some 46, .off 1 (.tmp 1), none, []⟩,⟨some 47, .ld (some 2) (.tmp 46), none, []⟩,⟨some 48, .ld (some 2) (.tmp 3), none, []⟩,⟨some 49, .eqA false 2 [(0, 0), (1, 0)] (.tmp 47) (.tmp 48), none, []⟩,⟨some 50, .mv (.tmp 49), none, []⟩,⟨some 51, .off 3 (.tmp 1), some (50, true), []⟩,⟨some 52, .ld none (.tmp 51), some (50, true), []⟩,⟨some 53, .bin .geq (.tmp 52) (.val (.int .i64 0)), some (50, true), []⟩,⟨some 54, .pick (.tmp 50) (.tmp 53) (.val (.bool false)), none, []⟩,⟨some 55, .mv (.tmp 54), none, []⟩,⟨some 56, .off 3 (.tmp 1), some (55, true), []⟩,⟨some 57, .ld none (.tmp 56), some (55, true), []⟩,⟨some 58, .bin .leq (.tmp 57) (.val (.int .i64 32)), some (55, true), []⟩,⟨some 59, .pick (.tmp 55) (.tmp 58) (.val (.bool false)), none, []⟩,⟨some 2, .mv (.tmp 59), none, []⟩])
 .ret) (.seq (.reg [⟨some 61, .bin .eql (.tmp 6) (.val (.int .i64 4)), none, []⟩,⟨some 60, .mv (.tmp 61), none, []⟩]) (.cond (.tmp 60) (.seq (.reg [⟨some 62, .off 1 (.tmp 1), none, []⟩,⟨some 63, .ld (some 2) (.tmp 62), none, []⟩,⟨some 64, .ld (some 2) (.tmp 3), none, []⟩,⟨some 65, .eqA false 2 [(0, 0), (1, 0)] (.tmp 63) (.tmp 64), none, []⟩,⟨some 66, .mv (.tmp 65), none, []⟩,⟨some 67, .off 3 (.tmp 1), some (66, true), []⟩,⟨some 68, .ld none (.tmp 67), some (66, true), []⟩,⟨some 69, .bin .geq (.tmp 68) (.val (.int .i64 0)), some (66, true), []⟩,⟨some 70, .pick (.tmp 66) (.tmp 69) (.val (.bool false)), none, []⟩,⟨some 71, .mv (.tmp 70), none, []⟩,⟨some 72, .off 3 (.tmp 1), some (71, true), []⟩,⟨some 73, .ld none (.tmp 72), some (71, true), []⟩,⟨some 74, .bin .leq (.tmp 73) (.val (.int .i64 3)), some (71, true), []⟩,⟨some 75, .pick (.tmp 71) (.tmp 74) (.val (.bool false)), none, []⟩,⟨some 2, .mv (.tmp 75), none, []⟩])
 .ret)
 .skip)))))))))))) (.seq (.reg [⟨some 2, .mv (.val (.bool false)), none, []⟩])
 .ret))))
def c_ridgewayref10_match : AF := ⟨b_ridgewayref10_match, 76, [.tmp 2]⟩
theorem p_ridgewayref10_match : prepFunc Tryz.prog 101 = some c_ridgewayref10_match ∧ hasBody Tryz.prog 101 = true := ⟨by kernel_rfl, by kernel_rfl⟩
def b_slices_IndexFunc___api_Side_api_Side : AC :=
 (.seq
 (.reg [⟨some 4, .mv (.val (.int .i64 0)), none, []⟩])
 (.seq
 (.seq
 (.reg [⟨some 6, .mv (.tmp 0), none, []⟩,⟨some 7, .len (.tmp 6), none, []⟩,⟨some 8, .mv (.val (.int .i64 0)), none, []⟩])
 (.block 0
 (.loop
 (.seq
 (.reg [⟨some 9, .bin .lss (.tmp 8) (.tmp 7), none, []⟩])
 (.seq
 (.cond (.tmp 9)
 .skip (.exit 0)) (.seq (.block 1 (.seq (.reg [⟨some 10, .mv (.tmp 8), none, []⟩,⟨some 5, .mv (.tmp 10), none, []⟩]) (.seq (.reg [⟨some 11, .mv (.tmp 1), none, []⟩,⟨some 12, .mv (.tmp 0), none, []⟩,⟨some 13, .mv (.tmp 5), none, []⟩,⟨some 14, .idxA 4 (.tmp 12) (.tmp 13), none, []⟩,⟨some 15, .ld (some 4) (.tmp 14), none, []⟩,⟨some 16, .callvS (.tmp 11) [(.tmp 15)], none, []⟩]) (.cond (.tmp 16) (.seq (.reg [⟨some 17, .mv (.tmp 5), none, []⟩,⟨some 4, .mv (.tmp 17), none, []⟩])
 .ret)
 .skip)))) (.reg [⟨some 18, .bin .add (.tmp 8) (.val (.int .i64 1)), none, []⟩,⟨some 8, .mv (.tmp 18), none, []⟩]))))))) (.seq (.reg [⟨some 4, .mv (.val (.int .i64 (-1))), none, []⟩])
 .ret)))
def c_slices_IndexFunc___api_Side_api_Side : AF := ⟨b_slices_IndexFunc___api_Side_api_Side, 19, [.tmp 4]⟩
theorem p_slices_IndexFunc___api_Side_api_Side : prepFunc Tryz.prog 102 = some c_slices_IndexFunc___api_Side_api_Side ∧ hasBody Tryz.prog 102 = true := ⟨by kernel_rfl, by kernel_rfl⟩
def b_policy_saneMatch : AC :=
 (.seq
 (.reg [⟨some 2, .box 106 6 (.tmp 0), none, []⟩,⟨some 4, .mv (.val (.bool false)), none, []⟩])
 (.seq
 (.seq
 (.reg [⟨some 5, .off 0 (.tmp 2), none, []⟩,⟨some 6, .ld none (.tmp 5), none, []⟩,⟨some 7, .bin .eql (.tmp 6) (.val (.int .i64 1)), none, []⟩])
 (.cond (.tmp 7)
 (.seq
 (.reg [⟨some 8, .off 1 (.tmp 2), none, []⟩,⟨some 9, .ld (some 2) (.tmp 8), none, []⟩,⟨some 10, .callS 79 [(.tmp 9)], none, []⟩,⟨some 11, .mv (.tmp 10), none, []⟩,⟨some 12, .off 3 (.tmp 2), some (11, true), []⟩,⟨some 13, .ld none (.tmp 12), some (11, true), []⟩,⟨some 14, .bin .eql (.tmp 13) (.val (.int .i64 0)), some (11, true), []⟩,⟨some 15, .pick (.tmp 11) (.tmp 14) (.val (.bool false)), none, []⟩,⟨some 4, .mv (.tmp 15), none, []⟩])
 .ret)
 .skip)) (.seq (.seq (.reg [⟨some 16, .off 1 (.tmp 2), none, []⟩,⟨some 17, .ld (some 2) (.tmp 16), none, []⟩,⟨some 18, .bld [(.int .i64 0), (.int .i64 0)] [], none, []⟩,⟨some 19, .eqA true 2 [(0, 0), (1, 0)] (.tmp 17) (.tmp 18), none, []⟩]) (.cond (.tmp 19) (.seq (.reg [⟨some 4, .mv (.val (.bool false)), none, []⟩])
 .ret)
 .skip)) (.seq (.seq (.reg [⟨some 20, .off 0 (.tmp 2), none, []⟩,⟨some 21, .ld none (.tmp 20), none, []⟩]) (.block 0 (.seq (.reg [⟨some 23, .bin .eql (.tmp 21) (.val (.int .i64 0)), none, []⟩,⟨some 22, .mv (.tmp 23), none, []⟩]) (.cond (.tmp 22) (.seq (.reg [⟨some 24, .off 3 (.tmp 2), none, []⟩,⟨some 25, .ld none (.tmp 24), none, []⟩,⟨some 26, .bin .eql (.tmp 25) (.val (.int .i64 0)), none, []⟩,⟨some 4, .mv (.tmp 26), none, []⟩])
 .ret) (.seq (.reg [⟨some 28, .bin .eql (.tmp 21) (.val (.int .i64 2)), none, []⟩,⟨some 27, .mv (.tmp 28), none, []⟩]) (.cond (.tmp 27) (.seq (.reg [⟨some 29, .off 3 (.tmp 2), none, []⟩,⟨some 30, .ld none (.tmp 29), none, []⟩,⟨some 31, .bin .geq (.tmp 30) (.val (.int .i64 1)), none, []⟩,⟨some 32, .mv (.tmp 31), none, []⟩,⟨some 33, .off 3 (.tmp 2), some (32, true), []⟩,⟨some 34, .ld none (.tmp 33), some (32, true), []⟩,⟨some 35, .bin .leq (.tmp 34) (.val (.int .i64 4294967295)), some (32, true), []⟩,⟨some 36, .pick (.tmp 32) (.tmp 35) (.val (.bool false)), none, []⟩,⟨some 4, .mv (.tmp 36), none, []⟩])
 .ret) (.seq (.reg [⟨some 38, .bin .eql (.tmp 21) (.val (.int .i64 3)), none, []⟩,⟨some 37, .mv (.tmp 38), none, []⟩]) (.cond (.tmp 37) (.seq (.reg [⟨some 39, .off 3 (.tmp 2), none, []⟩,⟨some 40, .ld none (.tmp 39), none, []⟩,⟨some 41, .bin .geq (.tmp 40) (.val (.int .i64 0)), none, []⟩,⟨some 42, .mv (.tmp 41), none, []⟩,⟨some 43, .off 3 (.tmp 2), some (42, true), []⟩,⟨some 44, .ld none (.tmp 43), some (42, true), []⟩,⟨some 45, .bin .leq (.tmp 44) (.val (.int .i64 32)), some (42, true), []⟩,⟨some 46, .pick (.tmp 42) (.tmp 45) (.val (.bool false)), none, []⟩,⟨some 4, .mv (.tmp 46), none, []⟩])
 .ret) (.seq (.reg [⟨some 48, .bin .eql (.tmp 21) (.val (.int .i64 4)), none, []⟩,⟨some 47, .mv (.tmp 48), none, []⟩]) (.cond (.tmp 47) (.seq (.reg [⟨some 49, .mv (.tmp 1), none, []⟩,⟨some 50, .un .not (.tmp 49), none, []⟩,⟨some 51, .mv (.tmp 50), none, []⟩,⟨some 52, .off 3 (.tmp 2), some (51, true), []⟩,⟨some 53, .ld none (.tmp 52), some (51, true), []⟩,⟨some 54, .bin .geq (.tmp 53) (.val (.int .i64 0)), some (51, true), []⟩,⟨some 55, .pick (.tmp 51) (.tmp 54) (.val (.bool false)), none, []⟩,⟨some 56, .mv (.tmp 55), none, []⟩,⟨some 57, .off 3 (.tmp 2), some (56, true), []⟩,⟨some 58, .ld none (.tmp 57), some (56, true), []⟩,⟨some 59, .bin .leq (.tmp 58) (.val (.int .i64 3)), some (56, true), []⟩,⟨some 60, .pick (.tmp 56) (.tmp 59) (.val (.bool false)), none, []⟩,⟨some 4, .mv (.tmp 60), none, []⟩])
 .ret)
 .skip)))))))))) (.seq (.reg [⟨some 4, .mv (.val (.bool false)), none, []⟩])
 .ret)))))
def c_policy_saneMatch : AF := ⟨b_policy_saneMatch, 61, [.tmp 4]⟩
theorem p_policy_saneMatch : prepFunc Tryz.prog 103 = some c_policy_saneMatch ∧ hasBody Tryz.prog 103 = true := ⟨by kernel_rfl, by kernel_rfl⟩
def b_policy_saneAct : AC :=
 (.seq
 (.reg [⟨some 2, .box 106 6 (.tmp 0), none, []⟩,⟨some 4, .mv (.val (.bool false)), none, []⟩])
 (.seq
 (.seq
 (.reg [⟨some 5, .off 4 (.tmp 2), none, []⟩,⟨some 6, .ld none (.tmp 5), none, []⟩])
 (.block 0
 (.seq
 (.reg [⟨some 8, .bin .eql (.tmp 6) (.val (.int .i64 0)), none, []⟩,⟨some 7, .mv (.tmp 8), none, []⟩])
 (.cond (.tmp 7)
 (.seq
 (.reg [⟨some 9, .off 5 (.tmp 2), none, []⟩,⟨some 10, .ld none (.tmp 9), none, []⟩,⟨some 11, .bin .eql (.tmp 10) (.val (.int .i64 0)), none, []⟩,⟨some 4, .mv (.tmp 11), none, []⟩])
 .ret) (.seq (.reg [⟨some 13, .bin .eql (.tmp 6) (.val (.int .i64 1)), none, []⟩,⟨some 12, .mv (.tmp 13), none, []⟩]) (.cond (.tmp 12) (.seq (.reg [⟨some 14, .mv (.tmp 1), none, []⟩,⟨some 15, .un .not (.tmp 14), none, []⟩,⟨some 16, .mv (.tmp 15), none, []⟩,⟨some 17, .off 5 (.tmp 2), some (16, true), []⟩,⟨some 18, .ld none (.tmp 17), some (16, true), []⟩,⟨some 19, .bin .eql (.tmp 18) (.val (.int .i64 0)), some (16, true), []⟩,⟨some 20, .pick (.tmp 16) (.tmp 19) (.val (.bool false)), none, []⟩,⟨some 4, .mv (.tmp 20), none, []⟩])
 .ret) (.seq (.reg [⟨some 22, .bin .eql (.tmp 6) (.val (.int .i64 2)), none, []⟩,⟨some 21, .mv (.tmp 22), none, []⟩]) (.cond (.tmp 21) (.seq (.reg [⟨some 23, .mv (.tmp 1), none, []⟩,⟨some 24, .mv (.tmp 23), none, []⟩,⟨some 25, .off 5 (.tmp 2), some (24, true), []⟩,⟨some 26, .ld none (.tmp 25), some (24, true), []⟩,⟨some 27, .bin .geq (.tmp 26) (.val (.int .i64 1)), some (24, true), []⟩,⟨some 28, .pick (.tmp 24) (.tmp 27) (.val (.bool false)), none, []⟩,⟨some 29, .mv (.tmp 28), none, []⟩,⟨some 30, .off 5 (.tmp 2), some (29, true), []⟩,⟨some 31, .ld none (.tmp 30), some (29, true), []⟩,⟨some 32, .bin .lss (.tmp 31) (.val (.int .i64 400)), some (29, true), []⟩,⟨some 33, .pick (.tmp 29) (.tmp 32) (.val (.bool false)), none, []⟩,⟨some 4, .mv (.tmp 33), none, []⟩])
 .ret) (.seq (.reg [⟨some 35, .bin .eql (.tmp 6) (.val (.int .i64 3)), none, []⟩,⟨some 34, .mv (.tmp 35), none, []⟩]) (.cond (.tmp 34) (.seq (.reg [⟨some 36, .mv (.tmp 1), none, []⟩,⟨some 37, .un .not (.tmp 36), none, []⟩,⟨some 38, .mv (.tmp 37), none, []⟩,⟨some 39, .off 5 (.tmp 2), some (38, true), []⟩,⟨some 40, .ld none (.tmp 39), some (38, true), []⟩,⟨some 41, .bin .geq (.tmp 40) (.val (.int .i64 1)), some (38, true), []⟩,⟨some 42, .pick (.tmp 38) (.tmp 41) (.val (.bool false)), none, []⟩,⟨some 43, .mv (.tmp 42), none, []⟩,⟨some 44, .off 5 (.tmp 2), some (43, true), []⟩,⟨some 45, .ld none (.tmp 44), some (43, true), []⟩,⟨some 46, .bin .leq (.tmp 45) (.val (.int .i64 8)), some (43, true), []⟩,⟨some 47, .pick (.tmp 43) (.tmp 46) (.val (.bool false)), none, []⟩,⟨some 4, .mv (.tmp 47), none, []⟩])
 .ret)
 .skip)))))))))) (.seq (.reg [⟨some 4, .mv (.val (.bool false)), none, []⟩])
 .ret)))
def c_policy_saneAct : AF := ⟨b_policy_saneAct, 48, [.tmp 4]⟩
theorem p_policy_saneAct : prepFunc Tryz.prog 104 = some c_policy_saneAct ∧ hasBody Tryz.prog 104 = true := ⟨by kernel_rfl, by kernel_rfl⟩
def tab : Tab := [(3, c_ridgewaylaw17_SessionIs), (4, c_ridgewaylaw17_awake), (5, c_ridgewaylaw17_short), (6, c_session_Start), (7, c_ridgewayref17_Start), (8, c_session_Take), (9, c_ridgewayref17_Take), (10, c_session_Tick), (11, c_ridgewayref17_Tick), (12, c_session_Stop), (13, c_ridgewayref17_Stop), (14, c_ridgewayref03_SameAll), (15, c_session_Sane), (16, c_ridgewayref17_Sane), (17, c_session_Hello), (18, c_ridgewayref17_Hello), (19, c_ridgewaylaw17_node), (20, c_ridgewaylaw17_step), (21, c_ridgewayref12_Few), (22, c_session_sane), (23, c_session_there), (24, c_open_Put), (25, c_ridgewayref17_As), (26, c_ridgewayref06_Put), (27, c_msg_Sane), (28, c_session_does), (29, c_ridgewayref03_Sane), (30, c_ridgewayref17_opens), (31, c_ridgewayref17_ends), (32, c_session_second), (33, c_note_Sane), (34, c_note_Put), (35, c_ridgewayref05_Put), (36, c_ridgewayref03_Same), (37, c_session_third), (38, c_role_Mine), (39, c_ridgewayref12_Sane), (40, c_ridgewayref13_Mine), (41, c_conf_Sane), (42, c_open_Sane), (43, c_open_labelled), (44, c_octet_Put), (45, c_open_short), (46, c_ridgewayref06_Sane), (47, c_ridgewayref01_Put), (48, c_ridgewayref06_two), (49, c_msg_Least), (50, c_msg_wrong), (51, c_session_does_1), (52, c_session_turn__sent), (53, c_session_turn__confirm), (54, c_session_turn__up), (55, c_ridgewayref03_fits), (56, c_ridgewayref06_Get), (57, c_ridgewayref13_Pairs), (58, c_session_alive), (59, c_ridgewayref05_Sane), (60, c_ridgewayref12_Hold), (61, c_ridgewayref12_owns), (62, c_ridgewayref12_sides), (63, c_conf_saneNumber), (64, c_conf_saneHold), (65, c_conf_saneCap), (66, c_conf_saneOwn), (67, c_conf_saneSides), (68, c_open_number), (69, c_open_holds), (70, c_session_turn__end), (71, c_open_Get), (72, c_role_Pairs), (73, c_ridgewayref03_Least), (74, c_ridgewayref06_bad), (75, c_ridgewayref06_reader__params), (76, c_ridgewayref01_Get), (77, c_ridgewayref02_Sane), (78, c_ridgewayref12_rules), (79, c_prefix_Sane), (80, c_slices_Contains___api_Prefix_api_Prefix), (81, c_conf_taken), (82, c_conf_saneRules), (83, c_octet_Get), (84, c_open_read), (85, c_open_fault), (86, c_ridgewayref06_reader__wrong), (87, c_ridgewayref06_reader__caps), (88, c_ridgewayref02_Mask), (89, c_ridgewayref10_Sane), (90, c_prefix_Mask), (91, c_slices_Index___api_Prefix_api_Prefix), (92, c_slices_ContainsFunc___api_Side_api_Side), (93, c_conf_taken_1), (94, c_policy_Sane), (95, c_octet_Take), (96, c_open_each), (97, c_open_read_1), (98, c_open_said__take), (99, c_ridgewayref06_reader__one), (100, c_ridgewayref02_size), (101, c_ridgewayref10_match), (102, c_slices_IndexFunc___api_Side_api_Side), (103, c_policy_saneMatch), (104, c_policy_saneAct)]
theorem tab_ok : Tab.Ok Tryz.prog tab := ⟨p_ridgewaylaw17_SessionIs, p_ridgewaylaw17_awake, p_ridgewaylaw17_short, p_session_Start, p_ridgewayref17_Start, p_session_Take, p_ridgewayref17_Take, p_session_Tick, p_ridgewayref17_Tick, p_session_Stop, p_ridgewayref17_Stop, p_ridgewayref03_SameAll, p_session_Sane, p_ridgewayref17_Sane, p_session_Hello, p_ridgewayref17_Hello, p_ridgewaylaw17_node, p_ridgewaylaw17_step, p_ridgewayref12_Few, p_session_sane, p_session_there, p_open_Put, p_ridgewayref17_As, p_ridgewayref06_Put, p_msg_Sane, p_session_does, p_ridgewayref03_Sane, p_ridgewayref17_opens, p_ridgewayref17_ends, p_session_second, p_note_Sane, p_note_Put, p_ridgewayref05_Put, p_ridgewayref03_Same, p_session_third, p_role_Mine, p_ridgewayref12_Sane, p_ridgewayref13_Mine, p_conf_Sane, p_open_Sane, p_open_labelled, p_octet_Put, p_open_short, p_ridgewayref06_Sane, p_ridgewayref01_Put, p_ridgewayref06_two, p_msg_Least, p_msg_wrong, p_session_does_1, p_session_turn__sent, p_session_turn__confirm, p_session_turn__up, p_ridgewayref03_fits, p_ridgewayref06_Get, p_ridgewayref13_Pairs, p_session_alive, p_ridgewayref05_Sane, p_ridgewayref12_Hold, p_ridgewayref12_owns, p_ridgewayref12_sides, p_conf_saneNumber, p_conf_saneHold, p_conf_saneCap, p_conf_saneOwn, p_conf_saneSides, p_open_number, p_open_holds, p_session_turn__end, p_open_Get, p_role_Pairs, p_ridgewayref03_Least, p_ridgewayref06_bad, p_ridgewayref06_reader__params, p_ridgewayref01_Get, p_ridgewayref02_Sane, p_ridgewayref12_rules, p_prefix_Sane, p_slices_Contains___api_Prefix_api_Prefix, p_conf_taken, p_conf_saneRules, p_octet_Get, p_open_read, p_open_fault, p_ridgewayref06_reader__wrong, p_ridgewayref06_reader__caps, p_ridgewayref02_Mask, p_ridgewayref10_Sane, p_prefix_Mask, p_slices_Index___api_Prefix_api_Prefix, p_slices_ContainsFunc___api_Side_api_Side, p_conf_taken_1, p_policy_Sane, p_octet_Take, p_open_each, p_open_read_1, p_open_said__take, p_ridgewayref06_reader__one, p_ridgewayref02_size, p_ridgewayref10_match, p_slices_IndexFunc___api_Side_api_Side, p_policy_saneMatch, p_policy_saneAct, trivial⟩
end Go.Proofs.YtibploaibljcmaaGreatDoor
