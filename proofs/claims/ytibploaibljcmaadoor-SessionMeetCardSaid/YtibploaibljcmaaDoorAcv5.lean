/- Plain forms of functions. -/
import Derived.Test.YtibploaibljcmaaDoorAv16
import Derived.Test.YtibploaibljcmaaDoorProg
import Derived.KernelRfl
namespace Go.Proofs.YtibploaibljcmaaDoor
set_option maxRecDepth 100000
set_option maxHeartbeats 1000000
def b_ridgewaylaw17_SessionMeet : AC :=
 (.seq
 (.reg [
 ⟨(some 12), .mv (.val (.bool false)), none, []⟩])
 (.seq
 (.reg [
 ⟨(some 30), .callS 8 [], none, []⟩,
 ⟨(some 13), .mv (.tmp 30), none, []⟩])
 (.seq
 (.reg [
 ⟨(some 31), .mv (.tmp 0), none, []⟩,
 ⟨(some 32), .bin .and (.tmp 31) (.val (.int .i64 65535)), none, []⟩,
 ⟨(some 33), .bin .add (.val (.int .i64 1)) (.tmp 32), none, []⟩,
 ⟨(some 34), .mv (.tmp 1), none, []⟩,
 ⟨(some 35), .bin .and (.tmp 34) (.val (.int .i64 65535)), none, []⟩,
 ⟨(some 36), .bin .add (.val (.int .i64 70000)) (.tmp 35), none, []⟩,
 ⟨(some 37), .mv (.tmp 2), none, []⟩,
 ⟨(some 38), .bin .and (.tmp 37) (.val (.int .i64 1)), none, []⟩,
 ⟨(some 39), .bin .add (.val (.int .i64 1)) (.tmp 38), none, []⟩,
 ⟨(some 40), .mv (.tmp 2), none, []⟩,
 ⟨(some 41), .bin .shr (.tmp 40) (.val (.int .u64 1)), none, []⟩,
 ⟨(some 42), .bin .and (.tmp 41) (.val (.int .i64 1)), none, []⟩,
 ⟨(some 43), .bin .add (.tmp 39) (.tmp 42), none, []⟩,
 ⟨(some 44), .mv (.tmp 4), none, []⟩,
 ⟨(some 45), .callS 15 [(.tmp 33), (.tmp 36), (.tmp 43), (.tmp 44)], none, []⟩,
 ⟨(some 14), .box 27 6 (.val (.agg [(.int .i64 0), (.int .i64 0), (.int .i64 0), (.int .i64 0), (.slice .full 0 []), (.slice .full 0 [])])), none, []⟩,
 ⟨none, .st 6 (.tmp 14) (.tmp 45), none, []⟩])
 (.seq
 (.reg [
 ⟨(some 46), .off 5 (.tmp 14), none, []⟩,
 ⟨(some 47), .ld none (.tmp 46), none, []⟩,
 ⟨(some 48), .idxA 4 (.tmp 47) (.val (.int .i64 0)), none, []⟩,
 ⟨(some 49), .off 0 (.tmp 48), none, []⟩,
 ⟨(some 50), .ld none (.tmp 49), none, []⟩,
 ⟨(some 51), .off 0 (.tmp 14), none, []⟩,
 ⟨(some 52), .ld none (.tmp 51), none, []⟩,
 ⟨(some 53), .mv (.tmp 3), none, []⟩,
 ⟨(some 54), .bin .and (.tmp 53) (.val (.int .i64 1)), none, []⟩,
 ⟨(some 55), .bin .add (.val (.int .i64 1)) (.tmp 54), none, []⟩,
 ⟨(some 56), .mv (.tmp 3), none, []⟩,
 ⟨(some 57), .bin .shr (.tmp 56) (.val (.int .u64 1)), none, []⟩,
 ⟨(some 58), .bin .and (.tmp 57) (.val (.int .i64 1)), none, []⟩,
 ⟨(some 59), .bin .add (.tmp 55) (.tmp 58), none, []⟩,
 ⟨(some 60), .mv (.tmp 5), none, []⟩,
 ⟨(some 61), .call 15 [(.tmp 50), (.tmp 52), (.tmp 59), (.tmp 60)], none, []⟩,
 ⟨(some 15), .box 27 6 (.val (.agg [(.int .i64 0), (.int .i64 0), (.int .i64 0), (.int .i64 0), (.slice .full 0 []), (.slice .full 0 [])])), none, []⟩,
 ⟨none, .st 6 (.tmp 15) (.tmp 61), none, []⟩])
 (.seq
 (.seq
 (.reg [
 ⟨(some 62), .ld (some 6) (.tmp 14), none, []⟩,
 ⟨(some 63), .callS 16 [(.tmp 62)], none, []⟩,
 ⟨(some 64), .un .not (.tmp 63), none, []⟩,
 ⟨(some 65), .mv (.tmp 64), none, []⟩,
 ⟨(some 66), .ld (some 6) (.tmp 15), some (65, false), []⟩,
 ⟨(some 67), .callS 16 [(.tmp 66)], some (65, false), []⟩,
 ⟨(some 68), .un .not (.tmp 67), some (65, false), []⟩,
 ⟨(some 69), .pick (.tmp 65) (.val (.bool true)) (.tmp 68), none, []⟩])
 (.cond (.tmp 69)
 (.seq
 (.reg [
 ⟨(some 70), .mv (.tmp 13), none, []⟩,
 ⟨(some 12), .mv (.tmp 70), none, []⟩])
 .ret)
 .skip))
 (.seq
 (.reg [
 ⟨(some 72), .bld [(.int .i64 0), (.int .i64 0), (.int .i64 0), (.int .i64 0)] [], none, []⟩,
 ⟨(some 73), .ld (some 6) (.tmp 14), none, []⟩,
 ⟨(some 74), .callS 12 [(.tmp 72), (.tmp 73), (.val (.int .i64 0))], none, []⟩,
 ⟨(some 71), .mv (.tmp 74), none, []⟩,
 ⟨(some 75), .ext (.tmp 71) 0, none, []⟩,
 ⟨(some 76), .ext (.tmp 71) 1, none, []⟩,
 ⟨(some 16), .box 23 4 (.val (.agg [(.int .i64 0), (.int .i64 0), (.int .i64 0), (.int .i64 0)])), none, []⟩,
 ⟨none, .st 4 (.tmp 16) (.tmp 75), none, []⟩,
 ⟨(some 17), .mv (.tmp 76), none, []⟩])
 (.seq
 (.reg [
 ⟨(some 78), .bld [(.int .i64 0), (.int .i64 0), (.int .i64 0), (.int .i64 0)] [], none, []⟩,
 ⟨(some 79), .ld (some 6) (.tmp 15), none, []⟩,
 ⟨(some 80), .callS 12 [(.tmp 78), (.tmp 79), (.val (.int .i64 0))], none, []⟩,
 ⟨(some 77), .mv (.tmp 80), none, []⟩,
 ⟨(some 81), .ext (.tmp 77) 0, none, []⟩,
 ⟨(some 82), .ext (.tmp 77) 1, none, []⟩,
 ⟨(some 18), .box 23 4 (.val (.agg [(.int .i64 0), (.int .i64 0), (.int .i64 0), (.int .i64 0)])), none, []⟩,
 ⟨none, .st 4 (.tmp 18) (.tmp 81), none, []⟩,
 ⟨(some 19), .mv (.tmp 82), none, []⟩])
 (.seq
 (.reg [
 ⟨(some 84), .ld (some 4) (.tmp 16), none, []⟩,
 ⟨(some 85), .ld (some 6) (.tmp 14), none, []⟩,
 ⟨(some 86), .mv (.tmp 19), none, []⟩,
 ⟨(some 87), .callS 17 [(.tmp 84), (.tmp 85), (.val (.int .i64 0)), (.tmp 86)], none, []⟩,
 ⟨(some 83), .mv (.tmp 87), none, []⟩,
 ⟨(some 88), .ext (.tmp 83) 0, none, []⟩,
 ⟨(some 89), .ext (.tmp 83) 1, none, []⟩,
 ⟨(some 20), .box 23 4 (.val (.agg [(.int .i64 0), (.int .i64 0), (.int .i64 0), (.int .i64 0)])), none, []⟩,
 ⟨none, .st 4 (.tmp 20) (.tmp 88), none, []⟩,
 ⟨(some 21), .mv (.tmp 89), none, []⟩])
 (.seq
 (.reg [
 ⟨(some 91), .ld (some 4) (.tmp 18), none, []⟩,
 ⟨(some 92), .ld (some 6) (.tmp 15), none, []⟩,
 ⟨(some 93), .mv (.tmp 17), none, []⟩,
 ⟨(some 94), .callS 17 [(.tmp 91), (.tmp 92), (.val (.int .i64 0)), (.tmp 93)], none, []⟩,
 ⟨(some 90), .mv (.tmp 94), none, []⟩,
 ⟨(some 95), .ext (.tmp 90) 0, none, []⟩,
 ⟨(some 96), .ext (.tmp 90) 1, none, []⟩,
 ⟨(some 22), .box 23 4 (.val (.agg [(.int .i64 0), (.int .i64 0), (.int .i64 0), (.int .i64 0)])), none, []⟩,
 ⟨none, .st 4 (.tmp 22) (.tmp 95), none, []⟩,
 ⟨(some 23), .mv (.tmp 96), none, []⟩])
 (.seq
 (.reg [
 ⟨(some 98), .ld (some 4) (.tmp 20), none, []⟩,
 ⟨(some 99), .ld (some 6) (.tmp 14), none, []⟩,
 ⟨(some 100), .mv (.tmp 23), none, []⟩,
 ⟨(some 101), .callS 17 [(.tmp 98), (.tmp 99), (.val (.int .i64 0)), (.tmp 100)], none, []⟩,
 ⟨(some 97), .mv (.tmp 101), none, []⟩,
 ⟨(some 102), .ext (.tmp 97) 0, none, []⟩,
 ⟨(some 103), .ext (.tmp 97) 1, none, []⟩,
 ⟨(some 24), .box 23 4 (.val (.agg [(.int .i64 0), (.int .i64 0), (.int .i64 0), (.int .i64 0)])), none, []⟩,
 ⟨none, .st 4 (.tmp 24) (.tmp 102), none, []⟩,
 ⟨(some 25), .mv (.tmp 103), none, []⟩])
 (.seq
 (.reg [
 ⟨(some 105), .ld (some 4) (.tmp 22), none, []⟩,
 ⟨(some 106), .ld (some 6) (.tmp 15), none, []⟩,
 ⟨(some 107), .mv (.tmp 21), none, []⟩,
 ⟨(some 108), .callS 17 [(.tmp 105), (.tmp 106), (.val (.int .i64 0)), (.tmp 107)], none, []⟩,
 ⟨(some 104), .mv (.tmp 108), none, []⟩,
 ⟨(some 109), .ext (.tmp 104) 0, none, []⟩,
 ⟨(some 110), .ext (.tmp 104) 1, none, []⟩,
 ⟨(some 26), .box 23 4 (.val (.agg [(.int .i64 0), (.int .i64 0), (.int .i64 0), (.int .i64 0)])), none, []⟩,
 ⟨none, .st 4 (.tmp 26) (.tmp 109), none, []⟩,
 ⟨(some 27), .mv (.tmp 110), none, []⟩])
 (.seq
 (.seq
 (.reg [
 ⟨(some 111), .off 5 (.tmp 14), none, []⟩,
 ⟨(some 112), .ld none (.tmp 111), none, []⟩,
 ⟨(some 113), .idxA 4 (.tmp 112) (.val (.int .i64 0)), none, []⟩,
 ⟨(some 114), .off 1 (.tmp 113), none, []⟩,
 ⟨(some 115), .ld none (.tmp 114), none, []⟩,
 ⟨(some 116), .off 5 (.tmp 15), none, []⟩,
 ⟨(some 117), .ld none (.tmp 116), none, []⟩,
 ⟨(some 118), .idxA 4 (.tmp 117) (.val (.int .i64 0)), none, []⟩,
 ⟨(some 119), .off 1 (.tmp 118), none, []⟩,
 ⟨(some 120), .ld none (.tmp 119), none, []⟩,
 ⟨(some 121), .bin .add (.tmp 115) (.tmp 120), none, []⟩,
 ⟨(some 122), .bin .neq (.tmp 121) (.val (.int .i64 4)), none, []⟩])
 (.cond (.tmp 122)
 (.seq
 (.seq
 (.reg [
 ⟨(some 123), .mv (.tmp 21), none, []⟩,
 ⟨(some 124), .len (.tmp 123), none, []⟩,
 ⟨(some 125), .bin .neq (.tmp 124) (.val (.int .i64 1)), none, []⟩])
 (.cond (.tmp 125)
 (.seq
 (.reg [
 ⟨(some 12), .mv (.val (.bool false)), none, []⟩])
 .ret)
 .skip))
 (.seq
 (.reg [
 ⟨(some 127), .mv (.tmp 21), none, []⟩,
 ⟨(some 128), .idxA 2 (.tmp 127) (.val (.int .i64 0)), none, []⟩,
 ⟨(some 129), .ld (some 2) (.tmp 128), none, []⟩,
 ⟨(some 130), .callS 18 [(.tmp 129)], none, []⟩,
 ⟨(some 126), .mv (.tmp 130), none, []⟩,
 ⟨(some 131), .ext (.tmp 126) 0, none, []⟩,
 ⟨(some 132), .ext (.tmp 126) 1, none, []⟩,
 ⟨(some 28), .box 50 3 (.val (.agg [(.int .i64 0), (.int .i64 0), (.slice .full 0 [])])), none, []⟩,
 ⟨none, .st 3 (.tmp 28) (.tmp 131), none, []⟩,
 ⟨(some 29), .mv (.tmp 132), none, []⟩])
 (.seq
 (.reg [
 ⟨(some 133), .mv (.tmp 13), none, []⟩,
 ⟨(some 134), .mv (.tmp 133), none, []⟩,
 ⟨(some 135), .mv (.tmp 29), some (134, true), []⟩,
 ⟨(some 136), .pick (.tmp 134) (.tmp 135) (.val (.bool false)), none, []⟩,
 ⟨(some 137), .mv (.tmp 136), none, []⟩,
 ⟨(some 138), .off 0 (.tmp 28), some (137, true), []⟩,
 ⟨(some 139), .ld none (.tmp 138), some (137, true), []⟩,
 ⟨(some 140), .bin .eql (.tmp 139) (.val (.int .i64 2)), some (137, true), []⟩,
 ⟨(some 141), .pick (.tmp 137) (.tmp 140) (.val (.bool false)), none, []⟩,
 ⟨(some 142), .mv (.tmp 141), none, []⟩,
 ⟨(some 143), .off 1 (.tmp 28), some (142, true), []⟩,
 ⟨(some 144), .ld none (.tmp 143), some (142, true), []⟩,
 ⟨(some 145), .bin .eql (.tmp 144) (.val (.int .i64 11)), some (142, true), []⟩,
 ⟨(some 146), .pick (.tmp 142) (.tmp 145) (.val (.bool false)), none, []⟩,
 ⟨(some 147), .mv (.tmp 146), none, []⟩,
 ⟨(some 148), .off 0 (.tmp 24), some (147, true), []⟩,
 ⟨(some 149), .ld none (.tmp 148), some (147, true), []⟩,
 ⟨(some 150), .bin .eql (.tmp 149) (.val (.int .i64 0)), some (147, true), []⟩,
 ⟨(some 151), .pick (.tmp 147) (.tmp 150) (.val (.bool false)), none, []⟩,
 ⟨(some 152), .mv (.tmp 151), none, []⟩,
 ⟨(some 153), .off 0 (.tmp 26), some (152, true), []⟩,
 ⟨(some 154), .ld none (.tmp 153), some (152, true), []⟩,
 ⟨(some 155), .bin .eql (.tmp 154) (.val (.int .i64 0)), some (152, true), []⟩,
 ⟨(some 156), .pick (.tmp 152) (.tmp 155) (.val (.bool false)), none, []⟩,
 ⟨(some 157), .mv (.tmp 156), none, []⟩,
 ⟨(some 158), .mv (.tmp 23), some (157, true), []⟩,
 ⟨(some 159), .len (.tmp 158), some (157, true), []⟩,
 ⟨(some 160), .bin .eql (.tmp 159) (.val (.int .i64 1)), some (157, true), []⟩,
 ⟨(some 161), .pick (.tmp 157) (.tmp 160) (.val (.bool false)), none, []⟩,
 ⟨(some 162), .mv (.tmp 161), none, []⟩,
 ⟨(some 163), .mv (.tmp 23), some (162, true), []⟩,
 ⟨(some 164), .idxA 2 (.tmp 163) (.val (.int .i64 0)), some (162, true), []⟩,
 ⟨(some 165), .off 0 (.tmp 164), some (162, true), []⟩,
 ⟨(some 166), .ld none (.tmp 165), some (162, true), []⟩,
 ⟨(some 167), .bin .eql (.tmp 166) (.val (.int .i64 3)), some (162, true), []⟩,
 ⟨(some 168), .pick (.tmp 162) (.tmp 167) (.val (.bool false)), none, []⟩,
 ⟨(some 12), .mv (.tmp 168), none, []⟩])
 .ret)))
 .skip))
 (.seq
 (.reg [
 ⟨(some 169), .mv (.tmp 13), none, []⟩,
 ⟨(some 170), .mv (.tmp 169), none, []⟩,
 ⟨(some 171), .off 0 (.tmp 24), some (170, true), []⟩,
 ⟨(some 172), .ld none (.tmp 171), some (170, true), []⟩,
 ⟨(some 173), .bin .eql (.tmp 172) (.val (.int .i64 3)), some (170, true), []⟩,
 ⟨(some 174), .pick (.tmp 170) (.tmp 173) (.val (.bool false)), none, []⟩,
 ⟨(some 175), .mv (.tmp 174), none, []⟩,
 ⟨(some 176), .off 0 (.tmp 26), some (175, true), []⟩,
 ⟨(some 177), .ld none (.tmp 176), some (175, true), []⟩,
 ⟨(some 178), .bin .eql (.tmp 177) (.val (.int .i64 3)), some (175, true), []⟩,
 ⟨(some 179), .pick (.tmp 175) (.tmp 178) (.val (.bool false)), none, []⟩,
 ⟨(some 180), .mv (.tmp 179), none, []⟩,
 ⟨(some 181), .off 1 (.tmp 24), some (180, true), []⟩,
 ⟨(some 182), .ld none (.tmp 181), some (180, true), []⟩,
 ⟨(some 183), .mv (.tmp 4), some (180, true), []⟩,
 ⟨(some 184), .mv (.tmp 5), some (180, true), []⟩,
 ⟨(some 185), .mn (.tmp 183) (.tmp 184), some (180, true), []⟩,
 ⟨(some 186), .bin .eql (.tmp 182) (.tmp 185), some (180, true), []⟩,
 ⟨(some 187), .pick (.tmp 180) (.tmp 186) (.val (.bool false)), none, []⟩,
 ⟨(some 188), .mv (.tmp 187), none, []⟩,
 ⟨(some 189), .off 1 (.tmp 26), some (188, true), []⟩,
 ⟨(some 190), .ld none (.tmp 189), some (188, true), []⟩,
 ⟨(some 191), .off 1 (.tmp 24), some (188, true), []⟩,
 ⟨(some 192), .ld none (.tmp 191), some (188, true), []⟩,
 ⟨(some 193), .bin .eql (.tmp 190) (.tmp 192), some (188, true), []⟩,
 ⟨(some 194), .pick (.tmp 188) (.tmp 193) (.val (.bool false)), none, []⟩,
 ⟨(some 195), .mv (.tmp 194), none, []⟩,
 ⟨(some 196), .mv (.tmp 25), some (195, true), []⟩,
 ⟨(some 197), .len (.tmp 196), some (195, true), []⟩,
 ⟨(some 198), .bin .eql (.tmp 197) (.val (.int .i64 0)), some (195, true), []⟩,
 ⟨(some 199), .pick (.tmp 195) (.tmp 198) (.val (.bool false)), none, []⟩,
 ⟨(some 200), .mv (.tmp 199), none, []⟩,
 ⟨(some 201), .mv (.tmp 27), some (200, true), []⟩,
 ⟨(some 202), .len (.tmp 201), some (200, true), []⟩,
 ⟨(some 203), .bin .eql (.tmp 202) (.val (.int .i64 0)), some (200, true), []⟩,
 ⟨(some 204), .pick (.tmp 200) (.tmp 203) (.val (.bool false)), none, []⟩,
 ⟨(some 12), .mv (.tmp 204), none, []⟩])
 .ret)))))))))))))
def c_ridgewaylaw17_SessionMeet : AF := ⟨b_ridgewaylaw17_SessionMeet, 205, [.tmp 12]⟩
theorem p_ridgewaylaw17_SessionMeet : prepFunc Tryd.prog 4 = some c_ridgewaylaw17_SessionMeet ∧ hasBody Tryd.prog 4 = true := ⟨by kernel_rfl, by kernel_rfl⟩
def b_ridgewaylaw17_awake : AC :=
 (.seq
 (.reg [
 ⟨(some 0), .mv (.val (.bool false)), none, []⟩])
 (.seq
 (.reg [
 ⟨(some 15), .callS 15 [(.val (.int .i64 1)), (.val (.int .i64 2)), (.val (.int .i64 1)), (.val (.int .i64 90))], none, []⟩,
 ⟨(some 1), .box 27 6 (.val (.agg [(.int .i64 0), (.int .i64 0), (.int .i64 0), (.int .i64 0), (.slice .full 0 []), (.slice .full 0 [])])), none, []⟩,
 ⟨none, .st 6 (.tmp 1) (.tmp 15), none, []⟩])
 (.seq
 (.reg [
 ⟨(some 16), .callS 15 [(.val (.int .i64 2)), (.val (.int .i64 1)), (.val (.int .i64 3)), (.val (.int .i64 9))], none, []⟩,
 ⟨(some 2), .box 27 6 (.val (.agg [(.int .i64 0), (.int .i64 0), (.int .i64 0), (.int .i64 0), (.slice .full 0 []), (.slice .full 0 [])])), none, []⟩,
 ⟨none, .st 6 (.tmp 2) (.tmp 16), none, []⟩])
 (.seq
 (.reg [
 ⟨(some 18), .bld [(.int .i64 0), (.int .i64 0), (.int .i64 0), (.int .i64 0)] [], none, []⟩,
 ⟨(some 19), .ld (some 6) (.tmp 1), none, []⟩,
 ⟨(some 20), .callS 12 [(.tmp 18), (.tmp 19), (.val (.int .i64 0))], none, []⟩,
 ⟨(some 17), .mv (.tmp 20), none, []⟩,
 ⟨(some 21), .ext (.tmp 17) 0, none, []⟩,
 ⟨(some 22), .ext (.tmp 17) 1, none, []⟩,
 ⟨(some 3), .box 23 4 (.val (.agg [(.int .i64 0), (.int .i64 0), (.int .i64 0), (.int .i64 0)])), none, []⟩,
 ⟨none, .st 4 (.tmp 3) (.tmp 21), none, []⟩,
 ⟨(some 4), .mv (.tmp 22), none, []⟩])
 (.seq
 (.reg [
 ⟨(some 24), .bld [(.int .i64 0), (.int .i64 0), (.int .i64 0), (.int .i64 0)] [], none, []⟩,
 ⟨(some 25), .ld (some 6) (.tmp 2), none, []⟩,
 ⟨(some 26), .callS 12 [(.tmp 24), (.tmp 25), (.val (.int .i64 0))], none, []⟩,
 ⟨(some 23), .mv (.tmp 26), none, []⟩,
 ⟨(some 27), .ext (.tmp 23) 0, none, []⟩,
 ⟨(some 28), .ext (.tmp 23) 1, none, []⟩,
 ⟨(some 5), .box 23 4 (.val (.agg [(.int .i64 0), (.int .i64 0), (.int .i64 0), (.int .i64 0)])), none, []⟩,
 ⟨none, .st 4 (.tmp 5) (.tmp 27), none, []⟩,
 ⟨(some 6), .mv (.tmp 28), none, []⟩])
 (.seq
 (.reg [
 ⟨(some 30), .ld (some 4) (.tmp 3), none, []⟩,
 ⟨(some 31), .ld (some 6) (.tmp 1), none, []⟩,
 ⟨(some 32), .mv (.tmp 6), none, []⟩,
 ⟨(some 33), .callS 17 [(.tmp 30), (.tmp 31), (.val (.int .i64 0)), (.tmp 32)], none, []⟩,
 ⟨(some 29), .mv (.tmp 33), none, []⟩,
 ⟨(some 34), .ext (.tmp 29) 0, none, []⟩,
 ⟨(some 35), .ext (.tmp 29) 1, none, []⟩,
 ⟨(some 7), .box 23 4 (.val (.agg [(.int .i64 0), (.int .i64 0), (.int .i64 0), (.int .i64 0)])), none, []⟩,
 ⟨none, .st 4 (.tmp 7) (.tmp 34), none, []⟩,
 ⟨(some 8), .mv (.tmp 35), none, []⟩])
 (.seq
 (.reg [
 ⟨(some 37), .ld (some 4) (.tmp 5), none, []⟩,
 ⟨(some 38), .ld (some 6) (.tmp 2), none, []⟩,
 ⟨(some 39), .mv (.tmp 4), none, []⟩,
 ⟨(some 40), .callS 17 [(.tmp 37), (.tmp 38), (.val (.int .i64 0)), (.tmp 39)], none, []⟩,
 ⟨(some 36), .mv (.tmp 40), none, []⟩,
 ⟨(some 41), .ext (.tmp 36) 0, none, []⟩,
 ⟨(some 42), .ext (.tmp 36) 1, none, []⟩,
 ⟨(some 9), .box 23 4 (.val (.agg [(.int .i64 0), (.int .i64 0), (.int .i64 0), (.int .i64 0)])), none, []⟩,
 ⟨none, .st 4 (.tmp 9) (.tmp 41), none, []⟩,
 ⟨(some 10), .mv (.tmp 42), none, []⟩])
 (.seq
 (.reg [
 ⟨(some 44), .ld (some 4) (.tmp 7), none, []⟩,
 ⟨(some 45), .ld (some 6) (.tmp 1), none, []⟩,
 ⟨(some 46), .mv (.tmp 10), none, []⟩,
 ⟨(some 47), .callS 17 [(.tmp 44), (.tmp 45), (.val (.int .i64 0)), (.tmp 46)], none, []⟩,
 ⟨(some 43), .mv (.tmp 47), none, []⟩,
 ⟨(some 48), .ext (.tmp 43) 0, none, []⟩,
 ⟨(some 49), .ext (.tmp 43) 1, none, []⟩,
 ⟨(some 11), .box 23 4 (.val (.agg [(.int .i64 0), (.int .i64 0), (.int .i64 0), (.int .i64 0)])), none, []⟩,
 ⟨none, .st 4 (.tmp 11) (.tmp 48), none, []⟩,
 ⟨(some 12), .mv (.tmp 49), none, []⟩])
 (.seq
 (.reg [
 ⟨(some 51), .ld (some 4) (.tmp 9), none, []⟩,
 ⟨(some 52), .ld (some 6) (.tmp 2), none, []⟩,
 ⟨(some 53), .mv (.tmp 8), none, []⟩,
 ⟨(some 54), .callS 17 [(.tmp 51), (.tmp 52), (.val (.int .i64 0)), (.tmp 53)], none, []⟩,
 ⟨(some 50), .mv (.tmp 54), none, []⟩,
 ⟨(some 55), .ext (.tmp 50) 0, none, []⟩,
 ⟨(some 56), .ext (.tmp 50) 1, none, []⟩,
 ⟨(some 13), .box 23 4 (.val (.agg [(.int .i64 0), (.int .i64 0), (.int .i64 0), (.int .i64 0)])), none, []⟩,
 ⟨none, .st 4 (.tmp 13) (.tmp 55), none, []⟩,
 ⟨(some 14), .mv (.tmp 56), none, []⟩])
 (.seq
 (.reg [
 ⟨(some 57), .mv (.tmp 4), none, []⟩,
 ⟨(some 58), .len (.tmp 57), none, []⟩,
 ⟨(some 59), .bin .eql (.tmp 58) (.val (.int .i64 1)), none, []⟩,
 ⟨(some 60), .mv (.tmp 59), none, []⟩,
 ⟨(some 61), .mv (.tmp 8), some (60, true), []⟩,
 ⟨(some 62), .len (.tmp 61), some (60, true), []⟩,
 ⟨(some 63), .bin .eql (.tmp 62) (.val (.int .i64 1)), some (60, true), []⟩,
 ⟨(some 64), .pick (.tmp 60) (.tmp 63) (.val (.bool false)), none, []⟩,
 ⟨(some 65), .mv (.tmp 64), none, []⟩,
 ⟨(some 66), .mv (.tmp 10), some (65, true), []⟩,
 ⟨(some 67), .len (.tmp 66), some (65, true), []⟩,
 ⟨(some 68), .bin .eql (.tmp 67) (.val (.int .i64 1)), some (65, true), []⟩,
 ⟨(some 69), .pick (.tmp 65) (.tmp 68) (.val (.bool false)), none, []⟩,
 ⟨(some 70), .mv (.tmp 69), none, []⟩,
 ⟨(some 71), .off 0 (.tmp 7), some (70, true), []⟩,
 ⟨(some 72), .ld none (.tmp 71), some (70, true), []⟩,
 ⟨(some 73), .bin .eql (.tmp 72) (.val (.int .i64 2)), some (70, true), []⟩,
 ⟨(some 74), .pick (.tmp 70) (.tmp 73) (.val (.bool false)), none, []⟩,
 ⟨(some 75), .mv (.tmp 74), none, []⟩,
 ⟨(some 76), .off 0 (.tmp 11), some (75, true), []⟩,
 ⟨(some 77), .ld none (.tmp 76), some (75, true), []⟩,
 ⟨(some 78), .bin .eql (.tmp 77) (.val (.int .i64 3)), some (75, true), []⟩,
 ⟨(some 79), .pick (.tmp 75) (.tmp 78) (.val (.bool false)), none, []⟩,
 ⟨(some 80), .mv (.tmp 79), none, []⟩,
 ⟨(some 81), .off 0 (.tmp 13), some (80, true), []⟩,
 ⟨(some 82), .ld none (.tmp 81), some (80, true), []⟩,
 ⟨(some 83), .bin .eql (.tmp 82) (.val (.int .i64 3)), some (80, true), []⟩,
 ⟨(some 84), .pick (.tmp 80) (.tmp 83) (.val (.bool false)), none, []⟩,
 ⟨(some 85), .mv (.tmp 84), none, []⟩,
 ⟨(some 86), .off 1 (.tmp 11), some (85, true), []⟩,
 ⟨(some 87), .ld none (.tmp 86), some (85, true), []⟩,
 ⟨(some 88), .bin .eql (.tmp 87) (.val (.int .i64 9)), some (85, true), []⟩,
 ⟨(some 89), .pick (.tmp 85) (.tmp 88) (.val (.bool false)), none, []⟩,
 ⟨(some 90), .mv (.tmp 89), none, []⟩,
 ⟨(some 91), .off 3 (.tmp 13), some (90, true), []⟩,
 ⟨(some 92), .ld none (.tmp 91), some (90, true), []⟩,
 ⟨(some 93), .bin .eql (.tmp 92) (.val (.int .i64 3)), some (90, true), []⟩,
 ⟨(some 94), .pick (.tmp 90) (.tmp 93) (.val (.bool false)), none, []⟩,
 ⟨(some 95), .mv (.tmp 94), none, []⟩,
 ⟨(some 96), .ld (some 4) (.tmp 11), some (95, true), []⟩,
 ⟨(some 97), .callS 13 [(.tmp 96)], some (95, true), []⟩,
 ⟨(some 98), .pick (.tmp 95) (.tmp 97) (.val (.bool false)), none, []⟩,
 ⟨(some 0), .mv (.tmp 98), none, []⟩])
 .ret))))))))))
def c_ridgewaylaw17_awake : AF := ⟨b_ridgewaylaw17_awake, 99, [.tmp 0]⟩
theorem p_ridgewaylaw17_awake : prepFunc Tryd.prog 8 = some c_ridgewaylaw17_awake ∧ hasBody Tryd.prog 8 = true := ⟨by kernel_rfl, by kernel_rfl⟩
def b_session_Take : AC :=
 (.seq
 (.reg [
 ⟨(some 4), .box 23 4 (.tmp 0), none, []⟩,
 ⟨(some 5), .box 27 6 (.tmp 1), none, []⟩,
 ⟨(some 7), .box 30 2 (.tmp 3), none, []⟩,
 ⟨(some 8), .box 23 4 (.val (.agg [(.int .i64 0), (.int .i64 0), (.int .i64 0), (.int .i64 0)])), none, []⟩,
 ⟨(some 9), .mv (.val (.slice .full 0 [])), none, []⟩,
 ⟨(some 10), .mv (.val (.bool false)), none, []⟩])
 (.seq
 (.reg [
 ⟨(some 11), .ld (some 4) (.tmp 4), none, []⟩,
 ⟨(some 12), .callS 21 [(.tmp 11)], none, []⟩,
 ⟨none, .st 4 (.tmp 4) (.tmp 12), none, []⟩])
 (.seq
 (.seq
 (.reg [
 ⟨(some 13), .ld (some 6) (.tmp 5), none, []⟩,
 ⟨(some 14), .mv (.tmp 2), none, []⟩,
 ⟨(some 15), .callS 22 [(.tmp 13), (.tmp 14)], none, []⟩,
 ⟨(some 16), .un .not (.tmp 15), none, []⟩,
 ⟨(some 17), .mv (.tmp 16), none, []⟩,
 ⟨(some 18), .ld (some 2) (.tmp 7), some (17, false), []⟩,
 ⟨(some 19), .callS 14 [(.tmp 18)], some (17, false), []⟩,
 ⟨(some 20), .un .not (.tmp 19), some (17, false), []⟩,
 ⟨(some 21), .pick (.tmp 17) (.val (.bool true)) (.tmp 20), none, []⟩])
 (.cond (.tmp 21)
 (.seq
 (.reg [
 ⟨(some 22), .ld (some 4) (.tmp 4), none, []⟩,
 ⟨none, .st 4 (.tmp 8) (.tmp 22), none, []⟩,
 ⟨(some 9), .mv (.val (.slice .full 0 [])), none, []⟩,
 ⟨(some 10), .mv (.val (.bool false)), none, []⟩])
 .ret)
 .skip))
 (.seq
 (.seq
 (.reg [
 ⟨(some 23), .off 0 (.tmp 7), none, []⟩,
 ⟨(some 24), .ld none (.tmp 23), none, []⟩,
 ⟨(some 25), .bin .eql (.tmp 24) (.val (.int .i64 3)), none, []⟩])
 (.cond (.tmp 25)
 (.seq
 (.reg [
 ⟨(some 26), .bld [(.int .i64 0), (.int .i64 0), (.int .i64 0), (.int .i64 0)] [], none, []⟩,
 ⟨none, .st 4 (.tmp 8) (.tmp 26), none, []⟩,
 ⟨(some 9), .mv (.val (.slice .full 0 [])), none, []⟩,
 ⟨(some 10), .mv (.val (.bool false)), none, []⟩])
 .ret)
 .skip))
 (.seq
 (.reg [
 ⟨(some 27), .call 23 [], none, []⟩,
 ⟨(some 28), .off 0 (.tmp 4), none, []⟩,
 ⟨(some 29), .ld none (.tmp 28), none, []⟩,
 ⟨(some 30), .prt none 4 1 0 (.tmp 27) (.tmp 29), none, []⟩,
 ⟨(some 31), .ld (some 4) (.tmp 4), none, []⟩,
 ⟨(some 32), .ld (some 6) (.tmp 5), none, []⟩,
 ⟨(some 33), .off 5 (.tmp 5), none, []⟩,
 ⟨(some 34), .ld none (.tmp 33), none, []⟩,
 ⟨(some 35), .mv (.tmp 2), none, []⟩,
 ⟨(some 36), .idxA 4 (.tmp 34) (.tmp 35), none, []⟩,
 ⟨(some 37), .ld (some 4) (.tmp 36), none, []⟩,
 ⟨(some 38), .ld (some 2) (.tmp 7), none, []⟩,
 ⟨(some 39), .bld [(.int .i64 0), (.int .i64 0), (.int .i64 0), (.int .i64 0), (.int .i64 0), (.int .i64 0), (.int .i64 0), (.int .i64 0), (.slice .full 0 []), (.slice .full 0 []), (.int .i64 0), (.int .i64 0), (.slice .full 0 []), (.slice .full 0 []), (.int .i64 0), (.slice .full 0 [])] [(0, 4, (.tmp 31)), (4, 6, (.tmp 32)), (10, 4, (.tmp 37)), (14, 2, (.tmp 38))], none, []⟩,
 ⟨(some 40), .callv (.tmp 30) [(.tmp 39)], none, []⟩,
 ⟨(some 41), .ext (.tmp 40) 0, none, []⟩,
 ⟨(some 42), .ext (.tmp 40) 1, none, []⟩,
 ⟨(some 43), .ext (.tmp 40) 2, none, []⟩,
 ⟨none, .st 4 (.tmp 8) (.tmp 41), none, []⟩,
 ⟨(some 9), .mv (.tmp 42), none, []⟩,
 ⟨(some 10), .mv (.tmp 43), none, []⟩])
 .ret)))))
def c_session_Take : AF := ⟨b_session_Take, 44, [.cell 8 (some 4), .tmp 9, .tmp 10]⟩
theorem p_session_Take : prepFunc Tryd.prog 10 = some c_session_Take ∧ hasBody Tryd.prog 10 = true := ⟨by kernel_rfl, by kernel_rfl⟩
def b_session_Start : AC :=
 (.seq
 (.reg [
 ⟨(some 3), .box 23 4 (.tmp 0), none, []⟩,
 ⟨(some 4), .box 27 6 (.tmp 1), none, []⟩,
 ⟨(some 6), .box 23 4 (.val (.agg [(.int .i64 0), (.int .i64 0), (.int .i64 0), (.int .i64 0)])), none, []⟩,
 ⟨(some 7), .mv (.val (.slice .full 0 [])), none, []⟩])
 (.seq
 (.reg [
 ⟨(some 8), .ld (some 4) (.tmp 3), none, []⟩,
 ⟨(some 9), .callS 21 [(.tmp 8)], none, []⟩,
 ⟨none, .st 4 (.tmp 3) (.tmp 9), none, []⟩])
 (.seq
 (.seq
 (.reg [
 ⟨(some 10), .off 0 (.tmp 3), none, []⟩,
 ⟨(some 11), .ld none (.tmp 10), none, []⟩,
 ⟨(some 12), .bin .neq (.tmp 11) (.val (.int .i64 0)), none, []⟩,
 ⟨(some 13), .mv (.tmp 12), none, []⟩,
 ⟨(some 14), .ld (some 6) (.tmp 4), some (13, false), []⟩,
 ⟨(some 15), .mv (.tmp 2), some (13, false), []⟩,
 ⟨(some 16), .callS 22 [(.tmp 14), (.tmp 15)], some (13, false), []⟩,
 ⟨(some 17), .un .not (.tmp 16), some (13, false), []⟩,
 ⟨(some 18), .pick (.tmp 13) (.val (.bool true)) (.tmp 17), none, []⟩])
 (.cond (.tmp 18)
 (.seq
 (.reg [
 ⟨(some 19), .ld (some 4) (.tmp 3), none, []⟩,
 ⟨none, .st 4 (.tmp 6) (.tmp 19), none, []⟩,
 ⟨(some 7), .mv (.val (.slice .full 0 [])), none, []⟩])
 .ret)
 .skip))
 (.seq
 (.reg [
 ⟨(some 20), .bld [(.int .i64 0), (.int .i64 0), (.int .i64 0), (.int .i64 0)] [(0, 1, (.val (.int .i64 1))), (2, 1, (.val (.int .i64 240)))], none, []⟩,
 ⟨(some 21), .ld (some 6) (.tmp 4), none, []⟩,
 ⟨(some 22), .mv (.tmp 2), none, []⟩,
 ⟨(some 23), .callS 26 [(.tmp 21), (.tmp 22)], none, []⟩,
 ⟨(some 24), .callS 25 [(.tmp 23)], none, []⟩,
 ⟨(some 25), .lit 30 2 [0, 1] [(.tmp 24)], none, []⟩,
 ⟨none, .st 4 (.tmp 6) (.tmp 20), none, []⟩,
 ⟨(some 7), .mv (.tmp 25), none, []⟩])
 .ret))))
def c_session_Start : AF := ⟨b_session_Start, 26, [.cell 6 (some 4), .tmp 7]⟩
theorem p_session_Start : prepFunc Tryd.prog 12 = some c_session_Start ∧ hasBody Tryd.prog 12 = true := ⟨by kernel_rfl, by kernel_rfl⟩
def b_session_Sane : AC :=
 (.seq
 (.reg [
 ⟨(some 1), .box 23 4 (.tmp 0), none, []⟩,
 ⟨(some 2), .mv (.val (.bool false)), none, []⟩])
 (.seq
 (.seq
 (.reg [
 ⟨(some 3), .off 0 (.tmp 1), none, []⟩,
 ⟨(some 4), .ld none (.tmp 3), none, []⟩])
 (.block 0
 (.seq
 (.reg [
 ⟨(some 6), .bin .eql (.tmp 4) (.val (.int .i64 0)), none, []⟩,
 ⟨(some 5), .mv (.tmp 6), none, []⟩])
 (.cond (.tmp 5)
 (.seq
 (.reg [
 ⟨(some 7), .ld (some 4) (.tmp 1), none, []⟩,
 ⟨(some 8), .bld [(.int .i64 0), (.int .i64 0), (.int .i64 0), (.int .i64 0)] [], none, []⟩,
 ⟨(some 9), .eqA false 4 [(0, 0), (1, 0), (2, 0), (3, 0)] (.tmp 7) (.tmp 8), none, []⟩,
 ⟨(some 2), .mv (.tmp 9), none, []⟩])
 .ret)
 (.seq
 (.reg [
 ⟨(some 11), .bin .eql (.tmp 4) (.val (.int .i64 1)), none, []⟩,
 ⟨(some 10), .mv (.tmp 11), none, []⟩])
 (.cond (.tmp 10)
 (.seq
 (.reg [
 ⟨(some 12), .off 1 (.tmp 1), none, []⟩,
 ⟨(some 13), .ld none (.tmp 12), none, []⟩,
 ⟨(some 14), .bin .eql (.tmp 13) (.val (.int .i64 0)), none, []⟩,
 ⟨(some 15), .mv (.tmp 14), none, []⟩,
 ⟨(some 16), .off 3 (.tmp 1), some (15, true), []⟩,
 ⟨(some 17), .ld none (.tmp 16), some (15, true), []⟩,
 ⟨(some 18), .bin .eql (.tmp 17) (.val (.int .i64 0)), some (15, true), []⟩,
 ⟨(some 19), .pick (.tmp 15) (.tmp 18) (.val (.bool false)), none, []⟩,
 ⟨(some 20), .mv (.tmp 19), none, []⟩,
 ⟨(some 21), .off 2 (.tmp 1), some (20, true), []⟩,
 ⟨(some 22), .ld none (.tmp 21), some (20, true), []⟩,
 ⟨(some 23), .bin .geq (.tmp 22) (.val (.int .i64 1)), some (20, true), []⟩,
 ⟨(some 24), .pick (.tmp 20) (.tmp 23) (.val (.bool false)), none, []⟩,
 ⟨(some 25), .mv (.tmp 24), none, []⟩,
 ⟨(some 26), .off 2 (.tmp 1), some (25, true), []⟩,
 ⟨(some 27), .ld none (.tmp 26), some (25, true), []⟩,
 ⟨(some 28), .bin .leq (.tmp 27) (.val (.int .i64 240)), some (25, true), []⟩,
 ⟨(some 29), .pick (.tmp 25) (.tmp 28) (.val (.bool false)), none, []⟩,
 ⟨(some 2), .mv (.tmp 29), none, []⟩])
 .ret)
 (.seq
 (.seq
 (.reg [
 ⟨(some 31), .bin .eql (.tmp 4) (.val (.int .i64 2)), none, []⟩,
 ⟨(some 30), .mv (.tmp 31), none, []⟩])
 (.cond (.tmp 30)
 .skip
 (.reg [
 ⟨(some 32), .bin .eql (.tmp 4) (.val (.int .i64 3)), none, []⟩,
 ⟨(some 30), .mv (.tmp 32), none, []⟩])))
 (.cond (.tmp 30)
 (.seq
 (.seq
 (.reg [
 ⟨(some 33), .off 1 (.tmp 1), none, []⟩,
 ⟨(some 34), .ld none (.tmp 33), none, []⟩,
 ⟨(some 35), .bin .eql (.tmp 34) (.val (.int .i64 0)), none, []⟩])
 (.cond (.tmp 35)
 (.seq
 (.reg [
 ⟨(some 36), .off 2 (.tmp 1), none, []⟩,
 ⟨(some 37), .ld none (.tmp 36), none, []⟩,
 ⟨(some 38), .bin .eql (.tmp 37) (.val (.int .i64 0)), none, []⟩,
 ⟨(some 39), .mv (.tmp 38), none, []⟩,
 ⟨(some 40), .off 3 (.tmp 1), some (39, true), []⟩,
 ⟨(some 41), .ld none (.tmp 40), some (39, true), []⟩,
 ⟨(some 42), .bin .eql (.tmp 41) (.val (.int .i64 0)), some (39, true), []⟩,
 ⟨(some 43), .pick (.tmp 39) (.tmp 42) (.val (.bool false)), none, []⟩,
 ⟨(some 2), .mv (.tmp 43), none, []⟩])
 .ret)
 .skip))
 (.seq
 (.reg [
 ⟨(some 44), .off 1 (.tmp 1), none, []⟩,
 ⟨(some 45), .ld none (.tmp 44), none, []⟩,
 ⟨(some 46), .bin .geq (.tmp 45) (.val (.int .i64 3)), none, []⟩,
 ⟨(some 47), .mv (.tmp 46), none, []⟩,
 ⟨(some 48), .off 1 (.tmp 1), some (47, true), []⟩,
 ⟨(some 49), .ld none (.tmp 48), some (47, true), []⟩,
 ⟨(some 50), .bin .leq (.tmp 49) (.val (.int .i64 65535)), some (47, true), []⟩,
 ⟨(some 51), .pick (.tmp 47) (.tmp 50) (.val (.bool false)), none, []⟩,
 ⟨(some 52), .mv (.tmp 51), none, []⟩,
 ⟨(some 53), .off 2 (.tmp 1), some (52, true), []⟩,
 ⟨(some 54), .ld none (.tmp 53), some (52, true), []⟩,
 ⟨(some 55), .bin .geq (.tmp 54) (.val (.int .i64 1)), some (52, true), []⟩,
 ⟨(some 56), .pick (.tmp 52) (.tmp 55) (.val (.bool false)), none, []⟩,
 ⟨(some 57), .mv (.tmp 56), none, []⟩,
 ⟨(some 58), .off 2 (.tmp 1), some (57, true), []⟩,
 ⟨(some 59), .ld none (.tmp 58), some (57, true), []⟩,
 ⟨(some 60), .off 1 (.tmp 1), some (57, true), []⟩,
 ⟨(some 61), .ld none (.tmp 60), some (57, true), []⟩,
 ⟨(some 62), .bin .leq (.tmp 59) (.tmp 61), some (57, true), []⟩,
 ⟨(some 63), .pick (.tmp 57) (.tmp 62) (.val (.bool false)), none, []⟩,
 ⟨(some 64), .mv (.tmp 63), none, []⟩,
 ⟨(some 65), .off 3 (.tmp 1), some (64, true), []⟩,
 ⟨(some 66), .ld none (.tmp 65), some (64, true), []⟩,
 ⟨(some 67), .bin .geq (.tmp 66) (.val (.int .i64 1)), some (64, true), []⟩,
 ⟨(some 68), .pick (.tmp 64) (.tmp 67) (.val (.bool false)), none, []⟩,
 ⟨(some 69), .mv (.tmp 68), none, []⟩,
 ⟨(some 70), .off 3 (.tmp 1), some (69, true), []⟩,
 ⟨(some 71), .ld none (.tmp 70), some (69, true), []⟩,
 ⟨(some 72), .off 1 (.tmp 1), some (69, true), []⟩,
 ⟨(some 73), .ld none (.tmp 72), some (69, true), []⟩,
 ⟨(some 74), .call 27 [(.tmp 73)], some (69, true), []⟩,
 ⟨(some 75), .bin .leq (.tmp 71) (.tmp 74), some (69, true), []⟩,
 ⟨(some 76), .pick (.tmp 69) (.tmp 75) (.val (.bool false)), none, []⟩,
 ⟨(some 2), .mv (.tmp 76), none, []⟩])
 .ret))
 .skip))))))))
 (.seq
 (.reg [
 ⟨(some 2), .mv (.val (.bool false)), none, []⟩])
 .ret)))
def c_session_Sane : AF := ⟨b_session_Sane, 77, [.tmp 2]⟩
theorem p_session_Sane : prepFunc Tryd.prog 13 = some c_session_Sane ∧ hasBody Tryd.prog 13 = true := ⟨by kernel_rfl, by kernel_rfl⟩
def b_msg_Sane : AC :=
 (.seq
 (.reg [
 ⟨(some 1), .box 30 2 (.tmp 0), none, []⟩,
 ⟨(some 2), .mv (.val (.bool false)), none, []⟩])
 (.seq
 (.reg [
 ⟨(some 3), .off 0 (.tmp 1), none, []⟩,
 ⟨(some 4), .ld none (.tmp 3), none, []⟩,
 ⟨(some 5), .callS 28 [(.tmp 4)], none, []⟩,
 ⟨(some 6), .bin .gtr (.tmp 5) (.val (.int .i64 0)), none, []⟩,
 ⟨(some 7), .mv (.tmp 6), none, []⟩,
 ⟨(some 8), .off 0 (.tmp 1), some (7, true), []⟩,
 ⟨(some 9), .ld none (.tmp 8), some (7, true), []⟩,
 ⟨(some 10), .off 1 (.tmp 1), some (7, true), []⟩,
 ⟨(some 11), .ld none (.tmp 10), some (7, true), []⟩,
 ⟨(some 12), .len (.tmp 11), some (7, true), []⟩,
 ⟨(some 13), .bin .add (.val (.int .i64 19)) (.tmp 12), some (7, true), []⟩,
 ⟨(some 14), .callS 29 [(.tmp 9), (.tmp 13)], some (7, true), []⟩,
 ⟨(some 15), .un .not (.tmp 14), some (7, true), []⟩,
 ⟨(some 16), .pick (.tmp 7) (.tmp 15) (.val (.bool false)), none, []⟩,
 ⟨(some 17), .mv (.tmp 16), none, []⟩,
 ⟨(some 18), .off 1 (.tmp 1), some (17, true), []⟩,
 ⟨(some 19), .ld none (.tmp 18), some (17, true), []⟩,
 ⟨(some 20), .len (.tmp 19), some (17, true), []⟩,
 ⟨(some 21), .bin .add (.val (.int .i64 19)) (.tmp 20), some (17, true), []⟩,
 ⟨(some 22), .bin .leq (.tmp 21) (.val (.int .i64 4096)), some (17, true), []⟩,
 ⟨(some 23), .pick (.tmp 17) (.tmp 22) (.val (.bool false)), none, []⟩,
 ⟨(some 2), .mv (.tmp 23), none, []⟩])
 .ret))
def c_msg_Sane : AF := ⟨b_msg_Sane, 24, [.tmp 2]⟩
theorem p_msg_Sane : prepFunc Tryd.prog 14 = some c_msg_Sane ∧ hasBody Tryd.prog 14 = true := ⟨by kernel_rfl, by kernel_rfl⟩
def b_ridgewaylaw17_node : AC :=
 (.seq
 (.reg [
 ⟨(some 8), .box 27 6 (.val (.agg [(.int .i64 0), (.int .i64 0), (.int .i64 0), (.int .i64 0), (.slice .full 0 []), (.slice .full 0 [])])), none, []⟩])
 (.seq
 (.reg [
 ⟨(some 9), .mv (.tmp 0), none, []⟩,
 ⟨(some 10), .mv (.tmp 0), none, []⟩,
 ⟨(some 11), .mv (.tmp 3), none, []⟩,
 ⟨(some 12), .mv (.tmp 1), none, []⟩,
 ⟨(some 13), .mv (.tmp 2), none, []⟩,
 ⟨(some 14), .bld [(.int .i64 0), (.int .i64 0), (.slice .full 0 []), (.slice .full 0 [])] [(0, 1, (.tmp 12)), (1, 1, (.tmp 13))], none, []⟩,
 ⟨(some 15), .lit 46 4 [0, 0, 6, 6] [(.tmp 14)], none, []⟩,
 ⟨(some 16), .bld [(.int .i64 0), (.int .i64 0), (.int .i64 0), (.int .i64 0), (.slice .full 0 []), (.slice .full 0 [])] [(0, 1, (.tmp 9)), (1, 1, (.tmp 10)), (2, 1, (.tmp 11)), (3, 1, (.val (.int .i64 9))), (5, 1, (.tmp 15))], none, []⟩,
 ⟨none, .st 6 (.tmp 8) (.tmp 16), none, []⟩])
 .ret))
def c_ridgewaylaw17_node : AF := ⟨b_ridgewaylaw17_node, 17, [.cell 8 (some 6)]⟩
theorem p_ridgewaylaw17_node : prepFunc Tryd.prog 15 = some c_ridgewaylaw17_node ∧ hasBody Tryd.prog 15 = true := ⟨by kernel_rfl, by kernel_rfl⟩
def b_conf_Sane : AC :=
 (.seq
 (.reg [
 ⟨(some 1), .box 27 6 (.tmp 0), none, []⟩,
 ⟨(some 2), .mv (.val (.bool false)), none, []⟩])
 (.seq
 (.reg [
 ⟨(some 3), .off 0 (.tmp 1), none, []⟩,
 ⟨(some 4), .ld none (.tmp 3), none, []⟩,
 ⟨(some 5), .callS 30 [(.tmp 4)], none, []⟩,
 ⟨(some 6), .mv (.tmp 5), none, []⟩,
 ⟨(some 7), .off 1 (.tmp 1), some (6, true), []⟩,
 ⟨(some 8), .ld none (.tmp 7), some (6, true), []⟩,
 ⟨(some 9), .callS 30 [(.tmp 8)], some (6, true), []⟩,
 ⟨(some 10), .pick (.tmp 6) (.tmp 9) (.val (.bool false)), none, []⟩,
 ⟨(some 11), .mv (.tmp 10), none, []⟩,
 ⟨(some 12), .off 2 (.tmp 1), some (11, true), []⟩,
 ⟨(some 13), .ld none (.tmp 12), some (11, true), []⟩,
 ⟨(some 14), .callS 31 [(.tmp 13)], some (11, true), []⟩,
 ⟨(some 15), .pick (.tmp 11) (.tmp 14) (.val (.bool false)), none, []⟩,
 ⟨(some 16), .mv (.tmp 15), none, []⟩,
 ⟨(some 17), .off 3 (.tmp 1), some (16, true), []⟩,
 ⟨(some 18), .ld none (.tmp 17), some (16, true), []⟩,
 ⟨(some 19), .callS 32 [(.tmp 18)], some (16, true), []⟩,
 ⟨(some 20), .pick (.tmp 16) (.tmp 19) (.val (.bool false)), none, []⟩,
 ⟨(some 21), .mv (.tmp 20), none, []⟩,
 ⟨(some 22), .off 4 (.tmp 1), some (21, true), []⟩,
 ⟨(some 23), .ld none (.tmp 22), some (21, true), []⟩,
 ⟨(some 24), .callS 33 [(.tmp 23)], some (21, true), []⟩,
 ⟨(some 25), .pick (.tmp 21) (.tmp 24) (.val (.bool false)), none, []⟩,
 ⟨(some 26), .mv (.tmp 25), none, []⟩,
 ⟨(some 27), .ld (some 6) (.tmp 1), some (26, true), []⟩,
 ⟨(some 28), .callS 34 [(.tmp 27)], some (26, true), []⟩,
 ⟨(some 29), .pick (.tmp 26) (.tmp 28) (.val (.bool false)), none, []⟩,
 ⟨(some 2), .mv (.tmp 29), none, []⟩])
 .ret))
def c_conf_Sane : AF := ⟨b_conf_Sane, 30, [.tmp 2]⟩
theorem p_conf_Sane : prepFunc Tryd.prog 16 = some c_conf_Sane ∧ hasBody Tryd.prog 16 = true := ⟨by kernel_rfl, by kernel_rfl⟩
def b_ridgewaylaw17_step : AC :=
 (.seq
 (.reg [
 ⟨(some 4), .box 23 4 (.tmp 0), none, []⟩,
 ⟨(some 5), .box 27 6 (.tmp 1), none, []⟩,
 ⟨(some 8), .box 23 4 (.val (.agg [(.int .i64 0), (.int .i64 0), (.int .i64 0), (.int .i64 0)])), none, []⟩,
 ⟨(some 9), .mv (.val (.slice .full 0 [])), none, []⟩])
 (.seq
 (.reg [
 ⟨(some 10), .mv (.val (.slice .full 0 [])), none, []⟩])
 (.seq
 (.seq
 (.reg [
 ⟨(some 11), .mv (.val (.int .i64 0)), none, []⟩])
 (.block 0
 (.loop
 (.seq
 (.seq
 (.reg [
 ⟨(some 15), .mv (.tmp 11), none, []⟩,
 ⟨(some 16), .mv (.tmp 3), none, []⟩,
 ⟨(some 17), .len (.tmp 16), none, []⟩,
 ⟨(some 18), .bin .lss (.tmp 15) (.tmp 17), none, []⟩])
 (.cond (.tmp 18)
 .skip
 (.exit 0)))
 (.seq
 (.block 1
 (.seq
 (.reg [
 ⟨(some 22), .ld (some 4) (.tmp 4), none, []⟩,
 ⟨(some 23), .ld (some 6) (.tmp 5), none, []⟩,
 ⟨(some 24), .mv (.tmp 2), none, []⟩,
 ⟨(some 25), .mv (.tmp 3), none, []⟩,
 ⟨(some 26), .mv (.tmp 11), none, []⟩,
 ⟨(some 27), .idxA 2 (.tmp 25) (.tmp 26), none, []⟩,
 ⟨(some 28), .ld (some 2) (.tmp 27), none, []⟩,
 ⟨(some 29), .call 10 [(.tmp 22), (.tmp 23), (.tmp 24), (.tmp 28)], none, []⟩,
 ⟨(some 21), .mv (.tmp 29), none, []⟩,
 ⟨(some 30), .ext (.tmp 21) 0, none, []⟩,
 ⟨(some 12), .box 23 4 (.val (.agg [(.int .i64 0), (.int .i64 0), (.int .i64 0), (.int .i64 0)])), none, []⟩,
 ⟨(some 31), .ext (.tmp 21) 1, none, []⟩,
 ⟨(some 32), .ext (.tmp 21) 2, none, []⟩,
 ⟨none, .st 4 (.tmp 12) (.tmp 30), none, []⟩,
 ⟨(some 13), .mv (.tmp 31), none, []⟩,
 ⟨(some 14), .mv (.tmp 32), none, []⟩])
 (.seq
 (.reg [
 ⟨(some 33), .ld (some 4) (.tmp 12), none, []⟩,
 ⟨none, .st 4 (.tmp 4) (.tmp 33), none, []⟩])
 (.reg [
 ⟨(some 34), .mv (.tmp 10), none, []⟩,
 ⟨(some 35), .mv (.tmp 13), none, []⟩,
 ⟨(some 36), .app 30 2 32 (.tmp 34) (.tmp 35), none, []⟩,
 ⟨(some 10), .mv (.tmp 36), none, []⟩]))))
 (.reg [
 ⟨(some 19), .mv (.tmp 11), none, []⟩,
 ⟨(some 20), .bin .add (.tmp 19) (.val (.int .i64 1)), none, []⟩,
 ⟨(some 11), .mv (.tmp 20), none, []⟩]))))))
 (.seq
 (.reg [
 ⟨(some 37), .ld (some 4) (.tmp 4), none, []⟩,
 ⟨(some 38), .mv (.tmp 10), none, []⟩,
 ⟨none, .st 4 (.tmp 8) (.tmp 37), none, []⟩,
 ⟨(some 9), .mv (.tmp 38), none, []⟩])
 .ret))))
def c_ridgewaylaw17_step : AF := ⟨b_ridgewaylaw17_step, 39, [.cell 8 (some 4), .tmp 9]⟩
theorem p_ridgewaylaw17_step : prepFunc Tryd.prog 17 = some c_ridgewaylaw17_step ∧ hasBody Tryd.prog 17 = true := ⟨by kernel_rfl, by kernel_rfl⟩
def b_note_Get : AC :=
 (.seq
 (.reg [
 ⟨(some 1), .box 30 2 (.tmp 0), none, []⟩,
 ⟨(some 2), .box 50 3 (.val (.agg [(.int .i64 0), (.int .i64 0), (.slice .full 0 [])])), none, []⟩,
 ⟨(some 3), .mv (.val (.bool false)), none, []⟩])
 (.seq
 (.seq
 (.reg [
 ⟨(some 5), .off 0 (.tmp 1), none, []⟩,
 ⟨(some 6), .ld none (.tmp 5), none, []⟩,
 ⟨(some 7), .bin .neq (.tmp 6) (.val (.int .i64 3)), none, []⟩,
 ⟨(some 8), .mv (.tmp 7), none, []⟩,
 ⟨(some 9), .off 1 (.tmp 1), some (8, false), []⟩,
 ⟨(some 10), .ld none (.tmp 9), some (8, false), []⟩,
 ⟨(some 11), .len (.tmp 10), some (8, false), []⟩,
 ⟨(some 12), .bin .lss (.tmp 11) (.val (.int .i64 2)), some (8, false), []⟩,
 ⟨(some 13), .pick (.tmp 8) (.val (.bool true)) (.tmp 12), none, []⟩])
 (.cond (.tmp 13)
 (.seq
 (.reg [
 ⟨(some 14), .bld [(.int .i64 0), (.int .i64 0), (.slice .full 0 [])] [], none, []⟩,
 ⟨none, .st 3 (.tmp 2) (.tmp 14), none, []⟩,
 ⟨(some 3), .mv (.val (.bool false)), none, []⟩])
 .ret)
 .skip))
 (.seq
 (.reg [
 ⟨(some 15), .off 1 (.tmp 1), none, []⟩,
 ⟨(some 16), .ld none (.tmp 15), none, []⟩,
 ⟨(some 17), .idxA 1 (.tmp 16) (.val (.int .i64 0)), none, []⟩,
 ⟨(some 18), .ld none (.tmp 17), none, []⟩,
 ⟨(some 19), .conv .i64 (.tmp 18), none, []⟩,
 ⟨(some 20), .off 1 (.tmp 1), none, []⟩,
 ⟨(some 21), .ld none (.tmp 20), none, []⟩,
 ⟨(some 22), .idxA 1 (.tmp 21) (.val (.int .i64 1)), none, []⟩,
 ⟨(some 23), .ld none (.tmp 22), none, []⟩,
 ⟨(some 24), .conv .i64 (.tmp 23), none, []⟩,
 ⟨(some 25), .off 1 (.tmp 1), none, []⟩,
 ⟨(some 26), .ld none (.tmp 25), none, []⟩,
 ⟨(some 27), .slc 1 (.tmp 26) (some (.val (.int .i64 2))) none none, none, []⟩,
 ⟨(some 28), .bld [(.int .i64 0), (.int .i64 0), (.slice .full 0 [])] [(0, 1, (.tmp 19)), (1, 1, (.tmp 24)), (2, 1, (.tmp 27))], none, []⟩,
 ⟨(some 4), .box 50 3 (.val (.agg [(.int .i64 0), (.int .i64 0), (.slice .full 0 [])])), none, []⟩,
 ⟨none, .st 3 (.tmp 4) (.tmp 28), none, []⟩])
 (.seq
 (.seq
 (.reg [
 ⟨(some 29), .ld (some 3) (.tmp 4), none, []⟩,
 ⟨(some 30), .callS 35 [(.tmp 29)], none, []⟩,
 ⟨(some 31), .un .not (.tmp 30), none, []⟩])
 (.cond (.tmp 31)
 (.seq
 (.reg [
 ⟨(some 32), .bld [(.int .i64 0), (.int .i64 0), (.slice .full 0 [])] [], none, []⟩,
 ⟨none, .st 3 (.tmp 2) (.tmp 32), none, []⟩,
 ⟨(some 3), .mv (.val (.bool false)), none, []⟩])
 .ret)
 .skip))
 (.seq
 (.reg [
 ⟨(some 33), .ld (some 3) (.tmp 4), none, []⟩,
 ⟨none, .st 3 (.tmp 2) (.tmp 33), none, []⟩,
 ⟨(some 3), .mv (.val (.bool true)), none, []⟩])
 .ret)))))
def c_note_Get : AF := ⟨b_note_Get, 34, [.cell 2 (some 3), .tmp 3]⟩
theorem p_note_Get : prepFunc Tryd.prog 18 = some c_note_Get ∧ hasBody Tryd.prog 18 = true := ⟨by kernel_rfl, by kernel_rfl⟩
def b_session_sane : AC :=
 (.seq
 (.reg [
 ⟨(some 1), .box 23 4 (.tmp 0), none, []⟩,
 ⟨(some 2), .box 23 4 (.val (.agg [(.int .i64 0), (.int .i64 0), (.int .i64 0), (.int .i64 0)])), none, []⟩])
 (.seq
 (.seq
 (.reg [
 ⟨(some 3), .ld (some 4) (.tmp 1), none, []⟩,
 ⟨(some 4), .callS 13 [(.tmp 3)], none, []⟩,
 ⟨(some 5), .un .not (.tmp 4), none, []⟩])
 (.cond (.tmp 5)
 (.seq
 (.reg [
 ⟨(some 6), .bld [(.int .i64 0), (.int .i64 0), (.int .i64 0), (.int .i64 0)] [], none, []⟩,
 ⟨none, .st 4 (.tmp 2) (.tmp 6), none, []⟩])
 .ret)
 .skip))
 (.seq
 (.reg [
 ⟨(some 7), .ld (some 4) (.tmp 1), none, []⟩,
 ⟨none, .st 4 (.tmp 2) (.tmp 7), none, []⟩])
 .ret)))
def c_session_sane : AF := ⟨b_session_sane, 8, [.cell 2 (some 4)]⟩
theorem p_session_sane : prepFunc Tryd.prog 21 = some c_session_sane ∧ hasBody Tryd.prog 21 = true := ⟨by kernel_rfl, by kernel_rfl⟩
def b_session_there : AC :=
 (.seq
 (.reg [
 ⟨(some 2), .box 27 6 (.tmp 0), none, []⟩,
 ⟨(some 4), .mv (.val (.bool false)), none, []⟩])
 (.seq
 (.reg [
 ⟨(some 5), .mv (.tmp 1), none, []⟩,
 ⟨(some 6), .bin .geq (.tmp 5) (.val (.int .i64 0)), none, []⟩,
 ⟨(some 7), .mv (.tmp 6), none, []⟩,
 ⟨(some 8), .mv (.tmp 1), some (7, true), []⟩,
 ⟨(some 9), .off 5 (.tmp 2), some (7, true), []⟩,
 ⟨(some 10), .ld none (.tmp 9), some (7, true), []⟩,
 ⟨(some 11), .len (.tmp 10), some (7, true), []⟩,
 ⟨(some 12), .bin .lss (.tmp 8) (.tmp 11), some (7, true), []⟩,
 ⟨(some 13), .pick (.tmp 7) (.tmp 12) (.val (.bool false)), none, []⟩,
 ⟨(some 14), .mv (.tmp 13), none, []⟩,
 ⟨(some 15), .ld (some 6) (.tmp 2), some (14, true), []⟩,
 ⟨(some 16), .callS 16 [(.tmp 15)], some (14, true), []⟩,
 ⟨(some 17), .pick (.tmp 14) (.tmp 16) (.val (.bool false)), none, []⟩,
 ⟨(some 4), .mv (.tmp 17), none, []⟩])
 .ret))
def c_session_there : AF := ⟨b_session_there, 18, [.tmp 4]⟩
theorem p_session_there : prepFunc Tryd.prog 22 = some c_session_there ∧ hasBody Tryd.prog 22 = true := ⟨by kernel_rfl, by kernel_rfl⟩
def b_session_does : AC :=
 (.seq
 (.reg [
 ⟨(some 0), .box 62 4 (.val (.agg [.nilFn, .nilFn, .nilFn, .nilFn])), none, []⟩])
 (.seq
 (.reg [
 ⟨(some 1), .bld [.nilFn, .nilFn, .nilFn, .nilFn] [(0, 1, (.val (.fn 37 []))), (1, 1, (.val (.fn 38 []))), (2, 1, (.val (.fn 39 []))), (3, 1, (.val (.fn 40 [])))], none, []⟩,
 ⟨none, .st 4 (.tmp 0) (.tmp 1), none, []⟩])
 .ret))
def c_session_does : AF := ⟨b_session_does, 2, [.cell 0 (some 4)]⟩
theorem p_session_does : prepFunc Tryd.prog 23 = some c_session_does ∧ hasBody Tryd.prog 23 = true := ⟨by kernel_rfl, by kernel_rfl⟩
def b_open_Put : AC :=
 (.seq
 (.reg [
 ⟨(some 1), .box 69 4 (.tmp 0), none, []⟩,
 ⟨(some 2), .box 30 2 (.val (.agg [(.int .i64 0), (.slice .full 0 [])])), none, []⟩])
 (.seq
 (.seq
 (.reg [
 ⟨(some 5), .ld (some 4) (.tmp 1), none, []⟩,
 ⟨(some 6), .callS 43 [(.tmp 5)], none, []⟩,
 ⟨(some 7), .un .not (.tmp 6), none, []⟩])
 (.cond (.tmp 7)
 (.seq
 (.reg [
 ⟨(some 8), .bld [(.int .i64 0), (.slice .full 0 [])] [], none, []⟩,
 ⟨none, .st 2 (.tmp 2) (.tmp 8), none, []⟩])
 .ret)
 .skip))
 (.seq
 (.reg [
 ⟨(some 9), .off 0 (.tmp 1), none, []⟩,
 ⟨(some 10), .ld none (.tmp 9), none, []⟩,
 ⟨(some 11), .callS 45 [(.val (.slice .full 0 [])), (.tmp 10), (.val (.int .i64 4))], none, []⟩,
 ⟨(some 12), .callS 44 [(.val (.int .i64 65)), (.tmp 11)], none, []⟩,
 ⟨(some 13), .callS 44 [(.val (.int .i64 2)), (.tmp 12)], none, []⟩,
 ⟨(some 3), .mv (.tmp 13), none, []⟩])
 (.seq
 (.seq
 (.reg [
 ⟨(some 14), .off 3 (.tmp 1), none, []⟩,
 ⟨(some 15), .ld none (.tmp 14), none, []⟩,
 ⟨(some 16), .bin .neq (.tmp 15) (.val (.int .i64 (-1))), none, []⟩])
 (.cond (.tmp 16)
 (.reg [
 ⟨(some 17), .mv (.tmp 3), none, []⟩,
 ⟨(some 18), .off 3 (.tmp 1), none, []⟩,
 ⟨(some 19), .ld none (.tmp 18), none, []⟩,
 ⟨(some 20), .callS 45 [(.val (.slice .full 0 [])), (.tmp 19), (.val (.int .i64 1))], none, []⟩,
 ⟨(some 21), .callS 44 [(.val (.int .i64 9)), (.tmp 20)], none, []⟩,
 ⟨(some 22), .callS 44 [(.val (.int .i64 2)), (.tmp 21)], none, []⟩,
 ⟨(some 23), .app 5 1 1 (.tmp 17) (.tmp 22), none, []⟩,
 ⟨(some 3), .mv (.tmp 23), none, []⟩])
 .skip))
 (.seq
 (.reg [
 ⟨(some 24), .callS 45 [(.val (.slice .full 0 [])), (.val (.int .i64 4)), (.val (.int .i64 1))], none, []⟩,
 ⟨(some 4), .mv (.tmp 24), none, []⟩])
 (.seq
 (.reg [
 ⟨(some 25), .mv (.tmp 4), none, []⟩,
 ⟨(some 26), .off 0 (.tmp 1), none, []⟩,
 ⟨(some 27), .ld none (.tmp 26), none, []⟩,
 ⟨(some 28), .callS 46 [(.tmp 27)], none, []⟩,
 ⟨(some 29), .callS 45 [(.tmp 25), (.tmp 28), (.val (.int .i64 2))], none, []⟩,
 ⟨(some 4), .mv (.tmp 29), none, []⟩])
 (.seq
 (.reg [
 ⟨(some 30), .mv (.tmp 4), none, []⟩,
 ⟨(some 31), .off 1 (.tmp 1), none, []⟩,
 ⟨(some 32), .ld none (.tmp 31), none, []⟩,
 ⟨(some 33), .callS 45 [(.tmp 30), (.tmp 32), (.val (.int .i64 2))], none, []⟩,
 ⟨(some 4), .mv (.tmp 33), none, []⟩])
 (.seq
 (.reg [
 ⟨(some 34), .mv (.tmp 4), none, []⟩,
 ⟨(some 35), .off 2 (.tmp 1), none, []⟩,
 ⟨(some 36), .ld none (.tmp 35), none, []⟩,
 ⟨(some 37), .callS 45 [(.tmp 34), (.tmp 36), (.val (.int .i64 4))], none, []⟩,
 ⟨(some 4), .mv (.tmp 37), none, []⟩])
 (.seq
 (.reg [
 ⟨(some 38), .mv (.tmp 4), none, []⟩,
 ⟨(some 39), .mv (.tmp 3), none, []⟩,
 ⟨(some 40), .len (.tmp 39), none, []⟩,
 ⟨(some 41), .callS 45 [(.tmp 38), (.tmp 40), (.val (.int .i64 1))], none, []⟩,
 ⟨(some 4), .mv (.tmp 41), none, []⟩])
 (.seq
 (.reg [
 ⟨(some 42), .mv (.tmp 4), none, []⟩,
 ⟨(some 43), .mv (.tmp 3), none, []⟩,
 ⟨(some 44), .app 5 1 1 (.tmp 42) (.tmp 43), none, []⟩,
 ⟨(some 45), .bld [(.int .i64 0), (.slice .full 0 [])] [(0, 1, (.val (.int .i64 1))), (1, 1, (.tmp 44))], none, []⟩,
 ⟨none, .st 2 (.tmp 2) (.tmp 45), none, []⟩])
 .ret))))))))))
def c_open_Put : AF := ⟨b_open_Put, 46, [.cell 2 (some 2)]⟩
theorem p_open_Put : prepFunc Tryd.prog 25 = some c_open_Put ∧ hasBody Tryd.prog 25 = true := ⟨by kernel_rfl, by kernel_rfl⟩
def b_session_Hello : AC :=
 (.seq
 (.reg [
 ⟨(some 2), .box 27 6 (.tmp 0), none, []⟩,
 ⟨(some 4), .box 69 4 (.val (.agg [(.int .i64 0), (.int .i64 0), (.int .i64 0), (.int .i64 0)])), none, []⟩])
 (.seq
 (.seq
 (.reg [
 ⟨(some 5), .ld (some 6) (.tmp 2), none, []⟩,
 ⟨(some 6), .mv (.tmp 1), none, []⟩,
 ⟨(some 7), .callS 22 [(.tmp 5), (.tmp 6)], none, []⟩,
 ⟨(some 8), .un .not (.tmp 7), none, []⟩])
 (.cond (.tmp 8)
 (.seq
 (.reg [
 ⟨(some 9), .bld [(.int .i64 0), (.int .i64 0), (.int .i64 0), (.int .i64 0)] [], none, []⟩,
 ⟨none, .st 4 (.tmp 4) (.tmp 9), none, []⟩])
 .ret)
 .skip))
 (.seq
 (.reg [
 ⟨(some 10), .off 0 (.tmp 2), none, []⟩,
 ⟨(some 11), .ld none (.tmp 10), none, []⟩,
 ⟨(some 12), .off 2 (.tmp 2), none, []⟩,
 ⟨(some 13), .ld none (.tmp 12), none, []⟩,
 ⟨(some 14), .off 1 (.tmp 2), none, []⟩,
 ⟨(some 15), .ld none (.tmp 14), none, []⟩,
 ⟨(some 16), .off 5 (.tmp 2), none, []⟩,
 ⟨(some 17), .ld none (.tmp 16), none, []⟩,
 ⟨(some 18), .mv (.tmp 1), none, []⟩,
 ⟨(some 19), .idxA 4 (.tmp 17) (.tmp 18), none, []⟩,
 ⟨(some 20), .off 1 (.tmp 19), none, []⟩,
 ⟨(some 21), .ld none (.tmp 20), none, []⟩,
 ⟨(some 22), .call 47 [(.tmp 21)], none, []⟩,
 ⟨(some 23), .bld [(.int .i64 0), (.int .i64 0), (.int .i64 0), (.int .i64 0)] [(0, 1, (.tmp 11)), (1, 1, (.tmp 13)), (2, 1, (.tmp 15)), (3, 1, (.tmp 22))], none, []⟩,
 ⟨none, .st 4 (.tmp 4) (.tmp 23), none, []⟩])
 .ret)))
def c_session_Hello : AF := ⟨b_session_Hello, 24, [.cell 4 (some 4)]⟩
theorem p_session_Hello : prepFunc Tryd.prog 26 = some c_session_Hello ∧ hasBody Tryd.prog 26 = true := ⟨by kernel_rfl, by kernel_rfl⟩
def b_session_third : AC :=
 (.seq
 (.reg [
 ⟨(some 2), .mv (.val (.int .i64 0)), none, []⟩])
 (.seq
 (.reg [
 ⟨(some 3), .mv (.tmp 0), none, []⟩,
 ⟨(some 4), .bin .quo (.tmp 3) (.val (.int .i64 3)), none, []⟩,
 ⟨(some 2), .mv (.tmp 4), none, []⟩])
 .ret))
def c_session_third : AF := ⟨b_session_third, 5, [.tmp 2]⟩
theorem p_session_third : prepFunc Tryd.prog 27 = some c_session_third ∧ hasBody Tryd.prog 27 = true := ⟨by kernel_rfl, by kernel_rfl⟩
def b_msg_Least : AC :=
 (.seq
 (.reg [
 ⟨(some 2), .mv (.val (.int .i64 0)), none, []⟩])
 (.seq
 (.reg [
 ⟨(some 3), .mv (.val (.int .i64 0)), none, []⟩])
 (.seq
 (.seq
 (.reg [
 ⟨(some 4), .mv (.tmp 0), none, []⟩])
 (.block 0
 (.seq
 (.block 4
 (.seq
 (.block 3
 (.seq
 (.block 2
 (.seq
 (.block 1
 (.seq
 (.seq
 (.seq
 (.reg [
 ⟨(some 6), .bin .eql (.tmp 4) (.val (.int .i64 1)), none, []⟩,
 ⟨(some 5), .mv (.tmp 6), none, []⟩])
 (.cond (.tmp 5)
 (.exit 1)
 .skip))
 (.seq
 (.seq
 (.reg [
 ⟨(some 8), .bin .eql (.tmp 4) (.val (.int .i64 2)), none, []⟩,
 ⟨(some 7), .mv (.tmp 8), none, []⟩])
 (.cond (.tmp 7)
 (.exit 2)
 .skip))
 (.seq
 (.seq
 (.reg [
 ⟨(some 10), .bin .eql (.tmp 4) (.val (.int .i64 3)), none, []⟩,
 ⟨(some 9), .mv (.tmp 10), none, []⟩])
 (.cond (.tmp 9)
 (.exit 3)
 .skip))
 (.seq
 (.reg [
 ⟨(some 12), .bin .eql (.tmp 4) (.val (.int .i64 4)), none, []⟩,
 ⟨(some 11), .mv (.tmp 12), none, []⟩])
 (.cond (.tmp 11)
 (.exit 4)
 .skip)))))
 (.exit 0)))
 (.reg [
 ⟨(some 13), .mv (.tmp 3), none, []⟩,
 ⟨(some 14), .bin .add (.tmp 13) (.val (.int .i64 6)), none, []⟩,
 ⟨(some 3), .mv (.tmp 14), none, []⟩])))
 (.reg [
 ⟨(some 15), .mv (.tmp 3), none, []⟩,
 ⟨(some 16), .bin .add (.tmp 15) (.val (.int .i64 2)), none, []⟩,
 ⟨(some 3), .mv (.tmp 16), none, []⟩])))
 (.reg [
 ⟨(some 17), .mv (.tmp 3), none, []⟩,
 ⟨(some 18), .bin .add (.tmp 17) (.val (.int .i64 2)), none, []⟩,
 ⟨(some 3), .mv (.tmp 18), none, []⟩])))
 (.seq
 (.reg [
 ⟨(some 19), .mv (.tmp 3), none, []⟩,
 ⟨(some 20), .bin .add (.tmp 19) (.val (.int .i64 19)), none, []⟩,
 ⟨(some 3), .mv (.tmp 20), none, []⟩])
 (.exit 0)))))
 (.seq
 (.reg [
 ⟨(some 21), .mv (.tmp 3), none, []⟩,
 ⟨(some 2), .mv (.tmp 21), none, []⟩])
 .ret))))
def c_msg_Least : AF := ⟨b_msg_Least, 22, [.tmp 2]⟩
theorem p_msg_Least : prepFunc Tryd.prog 28 = some c_msg_Least ∧ hasBody Tryd.prog 28 = true := ⟨by kernel_rfl, by kernel_rfl⟩
def b_msg_wrong : AC :=
 (.seq
 (.reg [
 ⟨(some 4), .mv (.val (.bool false)), none, []⟩])
 (.seq
 (.reg [
 ⟨(some 5), .mv (.tmp 1), none, []⟩,
 ⟨(some 6), .mv (.tmp 0), none, []⟩,
 ⟨(some 7), .callS 28 [(.tmp 6)], none, []⟩,
 ⟨(some 8), .bin .lss (.tmp 5) (.tmp 7), none, []⟩,
 ⟨(some 9), .mv (.tmp 8), none, []⟩,
 ⟨(some 10), .mv (.tmp 0), some (9, false), []⟩,
 ⟨(some 11), .bin .eql (.tmp 10) (.val (.int .i64 4)), some (9, false), []⟩,
 ⟨(some 12), .mv (.tmp 11), some (9, false), []⟩,
 ⟨(some 13), .mv (.tmp 1), some (12, true), []⟩,
 ⟨(some 14), .bin .neq (.tmp 13) (.val (.int .i64 19)), some (12, true), []⟩,
 ⟨(some 15), .pick (.tmp 12) (.tmp 14) (.val (.bool false)), some (9, false), []⟩,
 ⟨(some 16), .pick (.tmp 9) (.val (.bool true)) (.tmp 15), none, []⟩,
 ⟨(some 4), .mv (.tmp 16), none, []⟩])
 .ret))
def c_msg_wrong : AF := ⟨b_msg_wrong, 17, [.tmp 4]⟩
theorem p_msg_wrong : prepFunc Tryd.prog 29 = some c_msg_wrong ∧ hasBody Tryd.prog 29 = true := ⟨by kernel_rfl, by kernel_rfl⟩
def b_conf_saneNumber : AC :=
 (.seq
 (.reg [
 ⟨(some 2), .mv (.val (.bool false)), none, []⟩])
 (.seq
 (.reg [
 ⟨(some 3), .mv (.tmp 0), none, []⟩,
 ⟨(some 4), .bin .geq (.tmp 3) (.val (.int .i64 1)), none, []⟩,
 ⟨(some 5), .mv (.tmp 4), none, []⟩,
 ⟨(some 6), .mv (.tmp 0), some (5, true), []⟩,
 ⟨(some 7), .bin .leq (.tmp 6) (.val (.int .i64 4294967295)), some (5, true), []⟩,
 ⟨(some 8), .pick (.tmp 5) (.tmp 7) (.val (.bool false)), none, []⟩,
 ⟨(some 2), .mv (.tmp 8), none, []⟩])
 .ret))
def c_conf_saneNumber : AF := ⟨b_conf_saneNumber, 9, [.tmp 2]⟩
theorem p_conf_saneNumber : prepFunc Tryd.prog 30 = some c_conf_saneNumber ∧ hasBody Tryd.prog 30 = true := ⟨by kernel_rfl, by kernel_rfl⟩
def b_conf_saneHold : AC :=
 (.seq
 (.reg [
 ⟨(some 2), .mv (.val (.bool false)), none, []⟩])
 (.seq
 (.reg [
 ⟨(some 3), .mv (.tmp 0), none, []⟩,
 ⟨(some 4), .bin .eql (.tmp 3) (.val (.int .i64 0)), none, []⟩,
 ⟨(some 5), .mv (.tmp 4), none, []⟩,
 ⟨(some 6), .mv (.tmp 0), some (5, false), []⟩,
 ⟨(some 7), .bin .geq (.tmp 6) (.val (.int .i64 3)), some (5, false), []⟩,
 ⟨(some 8), .mv (.tmp 7), some (5, false), []⟩,
 ⟨(some 9), .mv (.tmp 0), some (8, true), []⟩,
 ⟨(some 10), .bin .leq (.tmp 9) (.val (.int .i64 65535)), some (8, true), []⟩,
 ⟨(some 11), .pick (.tmp 8) (.tmp 10) (.val (.bool false)), some (5, false), []⟩,
 ⟨(some 12), .pick (.tmp 5) (.val (.bool true)) (.tmp 11), none, []⟩,
 ⟨(some 2), .mv (.tmp 12), none, []⟩])
 .ret))
def c_conf_saneHold : AF := ⟨b_conf_saneHold, 13, [.tmp 2]⟩
theorem p_conf_saneHold : prepFunc Tryd.prog 31 = some c_conf_saneHold ∧ hasBody Tryd.prog 31 = true := ⟨by kernel_rfl, by kernel_rfl⟩
def b_conf_saneCap : AC :=
 (.seq
 (.reg [
 ⟨(some 2), .mv (.val (.bool false)), none, []⟩])
 (.seq
 (.reg [
 ⟨(some 3), .mv (.tmp 0), none, []⟩,
 ⟨(some 4), .bin .geq (.tmp 3) (.val (.int .i64 1)), none, []⟩,
 ⟨(some 5), .mv (.tmp 4), none, []⟩,
 ⟨(some 6), .mv (.tmp 0), some (5, true), []⟩,
 ⟨(some 7), .bin .leq (.tmp 6) (.val (.int .i64 1000)), some (5, true), []⟩,
 ⟨(some 8), .pick (.tmp 5) (.tmp 7) (.val (.bool false)), none, []⟩,
 ⟨(some 2), .mv (.tmp 8), none, []⟩])
 .ret))
def c_conf_saneCap : AF := ⟨b_conf_saneCap, 9, [.tmp 2]⟩
theorem p_conf_saneCap : prepFunc Tryd.prog 32 = some c_conf_saneCap ∧ hasBody Tryd.prog 32 = true := ⟨by kernel_rfl, by kernel_rfl⟩
def b_conf_saneOwn : AC :=
 (.seq
 (.reg [
 ⟨(some 2), .mv (.val (.bool false)), none, []⟩])
 (.seq
 (.seq
 (.reg [
 ⟨(some 5), .mv (.tmp 0), none, []⟩,
 ⟨(some 6), .len (.tmp 5), none, []⟩,
 ⟨(some 7), .bin .gtr (.tmp 6) (.val (.int .i64 8)), none, []⟩])
 (.cond (.tmp 7)
 (.seq
 (.reg [
 ⟨(some 2), .mv (.val (.bool false)), none, []⟩])
 .ret)
 .skip))
 (.seq
 (.seq
 (.reg [
 ⟨(some 8), .mv (.tmp 0), none, []⟩,
 ⟨(some 9), .len (.tmp 8), none, []⟩,
 ⟨(some 10), .mv (.val (.int .i64 0)), none, []⟩])
 (.block 0
 (.loop
 (.seq
 (.reg [
 ⟨(some 11), .bin .lss (.tmp 10) (.tmp 9), none, []⟩])
 (.seq
 (.cond (.tmp 11)
 .skip
 (.exit 0))
 (.seq
 (.block 1
 (.seq
 (.reg [
 ⟨(some 12), .mv (.tmp 10), none, []⟩,
 ⟨(some 13), .idxA 2 (.tmp 8) (.tmp 10), none, []⟩,
 ⟨(some 14), .ld (some 2) (.tmp 13), none, []⟩,
 ⟨(some 4), .box 84 2 (.val (.agg [(.int .i64 0), (.int .i64 0)])), none, []⟩,
 ⟨(some 3), .mv (.tmp 12), none, []⟩,
 ⟨none, .st 2 (.tmp 4) (.tmp 14), none, []⟩])
 (.seq
 (.reg [
 ⟨(some 15), .ld (some 2) (.tmp 4), none, []⟩,
 ⟨(some 16), .call 48 [(.tmp 15)], none, []⟩,
 ⟨(some 17), .un .not (.tmp 16), none, []⟩,
 ⟨(some 18), .mv (.tmp 17), none, []⟩,
 ⟨(some 19), .mv (.tmp 0), some (18, false), []⟩,
 ⟨(some 20), .mv (.tmp 3), some (18, false), []⟩,
 ⟨(some 21), .slc 2 (.tmp 19) none (some (.tmp 20)) none, some (18, false), []⟩,
 ⟨(some 22), .ld (some 2) (.tmp 4), some (18, false), []⟩,
 ⟨(some 23), .callS 49 [(.tmp 21), (.tmp 22)], some (18, false), []⟩,
 ⟨(some 24), .pick (.tmp 18) (.val (.bool true)) (.tmp 23), none, []⟩])
 (.cond (.tmp 24)
 (.seq
 (.reg [
 ⟨(some 2), .mv (.val (.bool false)), none, []⟩])
 .ret)
 .skip))))
 (.reg [
 ⟨(some 25), .bin .add (.tmp 10) (.val (.int .i64 1)), none, []⟩,
 ⟨(some 10), .mv (.tmp 25), none, []⟩])))))))
 (.seq
 (.reg [
 ⟨(some 2), .mv (.val (.bool true)), none, []⟩])
 .ret))))
def c_conf_saneOwn : AF := ⟨b_conf_saneOwn, 26, [.tmp 2]⟩
theorem p_conf_saneOwn : prepFunc Tryd.prog 33 = some c_conf_saneOwn ∧ hasBody Tryd.prog 33 = true := ⟨by kernel_rfl, by kernel_rfl⟩
def b_conf_saneSides : AC :=
 (.seq
 (.reg [
 ⟨(some 1), .box 27 6 (.tmp 0), none, []⟩,
 ⟨(some 2), .mv (.val (.bool false)), none, []⟩])
 (.seq
 (.seq
 (.reg [
 ⟨(some 5), .off 5 (.tmp 1), none, []⟩,
 ⟨(some 6), .ld none (.tmp 5), none, []⟩,
 ⟨(some 7), .len (.tmp 6), none, []⟩,
 ⟨(some 8), .bin .gtr (.tmp 7) (.val (.int .i64 8)), none, []⟩])
 (.cond (.tmp 8)
 (.seq
 (.reg [
 ⟨(some 2), .mv (.val (.bool false)), none, []⟩])
 .ret)
 .skip))
 (.seq
 (.seq
 (.reg [
 ⟨(some 9), .off 5 (.tmp 1), none, []⟩,
 ⟨(some 10), .ld none (.tmp 9), none, []⟩,
 ⟨(some 11), .len (.tmp 10), none, []⟩,
 ⟨(some 12), .mv (.val (.int .i64 0)), none, []⟩])
 (.block 0
 (.loop
 (.seq
 (.reg [
 ⟨(some 13), .bin .lss (.tmp 12) (.tmp 11), none, []⟩])
 (.seq
 (.cond (.tmp 13)
 .skip
 (.exit 0))
 (.seq
 (.block 1
 (.seq
 (.reg [
 ⟨(some 14), .mv (.tmp 12), none, []⟩,
 ⟨(some 15), .idxA 4 (.tmp 10) (.tmp 12), none, []⟩,
 ⟨(some 16), .ld (some 4) (.tmp 15), none, []⟩,
 ⟨(some 4), .box 46 4 (.val (.agg [(.int .i64 0), (.int .i64 0), (.slice .full 0 []), (.slice .full 0 [])])), none, []⟩,
 ⟨(some 3), .mv (.tmp 14), none, []⟩,
 ⟨none, .st 4 (.tmp 4) (.tmp 16), none, []⟩])
 (.seq
 (.seq
 (.reg [
 ⟨(some 17), .off 0 (.tmp 4), none, []⟩,
 ⟨(some 18), .ld none (.tmp 17), none, []⟩,
 ⟨(some 19), .call 30 [(.tmp 18)], none, []⟩,
 ⟨(some 20), .un .not (.tmp 19), none, []⟩,
 ⟨(some 21), .mv (.tmp 20), none, []⟩,
 ⟨(some 22), .off 0 (.tmp 1), some (21, false), []⟩,
 ⟨(some 23), .ld none (.tmp 22), some (21, false), []⟩,
 ⟨(some 24), .off 5 (.tmp 1), some (21, false), []⟩,
 ⟨(some 25), .ld none (.tmp 24), some (21, false), []⟩,
 ⟨(some 26), .mv (.tmp 3), some (21, false), []⟩,
 ⟨(some 27), .slc 4 (.tmp 25) none (some (.tmp 26)) none, some (21, false), []⟩,
 ⟨(some 28), .off 0 (.tmp 4), some (21, false), []⟩,
 ⟨(some 29), .ld none (.tmp 28), some (21, false), []⟩,
 ⟨(some 30), .callS 50 [(.tmp 23), (.tmp 27), (.tmp 29)], some (21, false), []⟩,
 ⟨(some 31), .pick (.tmp 21) (.val (.bool true)) (.tmp 30), none, []⟩,
 ⟨(some 32), .mv (.tmp 31), none, []⟩,
 ⟨(some 33), .off 1 (.tmp 4), some (32, false), []⟩,
 ⟨(some 34), .ld none (.tmp 33), some (32, false), []⟩,
 ⟨(some 35), .bin .lss (.tmp 34) (.val (.int .i64 1)), some (32, false), []⟩,
 ⟨(some 36), .pick (.tmp 32) (.val (.bool true)) (.tmp 35), none, []⟩,
 ⟨(some 37), .mv (.tmp 36), none, []⟩,
 ⟨(some 38), .off 1 (.tmp 4), some (37, false), []⟩,
 ⟨(some 39), .ld none (.tmp 38), some (37, false), []⟩,
 ⟨(some 40), .bin .gtr (.tmp 39) (.val (.int .i64 3)), some (37, false), []⟩,
 ⟨(some 41), .pick (.tmp 37) (.val (.bool true)) (.tmp 40), none, []⟩])
 (.cond (.tmp 41)
 (.seq
 (.reg [
 ⟨(some 2), .mv (.val (.bool false)), none, []⟩])
 .ret)
 .skip))
 (.seq
 (.reg [
 ⟨(some 42), .off 2 (.tmp 4), none, []⟩,
 ⟨(some 43), .ld none (.tmp 42), none, []⟩,
 ⟨(some 44), .callS 51 [(.tmp 43), (.val (.bool true))], none, []⟩,
 ⟨(some 45), .un .not (.tmp 44), none, []⟩,
 ⟨(some 46), .mv (.tmp 45), none, []⟩,
 ⟨(some 47), .off 3 (.tmp 4), some (46, false), []⟩,
 ⟨(some 48), .ld none (.tmp 47), some (46, false), []⟩,
 ⟨(some 49), .callS 51 [(.tmp 48), (.val (.bool false))], some (46, false), []⟩,
 ⟨(some 50), .un .not (.tmp 49), some (46, false), []⟩,
 ⟨(some 51), .pick (.tmp 46) (.val (.bool true)) (.tmp 50), none, []⟩])
 (.cond (.tmp 51)
 (.seq
 (.reg [
 ⟨(some 2), .mv (.val (.bool false)), none, []⟩])
 .ret)
 .skip)))))
 (.reg [
 ⟨(some 52), .bin .add (.tmp 12) (.val (.int .i64 1)), none, []⟩,
 ⟨(some 12), .mv (.tmp 52), none, []⟩])))))))
 (.seq
 (.reg [
 ⟨(some 2), .mv (.val (.bool true)), none, []⟩])
 .ret))))
def c_conf_saneSides : AF := ⟨b_conf_saneSides, 53, [.tmp 2]⟩
theorem p_conf_saneSides : prepFunc Tryd.prog 34 = some c_conf_saneSides ∧ hasBody Tryd.prog 34 = true := ⟨by kernel_rfl, by kernel_rfl⟩
def b_note_Sane : AC :=
 (.seq
 (.reg [
 ⟨(some 1), .box 50 3 (.tmp 0), none, []⟩,
 ⟨(some 2), .mv (.val (.bool false)), none, []⟩])
 (.seq
 (.reg [
 ⟨(some 3), .off 0 (.tmp 1), none, []⟩,
 ⟨(some 4), .ld none (.tmp 3), none, []⟩,
 ⟨(some 5), .bin .geq (.tmp 4) (.val (.int .i64 1)), none, []⟩,
 ⟨(some 6), .mv (.tmp 5), none, []⟩,
 ⟨(some 7), .off 0 (.tmp 1), some (6, true), []⟩,
 ⟨(some 8), .ld none (.tmp 7), some (6, true), []⟩,
 ⟨(some 9), .bin .leq (.tmp 8) (.val (.int .i64 255)), some (6, true), []⟩,
 ⟨(some 10), .pick (.tmp 6) (.tmp 9) (.val (.bool false)), none, []⟩,
 ⟨(some 11), .mv (.tmp 10), none, []⟩,
 ⟨(some 12), .off 1 (.tmp 1), some (11, true), []⟩,
 ⟨(some 13), .ld none (.tmp 12), some (11, true), []⟩,
 ⟨(some 14), .bin .geq (.tmp 13) (.val (.int .i64 0)), some (11, true), []⟩,
 ⟨(some 15), .pick (.tmp 11) (.tmp 14) (.val (.bool false)), none, []⟩,
 ⟨(some 16), .mv (.tmp 15), none, []⟩,
 ⟨(some 17), .off 1 (.tmp 1), some (16, true), []⟩,
 ⟨(some 18), .ld none (.tmp 17), some (16, true), []⟩,
 ⟨(some 19), .bin .leq (.tmp 18) (.val (.int .i64 255)), some (16, true), []⟩,
 ⟨(some 20), .pick (.tmp 16) (.tmp 19) (.val (.bool false)), none, []⟩,
 ⟨(some 21), .mv (.tmp 20), none, []⟩,
 ⟨(some 22), .off 2 (.tmp 1), some (21, true), []⟩,
 ⟨(some 23), .ld none (.tmp 22), some (21, true), []⟩,
 ⟨(some 24), .len (.tmp 23), some (21, true), []⟩,
 ⟨(some 25), .bin .leq (.tmp 24) (.val (.int .i64 4075)), some (21, true), []⟩,
 ⟨(some 26), .pick (.tmp 21) (.tmp 25) (.val (.bool false)), none, []⟩,
 ⟨(some 2), .mv (.tmp 26), none, []⟩])
 .ret))
def c_note_Sane : AF := ⟨b_note_Sane, 27, [.tmp 2]⟩
theorem p_note_Sane : prepFunc Tryd.prog 35 = some c_note_Sane ∧ hasBody Tryd.prog 35 = true := ⟨by kernel_rfl, by kernel_rfl⟩
def b_session_does_1 : AC :=
 (.seq
 (.reg [
 ⟨(some 1), .box 65 16 (.tmp 0), none, []⟩,
 ⟨(some 2), .box 23 4 (.val (.agg [(.int .i64 0), (.int .i64 0), (.int .i64 0), (.int .i64 0)])), none, []⟩,
 ⟨(some 3), .mv (.val (.slice .full 0 [])), none, []⟩,
 ⟨(some 4), .mv (.val (.bool false)), none, []⟩])
 (.seq
 (.reg [
 ⟨(some 5), .off 0 (.tmp 1), none, []⟩,
 ⟨(some 6), .ld (some 4) (.tmp 5), none, []⟩,
 ⟨none, .st 4 (.tmp 2) (.tmp 6), none, []⟩,
 ⟨(some 3), .mv (.val (.slice .full 0 [])), none, []⟩,
 ⟨(some 4), .mv (.val (.bool false)), none, []⟩])
 .ret))
def c_session_does_1 : AF := ⟨b_session_does_1, 7, [.cell 2 (some 4), .tmp 3, .tmp 4]⟩
theorem p_session_does_1 : prepFunc Tryd.prog 37 = some c_session_does_1 ∧ hasBody Tryd.prog 37 = true := ⟨by kernel_rfl, by kernel_rfl⟩
def b_session_turn__sent : AC :=
 (.seq
 (.reg [
 ⟨(some 1), .box 65 16 (.tmp 0), none, []⟩,
 ⟨(some 2), .box 23 4 (.val (.agg [(.int .i64 0), (.int .i64 0), (.int .i64 0), (.int .i64 0)])), none, []⟩,
 ⟨(some 3), .mv (.val (.slice .full 0 [])), none, []⟩,
 ⟨(some 4), .mv (.val (.bool false)), none, []⟩])
 (.seq
 (.seq
 (.reg [
 ⟨(some 8), .off 14 (.tmp 1), none, []⟩,
 ⟨(some 9), .off 0 (.tmp 8), none, []⟩,
 ⟨(some 10), .ld none (.tmp 9), none, []⟩,
 ⟨(some 11), .bin .neq (.tmp 10) (.val (.int .i64 1)), none, []⟩])
 (.cond (.tmp 11)
 (.seq
 (.reg [
 ⟨(some 12), .ld (some 16) (.tmp 1), none, []⟩,
 ⟨(some 13), .bld [(.int .i64 0), (.int .i64 0), (.slice .full 0 [])] [(0, 1, (.val (.int .i64 5))), (1, 1, (.val (.int .i64 1)))], none, []⟩,
 ⟨(some 14), .callS 52 [(.tmp 12), (.tmp 13)], none, []⟩,
 ⟨(some 15), .ext (.tmp 14) 0, none, []⟩,
 ⟨(some 16), .ext (.tmp 14) 1, none, []⟩,
 ⟨(some 17), .ext (.tmp 14) 2, none, []⟩,
 ⟨none, .st 4 (.tmp 2) (.tmp 15), none, []⟩,
 ⟨(some 3), .mv (.tmp 16), none, []⟩,
 ⟨(some 4), .mv (.tmp 17), none, []⟩])
 .ret)
 .skip))
 (.seq
 (.reg [
 ⟨(some 19), .off 14 (.tmp 1), none, []⟩,
 ⟨(some 20), .ld (some 2) (.tmp 19), none, []⟩,
 ⟨(some 21), .off 10 (.tmp 1), none, []⟩,
 ⟨(some 22), .off 0 (.tmp 21), none, []⟩,
 ⟨(some 23), .ld none (.tmp 22), none, []⟩,
 ⟨(some 24), .callS 53 [(.tmp 20), (.tmp 23)], none, []⟩,
 ⟨(some 18), .mv (.tmp 24), none, []⟩,
 ⟨(some 25), .ext (.tmp 18) 0, none, []⟩,
 ⟨(some 26), .ext (.tmp 18) 1, none, []⟩,
 ⟨(some 5), .box 69 4 (.val (.agg [(.int .i64 0), (.int .i64 0), (.int .i64 0), (.int .i64 0)])), none, []⟩,
 ⟨(some 6), .box 50 3 (.val (.agg [(.int .i64 0), (.int .i64 0), (.slice .full 0 [])])), none, []⟩,
 ⟨none, .st 4 (.tmp 5) (.tmp 25), none, []⟩,
 ⟨none, .st 3 (.tmp 6) (.tmp 26), none, []⟩])
 (.seq
 (.seq
 (.reg [
 ⟨(some 27), .off 0 (.tmp 6), none, []⟩,
 ⟨(some 28), .ld none (.tmp 27), none, []⟩,
 ⟨(some 29), .bin .neq (.tmp 28) (.val (.int .i64 0)), none, []⟩])
 (.cond (.tmp 29)
 (.seq
 (.reg [
 ⟨(some 30), .ld (some 16) (.tmp 1), none, []⟩,
 ⟨(some 31), .ld (some 3) (.tmp 6), none, []⟩,
 ⟨(some 32), .callS 52 [(.tmp 30), (.tmp 31)], none, []⟩,
 ⟨(some 33), .ext (.tmp 32) 0, none, []⟩,
 ⟨(some 34), .ext (.tmp 32) 1, none, []⟩,
 ⟨(some 35), .ext (.tmp 32) 2, none, []⟩,
 ⟨none, .st 4 (.tmp 2) (.tmp 33), none, []⟩,
 ⟨(some 3), .mv (.tmp 34), none, []⟩,
 ⟨(some 4), .mv (.tmp 35), none, []⟩])
 .ret)
 .skip))
 (.seq
 (.seq
 (.reg [
 ⟨(some 36), .off 3 (.tmp 5), none, []⟩,
 ⟨(some 37), .ld none (.tmp 36), none, []⟩,
 ⟨(some 38), .bin .geq (.tmp 37) (.val (.int .i64 0)), none, []⟩,
 ⟨(some 39), .mv (.tmp 38), none, []⟩,
 ⟨(some 40), .off 10 (.tmp 1), some (39, true), []⟩,
 ⟨(some 41), .off 1 (.tmp 40), some (39, true), []⟩,
 ⟨(some 42), .ld none (.tmp 41), some (39, true), []⟩,
 ⟨(some 43), .call 47 [(.tmp 42)], some (39, true), []⟩,
 ⟨(some 44), .off 3 (.tmp 5), some (39, true), []⟩,
 ⟨(some 45), .ld none (.tmp 44), some (39, true), []⟩,
 ⟨(some 46), .callS 54 [(.tmp 43), (.tmp 45)], some (39, true), []⟩,
 ⟨(some 47), .un .not (.tmp 46), some (39, true), []⟩,
 ⟨(some 48), .pick (.tmp 39) (.tmp 47) (.val (.bool false)), none, []⟩])
 (.cond (.tmp 48)
 (.seq
 (.reg [
 ⟨(some 49), .ld (some 16) (.tmp 1), none, []⟩,
 ⟨(some 50), .bld [(.int .i64 0), (.int .i64 0), (.slice .full 0 [])] [(0, 1, (.val (.int .i64 2))), (1, 1, (.val (.int .i64 11)))], none, []⟩,
 ⟨(some 51), .callS 52 [(.tmp 49), (.tmp 50)], none, []⟩,
 ⟨(some 52), .ext (.tmp 51) 0, none, []⟩,
 ⟨(some 53), .ext (.tmp 51) 1, none, []⟩,
 ⟨(some 54), .ext (.tmp 51) 2, none, []⟩,
 ⟨none, .st 4 (.tmp 2) (.tmp 52), none, []⟩,
 ⟨(some 3), .mv (.tmp 53), none, []⟩,
 ⟨(some 4), .mv (.tmp 54), none, []⟩])
 .ret)
 .skip))
 (.seq
 (.reg [
 ⟨(some 55), .off 4 (.tmp 1), none, []⟩,
 ⟨(some 56), .off 2 (.tmp 55), none, []⟩,
 ⟨(some 57), .ld none (.tmp 56), none, []⟩,
 ⟨(some 58), .off 1 (.tmp 5), none, []⟩,
 ⟨(some 59), .ld none (.tmp 58), none, []⟩,
 ⟨(some 60), .mn (.tmp 57) (.tmp 59), none, []⟩,
 ⟨(some 7), .mv (.tmp 60), none, []⟩])
 (.seq
 (.reg [
 ⟨(some 61), .mv (.tmp 7), none, []⟩,
 ⟨(some 62), .mv (.tmp 7), none, []⟩,
 ⟨(some 63), .mv (.tmp 7), none, []⟩,
 ⟨(some 64), .callS 27 [(.tmp 63)], none, []⟩,
 ⟨(some 65), .bld [(.int .i64 0), (.int .i64 0), (.int .i64 0), (.int .i64 0)] [(0, 1, (.val (.int .i64 2))), (1, 1, (.tmp 61)), (2, 1, (.tmp 62)), (3, 1, (.tmp 64))], none, []⟩,
 ⟨(some 66), .callS 42 [], none, []⟩,
 ⟨none, .st 4 (.tmp 2) (.tmp 65), none, []⟩,
 ⟨(some 3), .mv (.tmp 66), none, []⟩,
 ⟨(some 4), .mv (.val (.bool false)), none, []⟩])
 .ret)))))))
def c_session_turn__sent : AF := ⟨b_session_turn__sent, 67, [.cell 2 (some 4), .tmp 3, .tmp 4]⟩
theorem p_session_turn__sent : prepFunc Tryd.prog 38 = some c_session_turn__sent ∧ hasBody Tryd.prog 38 = true := ⟨by kernel_rfl, by kernel_rfl⟩
def b_session_turn__confirm : AC :=
 (.seq
 (.reg [
 ⟨(some 1), .box 65 16 (.tmp 0), none, []⟩,
 ⟨(some 2), .box 23 4 (.val (.agg [(.int .i64 0), (.int .i64 0), (.int .i64 0), (.int .i64 0)])), none, []⟩,
 ⟨(some 3), .mv (.val (.slice .full 0 [])), none, []⟩,
 ⟨(some 4), .mv (.val (.bool false)), none, []⟩])
 (.seq
 (.seq
 (.reg [
 ⟨(some 5), .off 14 (.tmp 1), none, []⟩,
 ⟨(some 6), .off 0 (.tmp 5), none, []⟩,
 ⟨(some 7), .ld none (.tmp 6), none, []⟩,
 ⟨(some 8), .bin .neq (.tmp 7) (.val (.int .i64 4)), none, []⟩])
 (.cond (.tmp 8)
 (.seq
 (.reg [
 ⟨(some 9), .ld (some 16) (.tmp 1), none, []⟩,
 ⟨(some 10), .bld [(.int .i64 0), (.int .i64 0), (.slice .full 0 [])] [(0, 1, (.val (.int .i64 5))), (1, 1, (.val (.int .i64 2)))], none, []⟩,
 ⟨(some 11), .callS 52 [(.tmp 9), (.tmp 10)], none, []⟩,
 ⟨(some 12), .ext (.tmp 11) 0, none, []⟩,
 ⟨(some 13), .ext (.tmp 11) 1, none, []⟩,
 ⟨(some 14), .ext (.tmp 11) 2, none, []⟩,
 ⟨none, .st 4 (.tmp 2) (.tmp 12), none, []⟩,
 ⟨(some 3), .mv (.tmp 13), none, []⟩,
 ⟨(some 4), .mv (.tmp 14), none, []⟩])
 .ret)
 .skip))
 (.seq
 (.reg [
 ⟨(some 15), .off 0 (.tmp 1), none, []⟩,
 ⟨(some 16), .off 1 (.tmp 15), none, []⟩,
 ⟨(some 17), .ld none (.tmp 16), none, []⟩,
 ⟨(some 18), .off 0 (.tmp 1), none, []⟩,
 ⟨(some 19), .off 0 (.tmp 18), none, []⟩,
 ⟨none, .st 1 (.tmp 19) (.val (.int .i64 3)), none, []⟩,
 ⟨(some 20), .off 0 (.tmp 1), none, []⟩,
 ⟨(some 21), .off 2 (.tmp 20), none, []⟩,
 ⟨none, .st 1 (.tmp 21) (.tmp 17), none, []⟩])
 (.seq
 (.reg [
 ⟨(some 22), .off 0 (.tmp 1), none, []⟩,
 ⟨(some 23), .ld (some 4) (.tmp 22), none, []⟩,
 ⟨none, .st 4 (.tmp 2) (.tmp 23), none, []⟩,
 ⟨(some 3), .mv (.val (.slice .full 0 [])), none, []⟩,
 ⟨(some 4), .mv (.val (.bool false)), none, []⟩])
 .ret))))
def c_session_turn__confirm : AF := ⟨b_session_turn__confirm, 24, [.cell 2 (some 4), .tmp 3, .tmp 4]⟩
theorem p_session_turn__confirm : prepFunc Tryd.prog 39 = some c_session_turn__confirm ∧ hasBody Tryd.prog 39 = true := ⟨by kernel_rfl, by kernel_rfl⟩
def b_session_turn__up : AC :=
 (.seq
 (.reg [
 ⟨(some 1), .box 65 16 (.tmp 0), none, []⟩,
 ⟨(some 2), .box 23 4 (.val (.agg [(.int .i64 0), (.int .i64 0), (.int .i64 0), (.int .i64 0)])), none, []⟩,
 ⟨(some 3), .mv (.val (.slice .full 0 [])), none, []⟩,
 ⟨(some 4), .mv (.val (.bool false)), none, []⟩])
 (.seq
 (.seq
 (.reg [
 ⟨(some 5), .off 14 (.tmp 1), none, []⟩,
 ⟨(some 6), .off 0 (.tmp 5), none, []⟩,
 ⟨(some 7), .ld none (.tmp 6), none, []⟩,
 ⟨(some 8), .bin .eql (.tmp 7) (.val (.int .i64 1)), none, []⟩])
 (.cond (.tmp 8)
 (.seq
 (.reg [
 ⟨(some 9), .ld (some 16) (.tmp 1), none, []⟩,
 ⟨(some 10), .bld [(.int .i64 0), (.int .i64 0), (.slice .full 0 [])] [(0, 1, (.val (.int .i64 5))), (1, 1, (.val (.int .i64 3)))], none, []⟩,
 ⟨(some 11), .callS 52 [(.tmp 9), (.tmp 10)], none, []⟩,
 ⟨(some 12), .ext (.tmp 11) 0, none, []⟩,
 ⟨(some 13), .ext (.tmp 11) 1, none, []⟩,
 ⟨(some 14), .ext (.tmp 11) 2, none, []⟩,
 ⟨none, .st 4 (.tmp 2) (.tmp 12), none, []⟩,
 ⟨(some 3), .mv (.tmp 13), none, []⟩,
 ⟨(some 4), .mv (.tmp 14), none, []⟩])
 .ret)
 .skip))
 (.seq
 (.reg [
 ⟨(some 15), .off 0 (.tmp 1), none, []⟩,
 ⟨(some 16), .off 1 (.tmp 15), none, []⟩,
 ⟨(some 17), .ld none (.tmp 16), none, []⟩,
 ⟨(some 18), .off 0 (.tmp 1), none, []⟩,
 ⟨(some 19), .off 2 (.tmp 18), none, []⟩,
 ⟨none, .st 1 (.tmp 19) (.tmp 17), none, []⟩])
 (.seq
 (.reg [
 ⟨(some 20), .off 0 (.tmp 1), none, []⟩,
 ⟨(some 21), .ld (some 4) (.tmp 20), none, []⟩,
 ⟨(some 22), .off 14 (.tmp 1), none, []⟩,
 ⟨(some 23), .off 0 (.tmp 22), none, []⟩,
 ⟨(some 24), .ld none (.tmp 23), none, []⟩,
 ⟨(some 25), .bin .eql (.tmp 24) (.val (.int .i64 2)), none, []⟩,
 ⟨none, .st 4 (.tmp 2) (.tmp 21), none, [(none, (.tmp 23), 24)]⟩,
 ⟨(some 3), .mv (.val (.slice .full 0 [])), none, [(none, (.tmp 23), 24)]⟩,
 ⟨(some 4), .mv (.tmp 25), none, []⟩])
 .ret))))
def c_session_turn__up : AF := ⟨b_session_turn__up, 26, [.cell 2 (some 4), .tmp 3, .tmp 4]⟩
theorem p_session_turn__up : prepFunc Tryd.prog 40 = some c_session_turn__up ∧ hasBody Tryd.prog 40 = true := ⟨by kernel_rfl, by kernel_rfl⟩
def b_session_Stop : AC :=
 (.seq
 (.reg [
 ⟨(some 2), .box 23 4 (.tmp 0), none, []⟩,
 ⟨(some 3), .box 50 3 (.tmp 1), none, []⟩,
 ⟨(some 4), .box 23 4 (.val (.agg [(.int .i64 0), (.int .i64 0), (.int .i64 0), (.int .i64 0)])), none, []⟩,
 ⟨(some 5), .mv (.val (.slice .full 0 [])), none, []⟩])
 (.seq
 (.seq
 (.reg [
 ⟨(some 6), .ld (some 4) (.tmp 2), none, []⟩,
 ⟨(some 7), .callS 21 [(.tmp 6)], none, []⟩,
 ⟨(some 8), .prt none 1 0 0 (.tmp 7) (.val (.int .i64 0)), none, []⟩,
 ⟨(some 9), .bin .eql (.tmp 8) (.val (.int .i64 0)), none, []⟩,
 ⟨(some 10), .mv (.tmp 9), none, []⟩,
 ⟨(some 11), .ld (some 3) (.tmp 3), some (10, false), []⟩,
 ⟨(some 12), .callS 35 [(.tmp 11)], some (10, false), []⟩,
 ⟨(some 13), .un .not (.tmp 12), some (10, false), []⟩,
 ⟨(some 14), .pick (.tmp 10) (.val (.bool true)) (.tmp 13), none, []⟩])
 (.cond (.tmp 14)
 (.seq
 (.reg [
 ⟨(some 15), .bld [(.int .i64 0), (.int .i64 0), (.int .i64 0), (.int .i64 0)] [], none, []⟩,
 ⟨none, .st 4 (.tmp 4) (.tmp 15), none, []⟩,
 ⟨(some 5), .mv (.val (.slice .full 0 [])), none, []⟩])
 .ret)
 .skip))
 (.seq
 (.reg [
 ⟨(some 16), .bld [(.int .i64 0), (.int .i64 0), (.int .i64 0), (.int .i64 0)] [], none, []⟩,
 ⟨(some 17), .ld (some 3) (.tmp 3), none, []⟩,
 ⟨(some 18), .callS 55 [(.tmp 17)], none, []⟩,
 ⟨(some 19), .lit 30 2 [0, 1] [(.tmp 18)], none, []⟩,
 ⟨none, .st 4 (.tmp 4) (.tmp 16), none, []⟩,
 ⟨(some 5), .mv (.tmp 19), none, []⟩])
 .ret)))
def c_session_Stop : AF := ⟨b_session_Stop, 20, [.cell 4 (some 4), .tmp 5]⟩
theorem p_session_Stop : prepFunc Tryd.prog 41 = some c_session_Stop ∧ hasBody Tryd.prog 41 = true := ⟨by kernel_rfl, by kernel_rfl⟩
def b_session_alive : AC :=
 (.seq
 (.reg [
 ⟨(some 0), .mv (.val (.slice .full 0 [])), none, []⟩])
 (.seq
 (.reg [
 ⟨(some 1), .bld [(.int .i64 0), (.slice .full 0 [])] [(0, 1, (.val (.int .i64 4)))], none, []⟩,
 ⟨(some 2), .lit 30 2 [0, 1] [(.tmp 1)], none, []⟩,
 ⟨(some 0), .mv (.tmp 2), none, []⟩])
 .ret))
def c_session_alive : AF := ⟨b_session_alive, 3, [.tmp 0]⟩
theorem p_session_alive : prepFunc Tryd.prog 42 = some c_session_alive ∧ hasBody Tryd.prog 42 = true := ⟨by kernel_rfl, by kernel_rfl⟩
def b_open_Sane : AC :=
 (.seq
 (.reg [
 ⟨(some 1), .box 69 4 (.tmp 0), none, []⟩,
 ⟨(some 2), .mv (.val (.bool false)), none, []⟩])
 (.seq
 (.reg [
 ⟨(some 3), .off 0 (.tmp 1), none, []⟩,
 ⟨(some 4), .ld none (.tmp 3), none, []⟩,
 ⟨(some 5), .callS 56 [(.tmp 4)], none, []⟩,
 ⟨(some 6), .mv (.tmp 5), none, []⟩,
 ⟨(some 7), .off 2 (.tmp 1), some (6, true), []⟩,
 ⟨(some 8), .ld none (.tmp 7), some (6, true), []⟩,
 ⟨(some 9), .callS 56 [(.tmp 8)], some (6, true), []⟩,
 ⟨(some 10), .pick (.tmp 6) (.tmp 9) (.val (.bool false)), none, []⟩,
 ⟨(some 11), .mv (.tmp 10), none, []⟩,
 ⟨(some 12), .off 1 (.tmp 1), some (11, true), []⟩,
 ⟨(some 13), .ld none (.tmp 12), some (11, true), []⟩,
 ⟨(some 14), .callS 57 [(.tmp 13)], some (11, true), []⟩,
 ⟨(some 15), .pick (.tmp 11) (.tmp 14) (.val (.bool false)), none, []⟩,
 ⟨(some 16), .mv (.tmp 15), none, []⟩,
 ⟨(some 17), .off 3 (.tmp 1), some (16, true), []⟩,
 ⟨(some 18), .ld none (.tmp 17), some (16, true), []⟩,
 ⟨(some 19), .bin .geq (.tmp 18) (.val (.int .i64 (-1))), some (16, true), []⟩,
 ⟨(some 20), .pick (.tmp 16) (.tmp 19) (.val (.bool false)), none, []⟩,
 ⟨(some 21), .mv (.tmp 20), none, []⟩,
 ⟨(some 22), .off 3 (.tmp 1), some (21, true), []⟩,
 ⟨(some 23), .ld none (.tmp 22), some (21, true), []⟩,
 ⟨(some 24), .bin .leq (.tmp 23) (.val (.int .i64 4)), some (21, true), []⟩,
 ⟨(some 25), .pick (.tmp 21) (.tmp 24) (.val (.bool false)), none, []⟩,
 ⟨(some 2), .mv (.tmp 25), none, []⟩])
 .ret))
def c_open_Sane : AF := ⟨b_open_Sane, 26, [.tmp 2]⟩
theorem p_open_Sane : prepFunc Tryd.prog 43 = some c_open_Sane ∧ hasBody Tryd.prog 43 = true := ⟨by kernel_rfl, by kernel_rfl⟩
def b_open_labelled : AC :=
 (.seq
 (.reg [
 ⟨(some 4), .mv (.val (.slice .full 0 [])), none, []⟩])
 (.seq
 (.reg [
 ⟨(some 5), .mv (.tmp 0), none, []⟩,
 ⟨(some 6), .conv .u8 (.tmp 5), none, []⟩,
 ⟨(some 7), .mv (.tmp 1), none, []⟩,
 ⟨(some 8), .len (.tmp 7), none, []⟩,
 ⟨(some 9), .conv .u8 (.tmp 8), none, []⟩,
 ⟨(some 10), .lit 5 1 [0] [(.tmp 6), (.tmp 9)], none, []⟩,
 ⟨(some 11), .mv (.tmp 1), none, []⟩,
 ⟨(some 12), .app 5 1 1 (.tmp 10) (.tmp 11), none, []⟩,
 ⟨(some 4), .mv (.tmp 12), none, []⟩])
 .ret))
def c_open_labelled : AF := ⟨b_open_labelled, 13, [.tmp 4]⟩
theorem p_open_labelled : prepFunc Tryd.prog 44 = some c_open_labelled ∧ hasBody Tryd.prog 44 = true := ⟨by kernel_rfl, by kernel_rfl⟩
def b_octet_Put : AC :=
 (.seq
 (.reg [
 ⟨(some 6), .mv (.val (.slice .full 0 [])), none, []⟩])
 (.seq
 (.seq
 (.reg [
 ⟨(some 9), .mv (.tmp 2), none, []⟩,
 ⟨(some 10), .bin .lss (.tmp 9) (.val (.int .i64 1)), none, []⟩,
 ⟨(some 11), .mv (.tmp 10), none, []⟩,
 ⟨(some 12), .mv (.tmp 2), some (11, false), []⟩,
 ⟨(some 13), .bin .gtr (.tmp 12) (.val (.int .i64 4)), some (11, false), []⟩,
 ⟨(some 14), .pick (.tmp 11) (.val (.bool true)) (.tmp 13), none, []⟩])
 (.cond (.tmp 14)
 (.seq
 (.reg [
 ⟨(some 15), .mv (.tmp 0), none, []⟩,
 ⟨(some 6), .mv (.tmp 15), none, []⟩])
 .ret)
 .skip))
 (.seq
 (.reg [
 ⟨(some 16), .mv (.tmp 0), none, []⟩,
 ⟨(some 17), .mv (.tmp 0), none, []⟩,
 ⟨(some 18), .len (.tmp 17), none, []⟩,
 ⟨(some 19), .mv (.tmp 0), none, []⟩,
 ⟨(some 20), .len (.tmp 19), none, []⟩,
 ⟨(some 21), .slc 1 (.tmp 16) none (some (.tmp 18)) (some (.tmp 20)), none, []⟩,
 ⟨(some 7), .mv (.tmp 21), none, []⟩])
 (.seq
 (.seq
 (.reg [
 ⟨(some 22), .mv (.tmp 2), none, []⟩,
 ⟨(some 23), .mv (.val (.int .i64 0)), none, []⟩])
 (.block 0
 (.loop
 (.seq
 (.reg [
 ⟨(some 24), .bin .lss (.tmp 23) (.tmp 22), none, []⟩])
 (.seq
 (.cond (.tmp 24)
 .skip
 (.exit 0))
 (.seq
 (.block 1
 (.seq
 (.reg [
 ⟨(some 25), .mv (.tmp 23), none, []⟩,
 ⟨(some 8), .mv (.tmp 25), none, []⟩])
 (.reg [
 ⟨(some 26), .mv (.tmp 7), none, []⟩,
 ⟨(some 27), .mv (.tmp 1), none, []⟩,
 ⟨(some 28), .mv (.tmp 2), none, []⟩,
 ⟨(some 29), .bin .sub (.tmp 28) (.val (.int .i64 1)), none, []⟩,
 ⟨(some 30), .mv (.tmp 8), none, []⟩,
 ⟨(some 31), .bin .sub (.tmp 29) (.tmp 30), none, []⟩,
 ⟨(some 32), .bin .mul (.val (.int .i64 8)) (.tmp 31), none, []⟩,
 ⟨(some 33), .bin .shr (.tmp 27) (.tmp 32), none, []⟩,
 ⟨(some 34), .conv .u8 (.tmp 33), none, []⟩,
 ⟨(some 35), .lit 5 1 [0] [(.tmp 34)], none, []⟩,
 ⟨(some 36), .app 5 1 1 (.tmp 26) (.tmp 35), none, []⟩,
 ⟨(some 7), .mv (.tmp 36), none, []⟩])))
 (.reg [
 ⟨(some 37), .bin .add (.tmp 23) (.val (.int .i64 1)), none, []⟩,
 ⟨(some 23), .mv (.tmp 37), none, []⟩])))))))
 (.seq
 (.reg [
 ⟨(some 38), .mv (.tmp 7), none, []⟩,
 ⟨(some 6), .mv (.tmp 38), none, []⟩])
 .ret)))))
def c_octet_Put : AF := ⟨b_octet_Put, 39, [.tmp 6]⟩
theorem p_octet_Put : prepFunc Tryd.prog 45 = some c_octet_Put ∧ hasBody Tryd.prog 45 = true := ⟨by kernel_rfl, by kernel_rfl⟩
def b_open_short : AC :=
 (.seq
 (.reg [
 ⟨(some 2), .mv (.val (.int .i64 0)), none, []⟩])
 (.seq
 (.seq
 (.reg [
 ⟨(some 3), .mv (.tmp 0), none, []⟩,
 ⟨(some 4), .bin .gtr (.tmp 3) (.val (.int .i64 65535)), none, []⟩])
 (.cond (.tmp 4)
 (.seq
 (.reg [
 ⟨(some 2), .mv (.val (.int .i64 23456)), none, []⟩])
 .ret)
 .skip))
 (.seq
 (.reg [
 ⟨(some 5), .mv (.tmp 0), none, []⟩,
 ⟨(some 2), .mv (.tmp 5), none, []⟩])
 .ret)))
def c_open_short : AF := ⟨b_open_short, 6, [.tmp 2]⟩
theorem p_open_short : prepFunc Tryd.prog 46 = some c_open_short ∧ hasBody Tryd.prog 46 = true := ⟨by kernel_rfl, by kernel_rfl⟩
def b_role_Mine : AC :=
 (.seq
 (.reg [
 ⟨(some 2), .mv (.val (.int .i64 0)), none, []⟩])
 (.seq
 (.seq
 (.reg [
 ⟨(some 3), .mv (.tmp 0), none, []⟩])
 (.block 0
 (.seq
 (.reg [
 ⟨(some 5), .bin .eql (.tmp 3) (.val (.int .i64 1)), none, []⟩,
 ⟨(some 4), .mv (.tmp 5), none, []⟩])
 (.cond (.tmp 4)
 (.seq
 (.reg [
 ⟨(some 2), .mv (.val (.int .i64 0)), none, []⟩])
 .ret)
 (.seq
 (.reg [
 ⟨(some 7), .bin .eql (.tmp 3) (.val (.int .i64 2)), none, []⟩,
 ⟨(some 6), .mv (.tmp 7), none, []⟩])
 (.cond (.tmp 6)
 (.seq
 (.reg [
 ⟨(some 2), .mv (.val (.int .i64 4)), none, []⟩])
 .ret)
 (.seq
 (.reg [
 ⟨(some 9), .bin .eql (.tmp 3) (.val (.int .i64 3)), none, []⟩,
 ⟨(some 8), .mv (.tmp 9), none, []⟩])
 (.cond (.tmp 8)
 (.seq
 (.reg [
 ⟨(some 2), .mv (.val (.int .i64 3)), none, []⟩])
 .ret)
 .skip))))))))
 (.seq
 (.reg [
 ⟨(some 2), .mv (.val (.int .i64 (-1))), none, []⟩])
 .ret)))
def c_role_Mine : AF := ⟨b_role_Mine, 10, [.tmp 2]⟩
theorem p_role_Mine : prepFunc Tryd.prog 47 = some c_role_Mine ∧ hasBody Tryd.prog 47 = true := ⟨by kernel_rfl, by kernel_rfl⟩
def b_prefix_Sane : AC :=
 (.seq
 (.reg [
 ⟨(some 1), .box 84 2 (.tmp 0), none, []⟩,
 ⟨(some 2), .mv (.val (.bool false)), none, []⟩])
 (.seq
 (.reg [
 ⟨(some 3), .off 1 (.tmp 1), none, []⟩,
 ⟨(some 4), .ld none (.tmp 3), none, []⟩,
 ⟨(some 5), .bin .geq (.tmp 4) (.val (.int .i64 0)), none, []⟩,
 ⟨(some 6), .mv (.tmp 5), none, []⟩,
 ⟨(some 7), .off 1 (.tmp 1), some (6, true), []⟩,
 ⟨(some 8), .ld none (.tmp 7), some (6, true), []⟩,
 ⟨(some 9), .bin .leq (.tmp 8) (.val (.int .i64 32)), some (6, true), []⟩,
 ⟨(some 10), .pick (.tmp 6) (.tmp 9) (.val (.bool false)), none, []⟩,
 ⟨(some 11), .mv (.tmp 10), none, []⟩,
 ⟨(some 12), .off 0 (.tmp 1), some (11, true), []⟩,
 ⟨(some 13), .ld none (.tmp 12), some (11, true), []⟩,
 ⟨(some 14), .off 1 (.tmp 1), some (11, true), []⟩,
 ⟨(some 15), .ld none (.tmp 14), some (11, true), []⟩,
 ⟨(some 16), .call 58 [(.tmp 13), (.tmp 15)], some (11, true), []⟩,
 ⟨(some 17), .off 0 (.tmp 1), some (11, true), []⟩,
 ⟨(some 18), .ld none (.tmp 17), some (11, true), []⟩,
 ⟨(some 19), .bin .eql (.tmp 16) (.tmp 18), some (11, true), []⟩,
 ⟨(some 20), .pick (.tmp 11) (.tmp 19) (.val (.bool false)), none, []⟩,
 ⟨(some 2), .mv (.tmp 20), none, []⟩])
 .ret))
def c_prefix_Sane : AF := ⟨b_prefix_Sane, 21, [.tmp 2]⟩
theorem p_prefix_Sane : prepFunc Tryd.prog 48 = some c_prefix_Sane ∧ hasBody Tryd.prog 48 = true := ⟨by kernel_rfl, by kernel_rfl⟩
def b_slices_Contains___api_Prefix_api_Prefix : AC :=
 (.seq
 (.reg [
 ⟨(some 3), .box 84 2 (.tmp 1), none, []⟩,
 ⟨(some 4), .mv (.val (.bool false)), none, []⟩])
 (.seq
 (.reg [
 ⟨(some 5), .mv (.tmp 0), none, []⟩,
 ⟨(some 6), .ld (some 2) (.tmp 3), none, []⟩,
 ⟨(some 7), .callS 59 [(.tmp 5), (.tmp 6)], none, []⟩,
 ⟨(some 8), .bin .geq (.tmp 7) (.val (.int .i64 0)), none, []⟩,
 ⟨(some 4), .mv (.tmp 8), none, []⟩])
 .ret))
def c_slices_Contains___api_Prefix_api_Prefix : AF := ⟨b_slices_Contains___api_Prefix_api_Prefix, 9, [.tmp 4]⟩
theorem p_slices_Contains___api_Prefix_api_Prefix : prepFunc Tryd.prog 49 = some c_slices_Contains___api_Prefix_api_Prefix ∧ hasBody Tryd.prog 49 = true := ⟨by kernel_rfl, by kernel_rfl⟩
def b_conf_taken : AC :=
 (.seq
 (.reg [
 ⟨(some 5), .box 3 1 (.tmp 2), none, []⟩,
 ⟨(some 6), .mv (.val (.bool false)), none, []⟩])
 (.seq
 (.reg [
 ⟨(some 7), .ld none (.tmp 5), none, []⟩,
 ⟨(some 8), .mv (.tmp 0), none, []⟩,
 ⟨(some 9), .bin .eql (.tmp 7) (.tmp 8), none, []⟩,
 ⟨(some 10), .mv (.tmp 9), none, []⟩,
 ⟨(some 11), .mv (.tmp 1), some (10, false), []⟩,
 ⟨(some 12), .mkclo 61 [(.tmp 5)], some (10, false), []⟩,
 ⟨(some 13), .callS 60 [(.tmp 11), (.tmp 12)], some (10, false), []⟩,
 ⟨(some 14), .pick (.tmp 10) (.val (.bool true)) (.tmp 13), none, []⟩,
 ⟨(some 6), .mv (.tmp 14), none, []⟩])
 .ret))
def c_conf_taken : AF := ⟨b_conf_taken, 15, [.tmp 6]⟩
theorem p_conf_taken : prepFunc Tryd.prog 50 = some c_conf_taken ∧ hasBody Tryd.prog 50 = true := ⟨by kernel_rfl, by kernel_rfl⟩
def b_conf_saneRules : AC :=
 (.seq
 (.reg [
 ⟨(some 4), .mv (.val (.bool false)), none, []⟩])
 (.seq
 (.seq
 (.reg [
 ⟨(some 7), .mv (.tmp 0), none, []⟩,
 ⟨(some 8), .len (.tmp 7), none, []⟩,
 ⟨(some 9), .bin .gtr (.tmp 8) (.val (.int .i64 8)), none, []⟩])
 (.cond (.tmp 9)
 (.seq
 (.reg [
 ⟨(some 4), .mv (.val (.bool false)), none, []⟩])
 .ret)
 .skip))
 (.seq
 (.seq
 (.reg [
 ⟨(some 10), .mv (.tmp 0), none, []⟩,
 ⟨(some 11), .len (.tmp 10), none, []⟩,
 ⟨(some 12), .mv (.val (.int .i64 0)), none, []⟩])
 (.block 0
 (.loop
 (.seq
 (.reg [
 ⟨(some 13), .bin .lss (.tmp 12) (.tmp 11), none, []⟩])
 (.seq
 (.cond (.tmp 13)
 .skip
 (.exit 0))
 (.seq
 (.block 1
 (.seq
 (.reg [
 ⟨(some 14), .idxA 6 (.tmp 10) (.tmp 12), none, []⟩,
 ⟨(some 15), .ld (some 6) (.tmp 14), none, []⟩,
 ⟨(some 6), .box 98 6 (.val (.agg [(.int .i64 0), (.int .i64 0), (.int .i64 0), (.int .i64 0), (.int .i64 0), (.int .i64 0)])), none, []⟩,
 ⟨none, .st 6 (.tmp 6) (.tmp 15), none, []⟩])
 (.seq
 (.reg [
 ⟨(some 16), .ld (some 6) (.tmp 6), none, []⟩,
 ⟨(some 17), .mv (.tmp 1), none, []⟩,
 ⟨(some 18), .callS 62 [(.tmp 16), (.tmp 17)], none, []⟩,
 ⟨(some 19), .un .not (.tmp 18), none, []⟩])
 (.cond (.tmp 19)
 (.seq
 (.reg [
 ⟨(some 4), .mv (.val (.bool false)), none, []⟩])
 .ret)
 .skip))))
 (.reg [
 ⟨(some 20), .bin .add (.tmp 12) (.val (.int .i64 1)), none, []⟩,
 ⟨(some 12), .mv (.tmp 20), none, []⟩])))))))
 (.seq
 (.reg [
 ⟨(some 4), .mv (.val (.bool true)), none, []⟩])
 .ret))))
def c_conf_saneRules : AF := ⟨b_conf_saneRules, 21, [.tmp 4]⟩
theorem p_conf_saneRules : prepFunc Tryd.prog 51 = some c_conf_saneRules ∧ hasBody Tryd.prog 51 = true := ⟨by kernel_rfl, by kernel_rfl⟩
def b_session_turn__end : AC :=
 (.seq
 (.reg [
 ⟨(some 2), .box 65 16 (.tmp 0), none, []⟩,
 ⟨(some 3), .box 50 3 (.tmp 1), none, []⟩,
 ⟨(some 4), .box 23 4 (.val (.agg [(.int .i64 0), (.int .i64 0), (.int .i64 0), (.int .i64 0)])), none, []⟩,
 ⟨(some 5), .mv (.val (.slice .full 0 [])), none, []⟩,
 ⟨(some 6), .mv (.val (.bool false)), none, []⟩])
 (.seq
 (.reg [
 ⟨(some 10), .off 0 (.tmp 2), none, []⟩,
 ⟨(some 11), .ld (some 4) (.tmp 10), none, []⟩,
 ⟨(some 12), .ld (some 3) (.tmp 3), none, []⟩,
 ⟨(some 13), .callS 41 [(.tmp 11), (.tmp 12)], none, []⟩,
 ⟨(some 9), .mv (.tmp 13), none, []⟩,
 ⟨(some 14), .ext (.tmp 9) 0, none, []⟩,
 ⟨(some 15), .ext (.tmp 9) 1, none, []⟩,
 ⟨(some 7), .box 23 4 (.val (.agg [(.int .i64 0), (.int .i64 0), (.int .i64 0), (.int .i64 0)])), none, []⟩,
 ⟨none, .st 4 (.tmp 7) (.tmp 14), none, []⟩,
 ⟨(some 8), .mv (.tmp 15), none, []⟩])
 (.seq
 (.reg [
 ⟨(some 16), .ld (some 4) (.tmp 7), none, []⟩,
 ⟨(some 17), .mv (.tmp 8), none, []⟩,
 ⟨none, .st 4 (.tmp 4) (.tmp 16), none, []⟩,
 ⟨(some 5), .mv (.tmp 17), none, []⟩,
 ⟨(some 6), .mv (.val (.bool false)), none, []⟩])
 .ret)))
def c_session_turn__end : AF := ⟨b_session_turn__end, 18, [.cell 4 (some 4), .tmp 5, .tmp 6]⟩
theorem p_session_turn__end : prepFunc Tryd.prog 52 = some c_session_turn__end ∧ hasBody Tryd.prog 52 = true := ⟨by kernel_rfl, by kernel_rfl⟩
def b_open_Get : AC :=
 (.seq
 (.reg [
 ⟨(some 2), .box 30 2 (.tmp 0), none, []⟩,
 ⟨(some 4), .box 69 4 (.val (.agg [(.int .i64 0), (.int .i64 0), (.int .i64 0), (.int .i64 0)])), none, []⟩,
 ⟨(some 5), .box 50 3 (.val (.agg [(.int .i64 0), (.int .i64 0), (.slice .full 0 [])])), none, []⟩])
 (.seq
 (.seq
 (.reg [
 ⟨(some 19), .off 0 (.tmp 2), none, []⟩,
 ⟨(some 20), .ld none (.tmp 19), none, []⟩,
 ⟨(some 21), .bin .neq (.tmp 20) (.val (.int .i64 1)), none, []⟩,
 ⟨(some 22), .mv (.tmp 21), none, []⟩,
 ⟨(some 23), .ld (some 2) (.tmp 2), some (22, false), []⟩,
 ⟨(some 24), .callS 14 [(.tmp 23)], some (22, false), []⟩,
 ⟨(some 25), .un .not (.tmp 24), some (22, false), []⟩,
 ⟨(some 26), .pick (.tmp 22) (.val (.bool true)) (.tmp 25), none, []⟩])
 (.cond (.tmp 26)
 (.seq
 (.reg [
 ⟨(some 27), .bld [(.int .i64 0), (.int .i64 0), (.int .i64 0), (.int .i64 0)] [], none, []⟩,
 ⟨(some 28), .bld [(.int .i64 0), (.int .i64 0), (.slice .full 0 [])] [(0, 1, (.val (.int .i64 2))), (1, 1, (.val (.int .i64 0)))], none, []⟩,
 ⟨none, .st 4 (.tmp 4) (.tmp 27), none, []⟩,
 ⟨none, .st 3 (.tmp 5) (.tmp 28), none, []⟩])
 .ret)
 .skip))
 (.seq
 (.reg [
 ⟨(some 30), .off 1 (.tmp 2), none, []⟩,
 ⟨(some 31), .ld none (.tmp 30), none, []⟩,
 ⟨(some 32), .callS 63 [(.tmp 31), (.val (.int .i64 1))], none, []⟩,
 ⟨(some 29), .mv (.tmp 32), none, []⟩,
 ⟨(some 33), .ext (.tmp 29) 0, none, []⟩,
 ⟨(some 34), .ext (.tmp 29) 1, none, []⟩,
 ⟨(some 35), .ext (.tmp 29) 2, none, []⟩,
 ⟨(some 6), .mv (.tmp 33), none, []⟩,
 ⟨(some 7), .mv (.tmp 34), none, []⟩,
 ⟨(some 8), .mv (.tmp 35), none, []⟩])
 (.seq
 (.reg [
 ⟨(some 37), .mv (.tmp 7), none, []⟩,
 ⟨(some 38), .callS 63 [(.tmp 37), (.val (.int .i64 2))], none, []⟩,
 ⟨(some 36), .mv (.tmp 38), none, []⟩,
 ⟨(some 39), .ext (.tmp 36) 0, none, []⟩,
 ⟨(some 40), .ext (.tmp 36) 1, none, []⟩,
 ⟨(some 41), .ext (.tmp 36) 2, none, []⟩,
 ⟨(some 9), .mv (.tmp 39), none, []⟩,
 ⟨(some 7), .mv (.tmp 40), none, []⟩,
 ⟨(some 10), .mv (.tmp 41), none, []⟩])
 (.seq
 (.reg [
 ⟨(some 43), .mv (.tmp 7), none, []⟩,
 ⟨(some 44), .callS 63 [(.tmp 43), (.val (.int .i64 2))], none, []⟩,
 ⟨(some 42), .mv (.tmp 44), none, []⟩,
 ⟨(some 45), .ext (.tmp 42) 0, none, []⟩,
 ⟨(some 46), .ext (.tmp 42) 1, none, []⟩,
 ⟨(some 47), .ext (.tmp 42) 2, none, []⟩,
 ⟨(some 11), .mv (.tmp 45), none, []⟩,
 ⟨(some 7), .mv (.tmp 46), none, []⟩,
 ⟨(some 12), .mv (.tmp 47), none, []⟩])
 (.seq
 (.reg [
 ⟨(some 49), .mv (.tmp 7), none, []⟩,
 ⟨(some 50), .callS 63 [(.tmp 49), (.val (.int .i64 4))], none, []⟩,
 ⟨(some 48), .mv (.tmp 50), none, []⟩,
 ⟨(some 51), .ext (.tmp 48) 0, none, []⟩,
 ⟨(some 52), .ext (.tmp 48) 1, none, []⟩,
 ⟨(some 53), .ext (.tmp 48) 2, none, []⟩,
 ⟨(some 13), .mv (.tmp 51), none, []⟩,
 ⟨(some 7), .mv (.tmp 52), none, []⟩,
 ⟨(some 14), .mv (.tmp 53), none, []⟩])
 (.seq
 (.reg [
 ⟨(some 55), .mv (.tmp 7), none, []⟩,
 ⟨(some 56), .callS 63 [(.tmp 55), (.val (.int .i64 1))], none, []⟩,
 ⟨(some 54), .mv (.tmp 56), none, []⟩,
 ⟨(some 57), .ext (.tmp 54) 0, none, []⟩,
 ⟨(some 58), .ext (.tmp 54) 1, none, []⟩,
 ⟨(some 59), .ext (.tmp 54) 2, none, []⟩,
 ⟨(some 15), .mv (.tmp 57), none, []⟩,
 ⟨(some 7), .mv (.tmp 58), none, []⟩,
 ⟨(some 16), .mv (.tmp 59), none, []⟩])
 (.seq
 (.seq
 (.reg [
 ⟨(some 60), .mv (.tmp 6), none, []⟩,
 ⟨(some 61), .bin .neq (.tmp 60) (.val (.int .i64 4)), none, []⟩])
 (.cond (.tmp 61)
 (.seq
 (.reg [
 ⟨(some 62), .bld [(.int .i64 0), (.int .i64 0), (.int .i64 0), (.int .i64 0)] [], none, []⟩,
 ⟨(some 63), .callS 45 [(.val (.slice .full 0 [])), (.val (.int .i64 4)), (.val (.int .i64 2))], none, []⟩,
 ⟨(some 64), .bld [(.int .i64 0), (.int .i64 0), (.slice .full 0 [])] [(0, 1, (.val (.int .i64 2))), (1, 1, (.val (.int .i64 1))), (2, 1, (.tmp 63))], none, []⟩,
 ⟨none, .st 4 (.tmp 4) (.tmp 62), none, []⟩,
 ⟨none, .st 3 (.tmp 5) (.tmp 64), none, []⟩])
 .ret)
 .skip))
 (.seq
 (.seq
 (.reg [
 ⟨(some 65), .mv (.tmp 15), none, []⟩,
 ⟨(some 66), .mv (.tmp 7), none, []⟩,
 ⟨(some 67), .len (.tmp 66), none, []⟩,
 ⟨(some 68), .bin .neq (.tmp 65) (.tmp 67), none, []⟩])
 (.cond (.tmp 68)
 (.seq
 (.reg [
 ⟨(some 69), .bld [(.int .i64 0), (.int .i64 0), (.int .i64 0), (.int .i64 0)] [], none, []⟩,
 ⟨(some 70), .bld [(.int .i64 0), (.int .i64 0), (.slice .full 0 [])] [(0, 1, (.val (.int .i64 2))), (1, 1, (.val (.int .i64 0)))], none, []⟩,
 ⟨none, .st 4 (.tmp 4) (.tmp 69), none, []⟩,
 ⟨none, .st 3 (.tmp 5) (.tmp 70), none, []⟩])
 .ret)
 .skip))
 (.seq
 (.reg [
 ⟨(some 72), .mv (.tmp 7), none, []⟩,
 ⟨(some 73), .callS 64 [(.tmp 72)], none, []⟩,
 ⟨(some 71), .mv (.tmp 73), none, []⟩,
 ⟨(some 74), .ext (.tmp 71) 0, none, []⟩,
 ⟨(some 75), .ext (.tmp 71) 1, none, []⟩,
 ⟨(some 17), .box 103 2 (.val (.agg [(.int .i64 0), (.int .i64 0)])), none, []⟩,
 ⟨(some 18), .box 50 3 (.val (.agg [(.int .i64 0), (.int .i64 0), (.slice .full 0 [])])), none, []⟩,
 ⟨none, .st 2 (.tmp 17) (.tmp 74), none, []⟩,
 ⟨none, .st 3 (.tmp 18) (.tmp 75), none, []⟩])
 (.seq
 (.seq
 (.reg [
 ⟨(some 76), .off 0 (.tmp 18), none, []⟩,
 ⟨(some 77), .ld none (.tmp 76), none, []⟩,
 ⟨(some 78), .bin .eql (.tmp 77) (.val (.int .i64 0)), none, []⟩])
 (.cond (.tmp 78)
 (.reg [
 ⟨(some 79), .ld (some 2) (.tmp 17), none, []⟩,
 ⟨(some 80), .mv (.tmp 1), none, []⟩,
 ⟨(some 81), .mv (.tmp 9), none, []⟩,
 ⟨(some 82), .mv (.tmp 11), none, []⟩,
 ⟨(some 83), .mv (.tmp 13), none, []⟩,
 ⟨(some 84), .callS 65 [(.tmp 79), (.tmp 80), (.tmp 81), (.tmp 82), (.tmp 83)], none, []⟩,
 ⟨none, .st 3 (.tmp 18) (.tmp 84), none, []⟩])
 .skip))
 (.seq
 (.seq
 (.reg [
 ⟨(some 85), .off 0 (.tmp 18), none, []⟩,
 ⟨(some 86), .ld none (.tmp 85), none, []⟩,
 ⟨(some 87), .bin .neq (.tmp 86) (.val (.int .i64 0)), none, []⟩])
 (.cond (.tmp 87)
 (.seq
 (.reg [
 ⟨(some 88), .bld [(.int .i64 0), (.int .i64 0), (.int .i64 0), (.int .i64 0)] [], none, []⟩,
 ⟨(some 89), .ld (some 3) (.tmp 18), none, []⟩,
 ⟨none, .st 4 (.tmp 4) (.tmp 88), none, [((some 3), (.tmp 18), 89)]⟩,
 ⟨none, .st 3 (.tmp 5) (.tmp 89), none, []⟩])
 .ret)
 .skip))
 (.seq
 (.reg [
 ⟨(some 90), .off 0 (.tmp 17), none, []⟩,
 ⟨(some 91), .ld none (.tmp 90), none, []⟩,
 ⟨(some 92), .mv (.tmp 11), none, []⟩,
 ⟨(some 93), .mv (.tmp 13), none, []⟩,
 ⟨(some 94), .off 1 (.tmp 17), none, []⟩,
 ⟨(some 95), .ld none (.tmp 94), none, []⟩,
 ⟨(some 96), .bld [(.int .i64 0), (.int .i64 0), (.int .i64 0), (.int .i64 0)] [(0, 1, (.tmp 91)), (1, 1, (.tmp 92)), (2, 1, (.tmp 93)), (3, 1, (.tmp 95))], none, []⟩,
 ⟨(some 97), .bld [(.int .i64 0), (.int .i64 0), (.slice .full 0 [])] [], none, []⟩,
 ⟨none, .st 4 (.tmp 4) (.tmp 96), none, []⟩,
 ⟨none, .st 3 (.tmp 5) (.tmp 97), none, []⟩])
 .ret)))))))))))))
def c_open_Get : AF := ⟨b_open_Get, 98, [.cell 4 (some 4), .cell 5 (some 3)]⟩
theorem p_open_Get : prepFunc Tryd.prog 53 = some c_open_Get ∧ hasBody Tryd.prog 53 = true := ⟨by kernel_rfl, by kernel_rfl⟩
def b_role_Pairs : AC :=
 (.seq
 (.reg [
 ⟨(some 4), .mv (.val (.bool false)), none, []⟩])
 (.seq
 (.seq
 (.reg [
 ⟨(some 7), .ld (some 10) (.val (.cptr [(.agg [(.int .i64 0), (.int .i64 3), (.int .i64 1), (.int .i64 2), (.int .i64 3), (.int .i64 0), (.int .i64 2), (.int .i64 1), (.int .i64 4), (.int .i64 4)])] 0 0)), none, []⟩,
 ⟨(some 8), .mv (.val (.int .i64 0)), none, []⟩])
 (.block 0
 (.loop
 (.seq
 (.reg [
 ⟨(some 9), .bin .lss (.tmp 8) (.val (.int .i64 5)), none, []⟩])
 (.seq
 (.cond (.tmp 9)
 .skip
 (.exit 0))
 (.seq
 (.block 1
 (.seq
 (.reg [
 ⟨(some 10), .prt (some 2) 5 2 0 (.tmp 7) (.tmp 8), none, []⟩,
 ⟨(some 6), .box 107 2 (.val (.agg [(.int .i64 0), (.int .i64 0)])), none, []⟩,
 ⟨none, .st 2 (.tmp 6) (.tmp 10), none, []⟩])
 (.seq
 (.reg [
 ⟨(some 11), .off 0 (.tmp 6), none, []⟩,
 ⟨(some 12), .ld none (.tmp 11), none, []⟩,
 ⟨(some 13), .mv (.tmp 0), none, []⟩,
 ⟨(some 14), .bin .eql (.tmp 12) (.tmp 13), none, []⟩,
 ⟨(some 15), .mv (.tmp 14), none, []⟩,
 ⟨(some 16), .off 1 (.tmp 6), some (15, true), []⟩,
 ⟨(some 17), .ld none (.tmp 16), some (15, true), []⟩,
 ⟨(some 18), .mv (.tmp 1), some (15, true), []⟩,
 ⟨(some 19), .bin .eql (.tmp 17) (.tmp 18), some (15, true), []⟩,
 ⟨(some 20), .pick (.tmp 15) (.tmp 19) (.val (.bool false)), none, []⟩])
 (.cond (.tmp 20)
 (.seq
 (.reg [
 ⟨(some 4), .mv (.val (.bool true)), none, []⟩])
 .ret)
 .skip))))
 (.reg [
 ⟨(some 21), .bin .add (.tmp 8) (.val (.int .i64 1)), none, []⟩,
 ⟨(some 8), .mv (.tmp 21), none, []⟩])))))))
 (.seq
 (.reg [
 ⟨(some 4), .mv (.val (.bool false)), none, []⟩])
 .ret)))
def c_role_Pairs : AF := ⟨b_role_Pairs, 22, [.tmp 4]⟩
theorem p_role_Pairs : prepFunc Tryd.prog 54 = some c_role_Pairs ∧ hasBody Tryd.prog 54 = true := ⟨by kernel_rfl, by kernel_rfl⟩
def b_note_Put : AC :=
 (.seq
 (.reg [
 ⟨(some 1), .box 50 3 (.tmp 0), none, []⟩,
 ⟨(some 2), .box 30 2 (.val (.agg [(.int .i64 0), (.slice .full 0 [])])), none, []⟩])
 (.seq
 (.seq
 (.reg [
 ⟨(some 3), .ld (some 3) (.tmp 1), none, []⟩,
 ⟨(some 4), .callS 35 [(.tmp 3)], none, []⟩,
 ⟨(some 5), .un .not (.tmp 4), none, []⟩])
 (.cond (.tmp 5)
 (.seq
 (.reg [
 ⟨(some 6), .bld [(.int .i64 0), (.slice .full 0 [])] [], none, []⟩,
 ⟨none, .st 2 (.tmp 2) (.tmp 6), none, []⟩])
 .ret)
 .skip))
 (.seq
 (.reg [
 ⟨(some 7), .off 0 (.tmp 1), none, []⟩,
 ⟨(some 8), .ld none (.tmp 7), none, []⟩,
 ⟨(some 9), .conv .u8 (.tmp 8), none, []⟩,
 ⟨(some 10), .off 1 (.tmp 1), none, []⟩,
 ⟨(some 11), .ld none (.tmp 10), none, []⟩,
 ⟨(some 12), .conv .u8 (.tmp 11), none, []⟩,
 ⟨(some 13), .lit 5 1 [0] [(.tmp 9), (.tmp 12)], none, []⟩,
 ⟨(some 14), .off 2 (.tmp 1), none, []⟩,
 ⟨(some 15), .ld none (.tmp 14), none, []⟩,
 ⟨(some 16), .app 5 1 1 (.tmp 13) (.tmp 15), none, []⟩,
 ⟨(some 17), .bld [(.int .i64 0), (.slice .full 0 [])] [(0, 1, (.val (.int .i64 3))), (1, 1, (.tmp 16))], none, []⟩,
 ⟨none, .st 2 (.tmp 2) (.tmp 17), none, []⟩])
 .ret)))
def c_note_Put : AF := ⟨b_note_Put, 18, [.cell 2 (some 2)]⟩
theorem p_note_Put : prepFunc Tryd.prog 55 = some c_note_Put ∧ hasBody Tryd.prog 55 = true := ⟨by kernel_rfl, by kernel_rfl⟩
def b_open_number : AC :=
 (.seq
 (.reg [
 ⟨(some 2), .mv (.val (.bool false)), none, []⟩])
 (.seq
 (.reg [
 ⟨(some 3), .mv (.tmp 0), none, []⟩,
 ⟨(some 4), .bin .geq (.tmp 3) (.val (.int .i64 1)), none, []⟩,
 ⟨(some 5), .mv (.tmp 4), none, []⟩,
 ⟨(some 6), .mv (.tmp 0), some (5, true), []⟩,
 ⟨(some 7), .bin .leq (.tmp 6) (.val (.int .i64 4294967295)), some (5, true), []⟩,
 ⟨(some 8), .pick (.tmp 5) (.tmp 7) (.val (.bool false)), none, []⟩,
 ⟨(some 2), .mv (.tmp 8), none, []⟩])
 .ret))
def c_open_number : AF := ⟨b_open_number, 9, [.tmp 2]⟩
theorem p_open_number : prepFunc Tryd.prog 56 = some c_open_number ∧ hasBody Tryd.prog 56 = true := ⟨by kernel_rfl, by kernel_rfl⟩
def b_open_holds : AC :=
 (.seq
 (.reg [
 ⟨(some 2), .mv (.val (.bool false)), none, []⟩])
 (.seq
 (.reg [
 ⟨(some 3), .mv (.tmp 0), none, []⟩,
 ⟨(some 4), .bin .eql (.tmp 3) (.val (.int .i64 0)), none, []⟩,
 ⟨(some 5), .mv (.tmp 4), none, []⟩,
 ⟨(some 6), .mv (.tmp 0), some (5, false), []⟩,
 ⟨(some 7), .bin .geq (.tmp 6) (.val (.int .i64 3)), some (5, false), []⟩,
 ⟨(some 8), .mv (.tmp 7), some (5, false), []⟩,
 ⟨(some 9), .mv (.tmp 0), some (8, true), []⟩,
 ⟨(some 10), .bin .leq (.tmp 9) (.val (.int .i64 65535)), some (8, true), []⟩,
 ⟨(some 11), .pick (.tmp 8) (.tmp 10) (.val (.bool false)), some (5, false), []⟩,
 ⟨(some 12), .pick (.tmp 5) (.val (.bool true)) (.tmp 11), none, []⟩,
 ⟨(some 2), .mv (.tmp 12), none, []⟩])
 .ret))
def c_open_holds : AF := ⟨b_open_holds, 13, [.tmp 2]⟩
theorem p_open_holds : prepFunc Tryd.prog 57 = some c_open_holds ∧ hasBody Tryd.prog 57 = true := ⟨by kernel_rfl, by kernel_rfl⟩
def b_prefix_Mask : AC :=
 (.seq
 (.reg [
 ⟨(some 4), .mv (.val (.int .i64 0)), none, []⟩])
 (.seq
 (.reg [
 ⟨(some 6), .mv (.tmp 1), none, []⟩,
 ⟨(some 7), .mx (.tmp 6) (.val (.int .i64 0)), none, []⟩,
 ⟨(some 8), .mn (.tmp 7) (.val (.int .i64 32)), none, []⟩,
 ⟨(some 9), .bin .sub (.val (.int .i64 32)) (.tmp 8), none, []⟩,
 ⟨(some 5), .mv (.tmp 9), none, []⟩])
 (.seq
 (.reg [
 ⟨(some 10), .mv (.tmp 0), none, []⟩,
 ⟨(some 11), .bin .and (.tmp 10) (.val (.int .i64 4294967295)), none, []⟩,
 ⟨(some 12), .mv (.tmp 5), none, []⟩,
 ⟨(some 13), .bin .shr (.tmp 11) (.tmp 12), none, []⟩,
 ⟨(some 14), .mv (.tmp 5), none, []⟩,
 ⟨(some 15), .bin .shl (.tmp 13) (.tmp 14), none, []⟩,
 ⟨(some 4), .mv (.tmp 15), none, []⟩])
 .ret)))
def c_prefix_Mask : AF := ⟨b_prefix_Mask, 16, [.tmp 4]⟩
theorem p_prefix_Mask : prepFunc Tryd.prog 58 = some c_prefix_Mask ∧ hasBody Tryd.prog 58 = true := ⟨by kernel_rfl, by kernel_rfl⟩
def b_slices_Index___api_Prefix_api_Prefix : AC :=
 (.seq
 (.reg [
 ⟨(some 3), .box 84 2 (.tmp 1), none, []⟩,
 ⟨(some 4), .mv (.val (.int .i64 0)), none, []⟩])
 (.seq
 (.seq
 (.reg [
 ⟨(some 6), .mv (.tmp 0), none, []⟩,
 ⟨(some 7), .len (.tmp 6), none, []⟩,
 ⟨(some 8), .mv (.val (.int .i64 0)), none, []⟩])
 (.block 0
 (.loop
 (.seq
 (.reg [
 ⟨(some 9), .bin .lss (.tmp 8) (.tmp 7), none, []⟩])
 (.seq
 (.cond (.tmp 9)
 .skip
 (.exit 0))
 (.seq
 (.block 1
 (.seq
 (.reg [
 ⟨(some 10), .mv (.tmp 8), none, []⟩,
 ⟨(some 5), .mv (.tmp 10), none, []⟩])
 (.seq
 (.reg [
 ⟨(some 11), .ld (some 2) (.tmp 3), none, []⟩,
 ⟨(some 12), .mv (.tmp 0), none, []⟩,
 ⟨(some 13), .mv (.tmp 5), none, []⟩,
 ⟨(some 14), .idxA 2 (.tmp 12) (.tmp 13), none, []⟩,
 ⟨(some 15), .ld (some 2) (.tmp 14), none, []⟩,
 ⟨(some 16), .eqA false 2 [(0, 0), (1, 0)] (.tmp 11) (.tmp 15), none, []⟩])
 (.cond (.tmp 16)
 (.seq
 (.reg [
 ⟨(some 17), .mv (.tmp 5), none, []⟩,
 ⟨(some 4), .mv (.tmp 17), none, []⟩])
 .ret)
 .skip))))
 (.reg [
 ⟨(some 18), .bin .add (.tmp 8) (.val (.int .i64 1)), none, []⟩,
 ⟨(some 8), .mv (.tmp 18), none, []⟩])))))))
 (.seq
 (.reg [
 ⟨(some 4), .mv (.val (.int .i64 (-1))), none, []⟩])
 .ret)))
def c_slices_Index___api_Prefix_api_Prefix : AF := ⟨b_slices_Index___api_Prefix_api_Prefix, 19, [.tmp 4]⟩
theorem p_slices_Index___api_Prefix_api_Prefix : prepFunc Tryd.prog 59 = some c_slices_Index___api_Prefix_api_Prefix ∧ hasBody Tryd.prog 59 = true := ⟨by kernel_rfl, by kernel_rfl⟩
def b_slices_ContainsFunc___api_Side_api_Side : AC :=
 (.seq
 (.reg [
 ⟨(some 4), .mv (.val (.bool false)), none, []⟩])
 (.seq
 (.reg [
 ⟨(some 5), .mv (.tmp 0), none, []⟩,
 ⟨(some 6), .mv (.tmp 1), none, []⟩,
 ⟨(some 7), .callS 66 [(.tmp 5), (.tmp 6)], none, []⟩,
 ⟨(some 8), .bin .geq (.tmp 7) (.val (.int .i64 0)), none, []⟩,
 ⟨(some 4), .mv (.tmp 8), none, []⟩])
 .ret))
def c_slices_ContainsFunc___api_Side_api_Side : AF := ⟨b_slices_ContainsFunc___api_Side_api_Side, 9, [.tmp 4]⟩
theorem p_slices_ContainsFunc___api_Side_api_Side : prepFunc Tryd.prog 60 = some c_slices_ContainsFunc___api_Side_api_Side ∧ hasBody Tryd.prog 60 = true := ⟨by kernel_rfl, by kernel_rfl⟩
def b_conf_taken_1 : AC :=
 (.seq
 (.reg [
 ⟨(some 2), .box 46 4 (.tmp 0), none, []⟩,
 ⟨(some 3), .mv (.val (.bool false)), none, []⟩])
 (.seq
 (.reg [
 ⟨(some 4), .off 0 (.tmp 2), none, []⟩,
 ⟨(some 5), .ld none (.tmp 4), none, []⟩,
 ⟨(some 6), .ld none (.tmp 1), none, []⟩,
 ⟨(some 7), .bin .eql (.tmp 5) (.tmp 6), none, []⟩,
 ⟨(some 3), .mv (.tmp 7), none, []⟩])
 .ret))
def c_conf_taken_1 : AF := ⟨b_conf_taken_1, 8, [.tmp 3]⟩
theorem p_conf_taken_1 : prepFunc Tryd.prog 61 = some c_conf_taken_1 ∧ hasBody Tryd.prog 61 = true := ⟨by kernel_rfl, by kernel_rfl⟩
def b_policy_Sane : AC :=
 (.seq
 (.reg [
 ⟨(some 2), .box 98 6 (.tmp 0), none, []⟩,
 ⟨(some 4), .mv (.val (.bool false)), none, []⟩])
 (.seq
 (.reg [
 ⟨(some 5), .ld (some 6) (.tmp 2), none, []⟩,
 ⟨(some 6), .mv (.tmp 1), none, []⟩,
 ⟨(some 7), .callS 67 [(.tmp 5), (.tmp 6)], none, []⟩,
 ⟨(some 8), .mv (.tmp 7), none, []⟩,
 ⟨(some 9), .ld (some 6) (.tmp 2), some (8, true), []⟩,
 ⟨(some 10), .mv (.tmp 1), some (8, true), []⟩,
 ⟨(some 11), .callS 68 [(.tmp 9), (.tmp 10)], some (8, true), []⟩,
 ⟨(some 12), .pick (.tmp 8) (.tmp 11) (.val (.bool false)), none, []⟩,
 ⟨(some 4), .mv (.tmp 12), none, []⟩])
 .ret))
def c_policy_Sane : AF := ⟨b_policy_Sane, 13, [.tmp 4]⟩
theorem p_policy_Sane : prepFunc Tryd.prog 62 = some c_policy_Sane ∧ hasBody Tryd.prog 62 = true := ⟨by kernel_rfl, by kernel_rfl⟩
def b_octet_Get : AC :=
 (.seq
 (.reg [
 ⟨(some 4), .mv (.val (.int .i64 0)), none, []⟩,
 ⟨(some 5), .mv (.val (.slice .full 0 [])), none, []⟩,
 ⟨(some 6), .mv (.val (.bool false)), none, []⟩])
 (.seq
 (.seq
 (.reg [
 ⟨(some 13), .mv (.tmp 1), none, []⟩,
 ⟨(some 14), .bin .lss (.tmp 13) (.val (.int .i64 1)), none, []⟩,
 ⟨(some 15), .mv (.tmp 14), none, []⟩,
 ⟨(some 16), .mv (.tmp 1), some (15, false), []⟩,
 ⟨(some 17), .bin .gtr (.tmp 16) (.val (.int .i64 4)), some (15, false), []⟩,
 ⟨(some 18), .pick (.tmp 15) (.val (.bool true)) (.tmp 17), none, []⟩])
 (.cond (.tmp 18)
 (.seq
 (.reg [
 ⟨(some 4), .mv (.val (.int .i64 0)), none, []⟩,
 ⟨(some 5), .mv (.val (.slice .full 0 [])), none, []⟩,
 ⟨(some 6), .mv (.val (.bool false)), none, []⟩])
 .ret)
 .skip))
 (.seq
 (.reg [
 ⟨(some 20), .mv (.tmp 0), none, []⟩,
 ⟨(some 21), .mv (.tmp 1), none, []⟩,
 ⟨(some 22), .callS 69 [(.tmp 20), (.tmp 21)], none, []⟩,
 ⟨(some 19), .mv (.tmp 22), none, []⟩,
 ⟨(some 23), .ext (.tmp 19) 0, none, []⟩,
 ⟨(some 24), .ext (.tmp 19) 1, none, []⟩,
 ⟨(some 25), .ext (.tmp 19) 2, none, []⟩,
 ⟨(some 7), .mv (.tmp 23), none, []⟩,
 ⟨(some 8), .mv (.tmp 24), none, []⟩,
 ⟨(some 9), .mv (.tmp 25), none, []⟩])
 (.seq
 (.reg [
 ⟨(some 10), .mv (.val (.int .i64 0)), none, []⟩])
 (.seq
 (.seq
 (.reg [
 ⟨(some 26), .mv (.tmp 7), none, []⟩,
 ⟨(some 27), .len (.tmp 26), none, []⟩,
 ⟨(some 28), .mv (.val (.int .i64 0)), none, []⟩])
 (.block 0
 (.loop
 (.seq
 (.reg [
 ⟨(some 29), .bin .lss (.tmp 28) (.tmp 27), none, []⟩])
 (.seq
 (.cond (.tmp 29)
 .skip
 (.exit 0))
 (.seq
 (.block 1
 (.seq
 (.reg [
 ⟨(some 30), .idxA 1 (.tmp 26) (.tmp 28), none, []⟩,
 ⟨(some 31), .ld none (.tmp 30), none, []⟩,
 ⟨(some 12), .mv (.tmp 31), none, []⟩])
 (.reg [
 ⟨(some 32), .mv (.tmp 10), none, []⟩,
 ⟨(some 33), .bin .shl (.tmp 32) (.val (.int .u64 8)), none, []⟩,
 ⟨(some 34), .mv (.tmp 12), none, []⟩,
 ⟨(some 35), .conv .i64 (.tmp 34), none, []⟩,
 ⟨(some 36), .bin .or (.tmp 33) (.tmp 35), none, []⟩,
 ⟨(some 10), .mv (.tmp 36), none, []⟩])))
 (.reg [
 ⟨(some 37), .bin .add (.tmp 28) (.val (.int .i64 1)), none, []⟩,
 ⟨(some 28), .mv (.tmp 37), none, []⟩])))))))
 (.seq
 (.reg [
 ⟨(some 38), .mv (.tmp 10), none, []⟩,
 ⟨(some 39), .mv (.tmp 8), none, []⟩,
 ⟨(some 40), .mv (.tmp 9), none, []⟩,
 ⟨(some 4), .mv (.tmp 38), none, []⟩,
 ⟨(some 5), .mv (.tmp 39), none, []⟩,
 ⟨(some 6), .mv (.tmp 40), none, []⟩])
 .ret))))))
def c_octet_Get : AF := ⟨b_octet_Get, 41, [.tmp 4, .tmp 5, .tmp 6]⟩
theorem p_octet_Get : prepFunc Tryd.prog 63 = some c_octet_Get ∧ hasBody Tryd.prog 63 = true := ⟨by kernel_rfl, by kernel_rfl⟩
def b_open_read : AC :=
 (.seq
 (.reg [
 ⟨(some 2), .box 103 2 (.val (.agg [(.int .i64 0), (.int .i64 0)])), none, []⟩,
 ⟨(some 3), .box 50 3 (.val (.agg [(.int .i64 0), (.int .i64 0), (.slice .full 0 [])])), none, []⟩])
 (.seq
 (.reg [
 ⟨(some 6), .bld [(.int .i64 0), (.int .i64 0)] [(0, 1, (.val (.int .i64 (-1)))), (1, 1, (.val (.int .i64 (-1))))], none, []⟩,
 ⟨(some 4), .box 103 2 (.val (.agg [(.int .i64 0), (.int .i64 0)])), none, []⟩,
 ⟨none, .st 2 (.tmp 4) (.tmp 6), none, []⟩])
 (.seq
 (.reg [
 ⟨(some 7), .mv (.tmp 0), none, []⟩,
 ⟨(some 8), .mkclo 71 [(.tmp 4)], none, []⟩,
 ⟨(some 9), .callS 70 [(.tmp 7), (.tmp 8)], none, []⟩,
 ⟨(some 5), .box 50 3 (.val (.agg [(.int .i64 0), (.int .i64 0), (.slice .full 0 [])])), none, []⟩,
 ⟨none, .st 3 (.tmp 5) (.tmp 9), none, []⟩])
 (.seq
 (.reg [
 ⟨(some 10), .ld (some 2) (.tmp 4), none, []⟩,
 ⟨(some 11), .ld (some 3) (.tmp 5), none, []⟩,
 ⟨none, .st 2 (.tmp 2) (.tmp 10), none, [((some 3), (.tmp 5), 11)]⟩,
 ⟨none, .st 3 (.tmp 3) (.tmp 11), none, []⟩])
 .ret))))
def c_open_read : AF := ⟨b_open_read, 12, [.cell 2 (some 2), .cell 3 (some 3)]⟩
theorem p_open_read : prepFunc Tryd.prog 64 = some c_open_read ∧ hasBody Tryd.prog 64 = true := ⟨by kernel_rfl, by kernel_rfl⟩
def b_open_fault : AC :=
 (.seq
 (.reg [
 ⟨(some 5), .box 103 2 (.tmp 0), none, []⟩,
 ⟨(some 10), .box 50 3 (.val (.agg [(.int .i64 0), (.int .i64 0), (.slice .full 0 [])])), none, []⟩])
 (.seq
 (.block 0
 (.seq
 (.reg [
 ⟨(some 12), .off 0 (.tmp 5), none, []⟩,
 ⟨(some 13), .ld none (.tmp 12), none, []⟩,
 ⟨(some 14), .bin .lss (.tmp 13) (.val (.int .i64 0)), none, []⟩,
 ⟨(some 11), .mv (.tmp 14), none, []⟩])
 (.cond (.tmp 11)
 (.seq
 (.reg [
 ⟨(some 15), .lit 5 1 [0] [(.val (.int .u8 65)), (.val (.int .u8 0))], none, []⟩,
 ⟨(some 16), .bld [(.int .i64 0), (.int .i64 0), (.slice .full 0 [])] [(0, 1, (.val (.int .i64 2))), (1, 1, (.val (.int .i64 7))), (2, 1, (.tmp 15))], none, []⟩,
 ⟨none, .st 3 (.tmp 10) (.tmp 16), none, []⟩])
 .ret)
 (.seq
 (.reg [
 ⟨(some 18), .off 0 (.tmp 5), none, []⟩,
 ⟨(some 19), .ld none (.tmp 18), none, []⟩,
 ⟨(some 20), .bin .eql (.tmp 19) (.val (.int .i64 0)), none, []⟩,
 ⟨(some 21), .mv (.tmp 20), none, []⟩,
 ⟨(some 22), .off 0 (.tmp 5), some (21, false), []⟩,
 ⟨(some 23), .ld none (.tmp 22), some (21, false), []⟩,
 ⟨(some 24), .mv (.tmp 1), some (21, false), []⟩,
 ⟨(some 25), .bin .neq (.tmp 23) (.tmp 24), some (21, false), []⟩,
 ⟨(some 26), .pick (.tmp 21) (.val (.bool true)) (.tmp 25), none, []⟩,
 ⟨(some 27), .mv (.tmp 26), none, []⟩,
 ⟨(some 28), .mv (.tmp 2), some (27, false), []⟩,
 ⟨(some 29), .off 0 (.tmp 5), some (27, false), []⟩,
 ⟨(some 30), .ld none (.tmp 29), some (27, false), []⟩,
 ⟨(some 31), .callS 46 [(.tmp 30)], some (27, false), []⟩,
 ⟨(some 32), .bin .neq (.tmp 28) (.tmp 31), some (27, false), []⟩,
 ⟨(some 33), .pick (.tmp 27) (.val (.bool true)) (.tmp 32), none, []⟩,
 ⟨(some 17), .mv (.tmp 33), none, []⟩])
 (.cond (.tmp 17)
 (.seq
 (.reg [
 ⟨(some 34), .bld [(.int .i64 0), (.int .i64 0), (.slice .full 0 [])] [(0, 1, (.val (.int .i64 2))), (1, 1, (.val (.int .i64 2)))], none, []⟩,
 ⟨none, .st 3 (.tmp 10) (.tmp 34), none, []⟩])
 .ret)
 (.seq
 (.reg [
 ⟨(some 36), .mv (.tmp 3), none, []⟩,
 ⟨(some 37), .callS 57 [(.tmp 36)], none, []⟩,
 ⟨(some 38), .un .not (.tmp 37), none, []⟩,
 ⟨(some 35), .mv (.tmp 38), none, []⟩])
 (.cond (.tmp 35)
 (.seq
 (.reg [
 ⟨(some 39), .bld [(.int .i64 0), (.int .i64 0), (.slice .full 0 [])] [(0, 1, (.val (.int .i64 2))), (1, 1, (.val (.int .i64 6)))], none, []⟩,
 ⟨none, .st 3 (.tmp 10) (.tmp 39), none, []⟩])
 .ret)
 (.seq
 (.reg [
 ⟨(some 41), .mv (.tmp 4), none, []⟩,
 ⟨(some 42), .bin .eql (.tmp 41) (.val (.int .i64 0)), none, []⟩,
 ⟨(some 40), .mv (.tmp 42), none, []⟩])
 (.cond (.tmp 40)
 (.seq
 (.reg [
 ⟨(some 43), .bld [(.int .i64 0), (.int .i64 0), (.slice .full 0 [])] [(0, 1, (.val (.int .i64 2))), (1, 1, (.val (.int .i64 3)))], none, []⟩,
 ⟨none, .st 3 (.tmp 10) (.tmp 43), none, []⟩])
 .ret)
 .skip)))))))))
 (.seq
 (.reg [
 ⟨(some 44), .bld [(.int .i64 0), (.int .i64 0), (.slice .full 0 [])] [], none, []⟩,
 ⟨none, .st 3 (.tmp 10) (.tmp 44), none, []⟩])
 .ret)))
def c_open_fault : AF := ⟨b_open_fault, 45, [.cell 10 (some 3)]⟩
theorem p_open_fault : prepFunc Tryd.prog 65 = some c_open_fault ∧ hasBody Tryd.prog 65 = true := ⟨by kernel_rfl, by kernel_rfl⟩
def b_slices_IndexFunc___api_Side_api_Side : AC :=
 (.seq
 (.reg [
 ⟨(some 4), .mv (.val (.int .i64 0)), none, []⟩])
 (.seq
 (.seq
 (.reg [
 ⟨(some 6), .mv (.tmp 0), none, []⟩,
 ⟨(some 7), .len (.tmp 6), none, []⟩,
 ⟨(some 8), .mv (.val (.int .i64 0)), none, []⟩])
 (.block 0
 (.loop
 (.seq
 (.reg [
 ⟨(some 9), .bin .lss (.tmp 8) (.tmp 7), none, []⟩])
 (.seq
 (.cond (.tmp 9)
 .skip
 (.exit 0))
 (.seq
 (.block 1
 (.seq
 (.reg [
 ⟨(some 10), .mv (.tmp 8), none, []⟩,
 ⟨(some 5), .mv (.tmp 10), none, []⟩])
 (.seq
 (.reg [
 ⟨(some 11), .mv (.tmp 1), none, []⟩,
 ⟨(some 12), .mv (.tmp 0), none, []⟩,
 ⟨(some 13), .mv (.tmp 5), none, []⟩,
 ⟨(some 14), .idxA 4 (.tmp 12) (.tmp 13), none, []⟩,
 ⟨(some 15), .ld (some 4) (.tmp 14), none, []⟩,
 ⟨(some 16), .callvS (.tmp 11) [(.tmp 15)], none, []⟩])
 (.cond (.tmp 16)
 (.seq
 (.reg [
 ⟨(some 17), .mv (.tmp 5), none, []⟩,
 ⟨(some 4), .mv (.tmp 17), none, []⟩])
 .ret)
 .skip))))
 (.reg [
 ⟨(some 18), .bin .add (.tmp 8) (.val (.int .i64 1)), none, []⟩,
 ⟨(some 8), .mv (.tmp 18), none, []⟩])))))))
 (.seq
 (.reg [
 ⟨(some 4), .mv (.val (.int .i64 (-1))), none, []⟩])
 .ret)))
def c_slices_IndexFunc___api_Side_api_Side : AF := ⟨b_slices_IndexFunc___api_Side_api_Side, 19, [.tmp 4]⟩
theorem p_slices_IndexFunc___api_Side_api_Side : prepFunc Tryd.prog 66 = some c_slices_IndexFunc___api_Side_api_Side ∧ hasBody Tryd.prog 66 = true := ⟨by kernel_rfl, by kernel_rfl⟩
def b_policy_saneMatch : AC :=
 (.seq
 (.reg [
 ⟨(some 2), .box 98 6 (.tmp 0), none, []⟩,
 ⟨(some 4), .mv (.val (.bool false)), none, []⟩])
 (.seq
 (.seq
 (.reg [
 ⟨(some 5), .off 0 (.tmp 2), none, []⟩,
 ⟨(some 6), .ld none (.tmp 5), none, []⟩,
 ⟨(some 7), .bin .eql (.tmp 6) (.val (.int .i64 1)), none, []⟩])
 (.cond (.tmp 7)
 (.seq
 (.reg [
 ⟨(some 8), .off 1 (.tmp 2), none, []⟩,
 ⟨(some 9), .ld (some 2) (.tmp 8), none, []⟩,
 ⟨(some 10), .callS 48 [(.tmp 9)], none, []⟩,
 ⟨(some 11), .mv (.tmp 10), none, []⟩,
 ⟨(some 12), .off 3 (.tmp 2), some (11, true), []⟩,
 ⟨(some 13), .ld none (.tmp 12), some (11, true), []⟩,
 ⟨(some 14), .bin .eql (.tmp 13) (.val (.int .i64 0)), some (11, true), []⟩,
 ⟨(some 15), .pick (.tmp 11) (.tmp 14) (.val (.bool false)), none, []⟩,
 ⟨(some 4), .mv (.tmp 15), none, []⟩])
 .ret)
 .skip))
 (.seq
 (.seq
 (.reg [
 ⟨(some 16), .off 1 (.tmp 2), none, []⟩,
 ⟨(some 17), .ld (some 2) (.tmp 16), none, []⟩,
 ⟨(some 18), .bld [(.int .i64 0), (.int .i64 0)] [], none, []⟩,
 ⟨(some 19), .eqA true 2 [(0, 0), (1, 0)] (.tmp 17) (.tmp 18), none, []⟩])
 (.cond (.tmp 19)
 (.seq
 (.reg [
 ⟨(some 4), .mv (.val (.bool false)), none, []⟩])
 .ret)
 .skip))
 (.seq
 (.seq
 (.reg [
 ⟨(some 20), .off 0 (.tmp 2), none, []⟩,
 ⟨(some 21), .ld none (.tmp 20), none, []⟩])
 (.block 0
 (.seq
 (.reg [
 ⟨(some 23), .bin .eql (.tmp 21) (.val (.int .i64 0)), none, []⟩,
 ⟨(some 22), .mv (.tmp 23), none, []⟩])
 (.cond (.tmp 22)
 (.seq
 (.reg [
 ⟨(some 24), .off 3 (.tmp 2), none, []⟩,
 ⟨(some 25), .ld none (.tmp 24), none, []⟩,
 ⟨(some 26), .bin .eql (.tmp 25) (.val (.int .i64 0)), none, []⟩,
 ⟨(some 4), .mv (.tmp 26), none, []⟩])
 .ret)
 (.seq
 (.reg [
 ⟨(some 28), .bin .eql (.tmp 21) (.val (.int .i64 2)), none, []⟩,
 ⟨(some 27), .mv (.tmp 28), none, []⟩])
 (.cond (.tmp 27)
 (.seq
 (.reg [
 ⟨(some 29), .off 3 (.tmp 2), none, []⟩,
 ⟨(some 30), .ld none (.tmp 29), none, []⟩,
 ⟨(some 31), .bin .geq (.tmp 30) (.val (.int .i64 1)), none, []⟩,
 ⟨(some 32), .mv (.tmp 31), none, []⟩,
 ⟨(some 33), .off 3 (.tmp 2), some (32, true), []⟩,
 ⟨(some 34), .ld none (.tmp 33), some (32, true), []⟩,
 ⟨(some 35), .bin .leq (.tmp 34) (.val (.int .i64 4294967295)), some (32, true), []⟩,
 ⟨(some 36), .pick (.tmp 32) (.tmp 35) (.val (.bool false)), none, []⟩,
 ⟨(some 4), .mv (.tmp 36), none, []⟩])
 .ret)
 (.seq
 (.reg [
 ⟨(some 38), .bin .eql (.tmp 21) (.val (.int .i64 3)), none, []⟩,
 ⟨(some 37), .mv (.tmp 38), none, []⟩])
 (.cond (.tmp 37)
 (.seq
 (.reg [
 ⟨(some 39), .off 3 (.tmp 2), none, []⟩,
 ⟨(some 40), .ld none (.tmp 39), none, []⟩,
 ⟨(some 41), .bin .geq (.tmp 40) (.val (.int .i64 0)), none, []⟩,
 ⟨(some 42), .mv (.tmp 41), none, []⟩,
 ⟨(some 43), .off 3 (.tmp 2), some (42, true), []⟩,
 ⟨(some 44), .ld none (.tmp 43), some (42, true), []⟩,
 ⟨(some 45), .bin .leq (.tmp 44) (.val (.int .i64 32)), some (42, true), []⟩,
 ⟨(some 46), .pick (.tmp 42) (.tmp 45) (.val (.bool false)), none, []⟩,
 ⟨(some 4), .mv (.tmp 46), none, []⟩])
 .ret)
 (.seq
 (.reg [
 ⟨(some 48), .bin .eql (.tmp 21) (.val (.int .i64 4)), none, []⟩,
 ⟨(some 47), .mv (.tmp 48), none, []⟩])
 (.cond (.tmp 47)
 (.seq
 (.reg [
 ⟨(some 49), .mv (.tmp 1), none, []⟩,
 ⟨(some 50), .un .not (.tmp 49), none, []⟩,
 ⟨(some 51), .mv (.tmp 50), none, []⟩,
 ⟨(some 52), .off 3 (.tmp 2), some (51, true), []⟩,
 ⟨(some 53), .ld none (.tmp 52), some (51, true), []⟩,
 ⟨(some 54), .bin .geq (.tmp 53) (.val (.int .i64 0)), some (51, true), []⟩,
 ⟨(some 55), .pick (.tmp 51) (.tmp 54) (.val (.bool false)), none, []⟩,
 ⟨(some 56), .mv (.tmp 55), none, []⟩,
 ⟨(some 57), .off 3 (.tmp 2), some (56, true), []⟩,
 ⟨(some 58), .ld none (.tmp 57), some (56, true), []⟩,
 ⟨(some 59), .bin .leq (.tmp 58) (.val (.int .i64 3)), some (56, true), []⟩,
 ⟨(some 60), .pick (.tmp 56) (.tmp 59) (.val (.bool false)), none, []⟩,
 ⟨(some 4), .mv (.tmp 60), none, []⟩])
 .ret)
 .skip))))))))))
 (.seq
 (.reg [
 ⟨(some 4), .mv (.val (.bool false)), none, []⟩])
 .ret)))))
def c_policy_saneMatch : AF := ⟨b_policy_saneMatch, 61, [.tmp 4]⟩
theorem p_policy_saneMatch : prepFunc Tryd.prog 67 = some c_policy_saneMatch ∧ hasBody Tryd.prog 67 = true := ⟨by kernel_rfl, by kernel_rfl⟩
def b_policy_saneAct : AC :=
 (.seq
 (.reg [
 ⟨(some 2), .box 98 6 (.tmp 0), none, []⟩,
 ⟨(some 4), .mv (.val (.bool false)), none, []⟩])
 (.seq
 (.seq
 (.reg [
 ⟨(some 5), .off 4 (.tmp 2), none, []⟩,
 ⟨(some 6), .ld none (.tmp 5), none, []⟩])
 (.block 0
 (.seq
 (.reg [
 ⟨(some 8), .bin .eql (.tmp 6) (.val (.int .i64 0)), none, []⟩,
 ⟨(some 7), .mv (.tmp 8), none, []⟩])
 (.cond (.tmp 7)
 (.seq
 (.reg [
 ⟨(some 9), .off 5 (.tmp 2), none, []⟩,
 ⟨(some 10), .ld none (.tmp 9), none, []⟩,
 ⟨(some 11), .bin .eql (.tmp 10) (.val (.int .i64 0)), none, []⟩,
 ⟨(some 4), .mv (.tmp 11), none, []⟩])
 .ret)
 (.seq
 (.reg [
 ⟨(some 13), .bin .eql (.tmp 6) (.val (.int .i64 1)), none, []⟩,
 ⟨(some 12), .mv (.tmp 13), none, []⟩])
 (.cond (.tmp 12)
 (.seq
 (.reg [
 ⟨(some 14), .mv (.tmp 1), none, []⟩,
 ⟨(some 15), .un .not (.tmp 14), none, []⟩,
 ⟨(some 16), .mv (.tmp 15), none, []⟩,
 ⟨(some 17), .off 5 (.tmp 2), some (16, true), []⟩,
 ⟨(some 18), .ld none (.tmp 17), some (16, true), []⟩,
 ⟨(some 19), .bin .eql (.tmp 18) (.val (.int .i64 0)), some (16, true), []⟩,
 ⟨(some 20), .pick (.tmp 16) (.tmp 19) (.val (.bool false)), none, []⟩,
 ⟨(some 4), .mv (.tmp 20), none, []⟩])
 .ret)
 (.seq
 (.reg [
 ⟨(some 22), .bin .eql (.tmp 6) (.val (.int .i64 2)), none, []⟩,
 ⟨(some 21), .mv (.tmp 22), none, []⟩])
 (.cond (.tmp 21)
 (.seq
 (.reg [
 ⟨(some 23), .mv (.tmp 1), none, []⟩,
 ⟨(some 24), .mv (.tmp 23), none, []⟩,
 ⟨(some 25), .off 5 (.tmp 2), some (24, true), []⟩,
 ⟨(some 26), .ld none (.tmp 25), some (24, true), []⟩,
 ⟨(some 27), .bin .geq (.tmp 26) (.val (.int .i64 1)), some (24, true), []⟩,
 ⟨(some 28), .pick (.tmp 24) (.tmp 27) (.val (.bool false)), none, []⟩,
 ⟨(some 29), .mv (.tmp 28), none, []⟩,
 ⟨(some 30), .off 5 (.tmp 2), some (29, true), []⟩,
 ⟨(some 31), .ld none (.tmp 30), some (29, true), []⟩,
 ⟨(some 32), .bin .lss (.tmp 31) (.val (.int .i64 400)), some (29, true), []⟩,
 ⟨(some 33), .pick (.tmp 29) (.tmp 32) (.val (.bool false)), none, []⟩,
 ⟨(some 4), .mv (.tmp 33), none, []⟩])
 .ret)
 (.seq
 (.reg [
 ⟨(some 35), .bin .eql (.tmp 6) (.val (.int .i64 3)), none, []⟩,
 ⟨(some 34), .mv (.tmp 35), none, []⟩])
 (.cond (.tmp 34)
 (.seq
 (.reg [
 ⟨(some 36), .mv (.tmp 1), none, []⟩,
 ⟨(some 37), .un .not (.tmp 36), none, []⟩,
 ⟨(some 38), .mv (.tmp 37), none, []⟩,
 ⟨(some 39), .off 5 (.tmp 2), some (38, true), []⟩,
 ⟨(some 40), .ld none (.tmp 39), some (38, true), []⟩,
 ⟨(some 41), .bin .geq (.tmp 40) (.val (.int .i64 1)), some (38, true), []⟩,
 ⟨(some 42), .pick (.tmp 38) (.tmp 41) (.val (.bool false)), none, []⟩,
 ⟨(some 43), .mv (.tmp 42), none, []⟩,
 ⟨(some 44), .off 5 (.tmp 2), some (43, true), []⟩,
 ⟨(some 45), .ld none (.tmp 44), some (43, true), []⟩,
 ⟨(some 46), .bin .leq (.tmp 45) (.val (.int .i64 8)), some (43, true), []⟩,
 ⟨(some 47), .pick (.tmp 43) (.tmp 46) (.val (.bool false)), none, []⟩,
 ⟨(some 4), .mv (.tmp 47), none, []⟩])
 .ret)
 .skip))))))))))
 (.seq
 (.reg [
 ⟨(some 4), .mv (.val (.bool false)), none, []⟩])
 .ret)))
def c_policy_saneAct : AF := ⟨b_policy_saneAct, 48, [.tmp 4]⟩
theorem p_policy_saneAct : prepFunc Tryd.prog 68 = some c_policy_saneAct ∧ hasBody Tryd.prog 68 = true := ⟨by kernel_rfl, by kernel_rfl⟩
def b_octet_Take : AC :=
 (.seq
 (.reg [
 ⟨(some 4), .mv (.val (.slice .full 0 [])), none, []⟩,
 ⟨(some 5), .mv (.val (.slice .full 0 [])), none, []⟩,
 ⟨(some 6), .mv (.val (.bool false)), none, []⟩])
 (.seq
 (.seq
 (.reg [
 ⟨(some 7), .mv (.tmp 1), none, []⟩,
 ⟨(some 8), .bin .lss (.tmp 7) (.val (.int .i64 0)), none, []⟩,
 ⟨(some 9), .mv (.tmp 8), none, []⟩,
 ⟨(some 10), .mv (.tmp 1), some (9, false), []⟩,
 ⟨(some 11), .mv (.tmp 0), some (9, false), []⟩,
 ⟨(some 12), .len (.tmp 11), some (9, false), []⟩,
 ⟨(some 13), .bin .gtr (.tmp 10) (.tmp 12), some (9, false), []⟩,
 ⟨(some 14), .pick (.tmp 9) (.val (.bool true)) (.tmp 13), none, []⟩])
 (.cond (.tmp 14)
 (.seq
 (.reg [
 ⟨(some 4), .mv (.val (.slice .full 0 [])), none, []⟩,
 ⟨(some 5), .mv (.val (.slice .full 0 [])), none, []⟩,
 ⟨(some 6), .mv (.val (.bool false)), none, []⟩])
 .ret)
 .skip))
 (.seq
 (.reg [
 ⟨(some 15), .mv (.tmp 0), none, []⟩,
 ⟨(some 16), .mv (.tmp 1), none, []⟩,
 ⟨(some 17), .mv (.tmp 1), none, []⟩,
 ⟨(some 18), .slc 1 (.tmp 15) none (some (.tmp 16)) (some (.tmp 17)), none, []⟩,
 ⟨(some 19), .mv (.tmp 0), none, []⟩,
 ⟨(some 20), .mv (.tmp 1), none, []⟩,
 ⟨(some 21), .slc 1 (.tmp 19) (some (.tmp 20)) none none, none, []⟩,
 ⟨(some 4), .mv (.tmp 18), none, []⟩,
 ⟨(some 5), .mv (.tmp 21), none, []⟩,
 ⟨(some 6), .mv (.val (.bool true)), none, []⟩])
 .ret)))
def c_octet_Take : AF := ⟨b_octet_Take, 22, [.tmp 4, .tmp 5, .tmp 6]⟩
theorem p_octet_Take : prepFunc Tryd.prog 69 = some c_octet_Take ∧ hasBody Tryd.prog 69 = true := ⟨by kernel_rfl, by kernel_rfl⟩
def b_open_each : AC :=
 (.seq
 (.reg [
 ⟨(some 4), .box 50 3 (.val (.agg [(.int .i64 0), (.int .i64 0), (.slice .full 0 [])])), none, []⟩])
 (.seq
 (.block 0
 (.loop
 (.seq
 (.seq
 (.reg [
 ⟨(some 13), .mv (.tmp 0), none, []⟩,
 ⟨(some 14), .len (.tmp 13), none, []⟩,
 ⟨(some 15), .bin .gtr (.tmp 14) (.val (.int .i64 0)), none, []⟩])
 (.cond (.tmp 15)
 .skip
 (.exit 0)))
 (.block 1
 (.seq
 (.reg [
 ⟨(some 17), .mv (.tmp 0), none, []⟩,
 ⟨(some 18), .callS 63 [(.tmp 17), (.val (.int .i64 1))], none, []⟩,
 ⟨(some 16), .mv (.tmp 18), none, []⟩,
 ⟨(some 19), .ext (.tmp 16) 0, none, []⟩,
 ⟨(some 20), .ext (.tmp 16) 1, none, []⟩,
 ⟨(some 21), .ext (.tmp 16) 2, none, []⟩,
 ⟨(some 5), .mv (.tmp 19), none, []⟩,
 ⟨(some 6), .mv (.tmp 20), none, []⟩,
 ⟨(some 7), .mv (.tmp 21), none, []⟩])
 (.seq
 (.reg [
 ⟨(some 23), .mv (.tmp 6), none, []⟩,
 ⟨(some 24), .callS 63 [(.tmp 23), (.val (.int .i64 1))], none, []⟩,
 ⟨(some 22), .mv (.tmp 24), none, []⟩,
 ⟨(some 25), .ext (.tmp 22) 0, none, []⟩,
 ⟨(some 26), .ext (.tmp 22) 1, none, []⟩,
 ⟨(some 27), .ext (.tmp 22) 2, none, []⟩,
 ⟨(some 8), .mv (.tmp 25), none, []⟩,
 ⟨(some 6), .mv (.tmp 26), none, []⟩,
 ⟨(some 9), .mv (.tmp 27), none, []⟩])
 (.seq
 (.reg [
 ⟨(some 29), .mv (.tmp 6), none, []⟩,
 ⟨(some 30), .mv (.tmp 8), none, []⟩,
 ⟨(some 31), .callS 69 [(.tmp 29), (.tmp 30)], none, []⟩,
 ⟨(some 28), .mv (.tmp 31), none, []⟩,
 ⟨(some 32), .ext (.tmp 28) 0, none, []⟩,
 ⟨(some 33), .ext (.tmp 28) 1, none, []⟩,
 ⟨(some 34), .ext (.tmp 28) 2, none, []⟩,
 ⟨(some 10), .mv (.tmp 32), none, []⟩,
 ⟨(some 6), .mv (.tmp 33), none, []⟩,
 ⟨(some 11), .mv (.tmp 34), none, []⟩])
 (.seq
 (.seq
 (.reg [
 ⟨(some 35), .mv (.tmp 9), none, []⟩,
 ⟨(some 36), .un .not (.tmp 35), none, []⟩,
 ⟨(some 37), .mv (.tmp 36), none, []⟩,
 ⟨(some 38), .mv (.tmp 11), some (37, false), []⟩,
 ⟨(some 39), .un .not (.tmp 38), some (37, false), []⟩,
 ⟨(some 40), .pick (.tmp 37) (.val (.bool true)) (.tmp 39), none, []⟩])
 (.cond (.tmp 40)
 (.seq
 (.reg [
 ⟨(some 41), .bld [(.int .i64 0), (.int .i64 0), (.slice .full 0 [])] [(0, 1, (.val (.int .i64 2))), (1, 1, (.val (.int .i64 0)))], none, []⟩,
 ⟨none, .st 3 (.tmp 4) (.tmp 41), none, []⟩])
 .ret)
 .skip))
 (.seq
 (.seq
 (.reg [
 ⟨(some 42), .mv (.tmp 1), none, []⟩,
 ⟨(some 43), .mv (.tmp 5), none, []⟩,
 ⟨(some 44), .mv (.tmp 10), none, []⟩,
 ⟨(some 45), .callvS (.tmp 42) [(.tmp 43), (.tmp 44)], none, []⟩,
 ⟨(some 12), .box 50 3 (.val (.agg [(.int .i64 0), (.int .i64 0), (.slice .full 0 [])])), none, []⟩,
 ⟨none, .st 3 (.tmp 12) (.tmp 45), none, []⟩])
 (.seq
 (.reg [
 ⟨(some 46), .off 0 (.tmp 12), none, []⟩,
 ⟨(some 47), .ld none (.tmp 46), none, []⟩,
 ⟨(some 48), .bin .neq (.tmp 47) (.val (.int .i64 0)), none, []⟩])
 (.cond (.tmp 48)
 (.seq
 (.reg [
 ⟨(some 49), .ld (some 3) (.tmp 12), none, []⟩,
 ⟨none, .st 3 (.tmp 4) (.tmp 49), none, []⟩])
 .ret)
 .skip)))
 (.reg [
 ⟨(some 50), .mv (.tmp 6), none, []⟩,
 ⟨(some 0), .mv (.tmp 50), none, []⟩]))))))))))
 (.seq
 (.reg [
 ⟨(some 51), .bld [(.int .i64 0), (.int .i64 0), (.slice .full 0 [])] [], none, []⟩,
 ⟨none, .st 3 (.tmp 4) (.tmp 51), none, []⟩])
 .ret)))
def c_open_each : AF := ⟨b_open_each, 52, [.cell 4 (some 3)]⟩
theorem p_open_each : prepFunc Tryd.prog 70 = some c_open_each ∧ hasBody Tryd.prog 70 = true := ⟨by kernel_rfl, by kernel_rfl⟩
def b_open_read_1 : AC :=
 (.seq
 (.reg [
 ⟨(some 5), .box 50 3 (.val (.agg [(.int .i64 0), (.int .i64 0), (.slice .full 0 [])])), none, []⟩])
 (.seq
 (.seq
 (.reg [
 ⟨(some 6), .mv (.tmp 0), none, []⟩,
 ⟨(some 7), .bin .neq (.tmp 6) (.val (.int .i64 2)), none, []⟩])
 (.cond (.tmp 7)
 (.seq
 (.reg [
 ⟨(some 8), .bld [(.int .i64 0), (.int .i64 0), (.slice .full 0 [])] [(0, 1, (.val (.int .i64 2))), (1, 1, (.val (.int .i64 4)))], none, []⟩,
 ⟨none, .st 3 (.tmp 5) (.tmp 8), none, []⟩])
 .ret)
 .skip))
 (.seq
 (.reg [
 ⟨(some 9), .mv (.tmp 1), none, []⟩,
 ⟨(some 10), .mkfn 72 [(.tmp 2)], none, []⟩,
 ⟨(some 11), .callS 70 [(.tmp 9), (.tmp 10)], none, []⟩,
 ⟨none, .st 3 (.tmp 5) (.tmp 11), none, []⟩])
 .ret)))
def c_open_read_1 : AF := ⟨b_open_read_1, 12, [.cell 5 (some 3)]⟩
theorem p_open_read_1 : prepFunc Tryd.prog 71 = some c_open_read_1 ∧ hasBody Tryd.prog 71 = true := ⟨by kernel_rfl, by kernel_rfl⟩
def b_open_said__take : AC :=
 (.seq
 (.reg [
 ⟨(some 6), .box 50 3 (.val (.agg [(.int .i64 0), (.int .i64 0), (.slice .full 0 [])])), none, []⟩])
 (.seq
 (.block 0
 (.seq
 (.seq
 (.reg [
 ⟨(some 8), .mv (.tmp 1), none, []⟩,
 ⟨(some 9), .bin .eql (.tmp 8) (.val (.int .i64 65)), none, []⟩,
 ⟨(some 10), .mv (.tmp 9), none, []⟩,
 ⟨(some 11), .mv (.tmp 2), some (10, true), []⟩,
 ⟨(some 12), .len (.tmp 11), some (10, true), []⟩,
 ⟨(some 13), .bin .neq (.tmp 12) (.val (.int .i64 4)), some (10, true), []⟩,
 ⟨(some 14), .pick (.tmp 10) (.tmp 13) (.val (.bool false)), none, []⟩,
 ⟨(some 7), .mv (.tmp 14), none, []⟩])
 (.cond (.tmp 7)
 .skip
 (.reg [
 ⟨(some 15), .mv (.tmp 1), none, []⟩,
 ⟨(some 16), .bin .eql (.tmp 15) (.val (.int .i64 9)), none, []⟩,
 ⟨(some 17), .mv (.tmp 16), none, []⟩,
 ⟨(some 18), .mv (.tmp 2), some (17, true), []⟩,
 ⟨(some 19), .len (.tmp 18), some (17, true), []⟩,
 ⟨(some 20), .bin .neq (.tmp 19) (.val (.int .i64 1)), some (17, true), []⟩,
 ⟨(some 21), .pick (.tmp 17) (.tmp 20) (.val (.bool false)), none, []⟩,
 ⟨(some 7), .mv (.tmp 21), none, []⟩])))
 (.cond (.tmp 7)
 (.seq
 (.reg [
 ⟨(some 22), .bld [(.int .i64 0), (.int .i64 0), (.slice .full 0 [])] [(0, 1, (.val (.int .i64 2))), (1, 1, (.val (.int .i64 0)))], none, []⟩,
 ⟨none, .st 3 (.tmp 6) (.tmp 22), none, []⟩])
 .ret)
 (.seq
 (.reg [
 ⟨(some 24), .mv (.tmp 1), none, []⟩,
 ⟨(some 25), .bin .eql (.tmp 24) (.val (.int .i64 65)), none, []⟩,
 ⟨(some 26), .mv (.tmp 25), none, []⟩,
 ⟨(some 27), .mv (.tmp 0), some (26, true), []⟩,
 ⟨(some 28), .nilc (.tmp 27), some (26, true), []⟩,
 ⟨(some 29), .off 0 (.tmp 28), some (26, true), []⟩,
 ⟨(some 30), .ld none (.tmp 29), some (26, true), []⟩,
 ⟨(some 31), .bin .lss (.tmp 30) (.val (.int .i64 0)), some (26, true), []⟩,
 ⟨(some 32), .pick (.tmp 26) (.tmp 31) (.val (.bool false)), none, []⟩,
 ⟨(some 23), .mv (.tmp 32), none, []⟩])
 (.cond (.tmp 23)
 (.reg [
 ⟨(some 34), .mv (.tmp 0), none, []⟩,
 ⟨(some 35), .mv (.tmp 2), none, []⟩,
 ⟨(some 36), .callS 63 [(.tmp 35), (.val (.int .i64 4))], none, []⟩,
 ⟨(some 33), .mv (.tmp 36), none, []⟩,
 ⟨(some 37), .ext (.tmp 33) 0, none, []⟩,
 ⟨(some 38), .ext (.tmp 33) 1, none, []⟩,
 ⟨(some 39), .ext (.tmp 33) 2, none, []⟩,
 ⟨(some 40), .nilc (.tmp 34), none, []⟩,
 ⟨(some 41), .off 0 (.tmp 40), none, []⟩,
 ⟨none, .st 1 (.tmp 41) (.tmp 37), none, []⟩])
 (.seq
 (.reg [
 ⟨(some 43), .mv (.tmp 1), none, []⟩,
 ⟨(some 44), .bin .eql (.tmp 43) (.val (.int .i64 9)), none, []⟩,
 ⟨(some 45), .mv (.tmp 44), none, []⟩,
 ⟨(some 46), .mv (.tmp 0), some (45, true), []⟩,
 ⟨(some 47), .nilc (.tmp 46), some (45, true), []⟩,
 ⟨(some 48), .off 1 (.tmp 47), some (45, true), []⟩,
 ⟨(some 49), .ld none (.tmp 48), some (45, true), []⟩,
 ⟨(some 50), .bin .lss (.tmp 49) (.val (.int .i64 0)), some (45, true), []⟩,
 ⟨(some 51), .pick (.tmp 45) (.tmp 50) (.val (.bool false)), none, []⟩,
 ⟨(some 42), .mv (.tmp 51), none, []⟩])
 (.cond (.tmp 42)
 (.reg [
 ⟨(some 52), .mv (.tmp 0), none, []⟩,
 ⟨(some 53), .mv (.tmp 2), none, []⟩,
 ⟨(some 54), .idxA 1 (.tmp 53) (.val (.int .i64 0)), none, []⟩,
 ⟨(some 55), .ld none (.tmp 54), none, []⟩,
 ⟨(some 56), .conv .i64 (.tmp 55), none, []⟩,
 ⟨(some 57), .nilc (.tmp 52), none, []⟩,
 ⟨(some 58), .off 1 (.tmp 57), none, []⟩,
 ⟨none, .st 1 (.tmp 58) (.tmp 56), none, []⟩])
 (.seq
 (.reg [
 ⟨(some 60), .mv (.tmp 1), none, []⟩,
 ⟨(some 61), .bin .eql (.tmp 60) (.val (.int .i64 9)), none, []⟩,
 ⟨(some 62), .mv (.tmp 61), none, []⟩,
 ⟨(some 63), .mv (.tmp 0), some (62, true), []⟩,
 ⟨(some 64), .nilc (.tmp 63), some (62, true), []⟩,
 ⟨(some 65), .off 1 (.tmp 64), some (62, true), []⟩,
 ⟨(some 66), .ld none (.tmp 65), some (62, true), []⟩,
 ⟨(some 67), .mv (.tmp 2), some (62, true), []⟩,
 ⟨(some 68), .idxA 1 (.tmp 67) (.val (.int .i64 0)), some (62, true), []⟩,
 ⟨(some 69), .ld none (.tmp 68), some (62, true), []⟩,
 ⟨(some 70), .conv .i64 (.tmp 69), some (62, true), []⟩,
 ⟨(some 71), .bin .neq (.tmp 66) (.tmp 70), some (62, true), []⟩,
 ⟨(some 72), .pick (.tmp 62) (.tmp 71) (.val (.bool false)), none, []⟩,
 ⟨(some 59), .mv (.tmp 72), none, []⟩])
 (.cond (.tmp 59)
 (.seq
 (.reg [
 ⟨(some 73), .bld [(.int .i64 0), (.int .i64 0), (.slice .full 0 [])] [(0, 1, (.val (.int .i64 2))), (1, 1, (.val (.int .i64 11)))], none, []⟩,
 ⟨none, .st 3 (.tmp 6) (.tmp 73), none, []⟩])
 .ret)
 .skip)))))))))
 (.seq
 (.reg [
 ⟨(some 74), .bld [(.int .i64 0), (.int .i64 0), (.slice .full 0 [])] [], none, []⟩,
 ⟨none, .st 3 (.tmp 6) (.tmp 74), none, []⟩])
 .ret)))
def c_open_said__take : AF := ⟨b_open_said__take, 75, [.cell 6 (some 3)]⟩
theorem p_open_said__take : prepFunc Tryd.prog 72 = some c_open_said__take ∧ hasBody Tryd.prog 72 = true := ⟨by kernel_rfl, by kernel_rfl⟩
def tab : Tab := [(4, c_ridgewaylaw17_SessionMeet), (8, c_ridgewaylaw17_awake), (10, c_session_Take), (12, c_session_Start), (13, c_session_Sane), (14, c_msg_Sane), (15, c_ridgewaylaw17_node), (16, c_conf_Sane), (17, c_ridgewaylaw17_step), (18, c_note_Get), (21, c_session_sane), (22, c_session_there), (23, c_session_does), (25, c_open_Put), (26, c_session_Hello), (27, c_session_third), (28, c_msg_Least), (29, c_msg_wrong), (30, c_conf_saneNumber), (31, c_conf_saneHold), (32, c_conf_saneCap), (33, c_conf_saneOwn), (34, c_conf_saneSides), (35, c_note_Sane), (37, c_session_does_1), (38, c_session_turn__sent), (39, c_session_turn__confirm), (40, c_session_turn__up), (41, c_session_Stop), (42, c_session_alive), (43, c_open_Sane), (44, c_open_labelled), (45, c_octet_Put), (46, c_open_short), (47, c_role_Mine), (48, c_prefix_Sane), (49, c_slices_Contains___api_Prefix_api_Prefix), (50, c_conf_taken), (51, c_conf_saneRules), (52, c_session_turn__end), (53, c_open_Get), (54, c_role_Pairs), (55, c_note_Put), (56, c_open_number), (57, c_open_holds), (58, c_prefix_Mask), (59, c_slices_Index___api_Prefix_api_Prefix), (60, c_slices_ContainsFunc___api_Side_api_Side), (61, c_conf_taken_1), (62, c_policy_Sane), (63, c_octet_Get), (64, c_open_read), (65, c_open_fault), (66, c_slices_IndexFunc___api_Side_api_Side), (67, c_policy_saneMatch), (68, c_policy_saneAct), (69, c_octet_Take), (70, c_open_each), (71, c_open_read_1), (72, c_open_said__take)]
theorem tab_ok : Tab.Ok Tryd.prog tab := ⟨p_ridgewaylaw17_SessionMeet, p_ridgewaylaw17_awake, p_session_Take, p_session_Start, p_session_Sane, p_msg_Sane, p_ridgewaylaw17_node, p_conf_Sane, p_ridgewaylaw17_step, p_note_Get, p_session_sane, p_session_there, p_session_does, p_open_Put, p_session_Hello, p_session_third, p_msg_Least, p_msg_wrong, p_conf_saneNumber, p_conf_saneHold, p_conf_saneCap, p_conf_saneOwn, p_conf_saneSides, p_note_Sane, p_session_does_1, p_session_turn__sent, p_session_turn__confirm, p_session_turn__up, p_session_Stop, p_session_alive, p_open_Sane, p_open_labelled, p_octet_Put, p_open_short, p_role_Mine, p_prefix_Sane, p_slices_Contains___api_Prefix_api_Prefix, p_conf_taken, p_conf_saneRules, p_session_turn__end, p_open_Get, p_role_Pairs, p_note_Put, p_open_number, p_open_holds, p_prefix_Mask, p_slices_Index___api_Prefix_api_Prefix, p_slices_ContainsFunc___api_Side_api_Side, p_conf_taken_1, p_policy_Sane, p_octet_Get, p_open_read, p_open_fault, p_slices_IndexFunc___api_Side_api_Side, p_policy_saneMatch, p_policy_saneAct, p_octet_Take, p_open_each, p_open_read_1, p_open_said__take, trivial⟩
end Go.Proofs.YtibploaibljcmaaDoor
