package conf_test

import (
	"math"
	"slices"
	"strconv"
	"strings"
	"testing"
	"unicode/utf8"

	"ridgeway/api"
	"ridgeway/conf"
)

func p(a, b, c, d, n int) api.Prefix {
	return api.Prefix{A: a<<24 | b<<16 | c<<8 | d, N: n}
}

// small is the least that may be.
func small() api.Conf { return api.Conf{As: 65001, Id: 0x0a000001, Hold: 90, Cap: 100} }

// full has all kinds of rules.
func full() api.Conf {
	return api.Conf{As: 65001, Id: 0x0a000001, Hold: 0, Cap: 1000,
		Own: []api.Prefix{p(10, 1, 0, 0, 16), {}, p(255, 255, 255, 255, 32)},
		Sides: []api.Side{
			{As: 65002, Rel: 1, In: []api.Rule{{Act: 2, N: 300}}, Out: []api.Rule{{Match: 4, V: 0, Act: 1}, {Match: 4, V: 1, Act: 3, N: 8}, {Match: 4, V: 2}, {Match: 4, V: 3}}},
			{As: 1, Rel: 2},
			{As: 1<<32 - 1, Rel: 3,
				In:  []api.Rule{{Match: 1, X: p(10, 0, 0, 0, 8)}, {Match: 2, V: 1<<32 - 1, Act: 2, N: 1}, {Match: 3, V: 32, Act: 2, N: 399}, {Match: 3}},
				Out: []api.Rule{{Match: 1, Act: 1}, {Match: 2, V: 1, Act: 3, N: 1}, {Match: 3, V: 7}, {}}},
		}}
}

const fullText = `as 65001
id 10.0.0.1
hold 0
cap 1000
own 10.1.0.0/16
own 0.0.0.0/0
own 255.255.255.255/32
peer 65002 customer
in any pref 300
out from own accept
out from customer prepend 8
out from peer reject
out from provider reject
peer 1 peer
peer 4294967295 provider
in within 10.0.0.0/8 reject
in has 4294967295 pref 1
in longer 32 pref 399
in longer 0 reject
out within 0.0.0.0/0 accept
out has 1 prepend 1
out longer 7 reject
out any reject
`

// great has as much as may be.
func great() api.Conf {
	c := api.Conf{As: 1<<32 - 1, Id: 1<<32 - 1, Hold: 65535, Cap: 1000}
	for i := range 8 {
		c.Own = append(c.Own, p(255, 255, 255, 240+i, 32))
		in := slices.Repeat([]api.Rule{{Match: 1, X: p(255, 255, 255, 255, 32), Act: 2, N: 399}}, 8)
		out := slices.Repeat([]api.Rule{{Match: 1, X: p(255, 255, 255, 255, 32), Act: 3, N: 8}}, 8)
		c.Sides = append(c.Sides, api.Side{As: 4294967200 + i, Rel: 1 + i%3, In: in, Out: out})
	}
	return c
}

func same(a, b api.Conf) bool {
	return a.As == b.As && a.Id == b.Id && a.Hold == b.Hold && a.Cap == b.Cap && slices.Equal(a.Own, b.Own) &&
		slices.EqualFunc(a.Sides, b.Sides, func(a, b api.Side) bool {
			return a.As == b.As && a.Rel == b.Rel && slices.Equal(a.In, b.In) && slices.Equal(a.Out, b.Out)
		})
}

// changes are all ways in which full is told otherwise, and whether it may be then.
func changes() []struct {
	name   string
	change func(c *api.Conf)
	out    bool
} {
	type C = *api.Conf
	return []struct {
		name   string
		change func(c *api.Conf)
		out    bool
	}{
		{"As 1", func(c C) { c.As = 2 }, true},
		{"As greatest", func(c C) { c.As = 1<<32 - 2 }, true},
		{"As 0", func(c C) { c.As = 0 }, false},
		{"As too great", func(c C) { c.As = 1 << 32 }, false},
		{"As below", func(c C) { c.As = math.MinInt }, false},
		{"As of the first side", func(c C) { c.As = 65002 }, false},
		{"As of the last side", func(c C) { c.As = 1<<32 - 1 }, false},
		{"Id 1", func(c C) { c.Id = 1 }, true},
		{"Id greatest", func(c C) { c.Id = 1<<32 - 1 }, true},
		{"Id 0", func(c C) { c.Id = 0 }, false},
		{"Id -1", func(c C) { c.Id = -1 }, false},
		{"Id too great", func(c C) { c.Id = 1 << 32 }, false},
		{"Hold 3", func(c C) { c.Hold = 3 }, true},
		{"Hold 65535", func(c C) { c.Hold = 65535 }, true},
		{"Hold 1", func(c C) { c.Hold = 1 }, false},
		{"Hold 2", func(c C) { c.Hold = 2 }, false},
		{"Hold 65536", func(c C) { c.Hold = 65536 }, false},
		{"Hold -1", func(c C) { c.Hold = -1 }, false},
		{"Cap 1", func(c C) { c.Cap = 1 }, true},
		{"Cap 0", func(c C) { c.Cap = 0 }, false},
		{"Cap 1001", func(c C) { c.Cap = 1001 }, false},
		{"Cap -1", func(c C) { c.Cap = -1 }, false},
		{"no own", func(c C) { c.Own = nil }, true},
		{"8 own", func(c C) { c.Own = great().Own }, true},
		{"9 own", func(c C) { c.Own = append(great().Own, p(1, 0, 0, 0, 8)) }, false},
		{"own no prefix", func(c C) { c.Own[2] = p(10, 0, 0, 1, 8) }, false},
		{"own twice", func(c C) { c.Own[2] = c.Own[0] }, false},
		{"own with as much room", func(c C) { c.Own[1] = p(10, 1, 0, 0, 17) }, true},
		{"no sides", func(c C) { c.Sides = nil }, true},
		{"8 sides", func(c C) { c.Sides = great().Sides }, true},
		{"9 sides", func(c C) { c.Sides = append(great().Sides, api.Side{As: 5, Rel: 1}) }, false},
		{"side As 0", func(c C) { c.Sides[1].As = 0 }, false},
		{"side As -1", func(c C) { c.Sides[1].As = -1 }, false},
		{"side As too great", func(c C) { c.Sides[1].As = 1 << 32 }, false},
		{"side As twice", func(c C) { c.Sides[2].As = 1 }, false},
		{"side As of the one ahead", func(c C) { c.Sides[2].As = 65002 }, false},
		{"side As the node's", func(c C) { c.Sides[0].As = 65001 }, false},
		{"Rel 0", func(c C) { c.Sides[1].Rel = 0 }, false},
		{"Rel 4", func(c C) { c.Sides[1].Rel = 4 }, false},
		{"Rel -1", func(c C) { c.Sides[1].Rel = -1 }, false},
		{"Rel 3", func(c C) { c.Sides[1].Rel = 3 }, true},
		{"8 rules in", func(c C) { c.Sides[1].In = great().Sides[0].In }, true},
		{"9 rules in", func(c C) { c.Sides[1].In = append(great().Sides[0].In, api.Rule{}) }, false},
		{"8 rules out", func(c C) { c.Sides[1].Out = great().Sides[0].Out }, true},
		{"9 rules out", func(c C) { c.Sides[1].Out = append(great().Sides[0].Out, api.Rule{}) }, false},
		{"a rule of out in", func(c C) { c.Sides[1].In = []api.Rule{{Act: 1}} }, false},
		{"a match of out in", func(c C) { c.Sides[1].In = []api.Rule{{}, {Match: 4}} }, false},
		{"a rule of in out", func(c C) { c.Sides[2].Out[3] = api.Rule{Act: 2, N: 5} }, false},
		{"a rule that is none in", func(c C) { c.Sides[0].In[0].N = 400 }, false},
		{"a rule that is none out", func(c C) { c.Sides[0].Out[1].N = 9 }, false},
	}
}

// P12.1
func TestSaneAndSame(t *testing.T) {
	for _, c := range []api.Conf{small(), full(), great()} {
		if !conf.Sane(c) || !conf.Same(c, c) {
			t.Errorf("%v may be", c)
		}
	}
	if conf.Sane(api.Conf{}) || !conf.Same(api.Conf{}, api.Conf{Own: []api.Prefix{}, Sides: []api.Side{}}) {
		t.Error("of nothing")
	}
	for _, x := range changes() {
		c := full()
		x.change(&c)
		if got := conf.Sane(c); got != x.out {
			t.Errorf("%s: Sane = %v", x.name, got)
		}
		if conf.Same(c, full()) || conf.Same(full(), c) || !conf.Same(c, c) {
			t.Errorf("%s: Same", x.name)
		}
		if !x.out && conf.Print(c) != "" {
			t.Errorf("%s: Print = %q", x.name, conf.Print(c))
		}
	}
	for _, change := range []func(c *api.Conf){
		func(c *api.Conf) { c.Own[1], c.Own[2] = c.Own[2], c.Own[1] },
		func(c *api.Conf) { c.Sides[1], c.Sides[2] = c.Sides[2], c.Sides[1] },
		func(c *api.Conf) { c.Sides = c.Sides[:2] },
		func(c *api.Conf) { c.Sides[2].Out[1].V++ },
		func(c *api.Conf) { c.Sides[2].In = c.Sides[2].In[1:] },
	} {
		c := full()
		change(&c)
		if conf.Same(c, full()) || conf.Same(full(), c) {
			t.Errorf("the same: %v", c)
		}
	}
}

// P12.1
func TestPrint(t *testing.T) {
	if got := conf.Print(full()); got != fullText {
		t.Errorf("Print = %s", got)
	}
	if got := conf.Print(small()); got != "as 65001\nid 10.0.0.1\nhold 90\ncap 100\n" {
		t.Errorf("Print = %s", got)
	}
}

// P12.2: texts that are right.
func TestParse(t *testing.T) {
	example := small()
	example.Own = []api.Prefix{p(10, 1, 0, 0, 16)}
	example.Sides = []api.Side{{As: 65002, Rel: 1, In: []api.Rule{{Act: 2, N: 300}}, Out: []api.Rule{{Match: 4, Act: 1}}}}
	for _, x := range []struct {
		s string
		c api.Conf
	}{
		{"as 65001\nid 10.0.0.1", small()},
		{"as 65001\nid 10.0.0.1\n", small()},
		{"\n# é first\n\n\t as\t65001 # é\n\n  id 10.0.0.1  \n#", small()},
		{"as 65001\nid 10.0.0.1\nown 10.1.0.0/16\npeer 65002 customer\nin any pref 300\nout from own accept\n", example},
		{"as 65001\npeer 65002 customer\nown 10.1.0.0/16\nout from own accept\ncap 100\nin any pref 300\nhold 90\nid 10.0.0.1", example},
		{fullText, full()},
	} {
		c, n, e := conf.Parse(x.s)
		if !same(c, x.c) || n != utf8.RuneCountInString(x.s) || e != api.OK {
			t.Errorf("Parse(%q) = %v %d %v", x.s, c, n, e)
		}
	}
}

// wrong holds what Parse tells of a text against an error, at the place where "|" stands in it.
func wrong(t *testing.T, s string, e api.Errno) {
	t.Helper()
	ahead, behind, _ := strings.Cut(s, "|")
	c, n, got := conf.Parse(ahead + behind)
	if !same(c, api.Conf{}) || n != utf8.RuneCountInString(ahead) || got != e {
		t.Errorf("Parse(%q) = %v %d %v, want %v", s, c, n, got, e)
	}
}

// P12.2: what is wrong where a line begins.
func TestParseOfLinesThatMayNotStand(t *testing.T) {
	head := "as 7\nid 10.0.0.1\n"
	for s, e := range map[string]api.Errno{
		"|":                      api.ErrNone,
		"\n # é\n|":              api.ErrNone,
		"|id 10.0.0.1\nas 7\n":   api.ErrNone,
		"\n |foo":                api.ErrNone,
		"|in any reject":         api.ErrNone,
		"|7":                     api.ErrNone,
		"as 7\n|":                api.ErrNone,
		"as 7\nown 0.0.0.0/0|":   api.ErrNone,
		"as 7 # é\n\n  |foo 8":   api.ErrWord,
		"as 7\n|8":               api.ErrWord,
		"as 7\n|customer":        api.ErrWord,
		"as 7\n|as 8":            api.ErrUsed,
		head + "|as 7\n":         api.ErrUsed,
		head + "|id 10.0.0.2":    api.ErrUsed,
		head + "hold 9\n|hold x": api.ErrUsed,
		head + "cap 9\n|cap 10":  api.ErrUsed,
		head + "hold 90\n|hold":  api.ErrUsed,
		head + "|in any reject":  api.ErrNone,
		head + "|out any reject": api.ErrNone,
		head + "|in":             api.ErrNone,
		head + "own 0.0.0.0/0\n\n|out foo\npeer 8 peer": api.ErrNone,
	} {
		wrong(t, s, e)
	}
}

// P12.2: of own, peer, in and out there may be 8.
func TestParseOfTooMany(t *testing.T) {
	var own, sides, rules strings.Builder
	for i := range 8 {
		own.WriteString("own 10." + strconv.Itoa(i) + ".0.0/16\n")
		sides.WriteString("peer " + strconv.Itoa(100+i) + " peer\n")
		rules.WriteString("in any reject\nout any reject\n")
	}
	all := "as 7\nid 10.0.0.1\n" + own.String() + sides.String()
	if c, _, e := conf.Parse(all + rules.String()); e != api.OK || len(c.Own) != 8 || len(c.Sides) != 8 || len(c.Sides[7].In) != 8 || len(c.Sides[7].Out) != 8 {
		t.Errorf("%v %v", c, e)
	}
	wrong(t, all+"|own 11.0.0.0/8", api.ErrMany)
	wrong(t, all+"|own", api.ErrMany)
	wrong(t, all+"|own 10.0.0.0/16", api.ErrMany)
	wrong(t, all+"|peer 200 peer", api.ErrMany)
	wrong(t, all+"|peer 100 foo", api.ErrMany)
	wrong(t, all+rules.String()+"|in any reject", api.ErrMany)
	wrong(t, all+rules.String()+"|out foo", api.ErrMany)
	two := "as 7\nid 10.0.0.1\npeer 8 peer\n" + rules.String() + "peer 9 peer\n"
	if c, _, e := conf.Parse(two + rules.String()); e != api.OK || len(c.Sides[0].In) != 8 || len(c.Sides[1].Out) != 8 {
		t.Errorf("%v %v", c, e)
	}
	wrong(t, two+rules.String()+"|in any reject\n", api.ErrMany)
}

// P12.2: what is wrong within a line.
func TestParseWithinALine(t *testing.T) {
	head := "as 7\nid 10.0.0.1\n"
	side := head + "peer 8 peer\n"
	big := "99999999999999999999999999999999"
	for s, e := range map[string]api.Errno{
		"as|":                         api.ErrShort,
		"as |\n7":                     api.ErrShort,
		"as # 7|\n":                   api.ErrShort,
		"as |é":                       api.ErrSign,
		"as |x":                       api.ErrForm,
		"as |07":                      api.ErrForm,
		"as |00":                      api.ErrForm,
		"as |-7":                      api.ErrForm,
		"as |7.0":                     api.ErrForm,
		"as |7a":                      api.ErrForm,
		"as |.":                       api.ErrForm,
		"as |as":                      api.ErrForm,
		"as |0" + big:                 api.ErrForm,
		"as |" + big + "x":            api.ErrForm,
		"as |0":                       api.ErrRange,
		"as |4294967296":              api.ErrRange,
		"as |18446744073709551623":    api.ErrRange,
		"as |" + big:                  api.ErrRange,
		"as 7 |8":                     api.ErrForm,
		"as 7 |id 10.0.0.1":           api.ErrForm,
		"as 7\nid|":                   api.ErrShort,
		"as 7\nid|\n10.0.0.1":         api.ErrShort,
		"as 7\nid |10":                api.ErrForm,
		"as 7\nid |10.0.0":            api.ErrForm,
		"as 7\nid |10.0.0.0.1":        api.ErrForm,
		"as 7\nid |10.0.0.256":        api.ErrForm,
		"as 7\nid |10.0.0.01":         api.ErrForm,
		"as 7\nid |10.0..1":           api.ErrForm,
		"as 7\nid |10.0.0.1/32":       api.ErrForm,
		"as 7\nid |10.0.0.a":          api.ErrForm,
		"as 7\nid |0.0.0.00":          api.ErrForm,
		"as 7\nid |0.0.0.0":           api.ErrRange,
		"as 7\nid 10.0.0.1 |10.0.0.2": api.ErrForm,
		"as 7\nhold|":                 api.ErrShort,
		"as 7\nhold |x":               api.ErrForm,
		"as 7\nhold |1":               api.ErrRange,
		"as 7\nhold |2":               api.ErrRange,
		"as 7\nhold |65536":           api.ErrRange,
		"as 7\nhold |" + big:          api.ErrRange,
		"as 7\nhold 0 |0":             api.ErrForm,
		"as 7\ncap|\n":                api.ErrShort,
		"as 7\ncap |1.0":              api.ErrForm,
		"as 7\ncap |0":                api.ErrRange,
		"as 7\ncap |1001":             api.ErrRange,
		"as 7\ncap 5 |é":              api.ErrSign,
		head + "own|":                 api.ErrShort,
		head + "own |10.0.0.0":        api.ErrForm,
		head + "own |10.0.0.0/33":     api.ErrForm,
		head + "own |10.0.0.1/8":      api.ErrForm,
		head + "own |10.0.0.0/08":     api.ErrForm,
		head + "own |x":               api.ErrForm,
		head + "own 10.0.0.0/8 |x":    api.ErrForm,
		head + "own 10.0.0.0/8\nown 0.0.0.0/0\nown |10.0.0.0/8 x": api.ErrUsed,
		head + "peer|\n8 peer":           api.ErrShort,
		head + "peer |x peer":            api.ErrForm,
		head + "peer |0 peer":            api.ErrRange,
		head + "peer |4294967296 x":      api.ErrRange,
		head + "peer |7 x":               api.ErrUsed,
		side + "peer |8 customer":        api.ErrUsed,
		side + "peer 9 peer\npeer |8":    api.ErrUsed,
		head + "peer 8|":                 api.ErrShort,
		head + "peer 8 |own":             api.ErrWord,
		head + "peer 8 |x":               api.ErrWord,
		head + "peer 8 |3":               api.ErrWord,
		head + "peer 8 peer |peer":       api.ErrForm,
		side + "in|":                     api.ErrShort,
		side + "in |x reject":            api.ErrWord,
		side + "in |from own reject":     api.ErrWord,
		side + "in |reject":              api.ErrWord,
		side + "in any|":                 api.ErrShort,
		side + "in any |x":               api.ErrWord,
		side + "in any |any":             api.ErrWord,
		side + "in any |accept":          api.ErrWord,
		side + "in any |prepend 1":       api.ErrWord,
		side + "in any reject |1":        api.ErrForm,
		side + "in any pref|\n":          api.ErrShort,
		side + "in any pref |x":          api.ErrForm,
		side + "in any pref |0":          api.ErrRange,
		side + "in any pref |400":        api.ErrRange,
		side + "in any pref 1 |2":        api.ErrForm,
		side + "in within|":              api.ErrShort,
		side + "in within |8":            api.ErrForm,
		side + "in within |10.0.0.1/8 x": api.ErrForm,
		side + "in within 10.0.0.0/8|":   api.ErrShort,
		side + "in within 10.0.0.0/8 |x": api.ErrWord,
		side + "in has|":                 api.ErrShort,
		side + "in has |x":               api.ErrForm,
		side + "in has |0":               api.ErrRange,
		side + "in has |4294967296":      api.ErrRange,
		side + "in has 1 |x":             api.ErrWord,
		side + "in longer|":              api.ErrShort,
		side + "in longer |-1":           api.ErrForm,
		side + "in longer |33":           api.ErrRange,
		side + "in longer 32|":           api.ErrShort,
		side + "out|\nany reject":        api.ErrShort,
		side + "out |x":                  api.ErrWord,
		side + "out from|":               api.ErrShort,
		side + "out from |x":             api.ErrWord,
		side + "out from |0":             api.ErrWord,
		side + "out from own|":           api.ErrShort,
		side + "out from own |own":       api.ErrWord,
		side + "out any |pref 1":         api.ErrWord,
		side + "out any accept |1":       api.ErrForm,
		side + "out any prepend|":        api.ErrShort,
		side + "out any prepend |x":      api.ErrForm,
		side + "out any prepend |0":      api.ErrRange,
		side + "out any prepend |9":      api.ErrRange,
		side + "out any prepend 8 |8":    api.ErrForm,
		side + "out longer |33":          api.ErrRange,
		side + "out has |0 x":            api.ErrRange,
	} {
		wrong(t, s, e)
		wrong(t, "# é\n"+s, e)
	}
}

// P12.2: what the words of the text may not be made of comes first, wherever it stands.
func TestParseOfWhatIsNoText(t *testing.T) {
	wrong(t, "foo\n|_", api.ErrSign)
	wrong(t, "as 7\nas 8 # |\xff", api.ErrSign)
	wrong(t, "|as 7\n"+strings.Repeat("#", 8000), api.ErrMany)
	text := "as 7\nid 1.1.1.1\n"
	if _, n, e := conf.Parse(text + strings.Repeat("#", 8000-len(text))); n != 8000 || e != api.OK {
		t.Errorf("of 8000 bytes: %d %v", n, e)
	}
}

// P12.3: what is printed is parsed to the same. R3
func TestWhatIsPrintedIsParsed(t *testing.T) {
	list := []api.Conf{small(), full(), great()}
	for _, x := range changes() {
		c := full()
		x.change(&c)
		if x.out {
			list = append(list, c)
		}
	}
	for _, c := range list {
		s := conf.Print(c)
		got, n, e := conf.Parse(s)
		if !same(got, c) || !conf.Same(got, c) || n != len(s) || e != api.OK {
			t.Errorf("%v is printed as %q, and parsed to %v %d %v", c, s, got, n, e)
		}
	}
	c := full()
	conf.Sane(c)
	conf.Print(c)
	conf.Same(c, great())
	if !same(c, full()) {
		t.Errorf("changed to %v", c)
	}
}

// P12.3, P1: what is parsed may be, and all else is an error: of a text that ends early, or lacks or doubles a word.
func TestPiecesOfAText(t *testing.T) {
	try := func(s string) {
		c, n, e := conf.Parse(s)
		if e == api.OK && (!conf.Sane(c) || n != utf8.RuneCountInString(s)) || e != api.OK && !same(c, api.Conf{}) || n < 0 || n > len(s) {
			t.Fatalf("Parse(%q) = %v %d %v", s, c, n, e)
		}
	}
	for i := range fullText {
		try(fullText[:i])
		try(fullText[i:])
		try(fullText[:i] + fullText[i+1:])
		try(fullText[:i] + "\n" + fullText[i:])
		try(fullText[:i] + "0" + fullText[i:])
	}
	words := strings.Fields(fullText)
	for _, w := range words {
		for _, v := range words {
			try("as 7\nid 1.1.1.1\npeer 8 peer\n" + w + " " + v)
			try("as 7\nid 1.1.1.1\npeer 8 peer\nout any " + w + " " + v)
		}
	}
}
