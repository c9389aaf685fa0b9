package conf

import (
	"strconv"
	"strings"

	"ridgeway/api"
	"ridgeway/policy"
	"ridgeway/prefix"
)

// host is what an address has behind it, as the text of the prefix of all its bits.
const host = "/32"

// Words by their numbers; "" stands for what there is none of.

func classes() []string {
	return []string{api.Own: "own", api.Customer: "customer", api.Peer: "peer", api.Provider: "provider"}
}

func matches(in bool) []string {
	if in {
		return []string{policy.Any: "any", policy.Within: "within", policy.Has: "has", policy.Longer: "longer"}
	}
	return append(matches(true), "from")
}

func acts(in bool) []string {
	if in {
		return []string{policy.Reject: "reject", policy.Pref: "pref"}
	}
	return []string{policy.Reject: "reject", policy.Accept: "accept", policy.Prepend: "prepend"}
}

// Print is a configuration's text.
func Print(c api.Conf) string {
	if !Sane(c) {
		return ""
	}
	var b strings.Builder
	line := func(words ...string) { b.WriteString(strings.Join(words, " ") + "\n") }
	line("as", strconv.Itoa(c.As))
	line("id", strings.TrimSuffix(prefix.Text(api.Prefix{A: c.Id, N: 32}), host))
	line("hold", strconv.Itoa(c.Hold))
	line("cap", strconv.Itoa(c.Cap))
	for _, x := range c.Own {
		line("own", prefix.Text(x))
	}
	for _, s := range c.Sides {
		line("peer", strconv.Itoa(s.As), classes()[s.Rel])
		for _, r := range s.In {
			line("in", words(r, true))
		}
		for _, r := range s.Out {
			line("out", words(r, false))
		}
	}
	return b.String()
}

// words are a rule's.
func words(r api.Rule, in bool) string {
	s := matches(in)[r.Match]
	switch r.Match {
	case policy.Within:
		s += " " + prefix.Text(r.X)
	case policy.Has, policy.Longer:
		s += " " + strconv.Itoa(r.V)
	case policy.From:
		s += " " + classes()[r.V]
	}
	s += " " + acts(in)[r.Act]
	if r.Act == policy.Pref || r.Act == policy.Prepend {
		s += " " + strconv.Itoa(r.N)
	}
	return s
}
