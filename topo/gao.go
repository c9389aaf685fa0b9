package topo

import (
	"ridgeway/api"
	"ridgeway/policy"
	"ridgeway/prefix"
	"ridgeway/rise"
)

// What the first one of Gao's nodes is told; the others are told one more each.
const (
	firstAs = 65001
	firstId = 10<<24 + 1
)

// Gao are nodes that take and tell as customers, peers and providers do.
func Gao(n int, own []api.Prefix, l []api.Link) []api.Conf {
	t := make([]api.Conf, min(max(n, 1), api.MaxNodes))
	for i := range t {
		t[i] = api.Conf{As: firstAs + i, Id: firstId + i, Hold: 90, Cap: 1000}
		if i < len(own) && prefix.Sane(own[i]) {
			t[i].Own = []api.Prefix{own[i]}
		}
	}
	for _, link := range l {
		if counts(t, link) {
			t[link.A].Sides = append(t[link.A].Sides, side(t[link.B].As, link.Rel))
			t[link.B].Sides = append(t[link.B].Sides, side(t[link.A].As, mirrored(link.Rel)))
		}
	}
	return t
}

// counts: is a link one between two nodes between which there is none yet?
func counts(t []api.Conf, l api.Link) bool {
	if l.A < 0 || l.A >= len(t) || l.B < 0 || l.B >= len(t) || l.A == l.B || l.Rel < api.Customer || l.Rel > api.Provider {
		return false
	}
	_, linked := rise.Side(t[l.A], t[l.B].As)
	return !linked
}

// side is one with the rules of what the neighbour is.
func side(as, rel int) api.Side {
	s := api.Side{As: as, Rel: rel, In: []api.Rule{{Match: policy.Any, Act: policy.Pref, N: preference(rel)}}}
	if rel == api.Customer {
		s.Out = []api.Rule{{Match: policy.Any, Act: policy.Accept}}
	} else {
		s.Out = []api.Rule{{Match: policy.From, V: api.Own, Act: policy.Accept}, {Match: policy.From, V: api.Customer, Act: policy.Accept}}
	}
	return s
}

// preference is that of what comes from such a neighbour.
func preference(rel int) int {
	switch rel {
	case api.Customer:
		return 300
	case api.Peer:
		return 200
	}
	return 100
}
