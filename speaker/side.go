package speaker

import (
	"slices"

	"ridgeway/api"
	"ridgeway/decide"
	"ridgeway/msg"
	"ridgeway/ribin"
	"ridgeway/ribout"
	"ridgeway/session"
	"ridgeway/stream"
	"ridgeway/update"
)

// side is a node while something happens at one of its sides, and what is told there.
type side struct {
	n    api.Node
	k    int
	told []byte
}

// at is a node behind what is done at one of its sides, and what is told there. It is done to lists of the node's own, so that the one that was handed in stays as it is.
func at(n api.Node, k int, do func(s *side)) (api.Node, []byte) {
	n = sane(n)
	if k < 0 || k >= len(n.S) {
		return n, nil
	}
	n.S, n.In, n.Out, n.Buf = slices.Clone(n.S), slices.Clone(n.In), slices.Clone(n.Out), slices.Clone(n.Buf)
	s := side{n: n, k: k}
	do(&s)
	return s.n, s.told
}

func (s *side) session() api.Sess { return s.n.S[s.k] }

func (s *side) idle() bool { return s.session().State == session.Idle }

// become is what each change of the session goes through.
func (s *side) become(next api.Sess, told []api.Msg) {
	s.n.S[s.k] = next
	if s.idle() {
		s.n.In[s.k], s.n.Out[s.k], s.n.Buf[s.k] = nil, nil, nil
	}
	s.say(told)
}

func (s *side) say(l []api.Msg) {
	for _, m := range l {
		s.told = append(s.told, msg.Put(nil, m)...)
	}
}

func (s *side) stop(e api.Note) { s.become(session.Stop(s.session(), e)) }

func (s *side) feed(b []byte) {
	if s.idle() {
		return
	}
	state, list, e := stream.Feed(stream.State{B: s.n.Buf[s.k]}, b)
	s.n.Buf[s.k] = state.B
	each(list, s.take)
	if e.Code != 0 {
		s.stop(e)
	}
}

// each hands messages to a function, until it does not want more.
func each(l []api.Msg, take func(m api.Msg) bool) {
	for _, m := range l {
		if !take(m) {
			return
		}
	}
}

// take does what a message does, and tells whether the next one is to come.
func (s *side) take(m api.Msg) bool {
	next, told, read := session.Take(s.session(), s.n.C, s.k, m)
	s.become(next, told)
	if read {
		s.read(m)
	}
	return !s.idle()
}

// read keeps what an Update says.
func (s *side) read(m api.Msg) {
	news, e := update.Get(m)
	if e.Code != 0 {
		s.stop(e)
		return
	}
	t, ok := ribin.Apply(s.n.In[s.k], news, s.n.C.Cap)
	if !ok {
		s.stop(api.Note{Code: 6, Sub: 1})
		return
	}
	s.n.In[s.k] = t
}

func (s *side) tell() {
	if s.session().State != session.Up {
		return
	}
	want := ribout.Want(s.n.C, s.k, decide.Loc(s.n.C, s.n.In))
	s.say(ribout.Msgs(s.n.Out[s.k], want))
	s.n.Out[s.k] = want
}
