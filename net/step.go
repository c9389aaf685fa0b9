package net

import (
	"slices"

	"ridgeway/api"
	"ridgeway/speaker"
	"ridgeway/topo"
)

// mostInjected is how many octets one step puts on their way at most.
const mostInjected = 500

// reset is the note with which a step ends a session.
func reset() api.Note { return api.Note{Code: 6, Sub: 4} }

// work is a net while a step is taken.
type work struct{ n api.Net }

// steps are what is done, by kind.
func steps() map[int]func(w *work, o api.Op) {
	return map[int]func(w *work, o api.Op){
		Begin:   (*work).begin,
		Deliver: (*work).deliver,
		Pass:    (*work).pass,
		Tell:    (*work).tell,
		Reset:   (*work).reset,
		Inject:  (*work).inject,
	}
}

// far is where a side leads.
func (w *work) far(i, k int) (int, int, bool) { return topo.Far(confs(w.n), i, k) }

// send puts octets on their way from a node to its side.
func (w *work) send(i, k int, b []byte) { w.n.Q[i][k] = slices.Concat(w.n.Q[i][k], b) }

// act lets a node do something at a side, and sends what it tells there.
func (w *work) act(i, k int, do func(n api.Node, k int) (api.Node, []byte)) {
	n, told := do(w.n.N[i], k)
	w.n.N[i] = n
	w.send(i, k, told)
}

// idle: of the sessions that may be, the Idle one alone has nothing.
func (w *work) idle(i, k int) bool { return w.n.N[i].S[k] == api.Sess{} }

func (w *work) begin(o api.Op) {
	j, m, ok := w.far(o.A, o.B)
	if !ok || !w.idle(o.A, o.B) || !w.idle(j, m) {
		return
	}
	w.n.Q[o.A][o.B], w.n.Q[j][m] = nil, nil
	w.act(o.A, o.B, speaker.Start)
	w.act(j, m, speaker.Start)
}

func (w *work) deliver(o api.Op) {
	q := w.n.Q[o.A][o.B]
	size := min(max(o.N, 0), len(q))
	w.n.Q[o.A][o.B] = q[size:]
	j, m, ok := w.far(o.A, o.B)
	if !ok || size == 0 {
		return
	}
	w.act(j, m, func(n api.Node, k int) (api.Node, []byte) { return speaker.Feed(n, k, q[:size]) })
}

func (w *work) pass(o api.Op) {
	n, told := speaker.Tick(w.n.N[o.A], o.N)
	w.n.N[o.A] = n
	for k, b := range told {
		w.send(o.A, k, b)
	}
}

func (w *work) tell(o api.Op) { w.act(o.A, o.B, speaker.Tell) }

func (w *work) reset(o api.Op) {
	w.act(o.A, o.B, func(n api.Node, k int) (api.Node, []byte) { return speaker.Stop(n, k, reset()) })
}

func (w *work) inject(o api.Op) {
	if len(o.Data) <= mostInjected {
		w.send(o.A, o.B, o.Data)
	}
}
