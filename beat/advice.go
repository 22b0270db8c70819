package beat

import (
	"slices"

	"sautoir/api"
	"sautoir/conf"
	"sautoir/order"
)

// none stands for a server where there is none.
const none = -1

// look is a look at one shard's configuration, beside all others and what was heard.
type look struct {
	s *order.State
	w *Watch
	c conf.Conf
}

// rule is a command's kind, and who finds the server that it is for; none, if it can't be.
type rule struct {
	kind int
	find func() int
}

// Advice answers what is to be ordered, and whether there is anything.
func Advice(s *order.State, w *Watch) (order.Cmd, bool) {
	if s == nil || w == nil {
		return order.Cmd{}, false
	}
	for _, c := range s.Confs() {
		if cmd, ok := (look{s: s, w: w, c: c}).advice(); ok {
			return cmd, true
		}
	}
	return order.Cmd{}, false
}

// advice answers what is to be ordered of the shard, and whether there is anything.
func (l look) advice() (order.Cmd, bool) {
	for _, r := range l.rules() {
		if node := r.find(); node != none {
			return order.Cmd{Kind: r.kind, Shard: l.c.Shard, Epoch: l.c.Epoch, Node: node}, true
		}
	}
	return order.Cmd{}, false
}

// rules answers all that may be advised, what goes ahead of others first.
func (l look) rules() []rule {
	return []rule{
		{order.Remove, l.lostLearner},
		{order.Remove, l.lostMember},
		{order.Mark, l.newlyFull},
		{order.Promote, l.syncedLearner},
		{order.Learn, l.nextLearner},
	}
}

// lostLearner finds the Learner that is suspected.
func (l look) lostLearner() int {
	if !l.w.Suspects(l.c.Learner) {
		return none
	}
	return l.c.Learner
}

// lostMember finds the first server of the chain that is suspected, and can be removed.
func (l look) lostMember() int {
	return l.firstOf(func(node int) bool {
		_, e := conf.Remove(l.c, node, l.c.Epoch+1)
		return e == api.OK && l.w.Suspects(node)
	})
}

// newlyFull finds the first server of the chain of which it is not known yet that it is Full, and that says so.
func (l look) newlyFull() int {
	return l.firstOf(func(node int) bool {
		r, ok := l.told(node)
		return ok && r.Full && !l.c.Full[l.c.Place(node)]
	})
}

// syncedLearner finds the Learner that has learned all, as the tail says.
func (l look) syncedLearner() int {
	r, ok := l.told(l.c.Tail())
	// A tail that saw nobody says none, as a configuration without a Learner does: that finds none, too.
	if !ok || r.Synced != l.c.Learner {
		return none
	}
	return l.c.Learner
}

// nextLearner finds, for a chain that is too short, and for which nobody learns, the least spare that was heard of lately.
func (l look) nextLearner() int {
	if l.c.Learner != none || len(l.c.Chain) >= l.s.Setup().Length {
		return none
	}
	for node := range api.MaxServers {
		_, there := l.w.Last(node)
		if there && l.s.Spare(node) && !l.w.Suspects(node) {
			return node
		}
	}
	return none
}

// firstOf answers the first server of the chain of which that holds; none, if there is none.
func (l look) firstOf(holds func(node int) bool) int {
	place := slices.IndexFunc(l.c.Chain, holds)
	if place < 0 {
		return none
	}
	return l.c.Chain[place]
}

// told answers node's last report, if it is of just this configuration.
func (l look) told(node int) (Report, bool) {
	r, there := l.w.Last(node)
	if !there || r.Shard != l.c.Shard || r.Epoch != l.c.Epoch {
		return Report{}, false
	}
	return r, true
}
