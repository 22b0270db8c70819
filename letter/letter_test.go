package letter_test

import (
	"strings"
	"testing"

	"sautoir/api"
	"sautoir/ballot"
	"sautoir/conf"
	"sautoir/entry"
	"sautoir/letter"
)

func TestNames(t *testing.T) { // P17.1 (the names of the Kinds)
	got := map[string]int{
		"Beat": letter.Beat, "Confs": letter.Confs, "Know": letter.Know, "Prepare": letter.Prepare, "Promise": letter.Promise,
		"Accept": letter.Accept, "Accepted": letter.Accepted, "Nack": letter.Nack, "Chosen": letter.Chosen, "Want": letter.Want,
		"Lead": letter.Lead, "Push": letter.Push, "Have": letter.Have, "Done": letter.Done, "Ask": letter.Ask, "Told": letter.Told,
		"Walk": letter.Walk, "Back": letter.Back, "Get": letter.Get, "Do": letter.Do, "Answer": letter.Answer,
	}
	for _, r := range rows() {
		if got[r.name] != r.kind {
			t.Errorf("%s is %d, not %d", r.name, got[r.name], r.kind)
		}
	}
	if letter.Master != 1 || letter.Server != 2 || letter.Client != 3 {
		t.Error("the Kinds of addresses")
	}
}

func TestRightAddr(t *testing.T) { // P17.1
	for kind, most := range map[int]int{letter.Master: api.MaxMasters, letter.Server: api.MaxServers, letter.Client: api.MaxClients} {
		for n := -1; n <= 9; n++ {
			a := letter.Addr{Kind: kind, N: n}
			if letter.RightAddr(a) != (n >= 0 && n < most) {
				t.Errorf("RightAddr(%v) = %v", a, letter.RightAddr(a))
			}
		}
	}
	for _, a := range wrongAddrs() {
		if letter.RightAddr(a) {
			t.Errorf("%v is right", a)
		}
	}
}

func TestRight(t *testing.T) { // P17.1
	for _, l := range rightLetters() {
		if !letter.Right(l) {
			t.Errorf("%v is not right", l)
		}
	}
	for _, l := range wrongLetters() {
		if letter.Right(l) {
			t.Errorf("%v is right", l)
		}
	}
}

// Who sends it to whom makes no letter wrong, as long as both have addresses.
func TestRightAnybody(t *testing.T) { // P17.1
	all := []letter.Addr{master(0), master(4), server(0), server(7), client(0), client(5)}
	for _, from := range all {
		for _, to := range all {
			for _, r := range rows() {
				l, _ := sample(r)
				l.From, l.To = from, to
				if !letter.Right(l) {
					t.Errorf("from %v to %v: %s is not right", from, to, r.name)
				}
			}
		}
	}
}

// A field that a Kind doesn't have is refused by its own value, be that one that may be elsewhere.
func TestRightOtherFields(t *testing.T) { // P17.1
	know := letter.Letter{From: server(7), To: master(4), Kind: letter.Know}
	for name, x := range map[string]change{
		"a round alone":      setBallot(ballot.Ballot{Round: 1}),
		"a node alone":       setBallot(ballot.Ballot{Node: 1}),
		"a client alone":     setID(1, 0),
		"a negative number":  setN(-1),
		"a zero vote":        setVotes(letter.Vote{}),
		"a zero conf":        setConfs(conf.Conf{}),
		"a zero entry":       setEntries(entry.Entry{}),
		"a Plain txn":        setTxn(entry.Txn{Plain: true}),
		"a txn's ID":         setTxn(entry.Txn{ID: api.ID{Seq: 1}}),
		"a txn's zero read":  setTxn(entry.Txn{Reads: []entry.Read{{}}}),
		"a txn's zero write": setTxn(entry.Txn{Writes: []entry.Write{{}}}),
	} {
		if letter.Right(with(know, x)) {
			t.Errorf("%s: right", name)
		}
	}
	empty := with(know, func(l *letter.Letter) {
		l.Votes, l.Confs, l.Entries = []letter.Vote{}, []conf.Conf{}, []entry.Entry{}
		l.Txn = entry.Txn{Reads: []entry.Read{}, Writes: []entry.Write{}}
	})
	if !letter.Right(empty) || !letter.Same(empty, know) {
		t.Error("empty lists are none")
	}
}

// differing are letters, right or not, no two of which are the same.
func differing() []letter.Letter {
	l, _ := sample(rows()[2])
	out := []letter.Letter{
		{}, l,
		with(l, func(l *letter.Letter) { l.From.Kind = 1 }), with(l, func(l *letter.Letter) { l.From.N = 1 }),
		with(l, func(l *letter.Letter) { l.To.Kind = 1 }), with(l, func(l *letter.Letter) { l.To.N = 1 }),
		with(l, func(l *letter.Letter) { l.Kind = -1 }),
	}
	vote := letter.Vote{Slot: 2, Ballot: someBallot(1), Val: "v"}
	for _, v := range []letter.Vote{vote, {Slot: 3, Ballot: vote.Ballot, Val: "v"}, {Slot: 2, Ballot: someBallot(2), Val: "v"}, {Slot: 2, Ballot: ballot.Ballot{Round: 1, Node: 1}, Val: "v"}, {Slot: 2, Ballot: vote.Ballot, Val: "w"}} {
		out = append(out, with(l, setVotes(v)))
	}
	c := someConf()
	c.Learner = 4
	e := finish()
	e.Code = api.OK
	x := someTxn()
	x.Plain = true
	for _, x := range []change{
		setVotes(vote, vote), setVotes(vote, letter.Vote{}), setVotes(letter.Vote{}, vote),
		setConfs(c), setConfs(c, someConf()), setConfs(someConf()), setConfs(someConf(), c),
		setEntries(e), setEntries(e, finish()), setEntries(finish()), setEntries(finish(), e),
		setTxn(x), setTxn(entry.Txn{ID: x.ID, Reads: x.Reads}), setTxn(entry.Txn{ID: x.ID, Writes: x.Writes}),
		setBallot(someBallot(1)), setID(5, 0), setID(4, 300), setVal("a"), setVal("b"), setN(-1), setM(-1),
	} {
		out = append(out, with(l, x))
	}
	for _, x := range traits() {
		out = append(out, with(l, x.set))
	}
	return out
}

func TestSame(t *testing.T) { // P17.1
	all := differing()
	for i, a := range all {
		for j, b := range all {
			if got := letter.Same(a, clone(b)); got != (i == j) {
				t.Errorf("Same(%v, %v) = %v", a, b, got)
			}
		}
	}
	for _, l := range append(rightLetters(), wrongLetters()...) {
		if !letter.Same(l, clone(l)) {
			t.Errorf("%v is not the same as itself", l)
		}
	}
}

// Lists far beyond the limits are told to be wrong, too.
func TestLongLists(t *testing.T) { // P1
	all := traits()
	for _, r := range rows() {
		l, _ := sample(r)
		for _, x := range []change{
			setVotes(votes(200000, letter.Vote{})...),
			setConfs(confs(200000, someConf())...),
			setEntries(entries(200000, finish())...),
			setTxn(entry.Txn{ID: api.ID{Seq: 1}, Reads: make([]entry.Read, 200000), Writes: make([]entry.Write, 200000)}),
			setConfs(conf.Conf{Epoch: 1, Chain: make([]int, 200000), Full: make([]bool, 200000)}),
			setVal(strings.Repeat("v", 1<<20)),
		} {
			long := l
			x(&long)
			if _, e := letter.Put(long); letter.Right(long) || e != api.ErrArg || !letter.Same(long, long) {
				t.Errorf("%s: a long list is right", r.name)
			}
		}
	}
	if len(all) != 15 {
		t.Error("a field is not tried")
	}
}
