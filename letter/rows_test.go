package letter_test

import (
	"math"
	"slices"
	"strings"

	"sautoir/api"
	"sautoir/ballot"
	"sautoir/conf"
	"sautoir/entry"
	"sautoir/letter"
)

// row is a Kind, with its fields in the order of its bytes.
type row struct {
	kind   int
	name   string
	fields string
}

// rows are the chapter's table.
func rows() []row {
	return []row{
		{1, "Beat", "Shard Epoch N Flag"},
		{2, "Confs", "N Confs"},
		{3, "Know", ""},
		{4, "Prepare", "N Ballot"},
		{5, "Promise", "N Ballot Votes"},
		{6, "Accept", "N Ballot Val"},
		{7, "Accepted", "N Ballot"},
		{8, "Nack", "Ballot"},
		{9, "Chosen", "N Val"},
		{10, "Want", "N"},
		{11, "Lead", "N Ballot"},
		{12, "Push", "Shard Epoch N M Num Entries"},
		{13, "Have", "Shard Epoch N Flag"},
		{14, "Done", "Shard Epoch N"},
		{15, "Ask", "Shard Epoch N Node ID Val"},
		{16, "Told", "Shard N ID Val"},
		{17, "Walk", "Shard Txn"},
		{18, "Back", "Shard ID Code"},
		{19, "Get", "ID Val"},
		{20, "Do", "Txn"},
		{21, "Answer", "N ID Val Num Code"},
	}
}

func (r row) has(field string) bool {
	return slices.Contains(strings.Fields(r.fields), field)
}

// change is what a test does to a letter.
type change func(*letter.Letter)

// trait is a field as the tests take it: a value of it and its bytes, and further values, those that may be and those that may not.
type trait struct {
	set    change
	bytes  string
	others []change
	wrong  []change
}

func someBallot(node int) ballot.Ballot { return ballot.Ballot{Round: 300, Node: node} }

func someConf() conf.Conf {
	return conf.Conf{Epoch: 9, Shard: 1, Chain: []int{3, 0}, Full: []bool{true, false}, Learner: -1}
}

func someTxn() entry.Txn {
	return entry.Txn{ID: api.ID{Client: 2, Seq: 300}, Reads: []entry.Read{{Key: "a", Num: 1}}, Writes: []entry.Write{{Key: "b", Val: "v"}}}
}

func part() entry.Entry { return entry.Entry{Epoch: 5, Kind: entry.Part, Txn: someTxn()} }

func finish() entry.Entry {
	return entry.Entry{Epoch: 6, Kind: entry.Finish, ID: api.ID{Client: 1, Seq: 4}, Code: api.ErrStale}
}

// longTxn is as long as one may be.
func longTxn() entry.Txn {
	t := entry.Txn{ID: api.ID{Client: 5, Seq: math.MaxUint64}}
	for i := range api.MaxOps {
		key := strings.Repeat("k", api.MaxKey-1) + string(rune('0'+i))
		t.Reads = append(t.Reads, entry.Read{Key: key, Num: math.MaxUint64})
		t.Writes = append(t.Writes, entry.Write{Key: key, Val: strings.Repeat("v", api.MaxVal)})
	}
	return t
}

func votes(n int, v letter.Vote) []letter.Vote {
	l := make([]letter.Vote, n)
	for i := range l {
		l[i] = v
	}
	return l
}

func confs(n int, c conf.Conf) []conf.Conf {
	l := make([]conf.Conf, n)
	for i := range l {
		l[i] = c
	}
	return l
}

func entries(n int, e entry.Entry) []entry.Entry {
	l := make([]entry.Entry, n)
	for i := range l {
		l[i] = e
	}
	return l
}

func setN(n int) change    { return func(l *letter.Letter) { l.N = n } }
func setM(n int) change    { return func(l *letter.Letter) { l.M = n } }
func setNode(n int) change { return func(l *letter.Letter) { l.Node = n } }
func setShard(n int) change {
	return func(l *letter.Letter) { l.Shard = n }
}
func setEpoch(n uint64) change { return func(l *letter.Letter) { l.Epoch = n } }
func setNum(n uint64) change   { return func(l *letter.Letter) { l.Num = n } }
func setFlag(is bool) change   { return func(l *letter.Letter) { l.Flag = is } }
func setVal(s string) change   { return func(l *letter.Letter) { l.Val = s } }
func setCode(e api.Errno) change {
	return func(l *letter.Letter) { l.Code = e }
}
func setBallot(b ballot.Ballot) change { return func(l *letter.Letter) { l.Ballot = b } }
func setID(client int, seq uint64) change {
	return func(l *letter.Letter) { l.ID = api.ID{Client: client, Seq: seq} }
}
func setTxn(t entry.Txn) change { return func(l *letter.Letter) { l.Txn = t } }
func setVotes(v ...letter.Vote) change {
	return func(l *letter.Letter) { l.Votes = v }
}
func setConfs(c ...conf.Conf) change {
	return func(l *letter.Letter) { l.Confs = c }
}
func setEntries(e ...entry.Entry) change {
	return func(l *letter.Letter) { l.Entries = e }
}

func changes(l ...change) []change { return l }

func numbers(set func(int) change, l ...int) []change {
	var out []change
	for _, n := range l {
		out = append(out, set(n))
	}
	return out
}

// traits are all fields, with their edges.
func traits() map[string]trait {
	const txnBytes = "\x02\xac\x02\x00\x01\x01a\x01\x01\x01b\x01v\x00"
	long := strings.Repeat("v", api.MaxVal)
	vote := letter.Vote{Slot: 2, Ballot: someBallot(4), Val: "\xff\x00"}
	return map[string]trait{
		"Shard": {setShard(3), "\x03", numbers(setShard, 0, 1), numbers(setShard, -1, 4, math.MinInt, math.MaxInt)},
		"Epoch": {setEpoch(300), "\xac\x02", changes(setEpoch(0), setEpoch(math.MaxUint64)), nil},
		"N":     {setN(1 << 20), "\x80\x80\x40", numbers(setN, 0, 1), numbers(setN, -1, 1<<20+1, math.MinInt, math.MaxInt)},
		"M":     {setM(1 << 20), "\x80\x80\x40", numbers(setM, 0, 1), numbers(setM, -1, 1<<20+1, math.MinInt, math.MaxInt)},
		"Node":  {setNode(7), "\x07", numbers(setNode, 0, 1), numbers(setNode, -1, 8, math.MinInt, math.MaxInt)},
		"Flag":  {setFlag(true), "\x01", changes(setFlag(false)), nil},
		"Ballot": {setBallot(someBallot(4)), "\xac\x02\x04",
			changes(setBallot(ballot.Ballot{}), setBallot(ballot.Ballot{Round: math.MaxUint64}), setBallot(ballot.Ballot{Node: 4})),
			changes(setBallot(someBallot(-1)), setBallot(someBallot(5)), setBallot(someBallot(math.MinInt)), setBallot(someBallot(math.MaxInt)))},
		"Votes": {setVotes(vote, letter.Vote{}), "\x02\x02\xac\x02\x04\x02\xff\x00\x00\x00\x00\x00",
			changes(setVotes(), setVotes(vote, vote), setVotes(votes(api.MaxLog, letter.Vote{Slot: 1 << 20, Ballot: ballot.Ballot{Round: math.MaxUint64, Node: 4}, Val: long})...)),
			changes(setVotes(votes(api.MaxLog+1, vote)...), setVotes(vote, letter.Vote{Slot: -1}), setVotes(letter.Vote{Slot: 1<<20 + 1}, vote), setVotes(letter.Vote{Ballot: someBallot(5)}), setVotes(letter.Vote{Ballot: someBallot(-1)}), setVotes(letter.Vote{Val: long + "v"}))},
		"Confs": {setConfs(someConf(), someConf()), "\x02\x09\x01\x02\x03\x01\x00\x00\x08\x09\x01\x02\x03\x01\x00\x00\x08",
			changes(setConfs(), setConfs(confs(api.MaxShards, conf.Conf{Epoch: math.MaxUint64, Shard: 3, Chain: []int{7, 6, 5, 4, 3, 2, 1, 0}, Full: make8(), Learner: -1})...)),
			changes(setConfs(confs(api.MaxShards+1, someConf())...), setConfs(conf.Conf{}), setConfs(someConf(), conf.Conf{Epoch: 1, Chain: []int{8}, Full: []bool{true}, Learner: -1}))},
		"ID": {setID(5, 300), "\x05\xac\x02", changes(setID(0, 1), setID(5, math.MaxUint64)),
			changes(setID(0, 0), setID(5, 0), setID(-1, 1), setID(6, 1), setID(math.MinInt, 1), setID(math.MaxInt, 1))},
		"Val": {setVal("ab"), "\x02ab", changes(setVal(""), setVal("A \xff\x00"), setVal(long)), changes(setVal(long+"v"), setVal(strings.Repeat("v", 70000)))},
		"Num": {setNum(128), "\x80\x01", changes(setNum(0), setNum(math.MaxUint64)), nil},
		"Entries": {setEntries(part(), finish()), "\x02\x10\x05\x01" + txnBytes + "\x05\x06\x02\x01\x04\x08",
			changes(setEntries(), setEntries(entries(api.MaxOps, entry.Entry{Epoch: math.MaxUint64, Kind: entry.Part, Txn: longTxn()})...)),
			changes(setEntries(entries(api.MaxOps+1, finish())...), setEntries(entry.Entry{}), setEntries(part(), entry.Entry{Epoch: 1, Kind: entry.Part}))},
		"Txn": {setTxn(someTxn()), txnBytes, changes(setTxn(longTxn())),
			changes(setTxn(entry.Txn{}), setTxn(entry.Txn{ID: api.ID{Client: 6, Seq: 1}, Reads: someTxn().Reads}), setTxn(entry.Txn{ID: api.ID{Seq: 1}, Plain: true, Reads: someTxn().Reads}))},
		"Code": {setCode(api.ErrNone), "\x06", changes(setCode(0), setCode(99)), changes(setCode(-1), setCode(100), setCode(math.MinInt), setCode(math.MaxInt))},
	}
}

func make8() []bool { return []bool{true, true, true, true, true, true, true, true} }

func server(n int) letter.Addr { return letter.Addr{Kind: letter.Server, N: n} }
func client(n int) letter.Addr { return letter.Addr{Kind: letter.Client, N: n} }
func master(n int) letter.Addr { return letter.Addr{Kind: letter.Master, N: n} }

// sample answers a letter of that row, all of whose fields have the traits' values, and its bytes.
func sample(r row) (letter.Letter, string) {
	l := letter.Letter{From: server(7), To: client(5), Kind: r.kind}
	b := "\x02\x07\x03\x05" + string(rune(r.kind))
	all := traits()
	for _, name := range strings.Fields(r.fields) {
		all[name].set(&l)
		b += all[name].bytes
	}
	return l, b
}

// rightLetters are one of each Kind, and each at the edges of its fields.
func rightLetters() []letter.Letter {
	var out []letter.Letter
	all := traits()
	for _, r := range rows() {
		l, _ := sample(r)
		out = append(out, l)
		for _, name := range strings.Fields(r.fields) {
			for _, other := range all[name].others {
				out = append(out, with(l, other))
			}
		}
	}
	return out
}

// wrongLetters are each wrong for one reason.
func wrongLetters() []letter.Letter {
	out := []letter.Letter{{}}
	all := traits()
	for _, r := range rows() {
		l, _ := sample(r)
		for name, x := range all {
			if !r.has(name) {
				out = append(out, with(l, x.set))
				continue
			}
			for _, wrong := range x.wrong {
				out = append(out, with(l, wrong))
			}
		}
		for _, a := range wrongAddrs() {
			out = append(out, with(l, func(l *letter.Letter) { l.From = a }), with(l, func(l *letter.Letter) { l.To = a }))
		}
		for _, kind := range []int{0, -1, 22, math.MinInt, math.MaxInt} {
			out = append(out, with(l, func(l *letter.Letter) { l.Kind = kind }))
		}
	}
	return out
}

func wrongAddrs() []letter.Addr {
	return []letter.Addr{{}, {Kind: 0, N: 1}, {Kind: 4}, {Kind: -1}, {Kind: math.MinInt}, {Kind: math.MaxInt}, master(5), master(-1), server(8), server(-1), client(6), client(-1), master(math.MaxInt), server(math.MinInt), client(math.MaxInt)}
}

// with answers l with one change, and lists of its own.
func with(l letter.Letter, x change) letter.Letter {
	l = clone(l)
	x(&l)
	return l
}

// clone answers l with lists of its own, down to those in its lists.
func clone(l letter.Letter) letter.Letter {
	l.Votes, l.Confs, l.Entries = slices.Clone(l.Votes), slices.Clone(l.Confs), slices.Clone(l.Entries)
	for i, c := range l.Confs {
		l.Confs[i].Chain, l.Confs[i].Full = slices.Clone(c.Chain), slices.Clone(c.Full)
	}
	for i, e := range l.Entries {
		l.Entries[i].Txn = cloneTxn(e.Txn)
	}
	l.Txn = cloneTxn(l.Txn)
	return l
}

func cloneTxn(t entry.Txn) entry.Txn {
	t.Reads, t.Writes = slices.Clone(t.Reads), slices.Clone(t.Writes)
	return t
}

// zero tells whether l is the zero letter.
func zero(l letter.Letter) bool { return letter.Same(l, letter.Letter{}) }
