package shard_test

import (
	"math"
	"math/rand"
	"slices"
	"testing"

	"sautoir/api"
	"sautoir/entry"
	"sautoir/keys"
	"sautoir/object"
	"sautoir/session"
	"sautoir/shard"
)

func id(client int, seq uint64) api.ID { return api.ID{Client: client, Seq: seq} }

func reads(l ...entry.Read) []entry.Read { return l }

func writes(l ...entry.Write) []entry.Write { return l }

func read(key string, num uint64) entry.Read { return entry.Read{Key: key, Num: num} }

func write(key, val string) entry.Write { return entry.Write{Key: key, Val: val} }

func txn(x api.ID, rs []entry.Read, ws []entry.Write) entry.Txn {
	return entry.Txn{ID: x, Reads: rs, Writes: ws}
}

func plain(x api.ID, key, val string) entry.Txn {
	return entry.Txn{ID: x, Plain: true, Writes: writes(write(key, val))}
}

func part(x entry.Txn) entry.Entry { return entry.Entry{Epoch: 1, Kind: entry.Part, Txn: x} }

func finish(x api.ID, code api.Errno) entry.Entry {
	return entry.Entry{Epoch: 1, Kind: entry.Finish, ID: x, Code: code}
}

func sameTxn(a, b entry.Txn) bool {
	return entry.Same(entry.Entry{Txn: a}, entry.Entry{Txn: b})
}

func slotOf(s *shard.State, client int) session.Slot {
	slot, _ := s.Slot(id(client, 1))
	return slot
}

// Of two shards, a, c, e and g belong to 0, b, d, f and h to 1.
func TestKeysOfTheTests(t *testing.T) { // P14.1
	for i, key := range names()[:8] {
		if keys.Shard(key, 2) != i%2 {
			t.Errorf("%s is of shard %d", key, keys.Shard(key, 2))
		}
	}
}

func TestExample(t *testing.T) { // P14.1
	s := shard.New(0, 1)
	s.Apply(part(plain(id(0, 1), "a", "x")))
	if s.Num("a") != 1 || slotOf(s, 0) != (session.Slot{Seq: 1, At: 1, Num: 1}) || s.N() != 1 {
		t.Error("a Plain write", slotOf(s, 0))
	}
}

func TestNew(t *testing.T) { // P14.1
	s := shard.New(0, 2)
	if s == nil || s.N() != 0 || len(s.Opens()) != 0 || len(s.Dirty(math.MinInt)) != 0 || s.Num("a") != 0 || s.IsOpen(id(0, 1)) {
		t.Fatal("a new shard has something")
	}
	if slot, how := s.Slot(id(0, 1)); slot != (session.Slot{}) || how != session.New {
		t.Error("a new shard has a slot")
	}
	if got := readAt(s, "a", 1); got != (told{}) {
		t.Error("a new shard has a value", got)
	}
}

// A number and a count beyond what may be are taken as the next that may.
func TestNewTaken(t *testing.T) { // P14.1
	for _, c := range []struct{ number, shards, asNumber, asShards int }{
		{-1, 2, 0, 2}, {math.MinInt, 4, 0, 4}, {4, 4, 3, 4}, {math.MaxInt, 4, 3, 4}, {3, math.MaxInt, 3, 4}, {1, 5, 1, 4},
		{0, 0, 0, 1}, {0, -1, 0, 1}, {0, math.MinInt, 0, 1}, {math.MinInt, math.MinInt, 0, 1}, {math.MaxInt, math.MaxInt, 3, 4},
		{1, 1, 1, 1}, {3, 2, 3, 2}, {1, 0, 1, 1},
	} {
		var l []entry.Entry
		for i, key := range names()[:8] {
			l = append(l, part(plain(id(0, uint64(i)+1), key, "x")))
		}
		m := newModel(c.asNumber, c.asShards)
		s := shard.New(c.number, c.shards)
		for _, e := range l {
			m.apply(e)
			s.Apply(e)
		}
		check(t, s, m)
		check(t, shard.Replay(c.number, c.shards, l), m)
	}
}

func TestReplay(t *testing.T) { // P14.1
	if s := shard.Replay(0, 1, nil); s == nil || s.N() != 0 {
		t.Error("Replay of nothing")
	}
	x := txn(id(1, 1), nil, writes(write("a", "v"), write("b", "w")))
	l := []entry.Entry{part(x), finish(id(1, 1), api.OK), part(plain(id(2, 1), "a", "u"))}
	s := shard.Replay(0, 2, l)
	if s.N() != 3 || s.Num("a") != 2 || s.Num("b") != 0 || slotOf(s, 2) != (session.Slot{Seq: 1, At: 3, Num: 2}) {
		t.Error("Replay", s.N(), s.Num("a"), slotOf(s, 2))
	}
	if !sameTxn(l[0].Txn, x) {
		t.Error("Replay changes its list")
	}
}

// Each of these counts as applied, and does nothing else.
func TestApplyNothing(t *testing.T) { // P14.1, P14.6
	x := txn(id(1, 4), reads(read("a", 1)), writes(write("c", "v"), write("d", "w")))
	ahead := []entry.Entry{part(plain(id(0, 2), "a", "x")), part(x)}
	wrong := part(plain(id(2, 1), "a", "X"))
	noEpoch := part(plain(id(2, 1), "e", "x"))
	noEpoch.Epoch = 0
	badFinish := finish(id(1, 4), api.OK)
	badFinish.Txn = x
	for i, e := range []entry.Entry{
		{}, wrong, noEpoch, badFinish, {Epoch: 1, Kind: 3, ID: id(1, 4)}, {Epoch: 1, Kind: math.MinInt, Txn: plain(id(2, 1), "e", "x")},
		part(plain(id(2, 1), "b", "x")), part(txn(id(2, 1), reads(read("b", 0)), writes(write("d", "v")))),
		part(plain(id(0, 2), "e", "x")), part(plain(id(0, 1), "e", "x")), part(ahead[0].Txn), part(x),
		part(plain(id(1, 5), "e", "x")), part(txn(id(1, 5), nil, writes(write("e", "x"), write("f", "x")))), part(plain(id(1, 3), "e", "x")),
		finish(id(1, 5), api.OK), finish(id(1, 3), api.OK), finish(id(0, 2), api.OK), finish(id(3, 1), api.ErrStale),
		finish(id(1, 4), api.ErrOld), finish(id(1, 4), api.ErrArg), finish(id(-1, 4), api.OK), finish(id(1, 0), api.OK),
	} {
		s, m := shard.Replay(0, 2, ahead), newModel(0, 2)
		for _, a := range ahead {
			m.apply(a)
		}
		s.Apply(e)
		m.n++
		if s.N() != 3 || !s.IsOpen(id(1, 4)) {
			t.Errorf("%d: %d entries were applied; open: %v", i, s.N(), s.Opens())
		}
		check(t, s, m)
	}
}

func TestPlain(t *testing.T) { // P14.1
	s := shard.New(0, 2)
	for i, w := range []entry.Write{write("a", "x"), {Key: "a", Gone: true}, write("a", ""), write("c", "y"), write("a", "z")} {
		s.Apply(part(entry.Txn{ID: id(3, uint64(i)+1), Plain: true, Writes: writes(w)}))
		want := session.Slot{Seq: uint64(i) + 1, At: i + 1, Num: s.Num(w.Key)}
		if slotOf(s, 3) != want {
			t.Errorf("%d: the slot is %v, not %v", i, slotOf(s, 3), want)
		}
		if got := readAt(s, w.Key, i+1); got != (told{object.Version{At: i + 1, Num: want.Num, Val: w.Val, Gone: w.Gone}, true, api.OK}) {
			t.Errorf("%d: %s is %v", i, w.Key, got)
		}
	}
	if s.Num("a") != 4 || s.Num("c") != 1 {
		t.Error("numbers", s.Num("a"), s.Num("c"))
	}
}

// A transaction of one shard alone is done there and then; its Num is 0, unless it is Plain.
func TestLastShard(t *testing.T) { // P14.1
	s := shard.New(1, 2)
	x := txn(id(0, 1), reads(read("a", 9), read("d", 0)), writes(write("b", "v"), write("c", "w"), write("d", "u")))
	s.Apply(part(x))
	if slotOf(s, 0) != (session.Slot{Seq: 1, At: 1}) || s.IsOpen(id(0, 1)) || len(s.Opens()) != 0 {
		t.Error("the slot", slotOf(s, 0))
	}
	if s.Num("b") != 1 || s.Num("d") != 1 || s.Num("a") != 0 || s.Num("c") != 0 {
		t.Error("what was written")
	}
	s.Apply(part(txn(id(0, 2), nil, writes(write("b", "v2")))))
	if slotOf(s, 0) != (session.Slot{Seq: 2, At: 2}) || s.Num("b") != 2 {
		t.Error("one that is not Plain is told", slotOf(s, 0))
	}
	if slices.Contains([]api.Errno{s.Ready(plain(id(1, 1), "b", "x")), s.Ready(plain(id(1, 1), "d", "x"))}, api.ErrLocked) {
		t.Error("what is done holds its keys")
	}
}

// Reads alone are held, too.
func TestOpenReads(t *testing.T) { // P14.1
	s := shard.New(0, 2)
	s.Apply(part(txn(id(0, 1), reads(read("a", 0), read("b", 7)), nil)))
	if !s.IsOpen(id(0, 1)) || slotOf(s, 0) != (session.Slot{Seq: 1, Open: true, At: 1}) {
		t.Fatal("it is not open", slotOf(s, 0))
	}
	s.Apply(part(txn(id(1, 1), reads(read("a", 0), read("b", 0)), nil)))
	if !s.IsOpen(id(1, 1)) {
		t.Error("two can't read one key")
	}
	s.Apply(part(txn(id(2, 1), nil, writes(write("a", "x")))))
	if slotOf(s, 2) != (session.Slot{Seq: 1, At: 3, Code: api.ErrLocked}) {
		t.Error("what is read is written", slotOf(s, 2))
	}
	if got := readAt(s, "a", 3); got != (told{}) {
		t.Error("a key that is read by others can't be read", got)
	}
	s.Apply(finish(id(0, 1), api.OK))
	s.Apply(part(plain(id(2, 2), "a", "x")))
	if slotOf(s, 2).Code != api.ErrLocked {
		t.Error("the second one who reads it is forgotten")
	}
	s.Apply(finish(id(1, 1), api.ErrStale))
	s.Apply(part(plain(id(2, 3), "a", "x")))
	if slotOf(s, 2) != (session.Slot{Seq: 3, At: 7, Num: 1}) || slotOf(s, 0) != (session.Slot{Seq: 1, At: 4}) || slotOf(s, 1) != (session.Slot{Seq: 1, At: 6, Code: api.ErrStale}) {
		t.Error("behind their end", slotOf(s, 0), slotOf(s, 1), slotOf(s, 2))
	}
}

// Locked is told ahead of stale; only the part of the shard counts.
func TestVerdict(t *testing.T) { // P14.1
	open := txn(id(0, 1), reads(read("a", 0)), writes(write("c", "x"), write("b", "x")))
	ahead := []entry.Entry{part(open), part(plain(id(1, 1), "e", "x"))}
	for i, c := range []struct {
		rs   []entry.Read
		ws   []entry.Write
		want api.Errno
	}{
		{reads(read("a", 0)), nil, api.OK},
		{reads(read("a", 1)), nil, api.ErrStale},
		{reads(read("c", 0)), nil, api.ErrLocked},
		{reads(read("c", 9)), nil, api.ErrLocked},
		{nil, writes(write("a", "v")), api.ErrLocked},
		{nil, writes(write("c", "v")), api.ErrLocked},
		{nil, writes(write("e", "v")), api.OK},
		{nil, writes(write("e", "v"), write("g", "v"), write("c", "v")), api.ErrLocked},
		{reads(read("e", 0)), writes(write("a", "v")), api.ErrLocked},
		{reads(read("e", 0), read("c", 0)), nil, api.ErrLocked},
		{reads(read("e", 0)), writes(write("e", "v")), api.ErrStale},
		{reads(read("e", 1)), writes(write("e", "v")), api.OK},
		{reads(read("e", 2)), nil, api.ErrStale},
		{reads(read("e", math.MaxUint64)), nil, api.ErrStale},
		{reads(read("e", 1), read("g", 1)), nil, api.ErrStale},
		{reads(read("e", 1), read("g", 0), read("a", 0)), nil, api.OK},
		{reads(read("e", 1), read("b", 5)), nil, api.OK},
		{reads(read("e", 1)), writes(write("b", "v")), api.OK},
		{reads(read("e", 0)), writes(write("b", "v")), api.ErrStale},
		{reads(read("b", 5)), writes(write("a", "v")), api.ErrLocked},
	} {
		s := shard.Replay(0, 2, ahead)
		x := txn(id(2, 1), c.rs, c.ws)
		s.Apply(part(x))
		goesOn := len(x.Shards(2)) == 2 && c.want == api.OK
		if got := slotOf(s, 2); got != (session.Slot{Seq: 1, Open: goesOn, At: 3, Code: c.want}) || s.IsOpen(x.ID) != goesOn {
			t.Errorf("%d: the slot is %v; open: %v", i, got, s.IsOpen(x.ID))
		}
		wrote := len(s.Dirty(2)) > 0
		if wrote != (c.want == api.OK && len(c.ws) > 0 && !goesOn) {
			t.Errorf("%d: versions of %v", i, s.Dirty(2))
		}
	}
}

func TestFinish(t *testing.T) { // P14.1
	for _, code := range []api.Errno{api.OK, api.ErrStale, api.ErrLocked} {
		s := shard.New(0, 2)
		s.Apply(part(txn(id(0, 1), nil, writes(write("a", "x"), write("b", "x"), write("c", "y"), entry.Write{Key: "e", Gone: true}))))
		s.Apply(part(plain(id(1, 1), "g", "z")))
		s.Apply(finish(id(0, 1), code))
		if slotOf(s, 0) != (session.Slot{Seq: 1, At: 3, Code: code}) || s.IsOpen(id(0, 1)) || len(s.Opens()) != 0 {
			t.Errorf("%d: the slot is %v", code, slotOf(s, 0))
		}
		var want []string
		if code == api.OK {
			want = []string{"a", "c", "e"}
		}
		if got := s.Dirty(2); !slices.Equal(got, want) {
			t.Errorf("%d: versions of %v", code, got)
		}
		for _, key := range []string{"a", "c", "e"} {
			if s.Ready(plain(id(2, 1), key, "v")) != api.OK || readAt(s, key, 3).e != api.OK || readAt(s, key, 2).e != api.ErrLocked || readAt(s, key, 1).e != api.ErrLocked || readAt(s, key, 0).e != api.OK {
				t.Errorf("%d: %s behind the end", code, key)
			}
		}
		if v := readAt(s, "e", 3).v; v.Gone != (code == api.OK) {
			t.Errorf("%d: e is %v", code, v)
		}
		s.Apply(finish(id(0, 1), api.OK))
		if slotOf(s, 0).At != 3 || len(s.Dirty(3)) != 0 {
			t.Errorf("%d: it is finished twice", code)
		}
	}
}

func TestReady(t *testing.T) { // P14.2
	open := txn(id(1, 4), reads(read("a", 0)), writes(write("c", "x"), write("b", "x")))
	s := shard.Replay(0, 2, []entry.Entry{part(open), part(plain(id(2, 4), "e", "x"))})
	for i, c := range []struct {
		x    entry.Txn
		want api.Errno
	}{
		{plain(id(0, 1), "e", "x"), api.OK},
		{plain(id(0, 1), "a", "x"), api.ErrLocked},
		{plain(id(0, 1), "c", "x"), api.ErrLocked},
		{plain(id(0, 1), "b", "x"), api.ErrArg},
		{plain(id(2, 5), "g", "x"), api.OK},
		{plain(id(2, 5), "a", "x"), api.ErrLocked},
		{plain(id(2, 4), "a", "x"), api.ErrThere},
		{plain(id(2, 3), "a", "x"), api.ErrOld},
		{plain(id(1, 3), "a", "x"), api.ErrOld},
		{plain(id(1, 4), "a", "x"), api.ErrThere},
		{plain(id(1, 5), "a", "x"), api.ErrState},
		{plain(id(1, 5), "e", "x"), api.ErrState},
		{plain(id(1, 4), "b", "x"), api.ErrArg},
		{plain(id(1, 3), "e", "X"), api.ErrArg},
		{plain(id(-1, 1), "e", "x"), api.ErrArg},
		{plain(id(0, 0), "e", "x"), api.ErrArg},
		{entry.Txn{}, api.ErrArg},
		{entry.Txn{ID: id(0, 1), Plain: true}, api.ErrArg},
		{open, api.ErrThere},
		{txn(id(0, 1), nil, writes(write("a", "x"))), api.OK},
		{txn(id(0, 1), reads(read("c", 7)), writes(write("c", "x"))), api.OK},
		{txn(id(0, 1), reads(read("b", 7)), writes(write("d", "x"))), api.ErrArg},
		{txn(id(1, 9), reads(read("b", 7)), writes(write("a", "x"))), api.ErrState},
	} {
		if got := s.Ready(c.x); got != c.want {
			t.Errorf("%d: Ready(%v) = %d, not %d", i, c.x, got, c.want)
		}
	}
	if s.N() != 2 || len(s.Opens()) != 1 || slotOf(s, 0) != (session.Slot{}) {
		t.Error("asking changes the shard")
	}
}

func TestRead(t *testing.T) { // P14.3
	s := shard.New(0, 2)
	s.Apply(part(plain(id(0, 1), "a", "x")))
	s.Apply(part(txn(id(1, 1), nil, writes(write("a", "y"), write("b", "y")))))
	s.Apply(part(plain(id(0, 2), "c", "z")))
	s.Apply(finish(id(1, 1), api.OK))
	x := told{object.Version{At: 1, Num: 1, Val: "x"}, true, api.OK}
	y := told{object.Version{At: 4, Num: 2, Val: "y"}, true, api.OK}
	locked := told{e: api.ErrLocked}
	for n, want := range map[int]told{math.MinInt: {}, -1: {}, 0: {}, 1: x, 2: locked, 3: locked, 4: y, 5: y, math.MaxInt: y} {
		if got := readAt(s, "a", n); got != want {
			t.Errorf("Read(a, %d) = %v, not %v", n, got, want)
		}
	}
	for _, key := range []string{"", "A", "b", "none", string(make([]byte, 1000))} {
		if got := readAt(s, key, 4); got != (told{}) || s.Num(key) != 0 {
			t.Errorf("Read(%q) = %v", key, got)
		}
	}
	if s.Num("a") != 2 || s.Num("c") != 1 {
		t.Error("Num", s.Num("a"), s.Num("c"))
	}
	if !slices.Equal(s.Dirty(2), []string{"a", "c"}) || !slices.Equal(s.Dirty(3), []string{"a"}) || len(s.Dirty(4)) != 0 || len(s.Dirty(math.MaxInt)) != 0 || len(s.Dirty(math.MinInt)) != 2 {
		t.Error("Dirty", s.Dirty(2))
	}
}

// Open ones are told in the order in which they were opened, whole, whatever was finished between them.
func TestOpens(t *testing.T) { // P14.3
	s := shard.New(0, 2)
	var l []entry.Txn
	for i, key := range []string{"g", "a", "e", "c"} {
		x := txn(id(5-i, uint64(i)+1), reads(read("b", 3), read(key, 0)), writes(write(key, "v"), write("d", "w")))
		l = append(l, x)
		s.Apply(part(x))
	}
	if !slices.EqualFunc(s.Opens(), l, sameTxn) {
		t.Fatal("Opens", s.Opens())
	}
	s.Apply(finish(l[1].ID, api.OK))
	if !slices.EqualFunc(s.Opens(), []entry.Txn{l[0], l[2], l[3]}, sameTxn) || s.IsOpen(l[1].ID) || !s.IsOpen(l[2].ID) {
		t.Error("one is finished", s.Opens())
	}
	again := txn(id(4, 9), nil, writes(write("a", "v"), write("b", "w")))
	s.Apply(part(again))
	s.Apply(finish(l[0].ID, api.ErrStale))
	if !slices.EqualFunc(s.Opens(), []entry.Txn{l[2], l[3], again}, sameTxn) {
		t.Error("another one is opened", s.Opens())
	}
	for _, x := range []api.ID{id(4, 8), id(4, 10), id(3, 1), id(5, 3), id(0, 0), id(-1, 3), id(math.MaxInt, math.MaxUint64)} {
		if s.IsOpen(x) {
			t.Errorf("%v is open", x)
		}
	}
}

func TestSlot(t *testing.T) { // P14.3
	s := shard.Replay(0, 2, []entry.Entry{part(plain(id(2, 4), "a", "x"))})
	slot := session.Slot{Seq: 4, At: 1, Num: 1}
	for seq, want := range map[uint64]int{0: session.Old, 3: session.Old, 4: session.Same, 5: session.New, math.MaxUint64: session.New} {
		if got, how := s.Slot(id(2, seq)); got != slot || how != want {
			t.Errorf("Slot of Seq %d = %v, %d", seq, got, how)
		}
	}
	for _, client := range []int{0, 5, -1, 6, math.MinInt, math.MaxInt} {
		if got, how := s.Slot(id(client, 4)); got != (session.Slot{}) || how != session.New {
			t.Errorf("Slot of client %d = %v, %d", client, got, how)
		}
	}
}

// What is handed in is not kept, what is answered is new.
func TestMemory(t *testing.T) { // P14.1, P14.3 (rules 4 and 5)
	s := shard.New(0, 2)
	x := txn(id(0, 1), reads(read("a", 0), read("b", 0)), writes(write("c", "x"), write("d", "y")))
	s.Apply(part(x))
	want := txn(id(0, 1), slices.Clone(x.Reads), slices.Clone(x.Writes))
	x.Reads[0].Key, x.Writes[0].Key = "g", "g"
	got := s.Opens()
	if len(got) != 1 || !sameTxn(got[0], want) {
		t.Fatal("an entry that was handed in is kept", got)
	}
	got[0].Reads[0].Key, got[0].Writes[0].Key = "e", "e"
	_ = append(got[0].Writes[:1], write("h", "z"))
	if next := s.Opens(); !sameTxn(next[0], want) {
		t.Error("an answer is kept", next)
	}
	got[0] = entry.Txn{}
	s.Apply(finish(id(0, 1), api.OK))
	if s.Num("c") != 1 || s.Num("g") != 0 || s.Num("e") != 0 {
		t.Error("what was written")
	}
	dirty := s.Dirty(0)
	dirty[0] = "z"
	if !slices.Equal(s.Dirty(0), []string{"c"}) {
		t.Error("Dirty shares its list")
	}
}

func TestNil(t *testing.T) { // P14.1, P14.2, P14.3, P1
	var s *shard.State
	s.Apply(part(plain(id(0, 1), "a", "x")))
	s.Apply(entry.Entry{})
	slot, how := s.Slot(id(0, 1))
	if s.N() != 0 || s.Num("a") != 0 || slot != (session.Slot{}) || how != session.New || len(s.Opens()) != 0 || s.IsOpen(id(0, 1)) || len(s.Dirty(0)) != 0 {
		t.Error("of a nil shard")
	}
	if s.Ready(plain(id(0, 1), "a", "x")) != api.ErrNil || s.Ready(entry.Txn{}) != api.ErrNil || readAt(s, "a", 1) != (told{e: api.ErrNil}) {
		t.Error("errors of a nil shard")
	}
}

func TestMadeByHand(t *testing.T) { // P1
	r := rand.New(rand.NewSource(1))
	s, m := new(shard.State), newModel(0, 1)
	for i := range 200 {
		e := randomEntry(r, m)
		m.apply(e)
		s.Apply(e)
		s.Ready(e.Txn)
		s.Slot(e.ID)
		s.Opens()
		s.IsOpen(e.ID)
		for _, key := range names() {
			s.Read(key, i)
			s.Num(key)
		}
		s.Dirty(i - 1)
		if s.N() != i+1 {
			t.Fatal("N", s.N())
		}
	}
}
