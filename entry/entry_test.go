package entry_test

import (
	"bytes"
	"math"
	"math/rand"
	"slices"
	"strconv"
	"strings"
	"testing"

	"sautoir/api"
	"sautoir/entry"
	"sautoir/keys"
	"sautoir/octet"
)

func id(client int, seq uint64) api.ID { return api.ID{Client: client, Seq: seq} }

func read(key string, num uint64) entry.Read { return entry.Read{Key: key, Num: num} }

func write(key, val string, gone bool) entry.Write {
	return entry.Write{Key: key, Val: val, Gone: gone}
}

func reads(l ...entry.Read) []entry.Read { return l }

func writes(l ...entry.Write) []entry.Write { return l }

// manyReads and manyWrites have n ops of keys of their own.
func manyReads(n int) []entry.Read {
	var l []entry.Read
	for i := range n {
		l = append(l, read("r"+strconv.Itoa(i), uint64(i)))
	}
	return l
}

func manyWrites(n int) []entry.Write {
	var l []entry.Write
	for i := range n {
		l = append(l, write("w"+strconv.Itoa(i), "v", false))
	}
	return l
}

// rightTxns are right, at the edges that the chapter names.
func rightTxns() []entry.Txn {
	longKey, longVal := strings.Repeat("k", api.MaxKey), strings.Repeat("v", api.MaxVal)
	return []entry.Txn{
		{ID: id(0, 1), Reads: reads(read("a", 0))},
		{ID: id(0, 1), Writes: writes(write("a", "", false))},
		{ID: id(5, math.MaxUint64), Reads: reads(read("a", math.MaxUint64)), Writes: writes(write("a", "v", false))},
		{ID: id(1, 2), Plain: true, Writes: writes(write("a", "v", false))},
		{ID: id(1, 2), Plain: true, Writes: writes(write("a", "", true))},
		{ID: id(2, 300), Reads: reads(read("a", 1)), Writes: writes(write("b", "v", false), write("c", "", true))},
		{ID: id(3, 128), Reads: reads(read(longKey, 127), read("_", 128)), Writes: writes(write(longKey, longVal, false))},
		{ID: id(4, 7), Reads: manyReads(api.MaxOps), Writes: manyWrites(api.MaxOps)},
		{ID: id(4, 7), Reads: manyReads(api.MaxOps)},
		{ID: id(4, 7), Writes: manyWrites(api.MaxOps)},
	}
}

// wrongTxns are each wrong for one reason.
func wrongTxns() []entry.Txn {
	a := reads(read("a", 1))
	longKey, longVal := strings.Repeat("k", api.MaxKey+1), strings.Repeat("v", api.MaxVal+1)
	return []entry.Txn{
		{},
		{ID: id(0, 1)},
		{ID: id(0, 1), Plain: true},
		{ID: id(0, 0), Reads: a},
		{ID: id(-1, 1), Reads: a},
		{ID: id(math.MinInt, 1), Reads: a},
		{ID: id(api.MaxClients, 1), Reads: a},
		{ID: id(math.MaxInt, 1), Reads: a},
		{ID: id(0, 1), Reads: manyReads(api.MaxOps + 1)},
		{ID: id(0, 1), Writes: manyWrites(api.MaxOps + 1)},
		{ID: id(0, 1), Reads: reads(read("", 1))},
		{ID: id(0, 1), Reads: reads(read("a", 1), read("A", 1))},
		{ID: id(0, 1), Reads: reads(read(longKey, 1))},
		{ID: id(0, 1), Reads: reads(read("a", 1), read("b", 1), read("a", 2))},
		{ID: id(0, 1), Writes: writes(write("", "v", false))},
		{ID: id(0, 1), Writes: writes(write("a", "v", false), write("\xff", "v", false))},
		{ID: id(0, 1), Writes: writes(write(longKey, "v", false))},
		{ID: id(0, 1), Writes: writes(write("a", "v", false), write("b", "v", false), write("a", "", true))},
		{ID: id(0, 1), Writes: writes(write("a", "V", false))},
		{ID: id(0, 1), Writes: writes(write("a", longVal, false))},
		{ID: id(0, 1), Writes: writes(write("a", "v", true))},
		{ID: id(0, 1), Writes: writes(write("a", "", true), write("b", "v", true))},
		{ID: id(0, 1), Plain: true, Reads: a},
		{ID: id(0, 1), Plain: true, Reads: a, Writes: writes(write("a", "v", false))},
		{ID: id(0, 1), Plain: true, Writes: manyWrites(2)},
	}
}

// rightEntries are a Part of each right transaction, and Finishes.
func rightEntries() []entry.Entry {
	l := []entry.Entry{
		{Epoch: 1, Kind: entry.Finish, ID: id(0, 1)},
		{Epoch: math.MaxUint64, Kind: entry.Finish, ID: id(5, math.MaxUint64), Code: api.ErrStale},
		{Epoch: 127, Kind: entry.Finish, ID: id(3, 128), Code: api.ErrLocked},
	}
	for i, x := range rightTxns() {
		l = append(l, entry.Entry{Epoch: uint64(i*100 + 1), Kind: entry.Part, Txn: x})
	}
	return l
}

func wrongEntries() []entry.Entry {
	x := rightTxns()[0]
	l := []entry.Entry{
		{},
		{Kind: entry.Part, Txn: x},
		{Epoch: 1, Txn: x},
		{Epoch: 1, ID: id(0, 1)},
		{Epoch: 1, Kind: 3, Txn: x},
		{Epoch: 1, Kind: 3, ID: id(0, 1)},
		{Epoch: 1, Kind: -1, Txn: x},
		{Epoch: 1, Kind: math.MinInt, ID: id(0, 1)},
		{Epoch: 1, Kind: entry.Part, Txn: x, ID: id(0, 1)},
		{Epoch: 1, Kind: entry.Part, Txn: x, ID: id(1, 0)},
		{Epoch: 1, Kind: entry.Part, Txn: x, Code: api.ErrStale},
		{Kind: entry.Finish, ID: id(0, 1)},
		{Epoch: 1, Kind: entry.Finish},
		{Epoch: 1, Kind: entry.Finish, ID: id(1, 0)},
		{Epoch: 1, Kind: entry.Finish, ID: id(6, 1)},
		{Epoch: 1, Kind: entry.Finish, ID: id(-1, 1)},
		{Epoch: 1, Kind: entry.Finish, ID: id(0, 1), Txn: x},
		{Epoch: 1, Kind: entry.Finish, ID: id(0, 1), Txn: entry.Txn{ID: id(0, 1)}},
		{Epoch: 1, Kind: entry.Finish, ID: id(0, 1), Txn: entry.Txn{Plain: true}},
		{Epoch: 1, Kind: entry.Finish, ID: id(0, 1), Txn: entry.Txn{Reads: make([]entry.Read, 1)}},
		{Epoch: 1, Kind: entry.Finish, ID: id(0, 1), Txn: entry.Txn{Writes: make([]entry.Write, 1)}},
	}
	for _, x := range wrongTxns() {
		l = append(l, entry.Entry{Epoch: 1, Kind: entry.Part, Txn: x})
	}
	for code := api.Errno(-1); code <= 14; code++ {
		if code != api.OK && code != api.ErrStale && code != api.ErrLocked {
			l = append(l, entry.Entry{Epoch: 1, Kind: entry.Finish, ID: id(0, 1), Code: code})
		}
	}
	return append(l, entry.Entry{Epoch: 1, Kind: entry.Finish, ID: id(0, 1), Code: math.MaxInt})
}

func TestRightID(t *testing.T) { // P12.1
	for _, x := range []api.ID{id(0, 1), id(5, 1), id(3, math.MaxUint64)} {
		if !entry.RightID(x) {
			t.Errorf("%v is not right", x)
		}
	}
	for _, x := range []api.ID{{}, id(0, 0), id(5, 0), id(6, 1), id(-1, 1), id(math.MinInt, 1), id(math.MaxInt, 1)} {
		if entry.RightID(x) {
			t.Errorf("%v is right", x)
		}
	}
}

func TestRightTxn(t *testing.T) { // P12.1
	for i, x := range rightTxns() {
		if !entry.RightTxn(x) {
			t.Errorf("%d: %v is not right", i, x)
		}
	}
	for i, x := range wrongTxns() {
		if entry.RightTxn(x) {
			t.Errorf("%d: %v is right", i, x)
		}
	}
}

func TestRight(t *testing.T) { // P12.1
	for i, e := range rightEntries() {
		if !entry.Right(e) {
			t.Errorf("%d: %v is not right", i, e)
		}
	}
	for i, e := range wrongEntries() {
		if entry.Right(e) {
			t.Errorf("%d: %v is right", i, e)
		}
	}
	empty := entry.Txn{Reads: []entry.Read{}, Writes: []entry.Write{}}
	if !entry.Right(entry.Entry{Epoch: 1, Kind: entry.Finish, ID: id(0, 1), Txn: empty}) {
		t.Error("empty lists are none")
	}
}

func TestKeys(t *testing.T) { // P12.1
	x := entry.Txn{Reads: reads(read("c", 1), read("a", 1)), Writes: writes(write("b", "", true), write("a", "", false))}
	if got := x.Keys(); !slices.Equal(got, []string{"c", "a", "b", "a"}) {
		t.Errorf("Keys() = %q", got)
	}
	if got := (entry.Txn{}).Keys(); len(got) != 0 {
		t.Errorf("Keys() of none = %q", got)
	}
	x.Keys()[0] = "x"
	if x.Reads[0].Key != "c" || x.Keys()[0] != "c" {
		t.Error("an answer is shared")
	}
}

func TestShards(t *testing.T) { // P12.1
	for i, x := range append(rightTxns(), wrongTxns()...) {
		for _, n := range []int{math.MinInt, -1, 0, 1, 2, 3, 4, 5, math.MaxInt} {
			var want []int
			for shard := range api.MaxShards {
				if slices.ContainsFunc(x.Keys(), func(key string) bool { return keys.Shard(key, n) == shard }) {
					want = append(want, shard)
				}
			}
			if got := x.Shards(n); !slices.Equal(got, want) {
				t.Errorf("%d: Shards(%d) = %v, want %v", i, n, got, want)
			}
		}
	}
}

func TestPart(t *testing.T) { // P12.1
	x := entry.Txn{Reads: reads(read("a", 1), read("b", 2), read("c", 3)), Writes: writes(write("d", "x", false), write("c", "", true), write("a", "y", false))}
	rs, ws := x.Part(0, 2)
	if !slices.Equal(rs, reads(read("a", 1), read("c", 3))) || !slices.Equal(ws, writes(write("c", "", true), write("a", "y", false))) {
		t.Error("Part(0, 2)", rs, ws)
	}
	rs, ws = x.Part(1, 2)
	if !slices.Equal(rs, reads(read("b", 2))) || !slices.Equal(ws, writes(write("d", "x", false))) {
		t.Error("Part(1, 2)", rs, ws)
	}
	for _, shard := range []int{math.MinInt, -1, 2, 3, 4, math.MaxInt} {
		if rs, ws := x.Part(shard, 2); len(rs)+len(ws) != 0 {
			t.Error("a part of no shard", shard, rs, ws)
		}
	}
	rs, ws = x.Part(0, 1)
	if !slices.Equal(rs, x.Reads) || !slices.Equal(ws, x.Writes) {
		t.Error("of one shard all is its part")
	}
	rs[0], ws[0] = read("z", 9), write("z", "", true)
	if x.Reads[0] != read("a", 1) || x.Writes[0] != write("d", "x", false) {
		t.Error("an answer is shared")
	}
}

func TestEachInOnePart(t *testing.T) { // P12.3
	for i, x := range append(rightTxns(), wrongTxns()...) {
		for n := -1; n <= 5; n++ {
			countR, countW := map[entry.Read]int{}, map[entry.Write]int{}
			for shard := -1; shard <= api.MaxShards; shard++ {
				rs, ws := x.Part(shard, n)
				if len(rs)+len(ws) > 0 && !slices.Contains(x.Shards(n), shard) {
					t.Errorf("%d: it has a part in shard %d of %d, and does not involve it", i, shard, n)
				}
				for _, r := range rs {
					countR[r]++
				}
				for _, w := range ws {
					countW[w]++
				}
			}
			for _, r := range x.Reads {
				if countR[r] != count(x.Reads, r) {
					t.Errorf("%d: %v is in %d parts of %d", i, r, countR[r], n)
				}
			}
			for _, w := range x.Writes {
				if countW[w] != count(x.Writes, w) {
					t.Errorf("%d: %v is in %d parts of %d", i, w, countW[w], n)
				}
			}
		}
	}
}

func count[T comparable](l []T, x T) int {
	n := 0
	for _, y := range l {
		if y == x {
			n++
		}
	}
	return n
}

func TestSame(t *testing.T) { // P12.1
	all := append(rightEntries(), wrongEntries()...)
	x := entry.Txn{ID: id(0, 1), Reads: reads(read("a", 1), read("b", 1)), Writes: writes(write("a", "v", false))}
	for _, y := range []entry.Txn{
		x,
		{ID: id(1, 1), Reads: x.Reads, Writes: x.Writes},
		{ID: id(0, 2), Reads: x.Reads, Writes: x.Writes},
		{ID: id(0, 1), Reads: x.Reads, Writes: x.Writes, Plain: true},
		{ID: id(0, 1), Reads: x.Reads},
		{ID: id(0, 1), Writes: x.Writes},
		{ID: id(0, 1), Reads: reads(read("a", 1), read("c", 1)), Writes: x.Writes},
		{ID: id(0, 1), Reads: reads(read("a", 1), read("b", 2)), Writes: x.Writes},
		{ID: id(0, 1), Reads: reads(read("b", 1), read("a", 1)), Writes: x.Writes},
		{ID: id(0, 1), Reads: x.Reads, Writes: writes(write("b", "v", false))},
		{ID: id(0, 1), Reads: x.Reads, Writes: writes(write("a", "w", false))},
		{ID: id(0, 1), Reads: x.Reads, Writes: writes(write("a", "v", true))},
	} {
		all = append(all, entry.Entry{Epoch: 9, Kind: entry.Part, Txn: y})
	}
	all = append(all, entry.Entry{Epoch: 8, Kind: entry.Part, Txn: x}, entry.Entry{Epoch: 9, Kind: entry.Finish, Txn: x})
	for i, a := range all {
		for j, b := range all {
			if got := entry.Same(a, b); got != (i == j) {
				t.Errorf("Same(%v, %v) = %v", a, b, got)
			}
		}
	}
	if !entry.Same(entry.Entry{}, entry.Entry{Txn: entry.Txn{Reads: []entry.Read{}, Writes: []entry.Write{}}}) {
		t.Error("empty lists are none")
	}
}

func TestBytes(t *testing.T) { // P12.2
	for _, c := range []struct {
		txn  entry.Txn
		want string
	}{
		{entry.Txn{}, "\x00\x00\x00\x00\x00"},
		{rightTxns()[3], "\x01\x02\x01\x00\x01\x01a\x01v\x00"},
		{rightTxns()[4], "\x01\x02\x01\x00\x01\x01a\x00\x01"},
		{rightTxns()[5], "\x02\xac\x02\x00\x01\x01a\x01\x02\x01b\x01v\x00\x01c\x00\x01"},
		{entry.Txn{ID: id(3, 1), Reads: reads(read("b", 128), read("a", 0))}, "\x03\x01\x00\x02\x01b\x80\x01\x01a\x00\x00"},
		{entry.Txn{ID: id(-1, 0), Writes: writes(write("", "\xff", true))}, strings.Repeat("\xff", 9) + "\x01\x00\x00\x00\x01\x00\x01\xff\x01"},
	} {
		for _, ahead := range []string{"", "!", "ahead"} {
			if got := c.txn.Bytes([]byte(ahead)); string(got) != ahead+c.want {
				t.Errorf("Bytes(%q) = %q, want %q", ahead, got, ahead+c.want)
			}
		}
	}
}

func TestBytesMemory(t *testing.T) { // P12.2 (rules 4 and 5)
	x := rightTxns()[5]
	b := append(make([]byte, 0, 100), "abc"...)
	one := x.Bytes(b)
	two := x.Bytes(b[:2])
	three := x.Bytes(b[:0])
	one[0], two[1] = 'x', 'y'
	if string(b) != "abc" || string(b[:100][3:]) != strings.Repeat("\x00", 97) {
		t.Error("what was handed in is changed")
	}
	if string(one[1:3]) != "bc" || string(two[:2]) != "ay" || !bytes.Equal(three, x.Bytes(nil)) {
		t.Error("answers are shared")
	}
}

func TestReadTxn(t *testing.T) { // P12.2, P12.3
	for i, x := range rightTxns() {
		r := octet.New(append(x.Bytes(nil), "rest"...))
		got, ok := entry.ReadTxn(r)
		if !ok || !sameTxn(got, x) || r.Bad() || r.Left() != 4 {
			t.Errorf("%d: ReadTxn = %v, %v; %d are left", i, got, ok, r.Left())
		}
	}
	for i, x := range wrongTxns() {
		got, ok := entry.ReadTxn(octet.New(x.Bytes(nil)))
		if ok || !zeroTxn(got) {
			t.Errorf("%d: ReadTxn = %v, %v", i, got, ok)
		}
	}
}

func TestReadTxnTorn(t *testing.T) { // P12.2
	for i, x := range rightTxns() {
		b := x.Bytes(nil)
		for n := range len(b) {
			if got, ok := entry.ReadTxn(octet.New(b[:n])); ok || !zeroTxn(got) {
				t.Errorf("%d: of %d bytes ReadTxn = %v, %v", i, n, got, ok)
			}
		}
	}
	if got, ok := entry.ReadTxn(nil); ok || !zeroTxn(got) {
		t.Error("no reader", got, ok)
	}
	r := octet.New(rightTxns()[0].Bytes(nil))
	r.Text(-1)
	if got, ok := entry.ReadTxn(r); ok || !zeroTxn(got) {
		t.Error("a bad reader", got, ok)
	}
}

// A transaction whose bytes can be read, but that is not right, is read, too: what stands behind it stands next.
func TestReadTxnGoesOn(t *testing.T) { // P12.2
	twice := entry.Txn{ID: id(0, 1), Reads: reads(read("a", 1), read("a", 1))}
	r := octet.New(rightTxns()[0].Bytes(twice.Bytes(nil)))
	if _, ok := entry.ReadTxn(r); ok {
		t.Fatal("a key that is read twice")
	}
	if got, ok := entry.ReadTxn(r); !ok || !sameTxn(got, rightTxns()[0]) || !r.Done() {
		t.Error("the one behind it", got, ok)
	}
}

func TestPutGet(t *testing.T) { // P12.2, P12.3
	for i, e := range rightEntries() {
		b, f := entry.Put(e)
		if f != api.OK {
			t.Fatalf("%d: Put(%v) = %d", i, e, f)
		}
		got, f := entry.Get(b)
		if f != api.OK || !entry.Same(got, e) {
			t.Errorf("%d: Get = %v, %d; want %v", i, got, f, e)
		}
		if again, _ := entry.Put(got); !bytes.Equal(again, b) {
			t.Errorf("%d: put again it is %q, not %q", i, again, b)
		}
	}
}

func TestPutBytes(t *testing.T) { // P12.2
	for _, c := range []struct {
		e    entry.Entry
		want string
	}{
		{entry.Entry{Epoch: 1, Kind: entry.Finish, ID: id(0, 1)}, "\x01\x02\x00\x01\x00"},
		{entry.Entry{Epoch: 300, Kind: entry.Finish, ID: id(5, 128), Code: api.ErrLocked}, "\xac\x02\x02\x05\x80\x01\x0b"},
		{entry.Entry{Epoch: 2, Kind: entry.Finish, ID: id(1, 1), Code: api.ErrStale}, "\x02\x02\x01\x01\x08"},
		{entry.Entry{Epoch: 5, Kind: entry.Part, Txn: rightTxns()[5]}, "\x05\x01\x02\xac\x02\x00\x01\x01a\x01\x02\x01b\x01v\x00\x01c\x00\x01"},
	} {
		if b, f := entry.Put(c.e); f != api.OK || string(b) != c.want {
			t.Errorf("Put(%v) = %q, %d", c.e, b, f)
		}
	}
}

func TestPutRefused(t *testing.T) { // P12.2
	for i, e := range wrongEntries() {
		if b, f := entry.Put(e); f != api.ErrArg || len(b) != 0 {
			t.Errorf("%d: Put(%v) = %q, %d", i, e, b, f)
		}
	}
}

func TestGetRefused(t *testing.T) { // P12.2
	refused := [][]byte{
		nil, {}, {0}, {1}, {1, 0}, {1, 3, 0, 1, 0}, {0, 2, 0, 1, 0}, {1, 2, 0, 0, 0}, {1, 2, 6, 1, 0}, {1, 2, 0, 1, 1}, {1, 2, 0, 1, 13}, {1, 2, 0, 1, 0, 0},
		{0x81, 0, 2, 0, 1, 0}, {1, 2, 0, 1, 0x80, 0}, []byte("\x01\x02\x00\x01\xff\xff\xff\xff\xff\xff\xff\xff\xff\x01"),
	}
	for _, x := range wrongTxns() {
		refused = append(refused, x.Bytes([]byte{1, entry.Part}))
	}
	for _, e := range rightEntries() {
		b, _ := entry.Put(e)
		refused = append(refused, append(slices.Clone(b), 0), append([]byte{0}, b[1:]...))
		for n := range len(b) {
			refused = append(refused, b[:n])
		}
	}
	for _, b := range refused {
		if e, f := entry.Get(b); f != api.ErrForm || !entry.Same(e, entry.Entry{}) {
			t.Errorf("Get(%q) = %v, %d", b, e, f)
		}
	}
}

func TestGetMemory(t *testing.T) { // P12.2 (rules 4 and 5)
	b, _ := entry.Put(rightEntries()[8])
	first := slices.Clone(b)
	e, _ := entry.Get(b)
	for i := range b {
		b[i] = 0
	}
	if again, f := entry.Put(e); f != api.OK || !bytes.Equal(again, first) {
		t.Error("an entry hangs on the bytes it was read of")
	}
	other, _ := entry.Get(first)
	other.Txn.Reads[0].Key = "other"
	if next, _ := entry.Get(first); next.Txn.Reads[0].Key == "other" || e.Txn.Reads[0].Key == "other" {
		t.Error("two answers share a list")
	}
}

// What is read of garbled bytes is refused, or it is an entry whose bytes are just those.
func TestGetGarbled(t *testing.T) { // P12.2, P12.3, P1
	r := rand.New(rand.NewSource(12))
	all := rightEntries()
	for range 20000 {
		b, _ := entry.Put(all[r.Intn(len(all))])
		for range 1 + r.Intn(3) {
			b[r.Intn(len(b))] ^= 1 << r.Intn(8)
		}
		e, f := entry.Get(b)
		if f == api.ErrForm && entry.Same(e, entry.Entry{}) {
			continue
		}
		again, g := entry.Put(e)
		if f != api.OK || g != api.OK || !bytes.Equal(again, b) {
			t.Fatalf("Get(%q) = %v, %d", b, e, f)
		}
	}
}

// Lists that are far beyond the limits are told, too, and in time that grows as they do.
func TestLongLists(t *testing.T) { // P1
	x := entry.Txn{ID: id(0, 1), Reads: manyReads(100000), Writes: manyWrites(100000)}
	if entry.RightTxn(x) || len(x.Keys()) != 200000 || len(x.Shards(4)) != 4 || !sameTxn(x, x) {
		t.Error("long lists")
	}
	if rs, ws := x.Part(0, 1); len(rs) != 100000 || len(ws) != 100000 {
		t.Error("their part")
	}
	if got, ok := entry.ReadTxn(octet.New(x.Bytes(nil))); ok || !zeroTxn(got) {
		t.Error("their bytes are read")
	}
}

func sameTxn(a, b entry.Txn) bool {
	return entry.Same(entry.Entry{Txn: a}, entry.Entry{Txn: b})
}

func zeroTxn(x entry.Txn) bool {
	return sameTxn(x, entry.Txn{})
}
