package letter_test

import (
	"bytes"
	"math/rand"
	"slices"
	"strings"
	"testing"

	"sautoir/api"
	"sautoir/conf"
	"sautoir/entry"
	"sautoir/frame"
	"sautoir/letter"
	"sautoir/octet"
)

// framed answers the frame of the record b.
func framed(t *testing.T, b []byte) []byte {
	t.Helper()
	f, e := frame.Put(b)
	if e != api.OK {
		t.Fatalf("no frame of %d bytes: %d", len(b), e)
	}
	return f
}

// put answers the bytes of l, which is right.
func put(t *testing.T, l letter.Letter) []byte {
	t.Helper()
	b, e := letter.Put(l)
	if e != api.OK {
		t.Fatalf("Put(%v) = %d", l, e)
	}
	return b
}

// expectRefused holds that b is not opened, with that error.
func expectRefused(t *testing.T, name string, b []byte, want api.Errno) {
	t.Helper()
	if l, e := letter.Open(b); e != want || !zero(l) {
		t.Errorf("%s: Open(%q) = %v, %d; want %d", name, b, l, e, want)
	}
}

func TestPut(t *testing.T) { // P17.2
	for _, r := range rows() {
		l, want := sample(r)
		p, e := frame.Open(put(t, l))
		if e != api.OK || string(p) != want {
			t.Errorf("%s: %q, %d; want %q", r.name, p, e, want)
		}
	}
}

func TestExample(t *testing.T) { // P17.2
	b := put(t, letter.Letter{From: client(0), To: master(1), Kind: letter.Know})
	if want := framed(t, []byte{3, 0, 1, 1, 3}); len(b) != 12 || !bytes.Equal(b, want) {
		t.Errorf("the chapter's example: %q", b)
	}
}

func TestPutRefused(t *testing.T) { // P17.2, P1
	for _, l := range wrongLetters() {
		if b, e := letter.Put(l); e != api.ErrArg || len(b) != 0 {
			t.Errorf("Put(%v) = %q, %d", l, b, e)
		}
	}
}

func TestOpen(t *testing.T) { // P17.2, P17.3
	for _, l := range rightLetters() {
		b := put(t, l)
		got, e := letter.Open(b)
		if e != api.OK || !letter.Same(got, l) || !letter.Right(got) {
			t.Errorf("Open = %v, %d; want %v", got, e, l)
		}
		if again := put(t, got); !bytes.Equal(again, b) {
			t.Errorf("put again: %q, not %q", again, b)
		}
	}
}

func TestLongest(t *testing.T) { // P17.2: the greatest letters have room in a frame
	longest := 0
	for _, l := range rightLetters() {
		longest = max(longest, len(put(t, l)))
	}
	// 400 votes of 3, 11 and 65 bytes are the most that any letter has.
	if longest < api.MaxLog*79 || longest > api.MaxFrame {
		t.Errorf("the longest one has %d bytes", longest)
	}
}

func TestOpenFrames(t *testing.T) { // P17.2
	l, _ := sample(rows()[20])
	b := put(t, l)
	expectRefused(t, "no bytes", nil, api.ErrNone)
	expectRefused(t, "no bytes", []byte{}, api.ErrNone)
	expectRefused(t, "another mark", append([]byte{0xC4}, b[1:]...), api.ErrForm)
	expectRefused(t, "a length of 0", []byte{0xC5, 0, 0, 1, 2, 3, 4}, api.ErrForm)
	for n := 1; n < len(b); n++ {
		expectRefused(t, "torn", b[:n], api.ErrMore)
	}
	turned := slices.Clone(b)
	turned[4] ^= 1
	expectRefused(t, "turned", turned, api.ErrSum)
	expectRefused(t, "a byte behind", append(slices.Clone(b), 0), api.ErrForm)
	expectRefused(t, "a frame behind", append(slices.Clone(b), b...), api.ErrForm)
}

// Whole frames, in which there is not just a right letter.
func TestOpenRefused(t *testing.T) { // P17.2
	for _, r := range rows() {
		_, s := sample(r)
		expectRefused(t, r.name+" and a byte", framed(t, []byte(s+"\x00")), api.ErrForm)
		for n := 1; n < len(s); n++ {
			expectRefused(t, r.name+" that is torn", framed(t, []byte(s[:n])), api.ErrForm)
		}
		for i, ahead := range []string{
			"\x00\x00\x01\x00", "\x04\x00\x01\x00", "\x01\x05\x01\x00", "\x02\x08\x01\x00", "\x03\x06\x01\x00",
			"\x01\x00\x00\x00", "\x01\x00\x04\x00", "\x01\x00\x01\x05", "\x01\x00\x02\x08", "\x01\x00\x03\x06",
			"\x81\x00\x00\x01\x00", "\x01\x80\x00\x01\x00", strings.Repeat("\xff", 9) + "\x01\x00\x01\x00",
		} {
			if e := openOf(t, ahead+s[4:]); e != api.ErrForm {
				t.Errorf("%s, addresses %d: %d", r.name, i, e)
			}
		}
	}
	for _, kind := range []string{"\x00", "\x16", "\x7f", "\x83\x00", strings.Repeat("\xff", 9) + "\x01"} {
		if e := openOf(t, "\x02\x07\x03\x05"+kind); e != api.ErrForm {
			t.Errorf("Kind %q: %d", kind, e)
		}
	}
}

// openOf answers the error with which a record's frame is opened; -1, if more than that is told beside one.
func openOf(t *testing.T, p string) api.Errno {
	t.Helper()
	l, e := letter.Open(framed(t, []byte(p)))
	if e != api.OK && !zero(l) {
		return -1
	}
	return e
}

// Each field's bytes in place of those of a right letter, one by one.
func TestOpenFields(t *testing.T) { // P17.2
	long := string(octet.Text(nil, strings.Repeat("v", api.MaxVal+1)))
	great := strings.Repeat("\xff", 9) + "\x01"
	vote := "\x00\x01\x01\x00"
	finished := "\x05\x06\x02\x01\x04\x08"
	wrong := map[string][]string{
		"Shard":   {"\x04", great, "\x83\x00"},
		"Epoch":   {strings.Repeat("\xff", 9) + "\x02", "\x80\x00", "\xac\x82\x00"},
		"N":       {"\x81\x80\x40", great, "\x80\x80\xc0\x00"},
		"M":       {"\x81\x80\x40", great},
		"Node":    {"\x08", great},
		"Flag":    {"\x02", "\x81\x00"},
		"Ballot":  {"\x01\x05", "\x01\x06", "\x80\x00\x01"},
		"Votes":   {"\x01\x81\x80\x40\x01\x01\x00", "\x01\x00\x01\x05\x00", "\x01\x00\x01\x01" + long, "\x02" + vote, "\x91\x03" + strings.Repeat(vote, api.MaxLog+1), great},
		"Confs":   {"\x05" + strings.Repeat("\x09\x01\x01\x03\x01\x08", 5), "\x01\x00\x01\x01\x03\x01\x08", "\x01\x09\x01\x01\x03\x00\x08", "\x01\x09\x01\x01\x03\x01\x03", "\x01\x09\x01\x00\x08"},
		"ID":      {"\x06\x01", "\x00\x00", great + "\x01"},
		"Val":     {long, "\xff", great},
		"Num":     {strings.Repeat("\xff", 9) + "\x02", "\x80\x00"},
		"Entries": {"\x09" + strings.Repeat(finished, 9), "\x01\x00", "\x01\x06\x06\x02\x01\x04\x08\x00", "\x01\x05\x06\x02\x01\x04\x01", "\x01\x05\x00\x02\x01\x04\x08", "\x02" + finished, great},
		"Txn":     {"\x02\x01\x00\x00\x00", "\x02\x00\x00\x01\x01a\x01\x00", "\x06\x01\x00\x01\x01a\x01\x00", "\x02\x01\x00\x02\x01a\x01\x01a\x01\x00", "\x02\x01\x01\x01\x01a\x01\x00"},
		"Code":    {"\x64", great, "\x86\x00"},
	}
	all := traits()
	for _, r := range rows() {
		names := strings.Fields(r.fields)
		for i, name := range names {
			for _, w := range wrong[name] {
				b := "\x02\x07\x03\x05" + string(rune(r.kind))
				for j, other := range names {
					if i == j {
						b += w
					} else {
						b += all[other].bytes
					}
				}
				if e := openOf(t, b); e != api.ErrForm {
					t.Errorf("%s with %s %q: %d", r.name, name, w, e)
				}
			}
		}
	}
}

// A Kind's bytes are not read as those of another one: what a letter of them says is put just so again.
func TestOpenGarbled(t *testing.T) { // P17.2, P1
	r := rand.New(rand.NewSource(17))
	var all [][]byte
	for _, x := range rows() {
		_, s := sample(x)
		all = append(all, []byte(s))
	}
	opened := 0
	for range 40000 {
		p := slices.Clone(all[r.Intn(len(all))])
		for range 1 + r.Intn(3) {
			p[r.Intn(len(p))] = byte(r.Intn(256)) >> r.Intn(8)
		}
		b := framed(t, p)
		l, e := letter.Open(b)
		if e == api.ErrForm && zero(l) {
			continue
		}
		if e != api.OK || !letter.Right(l) || !bytes.Equal(put(t, l), b) {
			t.Fatalf("Open(%q) = %v, %d", b, l, e)
		}
		opened++
	}
	if opened < 1000 {
		t.Errorf("%d were opened: too few to try it", opened)
	}
}

// Bytes of any kind end in an answer.
func TestOpenAnything(t *testing.T) { // P1
	r := rand.New(rand.NewSource(18))
	for range 20000 {
		p := make([]byte, 1+r.Intn(60))
		for i := range p {
			p[i] = byte(r.Intn(256)) >> r.Intn(8)
		}
		l, e := letter.Open(p)
		if e == api.OK || !zero(l) {
			t.Fatalf("Open(%q) = %v, %d", p, l, e)
		}
		if b := framed(t, p); openOf(t, string(p)) == api.OK {
			l, _ := letter.Open(b)
			if !bytes.Equal(put(t, l), b) {
				t.Fatalf("%q is opened as %v", p, l)
			}
		}
	}
}

// TestTurned turns bits within 32 next to one another, each byte's lowest one first.
func TestTurned(t *testing.T) { // P17.3
	r := rand.New(rand.NewSource(19))
	for _, x := range rows() {
		l, _ := sample(x)
		b := put(t, l)
		for at := range 8*len(b) - 31 {
			for _, bits := range []uint32{1, 1 << 31, 1<<32 - 1, 1 | 1<<31, r.Uint32() | 1, r.Uint32() | 1<<31, r.Uint32()} {
				if bits == 0 {
					continue
				}
				if got, e := letter.Open(turn(b, at, bits)); e == api.OK || !zero(got) {
					t.Fatalf("%s: %x at %d: %v, %d", x.name, bits, at, got, e)
				}
			}
		}
	}
}

// turn answers b with those of the 32 bits from at on turned for which bits has a 1.
func turn(b []byte, at int, bits uint32) []byte {
	b = slices.Clone(b)
	for i := range 32 {
		if bits>>i&1 == 1 {
			b[(at+i)/8] ^= 1 << ((at + i) % 8)
		}
	}
	return b
}

// TestMemory: a call touches nothing that it is given, and its answer has memory of its own.
func TestMemory(t *testing.T) { // P17.2 (rules 4 and 5)
	for _, r := range rows() {
		l, s := sample(r)
		before := clone(l)
		b := put(t, l)
		spoil(l)
		if p, _ := frame.Open(b); string(p) != s {
			t.Errorf("%s: bytes hang on the letter that was put", r.name)
		}
		kept := slices.Clone(b)
		one, _ := letter.Open(b)
		two, _ := letter.Open(b)
		if !bytes.Equal(b, kept) {
			t.Errorf("%s: Open writes into what it reads", r.name)
		}
		clear(b)
		_ = append(b, 1)
		spoil(one)
		three, _ := letter.Open(kept)
		if !letter.Same(two, before) || !letter.Same(three, before) {
			t.Errorf("%s: answers share memory", r.name)
		}
	}
}

// spoil writes into all lists of l, and behind them.
func spoil(l letter.Letter) {
	for i := range l.Confs {
		for j := range l.Confs[i].Chain {
			l.Confs[i].Chain[j], l.Confs[i].Full[j] = 77, false
		}
		_ = append(l.Confs[i].Chain, 78)
		_ = append(l.Confs[i].Full, true)
	}
	for i := range l.Entries {
		spoilTxn(l.Entries[i].Txn)
	}
	spoilTxn(l.Txn)
	clear(l.Votes)
	clear(l.Confs)
	clear(l.Entries)
	_ = append(l.Votes, letter.Vote{Slot: 78})
	_ = append(l.Confs, conf.Conf{Epoch: 78})
	_ = append(l.Entries, entry.Entry{Epoch: 78})
}

func spoilTxn(x entry.Txn) {
	clear(x.Reads)
	clear(x.Writes)
	_ = append(x.Reads, entry.Read{Key: "x"})
	_ = append(x.Writes, entry.Write{Key: "x"})
}
