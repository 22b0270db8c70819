package frame_test

import (
	"bytes"
	"encoding/binary"
	"hash/crc32"
	"math/rand"
	"testing"

	"sautoir/api"
	"sautoir/frame"
)

// some answers n bytes, the same ones at each run.
func some(n int) []byte {
	b := make([]byte, n)
	rand.New(rand.NewSource(int64(n))).Read(b)
	return b
}

// sizes are lengths of records: the edges, those at which a length's second byte begins, and some between.
func sizes() []int {
	return []int{1, 2, 3, 4, 7, 8, 100, 255, 256, 257, 511, 512, 0xC5, 0xC5C5, 65280, 65534, 65535}
}

// framed is a frame, put together by the chapter's words.
func framed(p []byte) []byte {
	body := append([]byte{byte(len(p) / 256), byte(len(p) % 256)}, p...)
	return binary.LittleEndian.AppendUint32(append([]byte{0xC5}, body...), crc32.ChecksumIEEE(body))
}

func mustPut(t *testing.T, p []byte) []byte {
	t.Helper()
	b, e := frame.Put(p)
	if e != api.OK {
		t.Fatalf("Put of %d bytes: %d", len(p), e)
	}
	return b
}

func TestPut(t *testing.T) { // P4.1
	for _, n := range sizes() {
		if got := mustPut(t, some(n)); !bytes.Equal(got, framed(some(n))) {
			t.Errorf("the frame of %d bytes: %d bytes", n, len(got))
		}
	}
	if got := mustPut(t, []byte("a")); len(got) != 8 || !bytes.Equal(got[:4], []byte{0xC5, 0, 1, 'a'}) {
		t.Errorf("the frame of one byte: %v", got)
	}
}

func TestPutOfNoRecord(t *testing.T) { // P4.1
	for _, p := range [][]byte{nil, {}, make([]byte, 65536), make([]byte, 65537), make([]byte, 1<<17+1)} {
		if b, e := frame.Put(p); b != nil || e != api.ErrArg {
			t.Errorf("Put of %d bytes: %v, %d", len(p), b, e)
		}
	}
}

func TestNext(t *testing.T) { // P4.2
	for _, n := range sizes() {
		for _, behind := range []string{"", "x", "\xc5", "\xc5\x00\x00", string(framed([]byte("next")))} {
			b := append(framed(some(n)), behind...)
			p, size, e := frame.Next(b)
			if !bytes.Equal(p, some(n)) || size != n+7 || e != api.OK {
				t.Errorf("Next of %d bytes, %q behind: %d bytes, %d, %d", n, behind, len(p), size, e)
			}
		}
	}
}

// amiss are bytes that begin with no whole frame, with what the chapter answers of each.
func amiss() map[string]api.Errno {
	out := map[string]api.Errno{
		"":                                   api.ErrNone,
		"\x00":                               api.ErrForm,
		"x":                                  api.ErrForm,
		"xy":                                 api.ErrForm,
		"\xc4\x00\x01a\x00\x00\x00\x00":      api.ErrForm,
		"\x00" + string(framed([]byte("a"))): api.ErrForm,
		"\xc5":                               api.ErrMore,
		"\xc5\x00":                           api.ErrMore,
		"\xc5\x01":                           api.ErrMore,
		"\xc5\x00\x00":                       api.ErrForm,
		"\xc5\x00\x00\x00\x00\x00\x00":       api.ErrForm,
		"\xc5\x00\x00\x1c\xdf\x44\x21":       api.ErrForm,
		"\xc5\x00\x01":                       api.ErrMore,
		"\xc5\x00\x01a":                      api.ErrMore,
		"\xc5\x00\x01a\x00\x00\x00":          api.ErrMore,
		"\xc5\x01\x00a\x00\x00\x00\x00":      api.ErrMore,
		"\xc5\x00\x01a\x00\x00\x00\x00":      api.ErrSum,
		"\xc5\x00\x01a\x00\x00\x00\x00x":     api.ErrSum,
	}
	for _, n := range []int{1, 5, 300} {
		b := framed(some(n))
		out[string(b[:len(b)-1])] = api.ErrMore
		for i := 3; i < len(b); i++ {
			turned := bytes.Clone(b)
			turned[i] ^= 1 << (i % 8)
			out[string(turned)] = api.ErrSum
		}
	}
	// The sum is of the number's bytes and the record, not of the record alone, and not of the mark.
	for _, body := range []string{"a", "\xc5\x00\x01a"} {
		out[string(binary.LittleEndian.AppendUint32([]byte("\xc5\x00\x01a"), crc32.ChecksumIEEE([]byte(body))))] = api.ErrSum
	}
	out[string(binary.BigEndian.AppendUint32([]byte("\xc5\x00\x01a"), crc32.ChecksumIEEE([]byte("\x00\x01a"))))] = api.ErrSum
	return out
}

func TestNextAmiss(t *testing.T) { // P4.2
	for s, want := range amiss() {
		if p, size, e := frame.Next([]byte(s)); p != nil || size != 0 || e != want {
			t.Errorf("Next(%q) = %v, %d, %d, want %d", s, p, size, e, want)
		}
	}
	if _, _, e := frame.Next(nil); e != api.ErrNone {
		t.Errorf("Next(nil): %d", e)
	}
}

func TestOpen(t *testing.T) { // P4.2
	for _, n := range sizes() {
		if p, e := frame.Open(framed(some(n))); !bytes.Equal(p, some(n)) || e != api.OK {
			t.Errorf("Open of %d bytes: %d bytes, %d", n, len(p), e)
		}
		for _, behind := range []string{"x", "\xc5", "\x00", string(framed([]byte("next")))} {
			if p, e := frame.Open(append(framed(some(n)), behind...)); p != nil || e != api.ErrForm {
				t.Errorf("Open of %d bytes, %q behind: %v, %d", n, behind, p, e)
			}
		}
	}
	for s, want := range amiss() {
		if p, e := frame.Open([]byte(s)); p != nil || e != want {
			t.Errorf("Open(%q) = %v, %d, want %d", s, p, e, want)
		}
	}
}

// row answers the frames of records of 0 to count bytes more than one, and where each of them ends.
func row(count int) (records [][]byte, b []byte, ends []int) {
	for i := range count {
		records = append(records, some(1+i*i))
		b = append(b, framed(records[i])...)
		ends = append(ends, len(b))
	}
	return records, b, ends
}

func sameRecords(a, b [][]byte) bool {
	if len(a) != len(b) {
		return false
	}
	for i := range a {
		if !bytes.Equal(a[i], b[i]) {
			return false
		}
	}
	return true
}

func TestAll(t *testing.T) { // P4.2
	records, b, ends := row(8)
	for s, want := range amiss() {
		for n := range records {
			end := 0
			if n > 0 {
				end = ends[n-1]
			}
			got, size, e := frame.All(append(bytes.Clone(b[:end]), s...))
			if !sameRecords(got, records[:n]) || size != end || e != want {
				t.Fatalf("All of %d records and %q: %d records, %d, %d, want %d", n, s, len(got), size, e, want)
			}
		}
	}
}

func TestAllOfTornFrames(t *testing.T) { // P4.3
	records, b, ends := row(12)
	whole, end := 0, 0
	for cut := range len(b) + 1 {
		if whole < len(ends) && cut == ends[whole] {
			end = cut
			whole++
		}
		want := api.ErrMore
		if cut == end {
			want = api.ErrNone
		}
		got, size, e := frame.All(b[:cut])
		if !sameRecords(got, records[:whole]) || size != end || e != want {
			t.Fatalf("All of %d bytes: %d records, %d, %d; want %d, %d, %d", cut, len(got), size, e, whole, end, want)
		}
	}
}

func TestTurnedBits(t *testing.T) { // P4.4
	rnd := rand.New(rand.NewSource(4))
	for _, n := range []int{1, 2, 6, 40, 256} {
		b := mustPut(t, some(n))
		for from := range len(b) * 8 {
			for round := range 40 {
				turned, pattern := bytes.Clone(b), rnd.Uint32()|1
				if round < 32 {
					pattern = 1<<round | 1
				}
				for i := range min(32, len(b)*8-from) {
					turned[(from+i)/8] ^= byte(pattern>>i&1) << ((from + i) % 8)
				}
				if p, e := frame.Open(turned); e == api.OK || p != nil {
					t.Fatalf("%d bytes, bits %x from %d on: opened", n, pattern, from)
				}
			}
		}
	}
}

func TestOwnMemory(t *testing.T) { // P1
	p := some(20)
	b := mustPut(t, p)
	two := append(bytes.Clone(b), b...)
	again, one := bytes.Clone(b), mustPut(t, p)
	one[5]++
	_ = append(one[:len(one):cap(one)], 1)
	if !bytes.Equal(p, some(20)) || !bytes.Equal(mustPut(t, p), again) {
		t.Error("what Put answers is the record's memory")
	}
	next, _, _ := frame.Next(two)
	open, _ := frame.Open(b)
	all, _, _ := frame.All(two)
	for i, got := range [][]byte{next, open, all[0], all[1]} {
		if !bytes.Equal(got, p) {
			t.Errorf("record %d was written into: %v", i, got)
		}
		for j := range got {
			got[j]++
		}
		_ = append(got[:len(got):cap(got)], make([]byte, cap(got)-len(got))...)
	}
	if !bytes.Equal(b, again) || !bytes.Equal(two, append(bytes.Clone(again), again...)) {
		t.Error("what is answered is the memory of what was handed in")
	}
}

func TestAllBytesOfAnyKind(t *testing.T) { // P1
	rnd := rand.New(rand.NewSource(5))
	for range 20000 {
		b := make([]byte, rnd.Intn(24))
		rnd.Read(b)
		if len(b) > 2 && rnd.Intn(4) > 0 {
			b[0], b[1], b[2] = 0xC5, 0, byte(rnd.Intn(20))
		}
		p, size, e := frame.Next(b)
		if (e == api.OK) != (p != nil) || (e == api.OK) != (size > 0) || size > len(b) {
			t.Fatalf("Next(%v) = %v, %d, %d", b, p, size, e)
		}
		if _, _, e := frame.All(b); e == api.OK {
			t.Fatalf("All(%v) has no end", b)
		}
	}
}
