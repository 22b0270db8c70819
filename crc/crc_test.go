package crc_test

import (
	"bytes"
	"hash/crc32"
	"math/rand"
	"slices"
	"testing"

	"sautoir/crc"
)

// rows are byte rows of many lengths, the same at each run.
func rows(seed int64) [][]byte {
	rnd := rand.New(rand.NewSource(seed))
	out := [][]byte{nil, {0}, {0, 0, 0, 0}, {255}, {255, 255, 255, 255}, []byte("123456789")}
	for n := range 40 {
		b := make([]byte, n)
		rnd.Read(b)
		out = append(out, b)
	}
	return out
}

// slowly follows the chapter's words bit by bit, with a branch where the program has a mask.
func slowly(state uint32, b []byte) uint32 {
	for _, x := range b {
		state ^= uint32(x)
		for range 8 {
			low := state % 2
			state /= 2
			if low == 1 {
				state ^= 0xEDB88320
			}
		}
	}
	return state
}

func TestExamples(t *testing.T) { // P2.1
	b := []byte("123456789")
	if got := crc.Of(b); got != 0xCBF43926 {
		t.Errorf("Of(123456789) = %X", got)
	}
	if got := crc.More(1<<32-1, b); got != 0xCBF43926^0xFFFFFFFF {
		t.Errorf("More(2^32 - 1, 123456789) = %X", got)
	}
	if crc.Of(nil) != 0 || crc.Of([]byte{}) != 0 || crc.Of([]byte{0}) != 0xD202EF8D || crc.Of([]byte{255}) != 0xFF000000 {
		t.Error("Of nothing, of 0, of 255")
	}
}

func TestMore(t *testing.T) { // P2.1
	for _, state := range []uint32{0, 1, 2, 255, 0x80000000, 0xEDB88320, 1<<32 - 1} {
		if got := crc.More(state, nil); got != state {
			t.Errorf("More(%X, nothing) = %X", state, got)
		}
		for _, b := range rows(1) {
			if got, want := crc.More(state, b), slowly(state, b); got != want {
				t.Errorf("More(%X, %v) = %X, want %X", state, b, got, want)
			}
		}
		for x := range 256 {
			b := []byte{byte(x)}
			if got, want := crc.More(state, b), slowly(state, b); got != want {
				t.Errorf("More(%X, %d) = %X, want %X", state, x, got, want)
			}
		}
	}
}

func TestOf(t *testing.T) { // P2.1
	for _, b := range append(rows(2), bytes.Repeat([]byte("sautoir"), 10000)) {
		if got, want := crc.Of(b), crc32.ChecksumIEEE(b); got != want {
			t.Errorf("Of(%d bytes) = %X, want %X", len(b), got, want)
		}
	}
}

func TestSeal(t *testing.T) { // P2.2
	if got := crc.Seal([]byte("123456789")); string(got) != "123456789\x26\x39\xf4\xcb" {
		t.Errorf("Seal(123456789) = %q", got)
	}
	if got := crc.Seal(nil); !bytes.Equal(got, []byte{0, 0, 0, 0}) {
		t.Errorf("Seal(nothing) = %v", got)
	}
	for _, b := range rows(3) {
		s := crc.Seal(b)
		sum := crc32.ChecksumIEEE(b)
		want := append(slices.Clone(b), byte(sum), byte(sum>>8), byte(sum>>16), byte(sum>>24))
		if !bytes.Equal(s, want) || !crc.Whole(s) {
			t.Errorf("Seal(%v) = %v, want %v, whole %v", b, s, want, crc.Whole(s))
		}
	}
}

func TestSealIsApart(t *testing.T) { // P2.2, rules 4 and 5
	room := []byte("abcdefghijkl")
	s := crc.Seal(room[:3])
	if string(room) != "abcdefghijkl" {
		t.Errorf("Seal wrote behind what it was given: %q", room)
	}
	copy(room, "????????????")
	if !crc.Whole(s) || string(s[:3]) != "abc" {
		t.Error("the answer shares memory with its argument")
	}
	one, two := append(s, 1), append(s, 2)
	if one[len(s)] != 1 || two[len(s)] != 2 {
		t.Error("what is appended twice is shared")
	}
	was := string(s)
	if crc.Of(s); !crc.Whole(s) || string(s) != was {
		t.Error("Of or Whole changes what it was given")
	}
}

func TestWhole(t *testing.T) { // P2.2
	for n := range 4 {
		if crc.Whole(make([]byte, n)) {
			t.Errorf("%d bytes are whole", n)
		}
	}
	if crc.Whole(nil) {
		t.Error("nil is whole")
	}
	if !crc.Whole([]byte{0, 0, 0, 0}) {
		t.Error("four zeros are nothing, and its sum")
	}
	s := crc.Seal([]byte("123456789"))
	n := len(s)
	highestFirst := []byte("123456789\xcb\xf4\x39\x26")
	for name, b := range map[string][]byte{
		"less by a byte":    s[:n-1],
		"a byte behind":     append(slices.Clone(s), 0),
		"the first is gone": s[1:],
		"highest first":     highestFirst,
		"no sum":            []byte("123456789"),
		"five zeros":        make([]byte, 5),
	} {
		if crc.Whole(b) {
			t.Errorf("whole: %s", name)
		}
	}
}

func TestMoreOfParts(t *testing.T) { // P2.3
	for _, state := range []uint32{0, 7, 1<<32 - 1} {
		for _, b := range rows(4) {
			for cut := range len(b) + 1 {
				if crc.More(crc.More(state, b[:cut]), b[cut:]) != crc.More(state, b) {
					t.Fatalf("More(%X, %v), cut at %d", state, b, cut)
				}
			}
		}
	}
}

func TestMoreOfRowsTogether(t *testing.T) { // P2.3
	rnd := rand.New(rand.NewSource(5))
	for _, a := range rows(6) {
		b, both := make([]byte, len(a)), make([]byte, len(a))
		rnd.Read(b)
		for i := range a {
			both[i] = a[i] ^ b[i]
		}
		s, u := rnd.Uint32(), rnd.Uint32()
		if crc.More(s^u, both) != crc.More(s, a)^crc.More(u, b) {
			t.Errorf("More of %v and %v, put together", a, b)
		}
	}
}

// turned is b with the bits of burst turned, from bit first on, each byte's lowest one first; nil, if they reach beyond b.
func turned(b []byte, first int, burst uint32) []byte {
	out := slices.Clone(b)
	for i := range 32 {
		if burst>>i&1 == 0 {
			continue
		}
		at := first + i
		if at >= 8*len(b) {
			return nil
		}
		out[at/8] ^= 1 << (at % 8)
	}
	return out
}

func TestTurnedBits(t *testing.T) { // P2.4
	rnd := rand.New(rand.NewSource(7))
	bursts := []uint32{1<<32 - 1, 0x80000001, 0xEDB88320, 0xEDB88321, 0x04C11DB7, 0xDB710641, 0xFFFF0000, 0x55555555}
	for i := range 32 {
		bursts = append(bursts, 1<<i, 1<<i|1, 1<<i-1|1, rnd.Uint32()>>i|1)
	}
	for _, b := range rows(8) {
		s := crc.Seal(b)
		for first := range 8 * len(s) {
			for _, burst := range bursts {
				if got := turned(s, first, burst); got != nil && crc.Whole(got) {
					t.Fatalf("%v is whole with bits %X turned from %d on", s, burst, first)
				}
			}
		}
	}
}

func TestAllShortBursts(t *testing.T) { // P2.4: each burst within 16 bits, at each place
	s := crc.Seal([]byte("edge"))
	for first := range 8 * len(s) {
		for burst := uint32(1); burst < 1<<16; burst += 2 {
			if got := turned(s, first, burst); got != nil && crc.Whole(got) {
				t.Fatalf("whole with bits %X turned from %d on", burst, first)
			}
		}
	}
}

func TestAnyBytes(t *testing.T) { // P1: no bytes make a call panic, and only sealed ones are whole
	rnd := rand.New(rand.NewSource(9))
	for range 20000 {
		b := make([]byte, rnd.Intn(12))
		rnd.Read(b)
		want := len(b) >= 4 && bytes.Equal(crc.Seal(b[:len(b)-4]), b)
		if crc.Whole(b) != want {
			t.Fatalf("Whole(%v) = %v", b, !want)
		}
	}
}
