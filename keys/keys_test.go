package keys_test

import (
	"math"
	"math/rand"
	"slices"
	"strings"
	"testing"

	"sautoir/keys"
)

// letters are all bytes that keys and values are made of.
const letters = "abcdefghijklmnopqrstuvwxyz0123456789_"

// counts are numbers of shards, right and wrong, by how they are taken.
func counts() map[int]int {
	return map[int]int{1: 1, 2: 2, 3: 3, 4: 4, 5: 4, 9: 4, 256: 4, 1 << 32: 4, math.MaxInt: 4, 0: 1, -1: 1, -2: 1, -1 << 32: 1, math.MinInt: 1}
}

// texts are keys, and texts that are none.
func texts() []string {
	return []string{
		"", "a", "b", "c", "d", "z", "_", "0", "9", "key", "key_1", "yek", letters[:32], strings.Repeat("k", 33), strings.Repeat("z", 1000),
		"A", "a b", "-", "\x00", "\x7f", "\x80", "\xff", "\xff\xff\xff\xff", "ä", "€uro", "a\x00", "\n",
	}
}

func TestRightOfEachByte(t *testing.T) { // P8.1
	for c := range 256 {
		s := string([]byte{byte(c)})
		want := strings.Contains(letters, s)
		for _, text := range []string{s, s + "a", "a" + s, "a" + s + "9", strings.Repeat("_", 31) + s} {
			if keys.Right(text) != want || keys.RightVal(text) != want {
				t.Errorf("%q: Right %v, RightVal %v, want %v", text, keys.Right(text), keys.RightVal(text), want)
			}
		}
	}
}

func TestRightByLength(t *testing.T) { // P8.1
	for n := range 200 {
		s := strings.Repeat(letters, 6)[:n]
		if got, want := keys.Right(s), n >= 1 && n <= 32; got != want {
			t.Errorf("Right of %d bytes: %v", n, got)
		}
		if got, want := keys.RightVal(s), n <= 64; got != want {
			t.Errorf("RightVal of %d bytes: %v", n, got)
		}
	}
}

func TestRightOfTheLastByte(t *testing.T) { // P8.1
	for _, bad := range []string{"A", "Z", "-", " ", "\x00", "`", "{", "/", ":", "^", "\xe1"} {
		if keys.Right(strings.Repeat("a", 31)+bad) || keys.RightVal(strings.Repeat("a", 63)+bad) {
			t.Errorf("%q at the end", bad)
		}
	}
	// These are right as runes, if only their lowest bits are seen, but no bytes of them are.
	for _, s := range []string{"š", "ａ", "٣", "\u0161\u0130", "\xc1\xa1"} {
		if keys.Right(s) || keys.RightVal(s) {
			t.Errorf("%q may be", s)
		}
	}
}

func TestNumberExamples(t *testing.T) { // P8.1
	for key, want := range map[string]uint32{
		"": 5381, "a": 177604, "b": 177607, "ab": 5860902, "\xff": 177498,
	} {
		if got := keys.Number(key); got != want {
			t.Errorf("Number(%q) = %d, want %d", key, got, want)
		}
	}
}

// number works the number out with more bits, and takes the rest at each byte.
func number(key string) uint64 {
	h := uint64(5381)
	for _, c := range []byte(key) {
		h = (h * 33 % (1 << 32)) ^ uint64(c)
	}
	return h
}

func TestNumberOfAnyText(t *testing.T) { // P8.1, P1
	rnd := rand.New(rand.NewSource(8))
	some := texts()
	for range 2000 {
		b := make([]byte, rnd.Intn(70))
		rnd.Read(b)
		some = append(some, string(b))
	}
	for _, s := range some {
		if got := keys.Number(s); uint64(got) != number(s) {
			t.Errorf("Number(%q) = %d, want %d", s, got, number(s))
		}
	}
}

func TestShard(t *testing.T) { // P8.1
	for _, key := range texts() {
		for n, taken := range counts() {
			if got, want := keys.Shard(key, n), int(number(key)%uint64(taken)); got != want {
				t.Errorf("Shard(%q, %d) = %d, want %d", key, n, got, want)
			}
		}
	}
	if keys.Shard("a", 2) != 0 || keys.Shard("b", 2) != 1 || keys.Shard("b", 4) != 3 || keys.Shard("b", 1) != 0 {
		t.Error("the shards of a and b")
	}
}

func TestShardOfGreatNumbers(t *testing.T) { // P8.1
	// A number above 2^31 has no negative rest.
	found := 0
	for _, c := range letters {
		key := "long_enough_" + string(c)
		if number(key) >= 1<<31 {
			found++
		}
		if got := keys.Shard(key, 3); got != int(number(key)%3) {
			t.Errorf("Shard(%q, 3) = %d", key, got)
		}
	}
	if found == 0 {
		t.Error("no key with a number above 2^31")
	}
}

func TestShards(t *testing.T) { // P8.1
	// The numbers' rests modulo 4 of these: a 0, b 3, c 2, d 1.
	for _, c := range []struct {
		l    string
		n    int
		want []int
	}{
		{"", 4, nil},
		{"a", 4, []int{0}},
		{"b", 4, []int{3}},
		{"b a", 4, []int{0, 3}},
		{"a b c d", 4, []int{0, 1, 2, 3}},
		{"d c b a", 4, []int{0, 1, 2, 3}},
		{"b c b c b", 4, []int{2, 3}},
		{"b d", 2, []int{1}},
		{"b a b", 2, []int{0, 1}},
		{"d c b a", 1, []int{0}},
		{"d c b a", 0, []int{0}},
		{"d c b a", math.MinInt, []int{0}},
		{"d c b a", math.MaxInt, []int{0, 1, 2, 3}},
	} {
		if got := keys.Shards(strings.Fields(c.l), c.n); !slices.Equal(got, c.want) {
			t.Errorf("Shards(%s, %d) = %v, want %v", c.l, c.n, got, c.want)
		}
	}
	if got := keys.Shards(nil, 4); len(got) != 0 {
		t.Errorf("Shards of nil: %v", got)
	}
}

func TestShardsOfAnyList(t *testing.T) { // P8.1, P1
	rnd := rand.New(rand.NewSource(9))
	some := texts()
	for range 2000 {
		l := make([]string, rnd.Intn(8))
		for i := range l {
			l[i] = some[rnd.Intn(len(some))]
		}
		for n := range counts() {
			var want []int
			for _, key := range l {
				want = append(want, keys.Shard(key, n))
			}
			slices.Sort(want)
			want = slices.Compact(want)
			if got := keys.Shards(l, n); !slices.Equal(got, want) {
				t.Fatalf("Shards(%q, %d) = %v, want %v", l, n, got, want)
			}
		}
	}
}

func TestShardsLeavesItsArgument(t *testing.T) { // P8.1, rules 4 and 5
	l := []string{"b", "a", "b", "d"}
	one, other := keys.Shards(l, 4), keys.Shards(l, 4)
	if !slices.Equal(l, []string{"b", "a", "b", "d"}) {
		t.Errorf("the list was changed: %q", l)
	}
	one[0] = 9
	_ = append(one, 9)
	if again := keys.Shards(l, 4); !slices.Equal(other, []int{0, 1, 3}) || !slices.Equal(again, other) {
		t.Errorf("answers share memory: %v, %v", other, again)
	}
}

func TestEachKeyIsOfOneShard(t *testing.T) { // P8.2
	for _, key := range texts() {
		for n, taken := range counts() {
			shard := keys.Shard(key, n)
			if shard < 0 || shard >= taken || keys.Shard(key, n) != shard || keys.Shard(strings.Clone(key), n) != shard {
				t.Errorf("Shard(%q, %d) = %d", key, n, shard)
			}
			if l := keys.Shards([]string{key, key}, n); !slices.Equal(l, []int{shard}) {
				t.Errorf("Shards of %q twice, of %d: %v", key, n, l)
			}
		}
	}
}
