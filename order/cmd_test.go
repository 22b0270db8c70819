package order_test

import (
	"math"
	"math/rand"
	"strings"
	"testing"

	"sautoir/api"
	"sautoir/order"
)

func cmd(kind, shard int, epoch uint64, node int) order.Cmd {
	return order.Cmd{Kind: kind, Shard: shard, Epoch: epoch, Node: node}
}

// number answers the bytes of n, seven bits a byte.
func number(n uint64) string {
	if n < 128 {
		return string([]byte{byte(n)})
	}
	return string([]byte{byte(n%128) + 128}) + number(n/128)
}

// rightCmds are right, at the edges that the chapter names.
func rightCmds() []order.Cmd {
	var l []order.Cmd
	for kind := 1; kind <= 4; kind++ {
		for shard := range api.MaxShards {
			for node := range api.MaxServers {
				for _, epoch := range []uint64{1, 2, 127, 128, 300, 1 << 14, 1 << 32, math.MaxInt64, math.MaxUint64 - 1, math.MaxUint64} {
					l = append(l, cmd(kind, shard, epoch, node))
				}
			}
		}
	}
	return l
}

// wrongCmds are each wrong for one reason, but the first one.
func wrongCmds() []order.Cmd {
	l := []order.Cmd{{}, cmd(1, 0, 0, 0), cmd(4, 3, 0, 7)}
	for _, kind := range []int{0, -1, 5, 1 << 32, 1<<32 + 1, math.MinInt, math.MaxInt} {
		l = append(l, cmd(kind, 0, 1, 0))
	}
	for _, shard := range []int{-1, api.MaxShards, 1 << 32, math.MinInt, math.MaxInt} {
		l = append(l, cmd(1, shard, 1, 0))
	}
	for _, node := range []int{-1, api.MaxServers, 1 << 32, math.MinInt, math.MaxInt} {
		l = append(l, cmd(4, 0, 1, node))
	}
	return l
}

// put answers the text of c, which is right.
func put(t *testing.T, c order.Cmd) string {
	t.Helper()
	s, e := order.Put(c)
	if e != api.OK {
		t.Fatalf("Put(%v) = %d", c, e)
	}
	return s
}

func TestKinds(t *testing.T) { // P21.1
	if order.Remove != 1 || order.Learn != 2 || order.Promote != 3 || order.Mark != 4 {
		t.Error("the kinds' numbers")
	}
}

func TestPut(t *testing.T) { // P21.1
	for _, c := range rightCmds() {
		want := number(uint64(c.Kind)) + number(uint64(c.Shard)) + number(c.Epoch) + number(uint64(c.Node))
		if s := put(t, c); s != want {
			t.Errorf("Put(%v) = %q, not %q", c, s, want)
		}
		if d, e := order.Get(want); d != c || e != api.OK {
			t.Errorf("Get(%q) = %v, %d, not %v", want, d, e, c)
		}
	}
}

func TestPutRefused(t *testing.T) { // P21.1, P1
	for _, c := range wrongCmds() {
		if s, e := order.Put(c); s != "" || e != api.ErrArg {
			t.Errorf("Put(%v) = %q, %d", c, s, e)
		}
	}
}

// noTexts are texts of no right command.
func noTexts() []string {
	l := []string{
		"", "\x00", "\x01", "x", "\xff", strings.Repeat("\x01", 5), strings.Repeat("\x80", 4), strings.Repeat("\xff", 1000), strings.Repeat("\x01", 1<<20),
		"\x00\x01\x01\x01", "\x05\x01\x01\x01", // the kind
		"\x01\x04\x01\x01", "\x01\x7f\x01\x01", // the shard
		"\x01\x01\x00\x01",                                         // the epoch
		"\x01\x01\x01\x08", "\x01\x01\x01\x7f", "\x01\x01\x01\xff", // the node
		"\x81\x00\x01\x01\x01", "\x01\x81\x00\x01\x01", "\x01\x01\x81\x00\x01", "\x01\x01\x01\x81\x00", // more bytes than a number needs
		"\x01\x01" + strings.Repeat("\xff", 9) + "\x02\x01", // above 2^64 - 1
		"\x81\x80\x80\x80\x10\x01\x01\x01",                  // 2^32 + 1 is no kind
	}
	for _, s := range []string{"\x01\x00\x01\x00", "\x02\x01\xac\x02\x04", "\x04\x03" + strings.Repeat("\xff", 9) + "\x01\x07"} {
		for n := range len(s) {
			l = append(l, s[:n], s[len(s)-n:])
		}
		l = append(l, s+"\x00", s+"\x01", "\x01"+s+s, s+s, "\x00"+s)
	}
	return l
}

func TestGetRefused(t *testing.T) { // P21.1, P1
	for _, s := range noTexts() {
		if c, e := order.Get(s); c != (order.Cmd{}) || e != api.ErrForm {
			t.Errorf("Get(%.40q) = %v, %d", s, c, e)
		}
	}
}

// TestGetAny: of whatever text, what is got is a right command's own one.
func TestGetAny(t *testing.T) { // P21.1
	r := rand.New(rand.NewSource(21))
	got := 0
	for range 200000 {
		b := make([]byte, r.Intn(7))
		for i := range b {
			b[i] = byte(r.Intn(10))
			if r.Intn(4) == 0 {
				b[i] += 128
			}
		}
		c, e := order.Get(string(b))
		switch e {
		case api.OK:
			got++
			if put(t, c) != string(b) {
				t.Fatalf("Get(%q) = %v", b, c)
			}
		case api.ErrForm:
			if c != (order.Cmd{}) {
				t.Fatalf("Get(%q) = %v beside an error", b, c)
			}
		default:
			t.Fatalf("Get(%q) tells %d", b, e)
		}
	}
	if got < 500 {
		t.Errorf("%d texts of commands: too few to try it", got)
	}
}
