package session_test

import (
	"math"
	"math/rand"
	"testing"

	"sautoir/api"
	"sautoir/session"
)

func id(client int, seq uint64) api.ID { return api.ID{Client: client, Seq: seq} }

// wrongIDs are not right, whatever the table has.
func wrongIDs() []api.ID {
	return []api.ID{id(-1, 1), id(math.MinInt, 1), id(api.MaxClients, 1), id(math.MaxInt, math.MaxUint64), id(0, 0), id(1, 0), id(5, 0)}
}

// some answers a table in which client 1 has an open slot, of Seq 5, client 2 one that is done, of Seq 7.
func some(t *testing.T) *session.Table {
	t.Helper()
	s := session.NewTable()
	if s.Open(id(1, 5), 3) != api.OK || s.Done(id(2, 7), 4, api.ErrStale, 9) != api.OK {
		t.Fatal("a table can't be made")
	}
	return s
}

func openSlot() session.Slot { return session.Slot{Seq: 5, Open: true, At: 3} }

func doneSlot() session.Slot { return session.Slot{Seq: 7, At: 4, Code: api.ErrStale, Num: 9} }

// unchanged tells whether s is as some made it.
func unchanged(s *session.Table) bool {
	a, isA := s.Of(1)
	b, isB := s.Of(2)
	return isA && isB && a == openSlot() && b == doneSlot() && s.Len() == 2
}

func TestNewTable(t *testing.T) { // P13.1
	s := session.NewTable()
	if s == nil || s.Len() != 0 {
		t.Fatal("a new table has slots")
	}
	for client := -2; client < api.MaxClients+2; client++ {
		if x, ok := s.Of(client); ok || x != (session.Slot{}) {
			t.Errorf("Of(%d) = %v, %v", client, x, ok)
		}
		if s.How(id(client, 1)) != session.New {
			t.Errorf("client %d has asked already", client)
		}
	}
	if session.New != 0 || session.Same != 1 || session.Old != 2 {
		t.Error("the constants")
	}
}

func TestHow(t *testing.T) { // P13.1
	s := some(t)
	for _, c := range []struct {
		id   api.ID
		want int
	}{
		{id(1, 4), session.Old}, {id(1, 5), session.Same}, {id(1, 6), session.New},
		{id(2, 6), session.Old}, {id(2, 7), session.Same}, {id(2, 8), session.New},
		{id(1, 1), session.Old}, {id(1, 0), session.Old}, {id(1, math.MaxUint64), session.New},
		{id(0, 0), session.New}, {id(0, 5), session.New}, {id(3, 1), session.New}, {id(5, math.MaxUint64), session.New},
		{id(-1, 5), session.New}, {id(math.MinInt, 0), session.New}, {id(math.MaxInt, math.MaxUint64), session.New},
	} {
		if got := s.How(c.id); got != c.want {
			t.Errorf("How(%v) = %d, not %d", c.id, got, c.want)
		}
	}
	if !unchanged(s) {
		t.Error("asking changes the table")
	}
}

func TestOf(t *testing.T) { // P13.1
	s := some(t)
	if !unchanged(s) {
		t.Error("slots that were made")
	}
	for _, client := range []int{0, 3, 5, -1, 6, math.MinInt, math.MaxInt} {
		if x, ok := s.Of(client); ok || x != (session.Slot{}) {
			t.Errorf("Of(%d) = %v, %v", client, x, ok)
		}
	}
}

func TestLen(t *testing.T) { // P13.1
	s := session.NewTable()
	for client := range api.MaxClients {
		for seq := range uint64(3) {
			if s.Done(id(client, seq+1), 1, api.OK, 0) != api.OK || s.Len() != client+1 {
				t.Fatalf("client %d, Seq %d: %d slots", client, seq+1, s.Len())
			}
		}
	}
}

func TestExample(t *testing.T) { // P13.2
	s := session.NewTable()
	if s.Open(id(0, 1), 1) != api.OK || s.Open(id(0, 2), 2) != api.ErrState {
		t.Error("two are open")
	}
	if s.Done(id(0, 1), 3, api.OK, 0) != api.OK || s.Open(id(0, 2), 4) != api.OK {
		t.Error("one behind the other")
	}
	if x, ok := s.Of(0); !ok || x != (session.Slot{Seq: 2, Open: true, At: 4}) {
		t.Error("its slot", x)
	}
}

func TestOpen(t *testing.T) { // P13.2
	for _, c := range []struct {
		id   api.ID
		at   int
		want api.Errno
	}{
		{id(1, 4), 9, api.ErrOld}, {id(1, 5), 9, api.ErrThere}, {id(1, 6), 9, api.ErrState}, {id(1, math.MaxUint64), 9, api.ErrState},
		{id(2, 6), 9, api.ErrOld}, {id(2, 7), 9, api.ErrThere}, {id(2, 8), 9, api.OK}, {id(2, math.MaxUint64), 9, api.OK},
		{id(0, 1), 1, api.OK}, {id(5, math.MaxUint64), math.MaxInt, api.OK}, {id(2, 8), 1, api.OK},
		{id(0, 1), 0, api.ErrArg}, {id(0, 1), -1, api.ErrArg}, {id(0, 1), math.MinInt, api.ErrArg},
		{id(1, 4), 0, api.ErrArg}, {id(1, 5), 0, api.ErrArg}, {id(1, 6), 0, api.ErrArg},
	} {
		s := some(t)
		if got := s.Open(c.id, c.at); got != c.want {
			t.Errorf("Open(%v, %d) = %d, not %d", c.id, c.at, got, c.want)
		}
		if c.want != api.OK && !unchanged(s) {
			t.Errorf("Open(%v, %d) is refused, and changes the table", c.id, c.at)
		}
		if x, ok := s.Of(c.id.Client); c.want == api.OK && (!ok || x != (session.Slot{Seq: c.id.Seq, Open: true, At: c.at})) {
			t.Errorf("Open(%v, %d): the slot is %v, %v", c.id, c.at, x, ok)
		}
	}
}

func TestDone(t *testing.T) { // P13.2
	for _, c := range []struct {
		id   api.ID
		at   int
		want api.Errno
	}{
		{id(1, 4), 9, api.ErrOld}, {id(1, 5), 9, api.OK}, {id(1, 6), 9, api.ErrState}, {id(1, math.MaxUint64), 9, api.ErrState},
		{id(2, 6), 9, api.ErrOld}, {id(2, 7), 9, api.ErrThere}, {id(2, 8), 9, api.OK}, {id(2, math.MaxUint64), 9, api.OK},
		{id(0, 1), 1, api.OK}, {id(5, math.MaxUint64), math.MaxInt, api.OK}, {id(1, 5), 1, api.OK},
		{id(0, 1), 0, api.ErrArg}, {id(0, 1), -1, api.ErrArg}, {id(0, 1), math.MinInt, api.ErrArg},
		{id(1, 4), 0, api.ErrArg}, {id(1, 5), 0, api.ErrArg}, {id(2, 7), 0, api.ErrArg},
	} {
		for _, code := range []api.Errno{api.OK, api.ErrStale, api.ErrOld, -1, math.MaxInt, math.MinInt} {
			s := some(t)
			if got := s.Done(c.id, c.at, code, math.MaxUint64); got != c.want {
				t.Errorf("Done(%v, %d) = %d, not %d", c.id, c.at, got, c.want)
			}
			if c.want != api.OK && !unchanged(s) {
				t.Errorf("Done(%v, %d) is refused, and changes the table", c.id, c.at)
			}
			if x, ok := s.Of(c.id.Client); c.want == api.OK && (!ok || x != (session.Slot{Seq: c.id.Seq, At: c.at, Code: code, Num: math.MaxUint64})) {
				t.Errorf("Done(%v, %d): the slot is %v, %v", c.id, c.at, x, ok)
			}
		}
	}
}

func TestWrongIDs(t *testing.T) { // P13.2, P1
	s := some(t)
	for _, x := range wrongIDs() {
		if s.Open(x, 9) != api.ErrArg || s.Done(x, 9, api.OK, 0) != api.ErrArg {
			t.Errorf("%v is taken", x)
		}
	}
	if !unchanged(s) {
		t.Error("what is refused changes the table")
	}
}

// What is open is done once, and stays so; a client's slots don't touch another one's.
func TestDoneStays(t *testing.T) { // P13.3
	s := some(t)
	if s.Done(id(1, 5), 8, api.OK, 2) != api.OK {
		t.Fatal("what is open is not done")
	}
	want := session.Slot{Seq: 5, At: 8, Num: 2}
	s.Done(id(1, 5), 9, api.ErrStale, 3)
	s.Open(id(1, 5), 9)
	s.Open(id(1, 4), 9)
	s.Done(id(1, 4), 9, api.OK, 4)
	s.Done(id(2, 8), 9, api.OK, 4)
	if x, ok := s.Of(1); !ok || x != want || s.How(id(1, 5)) != session.Same {
		t.Error("what was done is", x, ok)
	}
}

// want answers what the chapter asks of Open and Done, of a client with that slot.
func want(slot session.Slot, has, open bool, x api.ID, at int) api.Errno {
	if x.Client < 0 || x.Client > 5 || x.Seq == 0 || at < 1 {
		return api.ErrArg
	}
	if has && slot.Seq > x.Seq {
		return api.ErrOld
	}
	same := has && slot.Seq == x.Seq
	if same && (open || !slot.Open) {
		return api.ErrThere
	}
	if !same && slot.Open {
		return api.ErrState
	}
	return api.OK
}

func TestManySteps(t *testing.T) { // P13.1, P13.2, P13.3
	r := rand.New(rand.NewSource(13))
	for range 200 {
		s := session.NewTable()
		model := map[int]session.Slot{}
		for range 200 {
			x := id(r.Intn(api.MaxClients+2)-1, uint64(r.Intn(8)))
			at, open := r.Intn(20)-1, r.Intn(2) == 0
			before, has := model[x.Client]
			e := want(before, has, open, x, at)
			next := session.Slot{Seq: x.Seq, Open: open, At: at}
			var got api.Errno
			if open {
				got = s.Open(x, at)
			} else {
				next.Code, next.Num = api.Errno(r.Intn(14)), r.Uint64()
				got = s.Done(x, at, next.Code, next.Num)
			}
			if e == api.OK {
				model[x.Client] = next
			}
			if got != e {
				t.Fatalf("%v at %d, to be opened %v, behind %v: %d, not %d", x, at, open, before, got, e)
			}
			compare(t, s, model)
		}
	}
}

func compare(t *testing.T, s *session.Table, model map[int]session.Slot) {
	t.Helper()
	if s.Len() != len(model) {
		t.Fatalf("%d slots, not %d", s.Len(), len(model))
	}
	for client := -1; client <= api.MaxClients; client++ {
		m, has := model[client]
		if x, ok := s.Of(client); ok != has || x != m {
			t.Fatalf("Of(%d) = %v, %v, not %v", client, x, ok, m)
		}
		for seq := range uint64(9) {
			how := session.Old
			if !has || m.Seq < seq {
				how = session.New
			} else if m.Seq == seq {
				how = session.Same
			}
			if s.How(id(client, seq)) != how {
				t.Fatalf("How of client %d, Seq %d, is not %d", client, seq, how)
			}
		}
	}
}

func TestNil(t *testing.T) { // P13.1, P1
	var s *session.Table
	for _, x := range append(wrongIDs(), id(0, 1)) {
		if s.How(x) != session.New || s.Open(x, 1) != api.ErrNil || s.Open(x, 0) != api.ErrNil || s.Done(x, 1, api.OK, 0) != api.ErrNil || s.Done(x, -1, api.OK, 0) != api.ErrNil {
			t.Errorf("of a nil table, with %v", x)
		}
		if slot, ok := s.Of(x.Client); ok || slot != (session.Slot{}) {
			t.Errorf("a nil table has the slot %v", slot)
		}
	}
	if s.Len() != 0 {
		t.Error("a nil table has slots")
	}
}

func TestMadeByHand(t *testing.T) { // P1
	for _, open := range []bool{true, false} {
		s := new(session.Table)
		if s.Len() != 0 || s.How(id(0, 1)) != session.New {
			t.Error("a table made by hand has slots")
		}
		if open {
			s.Open(id(0, 1), 1)
		}
		if s.Done(id(0, 1), 1, api.OK, 0) != api.OK || s.Len() != 1 || s.How(id(0, 1)) != session.Same {
			t.Error("a table made by hand")
		}
	}
}
