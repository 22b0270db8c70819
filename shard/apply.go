package shard

import (
	"slices"

	"sautoir/api"
	"sautoir/entry"
	"sautoir/session"
)

// Apply applies e, as the entry behind all that were applied.
func (s *State) Apply(e entry.Entry) {
	if s == nil {
		return
	}
	s.applied++
	if !entry.Right(e) {
		return
	}
	switch e.Kind {
	case entry.Part:
		s.begin(e.Txn)
	case entry.Finish:
		s.finish(e.ID, e.Code)
	}
}

// begin does what the shard's part of t does at the entry that is applied now.
func (s *State) begin(t entry.Txn) {
	if s.refusal(t) != api.OK {
		return
	}
	done := s.ending(t.ID)
	reads, writes := t.Part(s.number, s.shards)
	verdict := s.verdict(reads, writes)
	switch {
	case verdict != api.OK:
		done(verdict, 0)
	case s.isLast(t):
		s.put(writes)
		done(api.OK, s.told(t))
	default:
		s.hold(t, reads, writes)
	}
}

// finish ends an open transaction at the entry that is applied now.
func (s *State) finish(id api.ID, code api.Errno) {
	i := s.place(id)
	if i < 0 {
		return
	}
	if code == api.OK {
		_, writes := s.open[i].Part(s.number, s.shards)
		s.put(writes)
	}
	s.locks.Free(id, s.applied)
	s.open = slices.Delete(s.open, i, i+1)
	done := s.ending(id)
	done(code, 0)
}

// refusal answers why t can't begin here, whatever its keys are; OK, if it can.
func (s *State) refusal(t entry.Txn) api.Errno {
	if !entry.RightTxn(t) || !slices.Contains(t.Shards(s.shards), s.number) {
		return api.ErrArg
	}
	slot, how := s.Slot(t.ID)
	switch {
	case how == session.Old:
		return api.ErrOld
	case how == session.Same:
		return api.ErrThere
	case slot.Open:
		return api.ErrState
	}
	return api.OK
}

// verdict answers what is in the way of these reads and writes; OK, if nothing is.
func (s *State) verdict(reads []entry.Read, writes []entry.Write) api.Errno {
	switch {
	case slices.ContainsFunc(reads, func(r entry.Read) bool { return s.locks.Busy(r.Key, false) }):
		return api.ErrLocked
	case slices.ContainsFunc(writes, func(w entry.Write) bool { return s.locks.Busy(w.Key, true) }):
		return api.ErrLocked
	case slices.ContainsFunc(reads, func(r entry.Read) bool { return s.values.Num(r.Key) != r.Num }):
		return api.ErrStale
	}
	return api.OK
}

// isLast tells whether the shard is the greatest one that t involves: nobody behind it has a say.
func (s *State) isLast(t entry.Txn) bool {
	return slices.Max(t.Shards(s.shards)) == s.number
}

// ending answers what is to be called with how id ended, at the entry that is applied now.
func (s *State) ending(id api.ID) func(api.Errno, uint64) {
	at := s.applied
	return func(code api.Errno, num uint64) { s.sessions.Done(id, at, code, num) }
}

// told answers the number that t is answered with, behind its writes.
func (s *State) told(t entry.Txn) uint64 {
	if !t.Plain {
		return 0
	}
	return s.values.Num(t.Writes[0].Key)
}

func (s *State) put(writes []entry.Write) {
	for _, w := range writes {
		s.values.Put(w.Key, s.applied, w.Val, w.Gone)
	}
}

// hold opens t: its keys here are its own till it is finished.
func (s *State) hold(t entry.Txn, reads []entry.Read, writes []entry.Write) {
	var read, written []string
	for _, r := range reads {
		read = append(read, r.Key)
	}
	for _, w := range writes {
		written = append(written, w.Key)
	}
	s.locks.Take(t.ID, s.applied, read, written)
	s.sessions.Open(t.ID, s.applied)
	s.open = append(s.open, clone(t))
}
