package letter

import (
	"slices"

	"sautoir/api"
	"sautoir/ballot"
	"sautoir/conf"
	"sautoir/entry"
	"sautoir/fault"
)

// Bounds of a letter's numbers: what N, M and a slot may be at most, and what a Code may be.
const (
	mostNumber = 1 << 20
	mostCode   = 99
)

// wrong answers the fault of a letter that is not right; nil, if it is.
func wrong(l Letter) error {
	if !RightAddr(l.From) {
		return fault.New("from", api.ErrArg)
	}
	if !RightAddr(l.To) {
		return fault.New("to", api.ErrArg)
	}
	own, ok := fieldsOf(l.Kind)
	if !ok {
		return fault.New("kind", api.ErrArg)
	}
	return fault.In("field", wrongField(l, own))
}

// wrongField answers the fault of the first field that may not be so in a letter whose own fields are those; nil, if there is none.
func wrongField(l Letter, own fields) error {
	for _, x := range []struct {
		where       string
		field       fields
		zero, right bool
	}{
		{"shard", shardField, l.Shard == 0, within(l.Shard, api.MaxShards-1)},
		{"epoch", epochField, l.Epoch == 0, true},
		{"n", nField, l.N == 0, within(l.N, mostNumber)},
		{"m", mField, l.M == 0, within(l.M, mostNumber)},
		{"node", nodeField, l.Node == 0, within(l.Node, api.MaxServers-1)},
		{"flag", flagField, !l.Flag, true},
		{"ballot", ballotField, l.Ballot == (ballot.Ballot{}), rightBallot(l.Ballot)},
		{"votes", votesField, len(l.Votes) == 0, allRight(l.Votes, api.MaxLog, rightVote)},
		{"confs", confsField, len(l.Confs) == 0, allRight(l.Confs, api.MaxShards, conf.Right)},
		{"id", idField, l.ID == (api.ID{}), entry.RightID(l.ID)},
		{"val", valField, l.Val == "", rightVal(l.Val)},
		{"num", numField, l.Num == 0, true},
		{"entries", entriesField, len(l.Entries) == 0, allRight(l.Entries, api.MaxOps, entry.Right)},
		{"txn", txnField, sameTxn(l.Txn, entry.Txn{}), entry.RightTxn(l.Txn)},
		{"code", codeField, l.Code == api.OK, within(int(l.Code), mostCode)},
	} {
		if own.has(x.field) && !x.right || !own.has(x.field) && !x.zero {
			return fault.New(x.where, api.ErrArg)
		}
	}
	return nil
}

func within(n, most int) bool {
	return n >= 0 && n <= most
}

// allRight tells whether l has at most most things, and each is right.
func allRight[T any](l []T, most int, right func(T) bool) bool {
	return len(l) <= most && !slices.ContainsFunc(l, func(x T) bool { return !right(x) })
}

func rightVote(v Vote) bool {
	return within(v.Slot, mostNumber) && rightBallot(v.Ballot) && rightVal(v.Val)
}

func rightBallot(b ballot.Ballot) bool {
	return RightAddr(Addr{Kind: Master, N: b.Node})
}

// rightVal asks for no more than the length: here a value may be any text, a master's command among them.
func rightVal(s string) bool {
	return len(s) <= api.MaxVal
}
