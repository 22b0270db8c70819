package entry

import (
	"sautoir/api"
	"sautoir/fault"
	"sautoir/keys"
)

// wrong answers the fault of an entry that is not right; nil, if it is.
func wrong(e Entry) error {
	if e.Epoch == 0 {
		return fault.New("epoch", api.ErrArg)
	}
	switch e.Kind {
	case Part:
		return fault.In("part", wrongPart(e))
	case Finish:
		return fault.In("finish", wrongFinish(e))
	}
	return fault.New("kind", api.ErrArg)
}

func wrongPart(e Entry) error {
	if e.ID != (api.ID{}) {
		return fault.New("id", api.ErrArg)
	}
	if e.Code != api.OK {
		return fault.New("code", api.ErrArg)
	}
	return wrongTxn(e.Txn)
}

func wrongFinish(e Entry) error {
	if !sameTxn(e.Txn, Txn{}) {
		return fault.New("txn", api.ErrArg)
	}
	if !RightID(e.ID) {
		return fault.New("id", api.ErrArg)
	}
	switch e.Code {
	case api.OK, api.ErrStale, api.ErrLocked:
		return nil
	}
	return fault.New("code", api.ErrArg)
}

// wrongTxn answers the fault of a transaction that is not right; nil, if it is.
func wrongTxn(t Txn) error {
	switch {
	case !RightID(t.ID):
		return fault.New("id", api.ErrArg)
	case !rightCounts(t):
		return fault.New("count", api.ErrArg)
	case !rightKeys(readKeys(t.Reads)):
		return fault.New("reads", api.ErrArg)
	case !rightKeys(writeKeys(t.Writes)) || !rightValues(t.Writes):
		return fault.New("writes", api.ErrArg)
	}
	return nil
}

func rightCounts(t Txn) bool {
	reads, writes := len(t.Reads), len(t.Writes)
	if t.Plain {
		return reads == 0 && writes == 1
	}
	return reads+writes > 0 && reads <= api.MaxOps && writes <= api.MaxOps
}

// rightKeys tells whether each of l may be a key, and stands there once.
func rightKeys(l []string) bool {
	seen := map[string]struct{}{}
	for _, key := range l {
		if _, twice := seen[key]; twice || !keys.Right(key) {
			return false
		}
		seen[key] = struct{}{}
	}
	return true
}

func rightValues(l []Write) bool {
	for _, w := range l {
		if !keys.RightVal(w.Val) || w.Gone && w.Val != "" {
			return false
		}
	}
	return true
}

func readKeys(l []Read) []string {
	var out []string
	for _, r := range l {
		out = append(out, r.Key)
	}
	return out
}

func writeKeys(l []Write) []string {
	var out []string
	for _, w := range l {
		out = append(out, w.Key)
	}
	return out
}
