package heap

import "coxswain/api"

// outcome is an answer that an operation may get, and the set after it, which may be a piece of the set ahead of it.
type outcome struct {
	ans   api.Ans
	after []api.Item
}

// refused reports whether the operation found no room: as a queue may always say, however few items it has.
func (o outcome) refused() bool { return o.ans.Err == api.ErrFull || o.ans.Err == api.ErrWorn }

// effect returns all outcomes that an operation of its kind may have on a valid set.
type effect func(s []api.Item, op api.Op) []outcome

// outcomes returns all outcomes that an operation may have, or none if there is no such set, or no such kind.
func outcomes(s []api.Item, op api.Op) []outcome {
	effects := [...]effect{api.OpPut: put, api.OpPick: pick, api.OpLook: look}
	if op.Kind < 0 || op.Kind >= len(effects) || effects[op.Kind] == nil || Check(s) != api.OK {
		return nil
	}
	return effects[op.Kind](s, op)
}

func put(s []api.Item, op api.Op) []outcome {
	l := []outcome{
		{ans: api.Ans{Err: api.ErrFull}, after: s},
		{ans: api.Ans{Err: api.ErrWorn}, after: s},
	}
	at, is := search(s, op.W, byKey)
	switch {
	case is:
		l = append(l, outcome{ans: api.Ans{Err: api.ErrDouble}, after: s})
	case len(s) < api.MaxItems:
		l = append(l, outcome{after: with(s, at, api.Item{Key: op.W, A: op.A})})
	}
	return l
}

func pick(s []api.Item, _ api.Op) []outcome {
	if len(s) == 0 {
		return none(s)
	}
	return []outcome{{ans: first(s), after: s[1:len(s):len(s)]}}
}

func look(s []api.Item, _ api.Op) []outcome {
	if len(s) == 0 {
		return none(s)
	}
	return []outcome{{ans: first(s), after: s}}
}

func none(s []api.Item) []outcome {
	return []outcome{{ans: api.Ans{Err: api.ErrNone}, after: s}}
}

// first returns the answer that tells the item with the least key, where there is one.
func first(s []api.Item) api.Ans { return api.Ans{N: s[0].A, W: s[0].Key} }

// with returns the set that has one more item. What is cut off has no room to spare, so that the item comes into new memory, and not over those behind it.
func with(s []api.Item, at int, x api.Item) []api.Item {
	return append(append(s[:at:at], x), s[at:]...)
}
