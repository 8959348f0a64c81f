package pool

import "coxswain/api"

// every is how many answers there may be at most: each index, and the two refusals.
const every = api.MaxPool + 2

// possible returns the answers that an operation may get, in their order, but no more than most: who asks for the first need not wait for a thousand.
func possible(free indices, op api.Op, most int) []api.Ans {
	var l []api.Ans
	switch op.Kind {
	default:
		return nil
	case api.OpAlloc:
		for i := range free.all() {
			if len(l) == most {
				break
			}
			l = append(l, api.Ans{N: i})
		}
		l = append(l, api.Ans{Err: api.ErrFull}, api.Ans{Err: api.ErrWorn})
	case api.OpFree:
		l = append(l, api.Ans{Err: freed(free, op.A)})
	}
	return l[:min(most, len(l))]
}

// freed returns what the one answer is to who frees an index.
func freed(free indices, i int) api.Errno {
	switch {
	default:
		return api.OK
	case isNoIndex(i):
		return api.ErrRange
	case free.has(i):
		return api.ErrDouble
	}
}

// after returns what is free after an operation that was answered as it may be.
func after(free indices, op api.Op, ans api.Ans) indices {
	switch {
	default:
		return free
	case ans.Err == api.OK && op.Kind == api.OpAlloc:
		return free.without(ans.N)
	case ans.Err == api.OK && op.Kind == api.OpFree:
		return free.with(op.A)
	}
}
