package ship

import (
	"slices"

	"barrage/api"
)

// orders are orders of ships, which are pulled one by one.
type orders struct {
	next func() (order []int, more bool)
	stop func()
}

// allOrders returns all orders of so many ships, the first one first.
func allOrders(n int) orders {
	order, more := inOrder(n), true
	return orders{
		next: func() ([]int, bool) {
			if !more {
				return nil, false
			}
			this := slices.Clone(order)
			more = advance(order)
			return this, true
		},
		stop: func() { more = false },
	}
}

// inOrder returns the indices of so many ships, ascending.
func inOrder(n int) []int {
	l := make([]int, n)
	for i := range l {
		l[i] = i
	}
	return l
}

// advance makes an order the next one, and reports whether there is one.
func advance(order []int) bool {
	// Behind the last number that is less than the next one, all descend: this is the last order that begins so.
	at := len(order) - 2
	for at >= 0 && order[at] > order[at+1] {
		at--
	}
	if at < 0 {
		return false
	}
	rest := order[at+1:]
	slices.Reverse(rest)
	greater := slices.IndexFunc(rest, func(x int) bool { return x > order[at] })
	order[at], rest[greater] = rest[greater], order[at]
	return true
}

// isOrder reports whether a list has each index of so many ships once.
func isOrder(order []int, n int) bool {
	return len(order) == n && slices.Equal(slices.Sorted(slices.Values(order)), inOrder(n))
}

// best returns the plan of the best order, and whether there is one.
func (h *harbour) best() (best pair[[]int, []api.ShPassage], found bool) {
	all := allOrders(len(h.Ships))
	defer all.stop()
	most := worth{}
	for _, s := range h.Ships {
		most.value += s.Value
	}
	var got worth
	for order, more := all.next(); more; order, more = all.next() {
		plan, can := h.planBy(order)
		if !can {
			continue
		}
		if w := h.worth(plan); !found || w.beats(got) {
			best, found, got = pair[[]int, []api.ShPassage]{order, plan}, true, w
		}
		// If all that is of worth passes, and nothing waits, no later order is better.
		if got == most {
			break
		}
	}
	return best, found
}
