// Package flows finds positions that hold least. It solves the problem that chapters 23 and 35 share.
package flows

// Arc demands that the position of To plus Slack is not less than that of From. By how much it is greater costs Weight for each sample.
type Arc struct{ From, To, Weight, Slack int }

// Least returns the least positions of n nodes that are not negative and that all arcs admit, and false if there are none.
func Least(n int, arcs []Arc) (at []int, ok bool) {
	at = make([]int, n)
	for range n + 1 {
		still := true
		for _, x := range arcs {
			if least := at[x.From] - x.Slack; least > at[x.To] {
				at[x.To], still = least, false
			}
		}
		if still {
			return at, true
		}
	}
	return nil, false
}

// Cheapest returns, of the positions that cost least, the least ones. There must be positions that all arcs admit.
func Cheapest(n int, arcs []Arc) (at []int) {
	flow := newNetwork(n, arcs).solve()
	// Positions cost least exactly if arcs with a flow hold nothing.
	tight := arcs[:len(arcs):len(arcs)]
	for i, x := range arcs {
		if flow[i] > 0 {
			tight = append(tight, Arc{From: x.To, To: x.From, Slack: -x.Slack})
		}
	}
	at, _ = Least(n, tight)
	return at
}
