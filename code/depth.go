package code

import "proteus/api"

// unseen is the depth of an instruction that is not come to.
const unseen = -1

// depths are those of a code whose instructions are right, found from the first one on; false tells that no depths fit.
func depths(c api.Code) ([]int, bool) {
	found := make([]int, len(c.Ins))
	for at := range found {
		found[at] = unseen
	}
	found[0] = 0
	todo := []int{0}

look:
	if len(todo) == 0 {
		return found, true
	}
	at := todo[len(todo)-1]
	todo = todo[:len(todo)-1]
	pops, pushes := Effect(c.Ins[at])
	left := found[at] - pops
	if left < 0 {
		return nil, false
	}
	for nth, to := range Targets(c, at) {
		depth := left + pushes
		if nth == 1 && keeps(c.Ins[at].Op) {
			depth++
		}
		if to >= len(c.Ins) || depth > c.Deep {
			return nil, false
		}
		switch found[to] {
		case unseen:
			found[to] = depth
			todo = append(todo, to)
		case depth:
		default:
			return nil, false
		}
	}
	goto look
}
