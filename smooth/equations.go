package smooth

import "tontine/api"

// equations are those that a graduation solves: A g is W u, with the weights on the diagonal of W (10.3). Of n unknowns there are n.
type equations struct {
	weights       []int
	order, smooth int
	factors       []int // s(0) to s(order)
}

// newEquations is those of so many numbers that were seen; or what is wrong with their weights, the order and the smoothness; or ErrSingular, if they have not just one solution.
func newEquations(seen int, weights []int, order, smooth int) (equations, api.Errno) {
	if e := checkWeights(weights, seen); e != api.OK {
		return equations{}, e
	}
	if !isOrder(order) || smooth < 0 || smooth > api.MaxWeight {
		return equations{}, api.ErrOrder
	}
	some := countSome(weights)
	if some < seen && (smooth == 0 || seen <= order || some < order) {
		return equations{}, api.ErrSingular
	}
	return equations{weights, order, smooth, factorsOf(order)}, api.OK
}

// countSome is how many weights are above 0.
func countSome(weights []int) int {
	some := 0
	for _, w := range weights {
		if w > 0 {
			some++
		}
	}
	return some
}

// entryBits: each entry of A is below 2 to the entryBits in size, and so is the sum of all weights. The greatest entry has 70 times the smoothness, for the order 4, and one weight.
const entryBits = 37

// at is A(i, j); it is nought where i and j are more than the order apart.
func (q equations) at(i, j int) int {
	entry := 0
	for m := range len(q.weights) - q.order {
		entry += q.factor(i-m) * q.factor(j-m)
	}
	entry *= q.smooth
	if i == j {
		entry += q.weights[i]
	}
	return entry
}

// factor is s(k).
func (q equations) factor(k int) int {
	if k < 0 || k > q.order {
		return 0
	}
	return q.factors[k]
}
