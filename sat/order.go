package sat

// order has the variables that may be open as a heap, the most active one at its top.
type order struct {
	activity []float64
	raise    float64 // what a variable gets when it is met: more and more, so that what was long ago counts less
	heap     []int32
	where    []int32 // of each variable in the heap; -1: it is not there
}

func newOrder(vars int) order {
	o := order{raise: 1}
	o.grow(vars)
	return o
}

// grow takes in so many variables more.
func (o *order) grow(more int) {
	from := len(o.activity)
	o.activity = append(o.activity, make([]float64, more)...)
	o.where = append(o.where, make([]int32, more)...)
	for v := from; v < from+more; v++ {
		o.where[v] = -1
		o.insert(v)
	}
}

// meet makes a variable more active.
func (o *order) meet(v int) {
	const most = 1e100
	o.activity[v] += o.raise
	if o.activity[v] > most {
		o.shrink(1 / most)
	}
	if o.where[v] >= 0 {
		o.up(o.where[v])
	}
}

// age makes all that comes count more than what has been.
func (o *order) age() {
	const keep = 0.95
	o.raise = float64(o.raise / keep)
}

// shrink makes all numbers smaller, so that none is too great; who stands ahead of whom stays.
func (o *order) shrink(by float64) {
	for v := range o.activity {
		o.activity[v] = float64(o.activity[v] * by)
	}
	o.raise = float64(o.raise * by)
}

// isAhead asks whether one variable is to stand above another; the lower number decides where both are equally active.
func (o *order) isAhead(v, w int32) bool {
	a, b := o.activity[v], o.activity[w]
	return a > b || a == b && v < w
}

func (o *order) up(i int32) {
	v := o.heap[i]
	for i > 0 {
		above := (i - 1) / 2
		if !o.isAhead(v, o.heap[above]) {
			break
		}
		o.seat(o.heap[above], i)
		i = above
	}
	o.seat(v, i)
}

func (o *order) down(i int32) {
	v := o.heap[i]
	for 2*i+1 < int32(len(o.heap)) {
		below := 2*i + 1
		if below+1 < int32(len(o.heap)) && o.isAhead(o.heap[below+1], o.heap[below]) {
			below++
		}
		if !o.isAhead(o.heap[below], v) {
			break
		}
		o.seat(o.heap[below], i)
		i = below
	}
	o.seat(v, i)
}

func (o *order) seat(v, i int32) {
	o.heap[i], o.where[v] = v, i
}

func (o *order) insert(v int) {
	if o.where[v] >= 0 {
		return
	}
	o.heap = append(o.heap, int32(v))
	o.where[v] = int32(len(o.heap) - 1)
	o.up(o.where[v])
}

// take removes the variable at the top.
func (o *order) take() int {
	top := o.heap[0]
	last := o.heap[len(o.heap)-1]
	o.heap = o.heap[:len(o.heap)-1]
	o.where[top] = -1
	if len(o.heap) > 0 {
		o.seat(last, 0)
		o.down(0)
	}
	return int(top)
}
