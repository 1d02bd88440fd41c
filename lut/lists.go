package lut

// lists is many short lists, one behind the other in one piece of memory.
type lists[T any] struct {
	all  []T
	ends []int // of each list, in all
}

func (l *lists[T]) add(list ...T) {
	l.all = append(l.all, list...)
	l.ends = append(l.ends, len(l.all))
}

// at gives a list, without room behind it: what is appended to it must not fall upon the next one.
func (l *lists[T]) at(i int) []T {
	start, end := 0, l.ends[i]
	if i > 0 {
		start = l.ends[i-1]
	}
	return l.all[start:end:end]
}
