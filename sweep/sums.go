package sweep

// mostTerms bounds a sum; a longer one is taken as a variable like any other.
const mostTerms = 300

// sum is an exclusive or of variables, ascending, none twice; and its opposite, if it is turned (1, else 0).
type sum struct {
	terms []int
	turn  int
}

// sums knows which gates are exclusive ors of which variables. The solver takes far too long where many are summed up in two orders.
type sums struct {
	of    map[int]sum    // by variable; what is not there is a sum of itself
	known map[string]int // by terms: a literal that is worth their exclusive or
}

func newSums() sums {
	return sums{make(map[int]sum), make(map[string]int)}
}

// expanded puts sums in the place of terms that are known to be some.
func (s *sums) expanded(x sum) sum {
	all := sum{turn: x.turn}
	for _, v := range x.terms {
		term, there := s.of[v]
		if !there {
			term = sum{terms: []int{v}}
		}
		all = xor(all, term)
	}
	return all
}

// xor is the sum of two.
func xor(one, other sum) sum {
	all := sum{turn: one.turn ^ other.turn}
	a, b := one.terms, other.terms
	for len(a) > 0 && len(b) > 0 {
		switch {
		case a[0] < b[0]:
			all.terms = append(all.terms, a[0])
			a = a[1:]
		case a[0] > b[0]:
			all.terms = append(all.terms, b[0])
			b = b[1:]
		default:
			a, b = a[1:], b[1:]
		}
	}
	all.terms = append(append(all.terms, a...), b...)
	return all
}

// literal tells a literal that is worth a sum, if one is known.
func (s *sums) literal(x sum) (l int, isKnown bool) {
	switch len(x.terms) {
	case 0:
		return x.turn, true
	case 1:
		return 2*x.terms[0] ^ x.turn, true
	}
	l, isKnown = s.known[x.key()]
	return l ^ x.turn, isKnown
}

// note takes in that a variable is a sum.
func (s *sums) note(v int, x sum) {
	if len(x.terms) <= mostTerms {
		s.of[v] = x
		s.known[x.key()] = 2*v ^ x.turn
	}
}

// key is a text that no other terms have.
func (x sum) key() string {
	key := make([]byte, 0, 2*len(x.terms))
	for _, v := range x.terms {
		key = append(key, byte(v), byte(v>>8))
	}
	return string(key)
}
