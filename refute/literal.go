package refute

// literal is twice a variable (from 0 on), and 1 more if it is inverted.
type literal int32

func literalOf(n int) literal {
	if n < 0 {
		return literal(2*(-n-1) + 1)
	}
	return literal(2 * (n - 1))
}

func (l literal) opposite() literal { return l ^ 1 }

func (l literal) variable() int { return int(l >> 1) }
