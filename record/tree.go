package record

// chain makes one of a list from the left.
func chain[T any](l []T, join func(a, b T) T) T {
	z := l[0]
	for _, next := range l[1:] {
		z = join(z, next)
	}
	return z
}

// balanced makes one of a list by halves, of which the first may be longer by one.
func balanced[T any](l []T, join func(a, b T) T) T {
	if len(l) == 1 {
		return l[0]
	}
	half := (len(l) + 1) / 2
	first := balanced(l[:half], join)
	rest := balanced(l[half:], join)
	return join(first, rest)
}
