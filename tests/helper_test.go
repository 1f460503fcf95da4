package tests

// texts returns every string of at most size bytes over the given bytes, which need not be UTF-8.
func texts(bytes string, size int) []string {
	all := []string{""}
	last := all
	for range size {
		var next []string
		for _, s := range last {
			for i := range len(bytes) {
				next = append(next, s+bytes[i:i+1])
			}
		}
		all = append(all, next...)
		last = next
	}
	return all
}

// neighbours returns the texts around base, with every byte at every place, ahead of it, behind it and instead of one of its own, and base without one byte, without its end and without its beginning.
func neighbours(base string) []string {
	var all []string
	for place := 0; place <= len(base); place++ {
		before, behind := base[:place], base[place:]
		without := base[min(place+1, len(base)):]
		for b := range 256 {
			all = append(all, before+string([]byte{byte(b)})+behind, before+string([]byte{byte(b)})+without)
		}
		all = append(all, before, behind, before+without)
	}
	return all
}
