"""What the tests share: nets to try, and slow answers straight from the document's words."""

import itertools
import sys
import unittest

from arrowfind.errors import ArrowError

# None of these rows goes by the alphabet, so that an answer sorted by it would show.
NAMES = ["wet", "sun", "rain", "a", "zzzzzzzz", "mud", "b", "hail"]


class Case(unittest.TestCase):
    def refused(self, error, function, *arguments):
        with self.assertRaises(ArrowError) as caught:
            function(*arguments)
        self.assertIs(type(caught.exception), error)
        self.assertIsInstance(caught.exception, ValueError)
        return caught.exception


def comes_round(names, arrows):
    return all(
        any(order.index(tail) > order.index(head) for tail, head in arrows)
        for order in itertools.permutations(names)
    )


def every_choice(names):
    """Each way to put at most one arrow between each two names, rings among them."""
    pairs = list(itertools.combinations(names, 2))
    for ways in itertools.product((0, 1, 2), repeat=len(pairs)):
        arrows = []
        for (one, other), way in zip(pairs, ways):
            if way == 1:
                arrows.append((one, other))
            if way == 2:
                arrows.append((other, one))
        yield arrows


def every_net(size):
    """Each net with the first names, as a tuple written here and not by the program."""
    names = tuple(NAMES[:size])
    for arrows in every_choice(names):
        if not comes_round(names, arrows):
            yield (names, by_places(names, arrows))


def by_places(names, rows):
    return tuple(sorted(rows, key=lambda row: [names.index(name) for name in row]))


class Dice:
    """Numbers that are the same in every run and under every Python."""

    def __init__(self, seed):
        self.state = seed

    def throw(self, sides):
        self.state = (self.state * 6364136223846793005 + 1442695040888963407) % 2**64
        return (self.state >> 33) % sides

    def shuffled(self, things):
        left = list(things)
        return [left.pop(self.throw(len(left))) for _ in things]


def thrown_net(seed, size, dense):
    """Names and arrows, in no order, of a net with that many names; dense in ten ties stand."""
    dice = Dice(seed)
    names = dice.shuffled(NAMES)[:size]
    turns = dice.shuffled(names)
    arrows = [pair for pair in itertools.combinations(turns, 2) if dice.throw(10) < dense]
    return names, dice.shuffled(arrows)


def thrown_nets(sizes=(5, 6, 7, 8), each=6):
    for size in sizes:
        for seed in range(each):
            names, arrows = thrown_net(seed * 97 + size, size, 2 + seed % 5)
            yield (tuple(names), by_places(names, arrows))


def some_nets():
    """Each net with up to four names, and some with up to eight."""
    for size in (1, 2, 3, 4):
        yield from every_net(size)
    yield from thrown_nets()


def slow_below(net, name):
    names, arrows = net
    found = {name}
    for _ in names:
        found |= {head for tail, head in arrows if tail in found}
    return [each for each in names if each in found]


def slow_above(net, name):
    return [each for each in net[0] if name in slow_below(net, each)]


def slow_tied(net, one, other):
    return (one, other) in net[1] or (other, one) in net[1]


def slow_roads(net, one, other):
    inner = [name for name in net[0] if name not in (one, other)]
    roads = []
    for length in range(len(inner) + 1):
        for middle in itertools.permutations(inner, length):
            road = [one, *middle, other]
            if all(slow_tied(net, *pair) for pair in zip(road, road[1:])):
                roads.append(road)
    return list(by_places(net[0], roads))


def slow_meetings(net, road):
    return [
        road[k]
        for k in range(1, len(road) - 1)
        if (road[k - 1], road[k]) in net[1] and (road[k + 1], road[k]) in net[1]
    ]


def slow_open(net, road, held):
    meetings = slow_meetings(net, road)
    for name in road[1:-1]:
        if name in meetings:
            if not set(slow_below(net, name)) & set(held):
                return False
        elif name in held:
            return False
    return True


def joined_above(net, one, other, held):
    """Whether some road must be open, told without roads: among the names above one, other
    and the held, elders of one heir married, is there a way round the held ones?"""
    names = set().union(*(slow_above(net, name) for name in [one, other, *held]))
    edges = {frozenset(arrow) for arrow in net[1] if set(arrow) <= names}
    for head in names:
        elders = [tail for tail, end in net[1] if end == head]
        edges |= {frozenset(pair) for pair in itertools.combinations(elders, 2)}
    found = {one}
    for _ in names:
        for edge in edges:
            if edge & found:
                found |= edge - set(held)
    return other in found


def lists_of(names):
    for length in range(len(names) + 1):
        for some in itertools.combinations(names, length):
            yield list(some)


def others_of(net, *names):
    return [name for name in net[0] if name not in names]


def slow_parted(net, one, other, held):
    return not any(slow_open(net, road, held) for road in slow_roads(net, one, other))


def slow_partings(net):
    """All that a net says: each two names with each list of others that parts them."""
    told = set()
    for one, other in itertools.combinations(net[0], 2):
        roads = slow_roads(net, one, other)
        for held in lists_of(others_of(net, one, other)):
            if not any(slow_open(net, road, held) for road in roads):
                told.add((one, other, tuple(held)))
    return frozenset(told)


def slow_reach(net, one, held):
    def goes_down(name):
        came = name == one or (name, True) in found or (name, False) in found
        return came and name not in held

    def goes_up(name):
        below = set(slow_below(net, name)) & set(held)
        return name == one or (name, True) in found and below or (name, False) in found and name not in held

    found = set()
    for _ in range(2 * len(net[0])):
        found |= {(head, True) for tail, head in net[1] if goes_down(tail)}
        found |= {(tail, False) for tail, head in net[1] if goes_up(head)}
    return [(name, truth) for name in net[0] for truth in (False, True) if (name, truth) in found]


def slow_ties(net):
    return [pair for pair in itertools.combinations(net[0], 2) if slow_tied(net, *pair)]


def slow_corners(net):
    return [
        (one, middle, other)
        for one, middle, other in itertools.permutations(net[0], 3)
        if net[0].index(one) < net[0].index(other) and not slow_tied(net, one, other)
        and (one, middle) in net[1] and (other, middle) in net[1]
    ]


def slow_elders(net, name):
    return {tail for tail, head in net[1] if head == name}


def slow_turnable(net):
    return [
        (tail, head)
        for tail, head in net[1]
        if slow_elders(net, head) == slow_elders(net, tail) | {tail}
    ]


def slow_turned(net, arrow):
    arrows = [pair for pair in net[1] if pair != arrow] + [arrow[::-1]]
    return (net[0], by_places(net[0], arrows))


def all_tied(names):
    """A net with every tie there can be, each arrow from an earlier of these names to a later."""
    return (tuple(names), tuple(itertools.combinations(names, 2)))


def by_turns(net, turns):
    """The same ties, each with its arrow from the earlier in turns to the later."""
    pairs = [tuple(sorted(arrow, key=turns.index)) for arrow in net[1]]
    return (net[0], by_places(net[0], pairs))


def turned_about(net, dice, times):
    """A net that says the same: some arrow that can be turned is, again and again."""
    for _ in range(times):
        can = slow_turnable(net)
        if can:
            net = slow_turned(net, can[dice.throw(len(can))])
    return net


def steps_of(function, *arguments):
    """How many rows of Python an answer takes: the same number on a slow machine and a fast one."""
    steps = 0

    def count(frame, event, argument):
        nonlocal steps
        steps += 1
        return count

    kept = sys.gettrace()
    sys.settrace(count)
    try:
        function(*arguments)
    finally:
        sys.settrace(kept)
    return steps
