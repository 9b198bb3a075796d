"""Points 24 and 25, and of point 3 what they bear: pictures drawn from answers, answers judged."""

import itertools
import unittest

from arrowfind.answers import Answers, ListAnswers, NetAnswers
from arrowfind.errors import NoNet
from arrowfind.finding import drawn_from, judged
from arrowfind.nets import net_made
from arrowfind.pictures import picture_of
from tests.helper import (
    NAMES, Case, Dice, all_tied, by_places, by_turns, comes_round, every_net, joined_above, lists_of,
    nets_alike, rows_that_fail, shaped_nets, slow_corners, slow_nets_like, slow_parted,
    slow_partings, slow_picture, slow_ties, steps_of, thrown_net, thrown_nets, turned_about,
)


class Logged(Answers):
    """What others say, with a log of all that is asked; and it empties the held that it is handed."""

    def __init__(self, others):
        Answers.__init__(self, others.names)
        self.others = others
        self.log = []

    def parted(self, one, other, held):
        self.log.append((one, other, tuple(held)))
        truth = self.others.parted(one, other, list(held))
        held.clear()
        return truth


def every_ask(names):
    """Each two names, the one ahead, with each list of others, in order."""
    for one, other in itertools.combinations(names, 2):
        for held in lists_of([name for name in names if name not in (one, other)]):
            yield one, other, tuple(held)


def of_list(names, said):
    return ListAnswers(list(names), [(one, other, list(held)) for one, other, held in said])


def turned_round(names, said):
    """The same answers, each parting twice, the two and the held the other way round."""
    backwards = [(other, one, list(held[::-1])) for one, other, held in sorted(said)]
    return ListAnswers(list(names), backwards + backwards[::-1])


def most_ties(net):
    return max(sum(name in arrow for arrow in net[1]) for name in net[0])


def ties_said(names, said):
    return [pair for pair in itertools.combinations(names, 2) if not any(each[:2] == pair for each in said)]


def bends_among(names, ties):
    """Two names that aren't tied with one to which both are, as one, middle, other."""
    tied = set(ties) | {tie[::-1] for tie in ties}
    return [
        (one, middle, other)
        for one, middle, other in itertools.permutations(names, 3)
        if names.index(one) < names.index(other) and (one, other) not in tied
        and (one, middle) in tied and (other, middle) in tied
    ]


def corners_said(names, said):
    return [
        (one, middle, other)
        for one, middle, other in bends_among(names, ties_said(names, said))
        if not any(each[:2] == (one, other) and middle in each[2] for each in said)
    ]


def said_by(names, ties, corners):
    """Answers with just these ties and corners: each two others are parted by one list alone."""
    bends = bends_among(names, ties)
    said = set()
    for one, other in itertools.combinations(names, 2):
        if (one, other) not in ties:
            straight = [row[1] for row in bends if row[::2] == (one, other) and row not in corners]
            said.add((one, other, tuple(name for name in names if name in straight)))
    return frozenset(said)


def every_said_by(size):
    """Such answers for all ties and corners that names can have, those of no net among them."""
    names = tuple(NAMES[:size])
    for ties in lists_of(list(itertools.combinations(names, 2))):
        for corners in lists_of(bends_among(names, ties)):
            yield said_by(names, ties, corners)


def thrown_said(names, seed):
    """Some of all partings there could be, few to many of them, as the seed says."""
    dice = Dice(seed)
    return frozenset(ask for ask in every_ask(names) if dice.throw(20) < (1, 2, 4, 8, 12, 18)[seed % 6])


def nearly_said(said, names, seed):
    """What a net says, but for one to three asks."""
    dice = Dice(seed)
    return said ^ frozenset(dice.shuffled(list(every_ask(names)))[:1 + seed % 3])


def some_that_no_net_need_give():
    """Names and partings, most of which no net has."""
    for size in (1, 2, 3):
        names = tuple(NAMES[:size])
        for said in lists_of(list(every_ask(names))):
            yield names, frozenset(said)
    names = tuple(NAMES[:4])
    nets = nets_alike(4)
    for seed in range(600):
        yield names, thrown_said(names, seed)
        yield names, nearly_said(slow_partings(nets[seed % len(nets)][0]), names, seed)
    for said in every_said_by(4):
        yield names, said


def larger_nets():
    return itertools.chain(shaped_nets(), thrown_nets(sizes=(5, 6, 7, 8), each=8))


class DrawnTest(Case):
    def is_drawn(self, answers):
        """The told tuple, once its form and its asks are walked."""
        logged = Logged(answers)
        told = drawn_from(logged)
        self.assertIs(type(told), tuple)
        picture, asks = told
        self.assertIs(type(asks), list)
        names = answers.names
        for ask in asks:
            self.assertEqual([type(part) for part in (ask, *ask)], [tuple, str, str, tuple, bool])
            one, other, held, truth = ask
            self.assertLess(names.index(one), names.index(other))
            self.assertEqual(list(held), [name for name in names if name in held])
            self.assertEqual(len({one, other, *held}), 2 + len(held))
            self.assertIs(truth, answers.parted(one, other, list(held)))
        in_order = [(*sorted(log[:2], key=names.index), by_row(names, log[2])) for log in logged.log]
        self.assertEqual(sorted(in_order), sorted(ask[:3] for ask in asks))
        self.assertEqual(len({ask[:3] for ask in asks}), len(asks))
        self.is_picture_in_form(picture, names)
        return told

    def is_picture_in_form(self, picture, names):
        self.assertEqual([type(part) for part in (picture, *picture)], [tuple] * 4)
        self.assertEqual(picture[0], names)
        for pairs in picture[1:]:
            self.assertEqual(pairs, by_places(names, pairs))
            for pair in pairs:
                self.assertIs(type(pair), tuple)
                self.assertEqual(len(set(pair) & set(names)), 2)
        self.assertTrue(all(names.index(one) < names.index(other) for one, other in picture[2]))
        both = [frozenset(pair) for pair in picture[1] + picture[2]]
        self.assertEqual(len(both), len(set(both)))

    def test_small_nets(self):
        for size in (1, 2, 3, 4):
            for nets in nets_alike(size):
                picture = slow_picture(nets)
                for net in nets:
                    told, asks = self.is_drawn(NetAnswers(net))
                    self.assertEqual(told, picture)
                    self.assertLessEqual(max((len(ask[2]) for ask in asks), default=0), most_ties(net))

    def test_larger_nets(self):
        for net in larger_nets():
            told, asks = self.is_drawn(NetAnswers(net))
            self.assertEqual(told, picture_of(net))
            self.assertLessEqual(max(len(ask[2]) for ask in asks), most_ties(net))

    def test_nets_of_five_by_a_slow_picture(self):
        for net in thrown_nets(sizes=(5,), each=20):
            self.assertEqual(drawn_from(NetAnswers(net))[0], slow_picture(slow_nets_like(net)))

    def test_the_same_of_nets_that_say_the_same_and_of_lists(self):
        for nets in nets_alike(2) + nets_alike(3) + nets_alike(4):
            told = drawn_from(NetAnswers(nets[0]))
            said = slow_partings(nets[0])
            for net in nets[1:]:
                self.assertEqual(drawn_from(NetAnswers(net)), told)
            self.assertEqual(drawn_from(of_list(nets[0][0], said)), told)
            self.assertEqual(drawn_from(turned_round(nets[0][0], said)), told)

    def test_the_same_of_larger_nets_that_say_the_same(self):
        for place, net in enumerate(larger_nets()):
            other = turned_about(net, Dice(place), 10)
            self.assertEqual(drawn_from(NetAnswers(other)), drawn_from(NetAnswers(net)))

    def test_answers_that_no_net_need_give(self):
        for names, said in some_that_no_net_need_give():
            self.is_drawn(of_list(names, said))

    def test_hangs_on_the_truths_of_the_asks_alone(self):
        for names, said in itertools.islice(some_that_no_net_need_give(), 0, None, 3):
            told = drawn_from(of_list(names, said))
            asked = {ask[:3] for ask in told[1]}
            rest = set(every_ask(names)) - asked
            for others in (set(), rest, rest - said):
                self.assertEqual(drawn_from(of_list(names, said & asked | others)), told)

    def test_thrown_lists_of_more_names(self):
        for seed in range(60):
            names = tuple(NAMES[:5 + seed % 4])
            answers = of_list(names, thrown_said(names, seed))
            told = self.is_drawn(answers)
            asked = [ask[:3] for ask in told[1] if ask[3]]
            self.assertEqual(drawn_from(of_list(names, asked)), told)

    def test_plain_answers(self):
        for size in range(1, 9):
            names = tuple(NAMES[:size])
            picture, asks = self.is_drawn(Answers(names))
            self.assertEqual(picture, (names, (), tuple(itertools.combinations(names, 2))))
            self.assertFalse(any(ask[3] for ask in asks))

    def test_few_names_by_hand(self):
        self.assertEqual(drawn_from(Answers(["a"])), ((("a",), (), ()), []))
        self.assertEqual(
            drawn_from(Answers(["b", "a"])), ((("b", "a"), (), (("b", "a"),)), [("b", "a", (), False)]),
        )
        self.assertEqual(
            drawn_from(of_list(["b", "a"], [("a", "b", ())])), ((("b", "a"), (), ()), [("b", "a", (), True)]),
        )

    def test_no_ties_one_ask_for_each_two(self):
        for size in range(2, 9):
            net = net_made(NAMES[:size], [])
            picture, asks = self.is_drawn(NetAnswers(net))
            self.assertEqual(picture, (net[0], (), ()))
            self.assertEqual(by_pairs(asks), [(*pair, (), True) for pair in itertools.combinations(net[0], 2)])

    def test_what_is_told_is_the_askers_own(self):
        answers = NetAnswers(net_made(["a", "b", "c"], [("a", "c"), ("b", "c")]))
        told = drawn_from(answers)
        kept = (told[0], list(told[1]))
        told[1].clear()
        self.assertEqual(drawn_from(answers), kept)


def by_row(names, some):
    return tuple(name for name in names if name in some)


def by_pairs(asks):
    return sorted(asks, key=lambda ask: [NAMES.index(name) for name in ask[:2]])


class PlaceCase(Case):
    def is_no_net(self, names, said, answers=None):
        """The kind of the place with which these answers are refused, once it is walked."""
        place = self.refused(NoNet, judged, answers or of_list(names, said)).place
        self.assertIs(type(place), tuple)
        walks = {
            "middle": self.walk_middle, "clash": self.walk_clash, "ring": self.walk_ring,
            "loop": self.walk_loop, "answer": self.walk_answer,
        }
        walks[place[0]](names, said, *place[1:])
        return place[0]

    def parts(self, names, said, one, other, held):
        self.assertIs(type(held), tuple)
        self.assertEqual(held, by_row(names, held))
        self.assertFalse({one, other} & set(held))
        return (*sorted((one, other), key=names.index), held) in said

    def walk_middle(self, names, said, one, middle, other, held, more):
        ties = ties_said(names, said)
        for end in (one, other):
            self.assertIn(tuple(sorted((end, middle), key=names.index)), ties)
        self.assertTrue(self.parts(names, said, one, other, held))
        self.assertTrue(self.parts(names, said, one, other, more))
        self.assertNotIn(middle, held)
        self.assertIn(middle, more)

    def walk_rows(self, names, said, reasons):
        self.assertIs(type(reasons), list)
        for row in reasons:
            self.assertEqual([type(part) for part in (row, *row)], [tuple, str, str, str, tuple])
        self.assertEqual(rows_that_fail(ties_said(names, said), corners_said(names, said), reasons), [])
        return [row[:2] for row in reasons]

    def walk_clash(self, names, said, reasons, one, other):
        arrows = self.walk_rows(names, said, reasons)
        self.assertIn((one, other), arrows)
        self.assertIn((other, one), arrows)

    def walk_ring(self, names, said, reasons, ring):
        arrows = self.walk_rows(names, said, reasons)
        self.assertIs(type(ring), list)
        self.assertEqual(len(set(ring)), len(ring))
        self.assertGreater(len(ring), 1)
        for arrow in zip(ring, ring[1:] + ring[:1]):
            self.assertIn(arrow, arrows)

    def walk_loop(self, names, said, loop):
        self.assertIs(type(loop), list)
        self.assertEqual(len(set(loop)), len(loop))
        self.assertGreaterEqual(len(loop), 4)
        ties = ties_said(names, said)
        for one, other in itertools.combinations(loop, 2):
            apart = loop.index(other) - loop.index(one)
            tied = tuple(sorted((one, other), key=names.index)) in ties
            self.assertIs(tied, apart in (1, len(loop) - 1))
        corners = corners_said(names, said)
        for three in zip(loop, loop[1:] + loop[:1], loop[2:] + loop[:2]):
            self.assertNotIn(three, corners)
            self.assertNotIn(three[::-1], corners)

    def walk_answer(self, names, said, net, one, other, held):
        self.assertEqual(net, net_made(list(names), list(net[1])))
        self.assertFalse(comes_round(*net))
        self.assertEqual(slow_ties(net), ties_said(names, said))
        self.assertEqual(slow_corners(net), corners_said(names, said))
        self.assertIsNot(slow_parted(net, one, other, held), self.parts(names, said, one, other, held))


class JudgedNetsTest(Case):
    def test_small_nets_and_the_lists_of_their_partings(self):
        for size in (1, 2, 3, 4):
            for nets in nets_alike(size):
                picture = slow_picture(nets)
                said = slow_partings(nets[0])
                self.assertEqual(judged(of_list(nets[0][0], said)), picture)
                self.assertEqual(judged(turned_round(nets[0][0], said)), picture)
                for net in nets:
                    self.assertEqual(judged(NetAnswers(net)), picture)

    def test_larger_nets(self):
        for net in larger_nets():
            self.assertEqual(judged(NetAnswers(net)), picture_of(net))

    def test_lists_of_the_partings_of_larger_nets(self):
        for net in itertools.chain(thrown_nets(sizes=(5, 6), each=4), shaped_nets()):
            said = [ask for ask in every_ask(net[0]) if not joined_above(net, *ask)]
            self.assertEqual(judged(of_list(net[0], said)), picture_of(net))

    def test_plain_answers_are_of_the_net_with_every_tie(self):
        for size in range(1, 9):
            names = tuple(NAMES[:size])
            self.assertEqual(judged(Answers(names)), (names, (), tuple(itertools.combinations(names, 2))))

    def test_everything_parted_is_of_the_net_without_arrows(self):
        for size in range(1, 7):
            names = tuple(NAMES[:size])
            self.assertEqual(judged(of_list(names, every_ask(names))), (names, (), ()))

    def test_all_is_asked(self):
        for net in itertools.chain(every_net(3), thrown_nets(sizes=(5, 8), each=2)):
            logged = Logged(NetAnswers(net))
            self.assertEqual(judged(logged), picture_of(net))
            asked = {(*sorted(log[:2], key=net[0].index), by_row(net[0], log[2])) for log in logged.log}
            self.assertEqual(asked, set(every_ask(net[0])))


class JudgedNoNetTest(PlaceCase):
    def test_all_answers_of_up_to_three_names_and_many_of_four(self):
        pictures = {}
        for size in (1, 2, 3, 4):
            for nets in nets_alike(size):
                pictures[nets[0][0], slow_partings(nets[0])] = slow_picture(nets)
        kinds = set()
        for names, said in some_that_no_net_need_give():
            if (names, said) in pictures:
                self.assertEqual(judged(of_list(names, said)), pictures[names, said])
            else:
                kinds.add(self.is_no_net(names, said))
        self.assertEqual(kinds, {"middle", "clash", "loop", "answer"})

    def test_ties_and_corners_of_five_names(self):
        names = tuple(NAMES[:5])
        kinds = set()
        for said in itertools.islice(every_said_by(5), 0, None, 17):
            net = net_that_says(names, said)
            if net:
                self.assertEqual(judged(of_list(names, said)), picture_of(net))
            else:
                kinds.add(self.is_no_net(names, said))
        self.assertEqual(kinds, {"clash", "ring", "loop", "answer"})

    def test_ties_and_corners_of_more_names(self):
        kinds = set()
        for seed in range(150):
            names, arrows = thrown_net(seed, 6, 3 + seed % 3)
            names = tuple(names)
            net = (names, by_places(names, arrows))
            bends = bends_among(names, slow_ties(net))
            few = Dice(seed).shuffled(bends)[:seed % 4]
            corners = set(few) if seed % 2 else set(few) ^ set(slow_corners(net))
            kinds.add(self.is_no_net(names, said_by(names, slow_ties(net), corners)))
        self.assertEqual(kinds, {"clash", "ring", "loop", "answer"})

    def test_thrown_lists_of_more_names(self):
        for seed in range(48):
            names = tuple(NAMES[:5 + seed % 2])
            self.is_no_net(names, thrown_said(names, seed))

    def test_nearly_what_a_net_says(self):
        for seed, net in enumerate(thrown_nets(sizes=(5, 6), each=10)):
            said = slow_partings(net)
            for times in range(4):
                wrong = nearly_said(said, net[0], seed * 12 + times * 3)
                self.is_no_net(net[0], wrong)

    def test_a_middle(self):
        names = ("c", "a", "b")
        said = {("c", "b", ()), ("c", "b", ("a",))}
        self.assertEqual(self.is_no_net(names, said), "middle")

    def test_a_clash(self):
        names = ("d", "c", "b", "a")
        ties = [("d", "c"), ("c", "b"), ("b", "a")]
        said = said_by(names, ties, [("d", "c", "b"), ("c", "b", "a")])
        self.assertEqual(self.is_no_net(names, said), "clash")

    def test_a_ring(self):
        names = ("x", "a", "b", "c", "d")
        ties = [("x", "a"), ("a", "b"), ("a", "d"), ("b", "c"), ("c", "d")]
        said = said_by(names, ties, [("x", "a", "d")])
        self.assertEqual(self.is_no_net(names, said), "ring")

    def test_loops(self):
        for size in (4, 5, 6, 7, 8):
            names = tuple(NAMES[:size])
            ties = list(zip(names, names[1:])) + [(names[0], names[-1])]
            self.assertEqual(self.is_no_net(names, said_by(names, ties, [])), "loop")

    def test_a_loop_beside_a_corner_and_within_a_larger_one(self):
        names = tuple("abcdefgh")
        ties = [(one, other) for one, other in ("ab", "bc", "cd", "ad", "ef", "fg")]
        self.assertEqual(self.is_no_net(names, said_by(names, ties, [("e", "f", "g")])), "loop")
        ties = [(one, other) for one, other in ("ab", "bc", "cd", "de", "ef", "af", "bf", "be")]
        self.assertEqual(self.is_no_net(names, said_by(names, ties, [])), "loop")

    def test_a_loop_is_not_one_that_another_tie_crosses(self):
        for turns in itertools.permutations(NAMES[:6], 6):
            if turns[0] == NAMES[0]:
                names = tuple(NAMES[:6])
                round_and_across = [*zip(turns, turns[1:] + turns[:1]), (turns[1], turns[4])]
                ties = [tuple(sorted(pair, key=names.index)) for pair in round_and_across]
                self.assertEqual(self.is_no_net(names, said_by(names, ties, [])), "loop")

    def test_answers_of_no_net(self):
        names = ("a", "c", "b")
        for said in ({("a", "b", ("c",)), ("a", "c", ()), ("c", "b", ())}, set(every_ask(names)) - {("a", "b", ())}):
            self.assertEqual(self.is_no_net(names, said), "answer")

    def test_answers_that_empty_what_they_are_handed(self):
        names = tuple(NAMES[:4])
        for seed in range(40):
            said = nearly_said(slow_partings(nets_alike(4)[seed][0]), names, seed)
            if said not in [slow_partings(nets[0]) for nets in nets_alike(4)]:
                self.is_no_net(names, said, Logged(of_list(names, said)))

    def test_the_place_is_the_askers_own(self):
        names = ("x", "a", "b", "c", "d")
        ties = [("x", "a"), ("a", "b"), ("a", "d"), ("b", "c"), ("c", "d")]
        for corners in ([("x", "a", "d")], [("x", "a", "d"), ("a", "b", "c")], [("b", "c", "d")], []):
            answers = of_list(names, said_by(names, ties, corners))
            place = self.refused(NoNet, judged, answers).place
            kept = repr(place)
            for part in place:
                if isinstance(part, list):
                    part.clear()
            self.assertEqual(repr(self.refused(NoNet, judged, answers).place), kept)


def net_that_says(names, said):
    """A net that says just this, if there is one: each has these ties, turned by some order."""
    tied = (names, ties_said(names, said))
    corners = corners_said(names, said)
    for turns in itertools.permutations(names):
        net = by_turns(tied, turns)
        if slow_corners(net) == corners:
            return net if slow_partings(net) == said else None
    return None


class MomentTest(Case):
    def test_eight_names(self):
        for net in [*thrown_nets(sizes=(8,), each=2), all_tied(NAMES)]:
            answers = NetAnswers(net)
            self.assertLess(steps_of(judged, answers), 20000000)
            self.assertLess(steps_of(drawn_from, answers), 10000000)

    def test_nothing_is_asked_twice(self):
        for net in [*thrown_nets(sizes=(7, 8), each=3), all_tied(NAMES), net_made(NAMES, [])]:
            logged = Logged(NetAnswers(net))
            judged(logged)
            self.assertEqual(len(logged.log), len(set(logged.log)))

    def test_few_asks_where_there_are_few_ties(self):
        names, arrows = NAMES, list(zip(NAMES, NAMES[1:]))
        asks = drawn_from(NetAnswers(net_made(names, arrows)))[1]
        self.assertLess(len(asks), 400)
        self.assertEqual(len(list(every_ask(names))), 1792)


if __name__ == "__main__":
    unittest.main()
